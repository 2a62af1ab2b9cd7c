/- acks: Put, the program's and the reference's. (By mkadb.py.) -/
import Derived.Test.YthbocddkomhpoaaAdA
import Derived.Test.YthbocddkomhpoaaAcZ
namespace Go.Proofs.Ythbocddkomhpoaa
open Go.RowKit Go.Lib
set_option linter.unusedVariables false

/-- A writer of the call's own: what it has written. -/
def Wk (base : Nat) (w0 w : World) (g : Nat) (bs : List UInt8) : Prop := Below base w0 w ∧ base ≤ w.heap.size ∧ ∃ S, Co.WS w g S bs ∧ (∀ k, S k → base ≤ k)
theorem wk_added {base g : Nat} {w0 w w' : World} {bs' : List UInt8} {S : Nat → Prop} (hb : Below base w0 w) (hB : base ≤ w.heap.size) (hS : ∀ k, S k → base ≤ k) (h : Co.Added g S bs' w (.returned (.tuple #[])) w') : Wk base w0 w' g bs' := by
  obtain ⟨_, S2, hws2, hfr, hsub⟩ := h
  have b2 := hb.trans (hfr.below hS hB)
  refine ⟨b2, by have := hfr.size; omega, S2, hws2, fun k hk => ?_⟩
  rcases hsub k hk with h | h
  · exact hS k h
  · omega
def BytesIs (w : World) (bs : List UInt8) (e : Ending) (w' : World) : Prop := ∃ A c, e = .returned (.slice A bs.length c) ∧ Hid (SlB w' A bs.length bs ∧ Below w.heap.size w w' ∧ w'.ownsRow w.heap.size 5 1 (.slice A bs.length c) bs.length (bs.map byt))
theorem append_bytes {w : World} {ops : Array Oper} {rest : List Oper} {o : Oper} {a : Act} {Q : Exit → Act → World → Prop} (hgd : o.guard = none) (s x : Operand)
    (ho : o.op = .call { callee := .builtin .append, args := #[s, x], argTypes := #[53, 53] })
    (base : Nat) (v : Value) (bs : List UInt8) (hs : a.eval s = v) (hown : w.ownsRow base 5 1 v bs.length (bs.map byt))
    (ad : Addr) (m c : Nat) (l : List UInt8) (hx : a.eval x = .slice (some ad) m c) (HS : SlB w (some ad) m l) (h63 : bs.length + m ≤ 1000000) (hbase : base ≤ w.heap.size)
    (h : ∀ v' w' bs', Hid (bs' = bs ++ l) → w'.ownsRow base 5 1 v' bs'.length (bs'.map byt) → Below base w w' → wpList Try.prog ops Q rest (a.put o.dst v') w') : wpList Try.prog ops Q (o :: rest) a w := by
  obtain ⟨i0, hi0, hz0, hz1, hz2⟩ := info_parts info_u8
  have hl := HS.1
  refine wpList_append_own _ hgd s x _ ho base _ i0 (.int .u8 0) 1 1 Try.underlying53 hi0 hz0 hz1 hz2 rfl (by decide) v bs.length (bs.map byt) hs hown ad m c (l.map byt) hx (by simp [hl]) ?_ (byt_one l) (by unfold maxLen; omega) (by omega) hbase (fun v' w' h1 h2 _ => h v' w' (bs ++ l) rfl ?_ (Below.grown ((Below.refl _ _).mono hbase) h2 hbase (fun k hk => (hown.lt k hk).1)))
  · rcases HS.2 with h0 | ⟨b, off, e, _, hc⟩
    · intro j u hu
      have := (List.getElem?_eq_some_iff.1 hu).1
      simp at this
      omega
    · injection e with e
      subst e
      exact SlB.news hl hc
  · rw [List.length_append, List.map_append, hl]; exact h1
theorem newB_slb {w0 w : World} {q n c : Nat} {l : List UInt8} (h : Co.NewB w0 w q n c l) : SlB w (some ⟨q, 0, none⟩) n l := h.2.1
set_option maxHeartbeats 4000000 in
set_option maxRecDepth 100000 in
theorem aPut_c (g : Nat) (z : Ta) (hz : Tb z) (w0 w : World) (base : Nat) (h : Wk base w0 w g []) :
    Calls Try.prog 17 #[.pointer (some ⟨g, 0, none⟩), .agg (AC z)] w fun e w' => e = .returned (.tuple #[]) ∧ Hid (Wk base w0 w' g (tabB z)) := by
  obtain ⟨hb, hB, S, hws, hS⟩ := h
  have hn7 := hz.n
  have hb1 : Below w.heap.size w (w.alloc (.cells (AC z) 27)) := (Below.refl _ _).alloc (Nat.le_refl _) _
  have hw1 := Co.wNat1_c g (z 0) S [] (w.alloc (.cells (AC z) 27)) (hws.below hb1) (by omega) (by simp)
  rw [World.size_alloc, List.nil_append] at hw1
  have HW1 := Lib.hid hw1
  have hcv : IntKind.u64.wrap (z 0 : Int) = (z 0 : Int) := IntWalk.u64_in _ (by omega)
  have c0 := tab_n (heap_alloc_new w (.cells (AC z) 27 (0, 0)))
  have HB := Lib.hid hb
  have HB2 := Lib.hid hB
  have HS := Lib.hid hS
  have HLT := Lib.hid (fun k hk => hws.lt k hk)
  have HZ := Lib.hid hz
  have hnI : (z 0 : Int) ≤ 7 := by omega
  clear hw1 hws hb hB hS hz
  go_enter Try.func17, Try.ntmps17
  go_wp2_with fail
  refine HW1.out.mono ?_
  rintro e w1 ⟨rfl, ha⟩
  obtain ⟨_, S2, hws2, hfr, hsub⟩ := ha.out
  have hq : w1.heap[w.heap.size]? = some (.cells (AC z) 27 (0, 0)) := hfr.blk (heap_alloc_new w _) (fun hk => by have := HLT.out _ hk; omega)
  have hnS : ¬ S2 w.heap.size := fun hk => by
    rcases hsub _ hk with h1 | h1
    · have := HLT.out _ h1; omega
    · simp at h1; omega
  have hB1 : Below base w0 w1 := (HB.out.alloc HB2.out _).trans (hfr.below HS.out (by have := HB2.out; simp; omega))
  have hs1 : base ≤ w1.heap.size := by have := hfr.size; have := HB2.out; simp at *; omega
  have hS2 : ∀ k, S2 k → base ≤ k := fun k hk => by
    rcases hsub k hk with h1 | h1
    · exact HS.out k h1
    · have := HB2.out; simp at h1; omega
  have HW2 := Lib.hid (Co.wNat_c g (z 0) 7 (some ⟨w.heap.size, 1, none⟩) S2 (Co.natB (z 0)) (setsA z (z 0)) w1 hws2 (setsA_len _ _)
    (fun x hx => by
      obtain ⟨i, _, rfl⟩ := List.mem_map.1 hx
      have := HZ.out.lt (i + 1) (by omega)
      omega)
    (.inr ⟨w.heap.size, 1, rfl, blk_lt hq, hnS, fun i hi => by
      rw [tab_cell' hq (by omega)]
      simp [setsA, hi]⟩)
    (by have := Co.natB_len10 (n := z 0) (by omega); omega))
  have HE : Hid (∀ w2, Co.Added g S2 (Co.natB (z 0) ++ Co.natsB (setsA z (z 0))) w1 (.returned (.tuple #[])) w2 → Wk base w0 w2 g (tabB z)) := Lib.hid (fun w2 h2 => wk_added hB1 hs1 hS2 h2)
  have c1 := tab_n hq
  clear HW1 c0 ha hws2 hfr hsub hnS hB1 hs1 hS2
  go_wp2_with fail
  refine HW2.out.mono ?_
  intro e w2 h2
  have he := h2.1
  subst he
  clear HW2
  go_wp2_with fail
  go_end0
  exact ⟨rfl, Lib.hid (HE.out _ h2)⟩
set_option maxHeartbeats 4000000 in
set_option maxRecDepth 100000 in
theorem rPut_c (z : Ta) (B : Nat) (A : Option Addr) (c : Nat) (L : Al) (hS : Sm z L) (w : World) (H : RL w B A c L) (hl : L.length ≤ 1000) :
    Calls Try.prog 21 #[.agg (T2 (z 0) A L.length c)] w (BytesIs w (tabB z)) := by
  have hn7 := hS.tb.n
  have HOf : Hid (∀ i, i < z 0 → ∀ W, Below w.heap.size w W → Calls Try.prog 31 #[.agg (T2 (z 0) A L.length c), .int .i64 (i : Int)] W fun e w' => e = .returned (.int .u64 (z (i + 1) : Int)) ∧ Below W.heap.size W w') := Lib.hid (fun i hi W hW => by
    rw [hS.eq i hi]; exact rOf_c (z 0) B A c L i W (H.below hW) hl)
  have HN := Lib.hid (fun (m : Nat) (hm : m < 2 ^ 64) W => Co.refNat_c m hm W)
  have HZL := Lib.hid hS.tb.lt
  have hcv : IntKind.u64.wrap (z 0 : Int) = (z 0 : Int) := IntWalk.u64_in _ (by omega)
  have hN0 := HN.out (z 0) (by omega) (w.alloc (.cells (T2 (z 0) A L.length c) 35))
  have HN0 := Lib.hid hN0
  have hnI : (z 0 : Int) ≤ 7 := by omega
  have hEq : Hid (tabB z = Co.natB (z 0) ++ Co.natsB (setsA z (z 0))) := Lib.hid rfl
  generalize L.length = N at *
  clear hS H hl hN0
  generalize hz0 : z 0 = n at *
  go_enter Try.func21, Try.ntmps21
  go_wp2_with fail
  refine HN0.out.mono ?_
  rintro e w1 ⟨q1, c1, rfl, h1⟩
  have hp : w1.heap[w.heap.size]? = some (.cells (T2 n A N c) 35 (0, 0)) := (h1.out.2.2.2.block _ (by simp)).trans (heap_alloc_new w _)
  have hO : Hid (w1.ownsRow (w.heap.size + 1) 5 1 (.slice (some ⟨q1, 0, none⟩) (Co.natB n).length c1) (Co.natB n).length ((Co.natB n).map byt)) := Lib.hid (by have := h1.out.2.2.1; rwa [World.size_alloc] at this)
  have hBB : Below w.heap.size w w1 := ((Below.refl _ _).alloc (Nat.le_refl _) _).trans (h1.out.2.2.2.mono (by simp))
  have hsz : w.heap.size + 1 ≤ w1.heap.size := by have := h1.out.2.2.2.size; simpa using this
  clear h1 HN0
  go_wp2_with fail
  go_loopw [3, 4] (fun v s4 wr => ∃ (i : Nat) (bs : List UInt8), s4 = .int .i64 (i : Int) ∧ i ≤ n ∧ Hid (bs = Co.natB n ++ Co.natsB (setsA z i)) ∧ Hid (wr.heap[w.heap.size]? = some (.cells (T2 n A N c) 35 (0, 0))) ∧ Hid (wr.ownsRow (w.heap.size + 1) 5 1 v bs.length (bs.map byt)) ∧ Hid (Below w.heap.size w wr) ∧ w.heap.size + 1 ≤ wr.heap.size) (fun _ i _ => n - (intOf i).toNat)
  case atStart => exact ⟨0, Co.natB n, rfl, by omega, Lib.hid (by simp [setsA, Co.natsB]), Lib.hid hp, hO, Lib.hid hBB, hsz⟩
  case round =>
    clear hp hBB hsz
    obtain ⟨i, bs, rfl, hin, hbs, h1, hown, hB, hs⟩ := hrel
    have c0 : wr.cell? ⟨w.heap.size, 0, none⟩ = some (.int .i64 (n : Int)) := cell_of_row _ _ _ _ _ _ h1.out
    have k0 : wr.cell? ⟨w.heap.size, 1, none⟩ = some (.slice A N c) := cell_of_row _ _ _ _ _ _ h1.out
    by_cases hlt : i < n
    · have hltI : (i : Int) < (n : Int) := by omega
      have hof := Lib.hid (HOf.out i hlt wr hB.out)
      have hx64 : z (i + 1) < 2 ^ 64 := by have := HZL.out (i + 1) (by omega); omega
      have HNx := Lib.hid (HN.out (z (i + 1)) hx64)
      have hl6 : Hid (bs.length ≤ 90) := Lib.hid (by
        rw [hbs.out, List.length_append]
        have a1 := Co.natB_len10 (n := n) (by omega)
        have a2 := Co.natsB_len (xs := setsA z i) (fun x hx => by
          obtain ⟨j, _, rfl⟩ := List.mem_map.1 hx
          have := HZL.out (j + 1) (by omega)
          omega)
        rw [setsA_len] at a2
        omega)
      have hl10 : Hid ((Co.natB (z (i + 1))).length ≤ 10) := Lib.hid (Co.natB_len10 hx64)
      have HBN : Hid (bs ++ Co.natB (z (i + 1)) = Co.natB n ++ Co.natsB (setsA z (i + 1))) := Lib.hid (by rw [setsA_more, natsB_app, natsB_one, ← List.append_assoc, ← hbs.out])
      generalize z (i + 1) = x at *
      clear hx64
      go_wp2_with (first | ((with_reducible refine hof.out.mono ?_); rintro e w2 ⟨rfl, b2⟩))
      refine (HNx.out w2).mono ?_
      rintro e w3 ⟨qq, cc, rfl, h3⟩
      have f1 : Hid (w3.heap[w.heap.size]? = some (.cells (T2 n A N c) 35 (0, 0))) := Lib.hid ((h3.out.2.2.2.block _ (by have := b2.size; omega)).trans ((b2.block _ (by omega)).trans h1.out))
      have fB : Hid (Below w.heap.size w w3) := Lib.hid (hB.out.trans ((b2.mono hB.out.size).trans (h3.out.2.2.2.mono (by have := b2.size; omega))))
      have fs : w.heap.size + 1 ≤ w3.heap.size := by have := b2.size; have := h3.out.2.2.2.size; omega
      have hown' : w3.ownsRow (w.heap.size + 1) 5 1 _ bs.length (bs.map byt) := own_low (own_low hown.out b2 rfl) h3.out.2.2.2 rfl
      have hs3 : SlB w3 (some ⟨qq, 0, none⟩) (Co.natB x).length (Co.natB x) := newB_slb h3.out
      clear h3 b2 HNx hof
      go_wp2_with (at_builtin; refine append_bytes rfl _ _ rfl (w.heap.size + 1) _ bs rfl hown' ⟨qq, 0, none⟩ _ _ (Co.natB x) rfl hs3 (by have := hl6.out; have := hl10.out; omega) fs ?_)
      intro v9 w9 bs9 hb9 own9 b9
      have g1 : Hid (w9.heap[w.heap.size]? = some (.cells (T2 n A N c) 35 (0, 0))) := Lib.hid ((b9.block _ (by omega)).trans f1.out)
      have gB : Hid (Below w.heap.size w w9) := Lib.hid (fB.out.trans (b9.mono (by omega)))
      have gs : w.heap.size + 1 ≤ w9.heap.size := Nat.le_trans fs b9.size
      have OW := Lib.hid own9
      clear own9 b9 hown' hs3 c0 k0
      go_wp2_with fail
      exact ⟨⟨i + 1, bs9, by go_num, by omega, Lib.hid (by rw [hb9.out, HBN.out]), g1, OW, gB, gs⟩, by simp [intOf]; omega⟩
    · obtain rfl : i = n := by omega
      have hltI : ¬ (i : Int) < (i : Int) := by omega
      go_wp2_with fail
      obtain ⟨A9, c9, hv⟩ := own_slice hown.out
      have hbb : bs = tabB z := by rw [hbs.out, hEq.out]
      subst hv
      subst hbb
      go_ret
      exact ⟨A9, c9, rfl, Lib.hid ⟨own_slb0 hown.out, hB.out, own_base hown.out (by omega)⟩⟩
end Go.Proofs.Ythbocddkomhpoaa
