/- The reference's Put and Bytes of events. (By mkevb.py.) -/
import Derived.Test.YtfglncbgifiigaaEvR
import Derived.Laws.OwnMore
namespace Go.Proofs.Ytfglncbgifiigaa
open Go.RowKit Go.Sort Go.Lib
set_option linter.unusedVariables false

/-- Whatever is no row of bytes stays. -/
def KeepT (w w' : World) : Prop := ∀ (g : Nat) (cs : Array Value) (t : TypeId), 5 ≠ t → w.heap[g]? = some (Obj.cells cs t (0, 0)) → w'.heap[g]? = some (Obj.cells cs t (0, 0))
theorem KeepT.below {w w' : World} (h : Below w.heap.size w w') : KeepT w w' := fun g _ _ _ hg => (h.block g (blk_lt hg)).trans hg
theorem append_bytes {w : World} {ops : Array Oper} {rest : List Oper} {o : Oper} {a : Act} {Q : Exit → Act → World → Prop} (hgd : o.guard = none) (s x : Operand)
    (ho : o.op = .call { callee := .builtin .append, args := #[s, x], argTypes := #[23, 23] })
    (base : Nat) (v : Value) (bs : List UInt8) (hs : a.eval s = v) (hown : w.ownsRow base 5 1 v bs.length (bs.map byt))
    (ad : Addr) (m c : Nat) (l : List UInt8) (hx : a.eval x = .slice (some ad) m c) (HS : SlB w (some ad) m l) (h63 : bs.length + m ≤ 1000000) (hbase : base ≤ w.heap.size)
    (h : ∀ v' w' bs', Hid (bs' = bs ++ l) → w'.ownsRow base 5 1 v' bs'.length (bs'.map byt) → Below base w w' → KeepT w w' → wpList Try.prog ops Q rest (a.put o.dst v') w') : wpList Try.prog ops Q (o :: rest) a w := by
  obtain ⟨i0, hi0, hz0, hz1, hz2⟩ := info_parts info_u8
  have hl := HS.1
  refine wpList_append_own _ hgd s x _ ho base _ i0 (.int .u8 0) 1 1 Try.underlying23 hi0 hz0 hz1 hz2 rfl (by decide) v bs.length (bs.map byt) hs hown ad m c (l.map byt) hx (by simp [hl]) ?_ (byt_one l) (by unfold maxLen; omega) (by omega) hbase (fun v' w' h1 h2 _ => h v' w' (bs ++ l) rfl ?_ (Below.grown ((Below.refl _ _).mono hbase) h2 hbase (fun k hk => (hown.lt k hk).1)) ?_)
  · rcases HS.2 with h0 | ⟨b, off, e, _, hc⟩
    · intro j u hu
      have := (List.getElem?_eq_some_iff.1 hu).1
      simp at this
      omega
    · injection e with e
      subst e
      exact SlB.news hl hc
  · rw [List.length_append, List.map_append, hl]; exact h1
  · intro g cs t hne hg
    exact (World.grownBy.block h2 g (blk_lt hg) (fun e => own_ne hown hg hne e.symm)).trans hg
theorem newB_slb {w0 w : World} {q n c : Nat} {l : List UInt8} (h : Co.NewB w0 w q n c l) : SlB w (some ⟨q, 0, none⟩) n l := h.2.1
theorem ints_get {xs : List Int} {k : Nat} (h : k < xs.length) : ((xs.map (fun i => Value.int .i64 i)).toArray)[k]? = some (.int .i64 (xs.getD k 0)) := by
  rw [List.getElem?_toArray, List.getElem?_map, List.getElem?_eq_getElem h, List.getD_eq_getElem?_getD, List.getElem?_eq_getElem h]; rfl
set_option maxHeartbeats 4000000 in
set_option maxRecDepth 100000 in
theorem rput_c (A : Option Addr) (n c : Nat) (L : List Ev) (w : World) (H : Evs w A n L) (hn : n ≤ 300) : Calls Try.prog 11 #[.slice A n c] w (BytesIs w (evsB L)) := by
  have HO : Aside (Evs w A n L) := H
  have HLn := Lib.hid H.1
  have HOk := Lib.hid H.2.2.1
  have HN := Lib.hid (fun (m : Nat) (hm : m < 2 ^ 64) W => Co.refNat_c m hm W)
  have HI := Lib.hid (fun (i : Int) h0 h1 W => Co.refInt_c i h0 h1 W)
  have hcv : IntKind.u64.wrap (n : Int) = (n : Int) := by rw [IntKind.wrap_u64]; omega
  have H1 := Lib.hid (HN.out n (by omega) w)
  clear H
  go_enter Try.func11, Try.ntmps11
  go_wp2_with fail
  refine (H1.out).mono ?_
  rintro e w1 ⟨q1, c1, rfl, h1⟩
  have B1 : Hid (Below w.heap.size w w1) := h1.out.2.2.2
  have O1 : w1.ownsRow w.heap.size 5 1 (.slice (some ⟨q1, 0, none⟩) (Co.natB n).length c1) (Co.natB n).length ((Co.natB n).map byt) := h1.out.2.2.1
  have hz := Lib.hid (Co.natB_len10 (n := n) (by omega))
  clear h1 H1
  go_wp2_with fail
  go_loopg [3, 4] n (fun kx v s4 wr => ∃ (i : Nat) (bs : List UInt8), s4 = .int .i64 i ∧ i ≤ n ∧ n - i ≤ kx ∧ Hid (bs = Co.natB n ++ (L.take i).flatMap evB) ∧ wr.ownsRow w.heap.size 5 1 v bs.length (bs.map byt) ∧ Hid (Below w.heap.size w wr))
  case atStart => exact ⟨0, Co.natB n, rfl, by omega, by omega, Lib.hid (by simp), O1, B1⟩
  case round =>
    clear O1 B1
    obtain ⟨i, bs0, rfl, hin, hkx, HB, hown, hd⟩ := hrel
    by_cases hlt : i < n
    · have hltz : (i : Int) < (n : Int) := by omega
      have HF := Lib.hid (flat_snoc (L := L) (k := i) (by rw [HLn.out]; exact hlt))
      have hlen0 : bs0.length ≤ 50000 := by
        have a := take_len HOk.out i
        have b := hz.out
        rw [HLn.out] at a
        rw [HB.out, List.length_append]
        omega
      obtain ⟨b, off, hA, _, hx, _⟩ := (HO.out.below hd.out).row hlt
      obtain ⟨x, ex⟩ : ∃ x, L[i]! = x := ⟨_, rfl⟩
      have hok : Hid (x.ok w) := Lib.hid (by
        rw [← ex, getElem!_pos L i (by rw [HLn.out]; exact hlt)]
        exact HOk.out _ (List.getElem_mem _))
      rw [ex] at HF hx
      clear ex
      subst hA
      obtain ⟨x0, x1, x2, x3, x4, x5, x6, x7, x8, x9, x10, x11⟩ := hx
      obtain ⟨k0, k1, k2, k3, k4, k5, k6, k7, k8, k9, k10, k11⟩ := hok
      obtain ⟨q, hq⟩ : ∃ q, wr.heap.size = q := ⟨_, rfl⟩
      have hr0 : (wr.alloc (.cells (EC x) 51)).heap[q]? = some (.cells (EC x) 51 (0, 0)) := by rw [← hq]; exact heap_alloc_new wr _
      have E0 := Lib.hid hr0
      have hd0 : Hid (Below w.heap.size w (wr.alloc (.cells (EC x) 51))) := hd.out.alloc hd.out.size _
      have hown0 := hown.alloc (Obj.cells (EC x) 51)
      have hsz0 := hd0.out.size
      clear hown hd hr0
      have HUD : Hid (wr.heap.size = q) := hq
      have hC := HI.out x.kd k0.1 k0.2 (wr.alloc (.cells (EC x) 51))
      have hlen : (Co.natB (Co.fz x.kd)).length ≤ 10 := Co.natB_len10 (Co.fz_lt k0.1 k0.2)
      obtain ⟨l0, hl0⟩ : ∃ l, l = Co.natB (Co.fz x.kd) := ⟨_, rfl⟩
      rw [← hl0] at hC hlen
      have HL0 := Lib.hid hl0
      clear hl0
      have HC := Lib.hid hC
      clear hC
      go_wp2_with fail
      refine HC.out.mono ?_
      rintro e w1 ⟨qq, c1, rfl, hq1⟩
      clear HC x0 x1 x2 x3 x4 x5 x6 x7 x8 x9 x10 x11
      have hs := newB_slb hq1.out
      have hown' := own_fr (S := fun _ => False) hown0 (Fr.of_below hq1.out.2.2.2) (fun _ _ h => h)
      have hd' : Hid (Below w.heap.size w w1) := hd0.out.trans (hq1.out.2.2.2.mono hd0.out.size)
      have E' := Lib.hid (KeepT.below hq1.out.2.2.2 _ _ _ (by decide) E0.out)
      have hsz := hd'.out.size
      clear hown0 hq1 hd0 E0 hsz0
      go_wp2_with (at_builtin; refine append_bytes rfl _ _ rfl w.heap.size _ bs0 rfl hown' ⟨qq, 0, none⟩ _ _ l0 rfl hs (by omega) hsz ?_)
      clear hs hown'
      intro v1 u1 bs1 HB1 hown1 b1 K1
      have hd1 : Hid (Below w.heap.size w u1) := hd'.out.trans b1
      have E1 := Lib.hid (K1 _ _ _ (by decide) E'.out)
      clear hd' b1 hsz K1 E'
      have hlen1 : bs1.length ≤ 50010 := by rw [HB1.out, List.length_append]; omega
      clear hlen hlen0
      have hC := HI.out x.acc k1.1 k1.2 u1
      have hlen : (Co.natB (Co.fz x.acc)).length ≤ 10 := Co.natB_len10 (Co.fz_lt k1.1 k1.2)
      obtain ⟨l1, hl1⟩ : ∃ l, l = Co.natB (Co.fz x.acc) := ⟨_, rfl⟩
      rw [← hl1] at hC hlen
      have HL1 := Lib.hid hl1
      clear hl1
      have HC := Lib.hid hC
      clear hC
      have xx : u1.cell? ⟨q, 1, none⟩ = some (.int .i64 x.acc) := by rw [cell_of_row _ _ _ _ _ _ E1.out]; rfl
      go_wp2_with fail
      refine HC.out.mono ?_
      rintro e w2 ⟨qq, c2, rfl, hq2⟩
      clear HC xx
      have hs := newB_slb hq2.out
      have hown' := own_fr (S := fun _ => False) hown1 (Fr.of_below hq2.out.2.2.2) (fun _ _ h => h)
      have hd' : Hid (Below w.heap.size w w2) := hd1.out.trans (hq2.out.2.2.2.mono hd1.out.size)
      have E' := Lib.hid (KeepT.below hq2.out.2.2.2 _ _ _ (by decide) E1.out)
      have hsz := hd'.out.size
      clear hown1 hq2 hd1 E1
      go_wp2_with (at_builtin; refine append_bytes rfl _ _ rfl w.heap.size _ bs1 rfl hown' ⟨qq, 0, none⟩ _ _ l1 rfl hs (by omega) hsz ?_)
      clear hs hown'
      intro v2 u2 bs2 HB2 hown2 b2 K2
      have hd2 : Hid (Below w.heap.size w u2) := hd'.out.trans b2
      have E2 := Lib.hid (K2 _ _ _ (by decide) E'.out)
      clear hd' b2 hsz K2 E'
      have hlen2 : bs2.length ≤ 50020 := by rw [HB2.out, List.length_append]; omega
      clear hlen hlen1
      have hC := HN.out x.id.toNat (by omega) u2
      rw [Int.toNat_of_nonneg k2.1] at hC
      have hlen : (Co.natB x.id.toNat).length ≤ 10 := Co.natB_len10 (by omega)
      obtain ⟨l2, hl2⟩ : ∃ l, l = Co.natB x.id.toNat := ⟨_, rfl⟩
      rw [← hl2] at hC hlen
      have HL2 := Lib.hid hl2
      clear hl2
      have HC := Lib.hid hC
      clear hC
      have xx : u2.cell? ⟨q, 2, none⟩ = some (.int .u64 x.id) := by rw [cell_of_row _ _ _ _ _ _ E2.out]; rfl
      go_wp2_with fail
      refine HC.out.mono ?_
      rintro e w3 ⟨qq, c3, rfl, hq3⟩
      clear HC xx
      have hs := newB_slb hq3.out
      have hown' := own_fr (S := fun _ => False) hown2 (Fr.of_below hq3.out.2.2.2) (fun _ _ h => h)
      have hd' : Hid (Below w.heap.size w w3) := hd2.out.trans (hq3.out.2.2.2.mono hd2.out.size)
      have E' := Lib.hid (KeepT.below hq3.out.2.2.2 _ _ _ (by decide) E2.out)
      have hsz := hd'.out.size
      clear hown2 hq3 hd2 E2
      go_wp2_with (at_builtin; refine append_bytes rfl _ _ rfl w.heap.size _ bs2 rfl hown' ⟨qq, 0, none⟩ _ _ l2 rfl hs (by omega) hsz ?_)
      clear hs hown'
      intro v3 u3 bs3 HB3 hown3 b3 K3
      have hd3 : Hid (Below w.heap.size w u3) := hd'.out.trans b3
      have E3 := Lib.hid (K3 _ _ _ (by decide) E'.out)
      clear hd' b3 hsz K3 E'
      have hlen3 : bs3.length ≤ 50030 := by rw [HB3.out, List.length_append]; omega
      clear hlen hlen2
      have hC := HN.out x.oth.toNat (by omega) u3
      rw [Int.toNat_of_nonneg k3.1] at hC
      have hlen : (Co.natB x.oth.toNat).length ≤ 10 := Co.natB_len10 (by omega)
      obtain ⟨l3, hl3⟩ : ∃ l, l = Co.natB x.oth.toNat := ⟨_, rfl⟩
      rw [← hl3] at hC hlen
      have HL3 := Lib.hid hl3
      clear hl3
      have HC := Lib.hid hC
      clear hC
      have xx : u3.cell? ⟨q, 3, none⟩ = some (.int .u64 x.oth) := by rw [cell_of_row _ _ _ _ _ _ E3.out]; rfl
      go_wp2_with fail
      refine HC.out.mono ?_
      rintro e w4 ⟨qq, c4, rfl, hq4⟩
      clear HC xx
      have hs := newB_slb hq4.out
      have hown' := own_fr (S := fun _ => False) hown3 (Fr.of_below hq4.out.2.2.2) (fun _ _ h => h)
      have hd' : Hid (Below w.heap.size w w4) := hd3.out.trans (hq4.out.2.2.2.mono hd3.out.size)
      have E' := Lib.hid (KeepT.below hq4.out.2.2.2 _ _ _ (by decide) E3.out)
      have hsz := hd'.out.size
      clear hown3 hq4 hd3 E3
      go_wp2_with (at_builtin; refine append_bytes rfl _ _ rfl w.heap.size _ bs3 rfl hown' ⟨qq, 0, none⟩ _ _ l3 rfl hs (by omega) hsz ?_)
      clear hs hown'
      intro v4 u4 bs4 HB4 hown4 b4 K4
      have hd4 : Hid (Below w.heap.size w u4) := hd'.out.trans b4
      have E4 := Lib.hid (K4 _ _ _ (by decide) E'.out)
      clear hd' b4 hsz K4 E'
      have hlen4 : bs4.length ≤ 50040 := by rw [HB4.out, List.length_append]; omega
      clear hlen hlen3
      have xx4 : u4.cell? ⟨q, 4, none⟩ = some (.int .i64 x.side) := by rw [cell_of_row _ _ _ _ _ _ E4.out]; rfl
      have xx5 : u4.cell? ⟨q, 5, none⟩ = some (.int .i64 x.pr) := by rw [cell_of_row _ _ _ _ _ _ E4.out]; rfl
      have xx6 : u4.cell? ⟨q, 6, none⟩ = some (.int .i64 x.qty) := by rw [cell_of_row _ _ _ _ _ _ E4.out]; rfl
      have xx7 : u4.cell? ⟨q, 7, none⟩ = some (.int .i64 x.fee) := by rw [cell_of_row _ _ _ _ _ _ E4.out]; rfl
      have xx8 : u4.cell? ⟨q, 8, none⟩ = some (.int .i64 x.fee2) := by rw [cell_of_row _ _ _ _ _ _ E4.out]; rfl
      have xx9 : u4.cell? ⟨q, 9, none⟩ = some (.int .i64 x.code) := by rw [cell_of_row _ _ _ _ _ _ E4.out]; rfl
      have xx10 : u4.cell? ⟨q, 10, none⟩ = some (.int .i64 x.ver) := by rw [cell_of_row _ _ _ _ _ _ E4.out]; rfl
      obtain ⟨xs, hxs⟩ : ∃ xs, xs = [x.side, x.pr, x.qty, x.fee, x.fee2, x.code, x.ver] := ⟨_, rfl⟩
      have HX7 : Hid (xs.length = 7 ∧ ∀ y ∈ xs, -9223372036854775808 ≤ y ∧ y ≤ 9223372036854775807) := Lib.hid (by
        refine ⟨by rw [hxs]; rfl, fun y hy => ?_⟩
        rw [hxs] at hy
        simp only [List.mem_cons, List.not_mem_nil, or_false] at hy
        rcases hy with rfl | rfl | rfl | rfl | rfl | rfl | rfl <;> assumption)
      have HXS := Lib.hid hxs
      obtain ⟨p, hp⟩ : ∃ p, u4.heap.size = p := ⟨_, rfl⟩
      have P0 : Hid ((u4.alloc (.cells #[.int .i64 x.side, .int .i64 x.pr, .int .i64 x.qty, .int .i64 x.fee, .int .i64 x.fee2, .int .i64 x.code, .int .i64 x.ver] 2)).heap[p]? = some (.cells (xs.map (fun i => Value.int .i64 i)).toArray 2 (0, 0))) := Lib.hid (by
        rw [← hp, hxs]; exact heap_alloc_new u4 _)
      have EX := Lib.hid (hd_prev (o := .cells #[.int .i64 x.side, .int .i64 x.pr, .int .i64 x.qty, .int .i64 x.fee, .int .i64 x.fee2, .int .i64 x.code, .int .i64 x.ver] 2) (blk_lt E4.out) E4.out)
      have ow := hown4.alloc (Obj.cells #[.int .i64 x.side, .int .i64 x.pr, .int .i64 x.qty, .int .i64 x.fee, .int .i64 x.fee2, .int .i64 x.code, .int .i64 x.ver] 2)
      have hdx : Hid (Below w.heap.size w (u4.alloc (.cells #[.int .i64 x.side, .int .i64 x.pr, .int .i64 x.qty, .int .i64 x.fee, .int .i64 x.fee2, .int .i64 x.code, .int .i64 x.ver] 2))) := hd4.out.alloc hd4.out.size _
      have HP4 := Lib.hid hp
      have HL4 := Lib.hid hlen4
      clear hxs hown4 hd4 E4 hlen4 k4 k5 k6 k7 k8 k9 k10
      go_wp2_with fail
      go_loopg [3, 58] 7 (fun ky v3 s58 wq => ∃ (k : Nat) (bs : List UInt8), s58 = .int .i64 k ∧ k ≤ 7 ∧ 7 - k ≤ ky ∧ Hid (bs = bs4 ++ Co.intsB (xs.take k) ∧ bs.length ≤ 50040 + 10 * k) ∧ wq.ownsRow w.heap.size 5 1 v3 bs.length (bs.map byt) ∧ Hid (Below w.heap.size w wq ∧ wq.heap[p]? = some (.cells (xs.map (fun i => Value.int .i64 i)).toArray 2 (0, 0)) ∧ wq.heap[q]? = some (.cells (EC x) 51 (0, 0))))
      case atStart => exact ⟨0, bs4, rfl, by omega, by omega, Lib.hid (by have := HL4.out; simp [Co.intsB]; omega), ow, ⟨hdx.out, P0.out, EX.out⟩⟩
      case round =>
        clear ow hdx P0 EX
        obtain ⟨k, bs5, rfl, hk7, hky, HB5, ow5, hd5⟩ := hrel
        by_cases hkt : k < 7
        · have hkz : (k : Int) < 7 := by omega
          obtain ⟨y, hy⟩ : ∃ y, xs.getD k 0 = y := ⟨_, rfl⟩
          have cx : wr.cell? ⟨p, k, none⟩ = some (.int .i64 y) := by
            rw [cell_of_row _ _ _ _ _ _ hd5.out.2.1, ints_get (by rw [HX7.out.1]; exact hkt), hy]
          have hym : y ∈ xs := by
            rw [← hy, List.getD_eq_getElem?_getD, List.getElem?_eq_getElem (by rw [HX7.out.1]; exact hkt)]; exact List.getElem_mem _
          have hyb := HX7.out.2 y hym
          have hC := HI.out y hyb.1 hyb.2 wr
          have hlen : (Co.natB (Co.fz y)).length ≤ 10 := Co.natB_len10 (Co.fz_lt hyb.1 hyb.2)
          have HT : Hid (Co.intsB (xs.take (k + 1)) = Co.intsB (xs.take k) ++ Co.natB (Co.fz y)) := Lib.hid (by rw [Co.intsB_take (by rw [HX7.out.1]; exact hkt), hy])
          obtain ⟨l5, hl5⟩ : ∃ l, l = Co.natB (Co.fz y) := ⟨_, rfl⟩
          rw [← hl5] at hC hlen HT
          have HC := Lib.hid hC
          clear hC hl5 hym hyb hy
          have hlb := HB5.out.2
          go_wp2_with fail
          refine HC.out.mono ?_
          rintro e w6 ⟨qq, c6, rfl, hq6⟩
          clear HC cx
          have hs := newB_slb hq6.out
          have hown' := own_fr (S := fun _ => False) ow5 (Fr.of_below hq6.out.2.2.2) (fun _ _ h => h)
          have hd' : Hid (Below w.heap.size w w6 ∧ w6.heap[p]? = some (.cells (xs.map (fun i => Value.int .i64 i)).toArray 2 (0, 0)) ∧ w6.heap[q]? = some (.cells (EC x) 51 (0, 0))) :=
            ⟨hd5.out.1.trans (hq6.out.2.2.2.mono hd5.out.1.size), KeepT.below hq6.out.2.2.2 _ _ _ (by decide) hd5.out.2.1, KeepT.below hq6.out.2.2.2 _ _ _ (by decide) hd5.out.2.2⟩
          have hsz := hd'.out.1.size
          clear ow5 hq6 hd5
          go_wp2_with (at_builtin; refine append_bytes rfl _ _ rfl w.heap.size _ bs5 rfl hown' ⟨qq, 0, none⟩ _ _ l5 rfl hs (by omega) hsz ?_)
          clear hs hown'
          intro v6 u6 bs6 HB6 ow6 b6 K6
          have hd6 : Hid (Below w.heap.size w u6 ∧ u6.heap[p]? = some (.cells (xs.map (fun i => Value.int .i64 i)).toArray 2 (0, 0)) ∧ u6.heap[q]? = some (.cells (EC x) 51 (0, 0))) :=
            ⟨hd'.out.1.trans b6, K6 _ _ _ (by decide) hd'.out.2.1, K6 _ _ _ (by decide) hd'.out.2.2⟩
          have HB7 : Hid (bs6 = bs4 ++ Co.intsB (xs.take (k + 1)) ∧ bs6.length ≤ 50040 + 10 * (k + 1)) := Lib.hid (by
            refine ⟨by rw [HB6.out, HB5.out.1, HT.out, List.append_assoc], ?_⟩
            rw [HB6.out, List.length_append]; omega)
          clear hd' b6 K6 hsz HB6 HB5 HT hlen hlb
          go_wp2_with fail
          go_roundg (7 - (k + 1))
          case measure => omega
          case rel => exact ⟨k + 1, bs6, by go_num, by omega, by omega, HB7, ow6, hd6⟩
        · have hkz : ¬ (k : Int) < 7 := by omega
          obtain rfl : k = 7 := by omega
          have hd11 : Hid (Below w.heap.size w wr) := hd5.out.1
          have E11 : Hid (wr.heap[q]? = some (.cells (EC x) 51 (0, 0))) := hd5.out.2.2
          have HB11 : Hid (bs5 = bs4 ++ Co.intsB [x.side, x.pr, x.qty, x.fee, x.fee2, x.code, x.ver]) := Lib.hid (by
            rw [HB5.out.1, List.take_of_length_le (by rw [HX7.out.1]; omega), HXS.out])
          have hlen5 : bs5.length ≤ 50110 := by have := HB5.out.2; omega
          clear hd5 HB5
          have hC := HN.out x.idx.toNat (by omega) wr
          rw [Int.toNat_of_nonneg k11.1] at hC
          have hlen : (Co.natB x.idx.toNat).length ≤ 10 := Co.natB_len10 (by omega)
          obtain ⟨l11, hl11⟩ : ∃ l, l = Co.natB x.idx.toNat := ⟨_, rfl⟩
          rw [← hl11] at hC hlen
          have HL11 := Lib.hid hl11
          clear hl11
          have HC := Lib.hid hC
          clear hC
          have xx : wr.cell? ⟨q, 11, none⟩ = some (.int .u64 x.idx) := by rw [cell_of_row _ _ _ _ _ _ E11.out]; rfl
          go_wp2_with fail
          refine HC.out.mono ?_
          rintro e w6 ⟨qq, c6, rfl, hq6⟩
          clear HC xx
          have hs := newB_slb hq6.out
          have hown' := own_fr (S := fun _ => False) ow5 (Fr.of_below hq6.out.2.2.2) (fun _ _ h => h)
          have hd' : Hid (Below w.heap.size w w6) := hd11.out.trans (hq6.out.2.2.2.mono hd11.out.size)
          have hsz := hd'.out.size
          clear ow5 hq6 hd11 E11
          go_wp2_with (at_builtin; refine append_bytes rfl _ _ rfl w.heap.size _ bs5 rfl hown' ⟨qq, 0, none⟩ _ _ l11 rfl hs (by omega) hsz ?_)
          clear hs hown'
          intro v6 u6 bs6 HB6 ow6 b6 K6
          have hd6 : Hid (Below w.heap.size w u6) := hd'.out.trans b6
          have HB' : Hid (bs6 = Co.natB n ++ (L.take (i + 1)).flatMap evB) := Lib.hid (by
            rw [HF.out, HB6.out, HB11.out, HB4.out, HB3.out, HB2.out, HB1.out, HB.out, HL0.out, HL1.out, HL2.out, HL3.out, HL11.out]
            unfold evB Co.intsB
            simp only [List.flatMap_cons, List.flatMap_nil, List.append_nil, List.append_assoc])
          clear hd' b6 K6 hsz HB6 HB11 HB4 HB3 HB2 HB1 HB HL0 HL1 HL2 HL3 HL11 HF
          go_wp2_with fail
          go_roundg (n - (i + 1))
          case measure => omega
          case rel => exact ⟨i + 1, bs6, by go_num, by omega, by omega, HB', ow6, hd6⟩
    · have hltz : ¬ (i : Int) < (n : Int) := by omega
      obtain rfl : i = n := by omega
      have e : Hid (bs0 = evsB L) := Lib.hid (by
        rw [HB.out, List.take_of_length_le (by rw [HLn.out]; exact Nat.le_refl _)]
        unfold evsB; rw [HLn.out])
      have hpos : 0 < bs0.length := by rw [HB.out, List.length_append]; have := Co.natB_pos i; omega
      obtain ⟨q, cp, hv, hq, _, hs⟩ := own_slb hown hpos
      subst hv
      have HR : Hid (SlB wr (some ⟨q, 0, none⟩) bs0.length bs0 ∧ Below w.heap.size w wr ∧ wr.ownsRow w.heap.size 5 1 (.slice (some ⟨q, 0, none⟩) bs0.length cp) bs0.length (bs0.map byt)) := ⟨hs, hd.out, hown⟩
      clear hs hown hd hpos HB
      go_wp2_with fail
      go_ret
      rw [← e.out]
      exact ⟨_, cp, rfl, HR⟩
set_option maxHeartbeats 4000000 in
set_option maxRecDepth 100000 in
theorem rbytesE_c (A : Option Addr) (n c : Nat) (L : List Ev) (w : World) (H : Evs w A n L) (hn : n ≤ 300) : Calls Try.prog 8 #[.slice A n c] w (BytesEIs w (bytesE L)) := by
  have HO : Aside (Evs w A n L) := H
  have HLn := Lib.hid H.1
  clear H
  by_cases h256 : 256 < n
  · have hz : (256 : Int) < (n : Int) := by omega
    have HE : Hid (bytesE L = ([], 21)) := Lib.hid (by unfold bytesE; rw [HLn.out, if_pos h256])
    rw [HE.out]
    clear HE
    go_enter Try.func8, Try.ntmps8
    go_wp2_with fail
    refine bodyPost_ret (results_tmp2 rfl _ _ _) rfl ?_
    exact bytesE_no 21 (Below.refl _ _)
  have hz : ¬ (256 : Int) < (n : Int) := by omega
  have HP := Lib.hid (rput_c A n c L w HO.out hn)
  have HW : Hid (∀ wr, w = wr → Below w.heap.size w wr) := Lib.hid (fun wr e => by subst e; exact Below.refl _ _)
  go_enter Try.func8, Try.ntmps8
  go_wp2_with fail
  go_loopg [4] n (fun kx s4 wr => ∃ i : Nat, s4 = .int .i64 i ∧ i ≤ n ∧ n - i ≤ kx ∧ w = wr ∧ Hid (∀ j, j < i → kdOk L[j]! = true))
  case atStart => exact ⟨0, rfl, by omega, by omega, rfl, Lib.hid (fun j hj => by omega)⟩
  case round =>
    obtain ⟨i, rfl, hin, hkx, rfl, HI⟩ := hrel
    by_cases hlt : i < n
    · have hltz : (i : Int) < (n : Int) := by omega
      obtain ⟨b, off, rfl, _, hx, _⟩ := HO.out.row hlt
      obtain ⟨x, ex⟩ : ∃ x, L[i]! = x := ⟨_, rfl⟩
      rw [ex] at hx
      have EX := Lib.hid ex
      clear ex
      obtain ⟨x0, _⟩ := hx
      by_cases h1 : x.kd < 1
      · have g1 : decide (x.kd < 1) = true := decide_eq_true h1
        have HE : Hid (bytesE L = ([], 2)) := Lib.hid (by
          have : kdsOk L = false := kds_no (i := i) (by rw [HLn.out]; exact hlt) (by rw [EX.out]; unfold kdOk; rw [decide_eq_false (show ¬ 1 ≤ x.kd by omega)]; rfl)
          unfold bytesE; rw [HLn.out, if_neg h256, this]; rfl)
        go_wp2_with fail
        refine bodyPost_ret (results_tmp2 rfl _ _ _) rfl ?_
        rw [HE.out]
        exact bytesE_no 2 (Below.refl _ _)
      have g1 : decide (x.kd < 1) = false := decide_eq_false h1
      by_cases h2 : 15 < x.kd
      · have g2 : decide (15 < x.kd) = true := decide_eq_true h2
        have HE : Hid (bytesE L = ([], 2)) := Lib.hid (by
          have : kdsOk L = false := kds_no (i := i) (by rw [HLn.out]; exact hlt) (by rw [EX.out]; unfold kdOk; rw [decide_eq_false (show ¬ x.kd ≤ 15 by omega), Bool.and_false])
          unfold bytesE; rw [HLn.out, if_neg h256, this]; rfl)
        go_wp2_with fail
        refine bodyPost_ret (results_tmp2 rfl _ _ _) rfl ?_
        rw [HE.out]
        exact bytesE_no 2 (Below.refl _ _)
      have g2 : decide (15 < x.kd) = false := decide_eq_false h2
      have HN : Hid (∀ j, j < i + 1 → kdOk L[j]! = true) := Lib.hid (fun j hj => by
        by_cases e : j < i
        · exact HI.out j e
        · obtain rfl : j = i := by omega
          rw [EX.out]; unfold kdOk; rw [decide_eq_true (show 1 ≤ x.kd by omega), decide_eq_true (show x.kd ≤ 15 by omega)]; rfl)
      clear HI EX
      go_wp2_with fail
      go_roundg (n - (i + 1))
      case measure => omega
      case rel => exact ⟨i + 1, by go_num, by omega, by omega, rfl, HN⟩
    · have hltz : ¬ (i : Int) < (n : Int) := by omega
      obtain rfl : i = n := by omega
      have HE : Hid (bytesE L = (evsB L, 0)) := Lib.hid (by
        have : kdsOk L = true := kds_yes (fun j hj => HI.out j (by rw [HLn.out] at hj; exact hj))
        unfold bytesE; rw [HLn.out, if_neg h256, this]; rfl)
      clear HI
      go_wp2_with fail
      refine HP.out.mono ?_
      rintro e w3 ⟨A3, c3, rfl, h3⟩
      clear HP
      go_wp2_with fail
      refine bodyPost_ret (results_tmp2 rfl _ _ _) rfl ?_
      rw [HE.out]
      exact ⟨A3, c3, rfl, h3⟩
end Go.Proofs.Ytfglncbgifiigaa
