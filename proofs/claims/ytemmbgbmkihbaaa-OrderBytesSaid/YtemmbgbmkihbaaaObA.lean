/- order.Bytes. -/
import Derived.Test.YtemmbgbmkihbaaaObP
namespace Go.Proofs.Ytemmbgbmkihbaaa
open Go.RowKit Go.Sort Go.Lib Go.Shelf

/-- A writer of the call's own: what it has written; beside it a copy of an order. -/
def Wk (base : Nat) (w0 w : World) (g : Nat) (bs : List UInt8) : Prop := Below base w0 w ∧ base ≤ w.heap.size ∧ ∃ S, Co.WS w g S bs ∧ (∀ k, S k → base ≤ k)
def Wq (base : Nat) (w0 w : World) (g : Nat) (bs : List UInt8) (q : Nat) (x : Od) : Prop := Below base w0 w ∧ base ≤ w.heap.size ∧ w.heap[q]? = some (.cells (OC x) 32 (0, 0)) ∧ ∃ S, Co.WS w g S bs ∧ (∀ k, S k → base ≤ k) ∧ ¬ S q
theorem Wq.wk {base g q : Nat} {w0 w : World} {bs : List UInt8} {x : Od} (h : Wq base w0 w g bs q x) : Wk base w0 w g bs := by
  obtain ⟨a, b, _, S, c, d, _⟩ := h; exact ⟨a, b, S, c, d⟩
theorem Wk.copy {base g : Nat} {w0 w : World} {bs : List UInt8} (h : Wk base w0 w g bs) (x : Od) : Wq base w0 (w.alloc (.cells (OC x) 32)) g bs w.heap.size x := by
  obtain ⟨a, b, S, c, d⟩ := h
  refine ⟨a.alloc b _, by simp; omega, heap_alloc_new w _, S, c.below ((Below.refl _ _).alloc (Nat.le_refl _) _), d, fun hk => ?_⟩
  have := c.lt _ hk
  omega
theorem wk_added {base g : Nat} {w0 w w' : World} {bs' : List UInt8} {S : Nat → Prop} (hb : Below base w0 w) (hB : base ≤ w.heap.size) (hS : ∀ k, S k → base ≤ k) (h : Co.Added g S bs' w (.returned (.tuple #[])) w') : Wk base w0 w' g bs' := by
  obtain ⟨_, S2, hws2, hfr, hsub⟩ := h
  have b2 := hb.trans (hfr.below hS hB)
  refine ⟨b2, by have := hfr.size; omega, S2, hws2, fun k hk => ?_⟩
  rcases hsub k hk with h | h
  · exact hS k h
  · omega
theorem wq_added {base g q : Nat} {w0 w w' : World} {bs' : List UInt8} {x : Od} {S : Nat → Prop} (hb : Below base w0 w) (hB : base ≤ w.heap.size) (hS : ∀ k, S k → base ≤ k) (hq : w.heap[q]? = some (.cells (OC x) 32 (0, 0))) (hn : ¬ S q)
    (h : Co.Added g S bs' w (.returned (.tuple #[])) w') : Wq base w0 w' g bs' q x := by
  have hlt := blk_lt hq
  obtain ⟨h1, h2, h3⟩ := wk_added hb hB hS h
  obtain ⟨_, S2, hws2, hfr, hsub⟩ := h
  refine ⟨h1, h2, hfr.blk hq hn, S2, hws2, fun k hk => ?_, fun hk => ?_⟩
  · rcases hsub k hk with h | h
    · exact hS k h
    · omega
  · rcases hsub q hk with h | h
    · exact hn h
    · omega
theorem wq_nat {base g q : Nat} {w0 W : World} {bs : List UInt8} {x : Od} (h : Wq base w0 W g bs q x) {i : Int} (h0 : 0 ≤ i) (h1 : i ≤ 18446744073709551615) (hs : bs.length ≤ 100000) :
    Calls Try.prog 66 #[.pointer (some ⟨g, 0, none⟩), .slice (some ⟨W.heap.size, 0, none⟩) 1 1] (W.alloc (.cells #[.int .u64 i] 30)) fun e w' => e = .returned (.tuple #[]) ∧ Hid (Wq base w0 w' g (bs ++ Co.natB i.toNat) q x) := by
  obtain ⟨hb, hB, hq, S, hws, hS, hn⟩ := h
  have := Co.wNat1_c g i.toNat S bs W hws (by omega) (by omega)
  rw [Int.toNat_of_nonneg h0] at this
  exact this.mono fun e w' h => ⟨h.1, wq_added hb hB hS hq hn h.2.out⟩
theorem wq_int4 {base g q : Nat} {w0 W : World} {bs : List UInt8} {x : Od} (h : Wq base w0 W g bs q x) {a b c d : Int} (ha : -9223372036854775808 ≤ a ∧ a ≤ 9223372036854775807) (hb : -9223372036854775808 ≤ b ∧ b ≤ 9223372036854775807) (hc : -9223372036854775808 ≤ c ∧ c ≤ 9223372036854775807) (hd : -9223372036854775808 ≤ d ∧ d ≤ 9223372036854775807) (hs : bs.length ≤ 100000) :
    Calls Try.prog 67 #[.pointer (some ⟨g, 0, none⟩), .slice (some ⟨W.heap.size, 0, none⟩) 4 4] (W.alloc (.cells #[.int .i64 a, .int .i64 b, .int .i64 c, .int .i64 d] 2)) fun e w' => e = .returned (.tuple #[]) ∧ Hid (Wq base w0 w' g (bs ++ (Co.natB (Co.fz a) ++ (Co.natB (Co.fz b) ++ (Co.natB (Co.fz c) ++ Co.natB (Co.fz d))))) q x) := by
  obtain ⟨hB1, hB, hq, S, hws, hS, hn⟩ := h
  have hbl : Below W.heap.size W (W.alloc (.cells #[.int .i64 a, .int .i64 b, .int .i64 c, .int .i64 d] 2)) := (Below.refl _ _).alloc (Nat.le_refl _) _
  have := Co.wInt_c g 4 4 (some ⟨W.heap.size, 0, none⟩) S bs [a, b, c, d] _ (hws.below hbl) rfl (by
    intro y hy
    simp only [List.mem_cons, List.not_mem_nil, or_false] at hy
    rcases hy with rfl | rfl | rfl | rfl <;> assumption)
    (.inr ⟨W.heap.size, 0, rfl, by simp, fun hk => by have := hws.lt _ hk; omega, fun i hi => by
      rw [cell_of_row _ _ _ _ _ _ (heap_alloc_new W _)]
      match i, hi with
      | 0, _ => rfl
      | 1, _ => rfl
      | 2, _ => rfl
      | 3, _ => rfl⟩) (by omega)
  have e : Co.intsB [a, b, c, d] = Co.natB (Co.fz a) ++ (Co.natB (Co.fz b) ++ (Co.natB (Co.fz c) ++ Co.natB (Co.fz d))) := by
    simp [Co.intsB]
  rw [e] at this
  refine this.mono fun e w' h => ⟨h.1, ?_⟩
  have he := h.1
  subst he
  exact wq_added (hB1.alloc hB _) (by simp; omega) hS (hd_prev (blk_lt hq) hq) hn h
theorem own_base {w : World} {b b' n size : Nat} {e : TypeId} {v : Value} {xs : List Value} (h : w.ownsRow b e size v n xs) (hb : b' ≤ b) : w.ownsRow b' e size v n xs := by
  obtain ⟨h1, h2⟩ := h
  refine ⟨h1, ?_⟩
  rcases h2 with h | ⟨g, cp, cur, hv, hg, rest⟩
  · exact .inl h
  · exact .inr ⟨g, cp, cur, hv, Nat.le_trans hb hg, rest⟩
/-- Bytes that came back. -/
def BytesIs (w : World) (bs : List UInt8) (e : Ending) (w' : World) : Prop := ∃ A c, e = .returned (.slice A bs.length c) ∧ Hid (SlB w' A bs.length bs ∧ Below w.heap.size w w' ∧ w'.ownsRow w.heap.size 5 1 (.slice A bs.length c) bs.length (bs.map byt))
theorem natB_lenI {x : Od} {w : World} (h : x.ok w) {bs : List UInt8} {m : Nat} (hb : bs.length ≤ m) : (bs ++ Co.natB x.id.toNat).length ≤ m + 60 ∧ (bs ++ Co.natB x.id.toNat ++ (Co.natB (Co.fz x.acc) ++ (Co.natB (Co.fz x.side) ++ (Co.natB (Co.fz x.price) ++ Co.natB (Co.fz x.qty))))).length ≤ m + 60 := by
  have h1 := ordB_len h
  unfold ordB at h1
  simp only [List.length_append] at h1 ⊢
  omega
theorem ordB_app (bs : List UInt8) (x : Od) : bs ++ Co.natB x.id.toNat ++ (Co.natB (Co.fz x.acc) ++ (Co.natB (Co.fz x.side) ++ (Co.natB (Co.fz x.price) ++ Co.natB (Co.fz x.qty)))) ++ Co.natB x.seq.toNat = bs ++ ordB x := by
  unfold ordB; simp only [List.append_assoc]
set_option maxHeartbeats 4000000 in
set_option maxRecDepth 100000 in
theorem obytes_c (A : Option Addr) (n c : Nat) (L : List Od) (w : World) (H : Ods w A n L) (hn : n ≤ 100) : Calls Try.prog 34 #[.slice A n c] w (BytesIs w (ordsB L)) := by
  have HO : Aside (Ods w A n L) := H
  have HLn := Lib.hid H.1
  have HOk := Lib.hid H.2.2.1
  have h1 := Co.wNat1_c w.heap.size n (· = w.heap.size) [] _ (Co.WS.new w) (by omega) (by simp)
  rw [World.size_alloc] at h1
  have H1 := Lib.hid h1
  have hcv : IntKind.u64.wrap (n : Int) = (n : Int) := by rw [IntKind.wrap_u64]; omega
  clear h1 H
  go_enter Try.func34, Try.ntmps34
  go_wp2_with fail
  refine (H1.out).mono ?_
  rintro e w1 ⟨rfl, h1⟩
  have W1 : Hid (Wk w.heap.size w w1 w.heap.size (Co.natB n)) := wk_added ((Below.refl _ _).alloc (Nat.le_refl _) _) (by simp) (fun k hk => by omega) h1.out
  clear h1 H1
  go_wp2_with fail
  go_loopg [13] n (fun kx s13 wr => ∃ i : Nat, s13 = .int .i64 i ∧ i ≤ n ∧ n - i ≤ kx ∧ Hid (Wk w.heap.size w wr w.heap.size (Co.natB n ++ (L.take i).flatMap ordB)))
  case atStart => exact ⟨0, rfl, by omega, by omega, by simpa using W1⟩
  case round =>
    clear W1
    obtain ⟨i, rfl, hin, hkx, hW⟩ := hrel
    by_cases hlt : i < n
    · have hltz : (i : Int) < (n : Int) := by omega
      have h1 := (HO.out.below hW.out.1).2.2.2
      rcases h1 with h1 | ⟨b, off, rfl, _, hc⟩
      · omega
      have hx := hc i hlt
      clear hc
      have HF := Lib.hid (flat_snoc (L := L) (k := i) (by rw [HLn.out]; exact hlt))
      obtain ⟨x, ex⟩ : ∃ x, L[i]! = x := ⟨_, rfl⟩
      have hok : x.ok w := by
        rw [← ex, getElem!_pos L i (by rw [HLn.out]; exact hlt)]
        exact HOk.out _ (List.getElem_mem _)
      rw [ex] at hx HF
      have hlen : (Co.natB n ++ (L.take i).flatMap ordB).length ≤ 10000 := by
        have a := take_len HOk.out i
        have b := Co.natB_len10 (n := n) (by omega)
        rw [HLn.out] at a
        rw [List.length_append]
        omega
      have HF2 : Hid (Co.natB n ++ (L.take (i + 1)).flatMap ordB = Co.natB n ++ (L.take i).flatMap ordB ++ ordB x) := Lib.hid (by rw [HF.out, List.append_assoc])
      clear HF ex
      generalize (Co.natB n ++ (L.take i).flatMap ordB) = bs at hW hlen HF2
      obtain ⟨x0, x1, x2, x3, x4, x5⟩ := hx
      have HL := Lib.hid (natB_lenI hok hlen)
      have HK := Lib.hid hok
      have hN := wq_nat (hW.out.copy x) hok.1.1 hok.1.2 (by omega)
      rw [World.size_alloc] at hN
      have HN := Lib.hid hN
      clear hN hok hlen hW
      go_wp2_with fail
      refine HN.out.mono ?_
      rintro e w2 ⟨rfl, h2⟩
      clear HN x0 x1 x2 x3 x4 x5
      have e1 : w2.cell? ⟨wr.heap.size, 1, none⟩ = some (.int .i64 x.acc) := by rw [cell_of_row _ _ _ _ _ _ h2.out.2.2.1]; rfl
      have e2 : w2.cell? ⟨wr.heap.size, 2, none⟩ = some (.int .i64 x.side) := by rw [cell_of_row _ _ _ _ _ _ h2.out.2.2.1]; rfl
      have e3 : w2.cell? ⟨wr.heap.size, 3, none⟩ = some (.int .i64 x.price) := by rw [cell_of_row _ _ _ _ _ _ h2.out.2.2.1]; rfl
      have e4 : w2.cell? ⟨wr.heap.size, 4, none⟩ = some (.int .i64 x.qty) := by rw [cell_of_row _ _ _ _ _ _ h2.out.2.2.1]; rfl
      have HI := Lib.hid (wq_int4 h2.out HK.out.2.1 HK.out.2.2.1 HK.out.2.2.2.1 HK.out.2.2.2.2.1 (by have := HL.out.1; omega))
      clear h2
      go_wp2_with fail
      refine HI.out.mono ?_
      rintro e w3 ⟨rfl, h3⟩
      clear HI e1 e2 e3 e4
      have e5 : w3.cell? ⟨wr.heap.size, 5, none⟩ = some (.int .u64 x.seq) := by rw [cell_of_row _ _ _ _ _ _ h3.out.2.2.1]; rfl
      have HN := Lib.hid (wq_nat h3.out HK.out.2.2.2.2.2.1 HK.out.2.2.2.2.2.2 (by have := HL.out.2; omega))
      clear h3
      go_wp2_with fail
      refine HN.out.mono ?_
      rintro e w4 ⟨rfl, h4⟩
      have hW : Hid (Wk w.heap.size w w4 w.heap.size (Co.natB n ++ (L.take (i + 1)).flatMap ordB)) := by
        show Wk _ _ _ _ _
        rw [HF2.out, ← ordB_app]
        exact h4.out.wk
      clear HN h4 e5 HK HL HF2
      go_wp2_with fail
      go_roundg (n - (i + 1))
      case measure => omega
      case rel => exact ⟨i + 1, by go_num, by omega, by omega, hW⟩
    · have hltz : ¬ (i : Int) < (n : Int) := by omega
      obtain rfl : i = n := by omega
      rw [List.take_of_length_le (by rw [HLn.out]; exact Nat.le_refl _)] at hW
      have e : Co.natB i ++ L.flatMap ordB = ordsB L := by unfold ordsB; rw [HLn.out]
      rw [e] at hW
      have hlen : (ordsB L).length ≤ 10000 := by
        have a := flat_len L HOk.out
        have b := Co.natB_len10 (n := i) (by omega)
        rw [← e, List.length_append]
        rw [HLn.out] at a
        omega
      obtain ⟨S, hws, hS⟩ := hW.out.2.2
      have HB := Lib.hid (Co.Bytes_c w.heap.size S (ordsB L) wr hws (by omega))
      have B1 := Lib.hid hW.out.1
      have hs1 := Lib.hid hW.out.2.1
      clear hws hS hW e hlen
      obtain ⟨bs, hbs⟩ : ∃ bs, ordsB L = bs := ⟨_, rfl⟩
      rw [hbs] at HB
      have HBS := Lib.hid hbs
      clear hbs
      go_wp2_with fail
      refine HB.out.mono ?_
      rintro e w2 ⟨A', c', rfl, h2⟩
      have HR : Hid (SlB w2 A' bs.length bs ∧ Below w.heap.size w w2 ∧ w2.ownsRow w.heap.size 5 1 (.slice A' bs.length c') bs.length (bs.map byt)) :=
        ⟨own_slb0 h2.out.1, B1.out.trans (h2.out.2.mono B1.out.size), own_base h2.out.1 hs1.out⟩
      clear h2 HB
      go_wp2_with fail
      go_ret
      rw [HBS.out]
      exact ⟨A', c', rfl, HR⟩
end Go.Proofs.Ytemmbgbmkihbaaa
