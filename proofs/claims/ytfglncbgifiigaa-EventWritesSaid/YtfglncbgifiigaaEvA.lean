/- event: Put, Bytes. -/
import Derived.Test.YtfglncbgifiigaaEvK
namespace Go.Proofs.Ytfglncbgifiigaa
open Go.RowKit Go.Sort Go.Lib

/-- A writer of the call's own: what it has written; beside it a copy of an event. -/
def Wk (base : Nat) (w0 w : World) (g : Nat) (bs : List UInt8) : Prop := Below base w0 w ∧ base ≤ w.heap.size ∧ ∃ S, Co.WS w g S bs ∧ (∀ k, S k → base ≤ k)
def Wq (base : Nat) (w0 w : World) (g : Nat) (bs : List UInt8) (q : Nat) (x : Ev) : Prop := Below base w0 w ∧ base ≤ w.heap.size ∧ w.heap[q]? = some (.cells (EC x) 51 (0, 0)) ∧ ∃ S, Co.WS w g S bs ∧ (∀ k, S k → base ≤ k) ∧ ¬ S q
theorem Wq.wk {base g q : Nat} {w0 w : World} {bs : List UInt8} {x : Ev} (h : Wq base w0 w g bs q x) : Wk base w0 w g bs := by
  obtain ⟨a, b, _, S, c, d, _⟩ := h; exact ⟨a, b, S, c, d⟩
theorem Wk.copy {base g : Nat} {w0 w : World} {bs : List UInt8} (h : Wk base w0 w g bs) (x : Ev) : Wq base w0 (w.alloc (.cells (EC x) 51)) g bs w.heap.size x := by
  obtain ⟨a, b, S, c, d⟩ := h
  refine ⟨a.alloc b _, by simp; omega, heap_alloc_new w _, S, c.below ((Below.refl _ _).alloc (Nat.le_refl _) _), d, fun hk => ?_⟩
  have := c.lt _ hk
  omega
theorem wk_added {base g : Nat} {w0 w w' : World} {bs' : List UInt8} {S : Nat → Prop} (hb : Below base w0 w) (hB : base ≤ w.heap.size) (hS : ∀ k, S k → base ≤ k) (h : Co.Added g S bs' w (.returned (.tuple #[])) w') : Wk base w0 w' g bs' := by
  obtain ⟨_, S2, hws2, hfr, hsub⟩ := h
  have b2 := hb.trans (hfr.below hS hB)
  refine ⟨b2, by have := hfr.size; omega, S2, hws2, fun k hk => ?_⟩
  rcases hsub k hk with h | h
  · exact hS k h
  · omega
theorem wq_added {base g q : Nat} {w0 w w' : World} {bs' : List UInt8} {x : Ev} {S : Nat → Prop} (hb : Below base w0 w) (hB : base ≤ w.heap.size) (hS : ∀ k, S k → base ≤ k) (hq : w.heap[q]? = some (.cells (EC x) 51 (0, 0))) (hn : ¬ S q)
    (h : Co.Added g S bs' w (.returned (.tuple #[])) w') : Wq base w0 w' g bs' q x := by
  have hlt := blk_lt hq
  obtain ⟨h1, h2, h3⟩ := wk_added hb hB hS h
  obtain ⟨_, S2, hws2, hfr, hsub⟩ := h
  refine ⟨h1, h2, hfr.blk hq hn, S2, hws2, fun k hk => ?_, fun hk => ?_⟩
  · rcases hsub k hk with h | h
    · exact hS k h
    · omega
  · rcases hsub q hk with h | h
    · exact hn h
    · omega
theorem wq_ints {base g q : Nat} {w0 W : World} {bs : List UInt8} {x : Ev} (h : Wq base w0 W g bs q x) (xs : List Int) (m : Nat) (hm : xs.length = m) (cs : Array Value) (hcs : cs = (xs.map (fun i => Value.int .i64 i)).toArray) (hx : ∀ y ∈ xs, -9223372036854775808 ≤ y ∧ y ≤ 9223372036854775807) (h7 : m ≤ 7) (hs : bs.length ≤ 100000) :
    Calls Try.prog 23 #[.pointer (some ⟨g, 0, none⟩), .slice (some ⟨W.heap.size, 0, none⟩) m m] (W.alloc (.cells cs 2)) fun e w' => e = .returned (.tuple #[]) ∧ Hid (Wq base w0 w' g (bs ++ Co.intsB xs) q x) := by
  obtain ⟨hB1, hB, hq, S, hws, hS, hn⟩ := h
  have hbl : Below W.heap.size W (W.alloc (.cells cs 2)) := (Below.refl _ _).alloc (Nat.le_refl _) _
  have := Co.wInt_c g m m (some ⟨W.heap.size, 0, none⟩) S bs xs _ (hws.below hbl) hm hx
    (.inr ⟨W.heap.size, 0, rfl, by simp, fun hk => by have := hws.lt _ hk; omega, fun i hi => by
      rw [cell_of_row _ _ _ _ _ _ (heap_alloc_new W _), hcs, Nat.zero_add, List.getElem?_toArray, List.getElem?_map, List.getElem?_eq_getElem (by omega), List.getD_eq_getElem?_getD, List.getElem?_eq_getElem (by omega)]
      rfl⟩) (by omega)
  refine this.mono fun e w' h => ⟨h.1, ?_⟩
  have he := h.1
  subst he
  exact wq_added (hB1.alloc hB _) (by simp; omega) hS (hd_prev (blk_lt hq) hq) hn h
theorem wq_nats {base g q : Nat} {w0 W : World} {bs : List UInt8} {x : Ev} (h : Wq base w0 W g bs q x) (xs : List Nat) (m : Nat) (hm : xs.length = m) (cs : Array Value) (hcs : cs = (xs.map (fun i : Nat => Value.int .u64 (i : Int))).toArray) (hx : ∀ y ∈ xs, y < 2 ^ 64) (h7 : m ≤ 7) (hs : bs.length ≤ 100000) :
    Calls Try.prog 22 #[.pointer (some ⟨g, 0, none⟩), .slice (some ⟨W.heap.size, 0, none⟩) m m] (W.alloc (.cells cs 49)) fun e w' => e = .returned (.tuple #[]) ∧ Hid (Wq base w0 w' g (bs ++ Co.natsB xs) q x) := by
  obtain ⟨hB1, hB, hq, S, hws, hS, hn⟩ := h
  have hbl : Below W.heap.size W (W.alloc (.cells cs 49)) := (Below.refl _ _).alloc (Nat.le_refl _) _
  have := Co.wNat_c g m m (some ⟨W.heap.size, 0, none⟩) S bs xs _ (hws.below hbl) hm hx
    (.inr ⟨W.heap.size, 0, rfl, by simp, fun hk => by have := hws.lt _ hk; omega, fun i hi => by
      rw [cell_of_row _ _ _ _ _ _ (heap_alloc_new W _), hcs, Nat.zero_add, List.getElem?_toArray, List.getElem?_map, List.getElem?_eq_getElem (by omega), List.getD_eq_getElem?_getD, List.getElem?_eq_getElem (by omega)]
      rfl⟩) (by omega)
  refine this.mono fun e w' h => ⟨h.1, ?_⟩
  have he := h.1
  subst he
  exact wq_added (hB1.alloc hB _) (by simp; omega) hS (hd_prev (blk_lt hq) hq) hn h
/-- An event's bytes, call by call. -/
theorem evB_app (bs : List UInt8) (x : Ev) : bs ++ Co.intsB [x.kd, x.acc] ++ Co.natsB [x.id.toNat, x.oth.toNat] ++ Co.intsB [x.side, x.pr, x.qty, x.fee, x.fee2, x.code, x.ver] ++ Co.natsB [x.idx.toNat] = bs ++ evB x := by
  unfold evB Co.intsB Co.natsB; simp only [List.flatMap_cons, List.flatMap_nil, List.append_nil, List.append_assoc]
theorem evB_lens {x : Ev} {w : World} (h : x.ok w) {bs : List UInt8} {m : Nat} (hb : bs.length ≤ m) :
    (bs ++ Co.intsB [x.kd, x.acc]).length ≤ m + 120 ∧ (bs ++ Co.intsB [x.kd, x.acc] ++ Co.natsB [x.id.toNat, x.oth.toNat]).length ≤ m + 120 ∧ (bs ++ Co.intsB [x.kd, x.acc] ++ Co.natsB [x.id.toNat, x.oth.toNat] ++ Co.intsB [x.side, x.pr, x.qty, x.fee, x.fee2, x.code, x.ver]).length ≤ m + 120 := by
  have h1 := evB_len h
  have h2 := congrArg List.length (evB_app bs x)
  simp only [List.length_append] at h2 ⊢
  omega
theorem wk_first {base g : Nat} {w0 W : World} (h : Wk base w0 W g []) {n : Nat} (hn : n ≤ 1000) :
    Calls Try.prog 22 #[.pointer (some ⟨g, 0, none⟩), .slice (some ⟨W.heap.size, 0, none⟩) 1 1] (W.alloc (.cells #[.int .u64 (n : Int)] 49)) fun e w' => e = .returned (.tuple #[]) ∧ Hid (Wk base w0 w' g (Co.natB n)) := by
  obtain ⟨hb, hB, S, hws, hS⟩ := h
  exact (Co.wNat1_c g n S [] W hws (by omega) (by simp)).mono fun e w' h => ⟨h.1, wk_added hb hB hS h.2.out⟩
theorem own_base {w : World} {b b' n size : Nat} {e : TypeId} {v : Value} {xs : List Value} (h : w.ownsRow b e size v n xs) (hb : b' ≤ b) : w.ownsRow b' e size v n xs := by
  obtain ⟨h1, h2⟩ := h
  refine ⟨h1, ?_⟩
  rcases h2 with h | ⟨g, cp, cur, hv, hg, rest⟩
  · exact .inl h
  · exact .inr ⟨g, cp, cur, hv, Nat.le_trans hb hg, rest⟩
/-- Bytes that came back. -/
def BytesIs (w : World) (bs : List UInt8) (e : Ending) (w' : World) : Prop := ∃ A c, e = .returned (.slice A bs.length c) ∧ Hid (SlB w' A bs.length bs ∧ Below w.heap.size w w' ∧ w'.ownsRow w.heap.size 5 1 (.slice A bs.length c) bs.length (bs.map byt))
set_option maxHeartbeats 4000000 in
set_option maxRecDepth 100000 in
theorem eput_c (A : Option Addr) (n c g : Nat) (L : List Ev) (w0 w : World) (H : Evs w0 A n L) (hn : n ≤ 300) (hW : Wk w0.heap.size w0 w g []) : Calls Try.prog 9 #[.pointer (some ⟨g, 0, none⟩), .slice A n c] w fun e w' => e = .returned (.tuple #[]) ∧ Hid (Wk w0.heap.size w0 w' g (evsB L)) := by
  have HO : Aside (Evs w0 A n L) := H
  have HLn := Lib.hid H.1
  have HOk := Lib.hid H.2.2.1
  have H1 := Lib.hid (wk_first hW (n := n) (by omega))
  have hcv : IntKind.u64.wrap (n : Int) = (n : Int) := by rw [IntKind.wrap_u64]; omega
  clear H hW
  go_enter Try.func9, Try.ntmps9
  go_wp2_with fail
  refine (H1.out).mono ?_
  rintro e w1 ⟨rfl, W1⟩
  clear H1
  go_wp2_with fail
  go_loopg [14] n (fun kx s14 wr => ∃ i : Nat, s14 = .int .i64 i ∧ i ≤ n ∧ n - i ≤ kx ∧ Hid (Wk w0.heap.size w0 wr g (Co.natB n ++ (L.take i).flatMap evB)))
  case atStart => exact ⟨0, rfl, by omega, by omega, by simpa using W1⟩
  case round =>
    clear W1
    obtain ⟨i, rfl, hin, hkx, hW⟩ := hrel
    by_cases hlt : i < n
    · have hltz : (i : Int) < (n : Int) := by omega
      obtain ⟨b, off, rfl, _, hx, _⟩ := (HO.out.below hW.out.1).row hlt
      have HF := Lib.hid (flat_snoc (L := L) (k := i) (by rw [HLn.out]; exact hlt))
      obtain ⟨x, ex⟩ : ∃ x, L[i]! = x := ⟨_, rfl⟩
      have hok : x.ok w0 := by
        rw [← ex, getElem!_pos L i (by rw [HLn.out]; exact hlt)]
        exact HOk.out _ (List.getElem_mem _)
      rw [ex] at hx HF
      have hlen : (Co.natB n ++ (L.take i).flatMap evB).length ≤ 50000 := by
        have a := take_len HOk.out i
        have b := Co.natB_len10 (n := n) (by omega)
        rw [HLn.out] at a
        rw [List.length_append]
        omega
      have HF2 : Hid (Co.natB n ++ (L.take (i + 1)).flatMap evB = Co.natB n ++ (L.take i).flatMap evB ++ evB x) := Lib.hid (by rw [HF.out, List.append_assoc])
      clear HF ex
      generalize (Co.natB n ++ (L.take i).flatMap evB) = bs at hW hlen HF2
      obtain ⟨x0, x1, x2, x3, x4, x5, x6, x7, x8, x9, x10, x11⟩ := hx
      have HL := Lib.hid (evB_lens hok hlen)
      have HA := Lib.hid (evB_app bs x)
      obtain ⟨k0, k1, k2, k3, k4, k5, k6, k7, k8, k9, k10, k11⟩ := hok
      have hN := wq_ints (hW.out.copy x) [x.kd, x.acc] 2 rfl #[.int .i64 x.kd, .int .i64 x.acc] rfl (by
        intro y hy
        simp only [List.mem_cons, List.not_mem_nil, or_false] at hy
        rcases hy with rfl | rfl <;> assumption) (by omega) (by omega)
      rw [World.size_alloc] at hN
      have HN := Lib.hid hN
      have K : Hid ((0 ≤ x.id ∧ x.id ≤ 18446744073709551615) ∧ (0 ≤ x.oth ∧ x.oth ≤ 18446744073709551615) ∧ (0 ≤ x.idx ∧ x.idx ≤ 18446744073709551615)) := ⟨k2, k3, k11⟩
      have K7 : Hid (∀ y ∈ [x.side, x.pr, x.qty, x.fee, x.fee2, x.code, x.ver], -9223372036854775808 ≤ y ∧ y ≤ 9223372036854775807) := Lib.hid (by
        intro y hy
        simp only [List.mem_cons, List.not_mem_nil, or_false] at hy
        rcases hy with rfl | rfl | rfl | rfl | rfl | rfl | rfl <;> assumption)
      clear hN hlen hW k0 k1 k2 k3 k4 k5 k6 k7 k8 k9 k10 k11
      go_wp2_with fail
      refine HN.out.mono ?_
      rintro e w2 ⟨rfl, h2⟩
      clear HN x0 x1 x2 x3 x4 x5 x6 x7 x8 x9 x10 x11
      have e2 : w2.cell? ⟨wr.heap.size, 2, none⟩ = some (.int .u64 x.id) := by rw [cell_of_row _ _ _ _ _ _ h2.out.2.2.1]; rfl
      have e3 : w2.cell? ⟨wr.heap.size, 3, none⟩ = some (.int .u64 x.oth) := by rw [cell_of_row _ _ _ _ _ _ h2.out.2.2.1]; rfl
      have HN := Lib.hid (wq_nats h2.out [x.id.toNat, x.oth.toNat] 2 rfl #[.int .u64 x.id, .int .u64 x.oth] (by
        have := K.out
        simp only [List.map_cons, List.map_nil]
        rw [Int.toNat_of_nonneg this.1.1, Int.toNat_of_nonneg this.2.1.1]) (by
        have := K.out
        intro y hy
        simp only [List.mem_cons, List.not_mem_nil, or_false] at hy
        rcases hy with rfl | rfl <;> omega) (by omega) (by have := HL.out.1; omega))
      clear h2
      go_wp2_with fail
      refine HN.out.mono ?_
      rintro e w3 ⟨rfl, h3⟩
      clear HN e2 e3
      have e4 : w3.cell? ⟨wr.heap.size, 4, none⟩ = some (.int .i64 x.side) := by rw [cell_of_row _ _ _ _ _ _ h3.out.2.2.1]; rfl
      have e5 : w3.cell? ⟨wr.heap.size, 5, none⟩ = some (.int .i64 x.pr) := by rw [cell_of_row _ _ _ _ _ _ h3.out.2.2.1]; rfl
      have e6 : w3.cell? ⟨wr.heap.size, 6, none⟩ = some (.int .i64 x.qty) := by rw [cell_of_row _ _ _ _ _ _ h3.out.2.2.1]; rfl
      have e7 : w3.cell? ⟨wr.heap.size, 7, none⟩ = some (.int .i64 x.fee) := by rw [cell_of_row _ _ _ _ _ _ h3.out.2.2.1]; rfl
      have e8 : w3.cell? ⟨wr.heap.size, 8, none⟩ = some (.int .i64 x.fee2) := by rw [cell_of_row _ _ _ _ _ _ h3.out.2.2.1]; rfl
      have e9 : w3.cell? ⟨wr.heap.size, 9, none⟩ = some (.int .i64 x.code) := by rw [cell_of_row _ _ _ _ _ _ h3.out.2.2.1]; rfl
      have e10 : w3.cell? ⟨wr.heap.size, 10, none⟩ = some (.int .i64 x.ver) := by rw [cell_of_row _ _ _ _ _ _ h3.out.2.2.1]; rfl
      have HN := Lib.hid (wq_ints h3.out [x.side, x.pr, x.qty, x.fee, x.fee2, x.code, x.ver] 7 rfl #[.int .i64 x.side, .int .i64 x.pr, .int .i64 x.qty, .int .i64 x.fee, .int .i64 x.fee2, .int .i64 x.code, .int .i64 x.ver] rfl K7.out (by omega) (by have := HL.out.2.1; omega))
      clear h3
      go_wp2_with fail
      refine HN.out.mono ?_
      rintro e w4 ⟨rfl, h4⟩
      clear HN e4 e5 e6 e7 e8 e9 e10
      have e11 : w4.cell? ⟨wr.heap.size, 11, none⟩ = some (.int .u64 x.idx) := by rw [cell_of_row _ _ _ _ _ _ h4.out.2.2.1]; rfl
      have HN := Lib.hid (wq_nats h4.out [x.idx.toNat] 1 rfl #[.int .u64 x.idx] (by
        have := K.out
        simp only [List.map_cons, List.map_nil]
        rw [Int.toNat_of_nonneg this.2.2.1]) (by
        have := K.out
        intro y hy
        simp only [List.mem_cons, List.not_mem_nil, or_false] at hy
        subst hy; omega) (by omega) (by have := HL.out.2.2; omega))
      clear h4
      go_wp2_with fail
      refine HN.out.mono ?_
      rintro e w5 ⟨rfl, h5⟩
      have hW : Hid (Wk w0.heap.size w0 w5 g (Co.natB n ++ (L.take (i + 1)).flatMap evB)) := by
        show Wk _ _ _ _ _
        rw [HF2.out, ← HA.out]
        exact h5.out.wk
      clear h5 HN e11 HL HA K K7 HF2
      go_wp2_with fail
      go_roundg (n - (i + 1))
      case measure => omega
      case rel => exact ⟨i + 1, by go_num, by omega, by omega, hW⟩
    · have hltz : ¬ (i : Int) < (n : Int) := by omega
      obtain rfl : i = n := by omega
      have hF : Hid (Wk w0.heap.size w0 wr g (evsB L)) := by
        have := hW.out
        rw [List.take_of_length_le (by rw [HLn.out]; exact Nat.le_refl _)] at this
        show Wk _ _ _ _ _
        unfold evsB
        rw [HLn.out]
        exact this
      clear hW
      go_wp2_with fail
      go_end0
      exact ⟨rfl, hF⟩
/-- The bytes and why there are none. -/
def BytesEIs (w : World) (r : List UInt8 × Int) (e : Ending) (w' : World) : Prop := ∃ A c, e = .returned (.tuple #[.slice A r.1.length c, .int .i64 r.2]) ∧ Hid (SlB w' A r.1.length r.1 ∧ Below w.heap.size w w' ∧ w'.ownsRow w.heap.size 5 1 (.slice A r.1.length c) r.1.length (r.1.map byt))
theorem bytesE_no {w w' : World} (k : Int) (h : Below w.heap.size w w') : BytesEIs w ([], k) (.returned (.tuple #[.slice none 0 0, .int .i64 k])) w' :=
  ⟨none, 0, rfl, ⟨rfl, .inl rfl⟩, h, World.ownsRow_nil _ _ _ _⟩
theorem wk_bytes {w0 w : World} {g : Nat} {bs : List UInt8} (h : Wk w0.heap.size w0 w g bs) (hb : bs.length ≤ 1000000) : Calls Try.prog 10 #[.pointer (some ⟨g, 0, none⟩)] w (BytesIs w0 bs) := by
  obtain ⟨b, hB, S, hws, hS⟩ := h
  refine (Co.Bytes_c g S bs w hws (by omega)).mono fun e w' h => ?_
  obtain ⟨A, c, he, ho, hb'⟩ := h
  have ho' : w'.ownsRow w0.heap.size 5 1 (.slice A bs.length c) bs.length (bs.map byt) := own_base ho hB
  exact ⟨A, c, he, own_slb0 ho, b.trans (hb'.mono hB), ho'⟩
set_option maxHeartbeats 4000000 in
set_option maxRecDepth 100000 in
theorem ebytes_c (A : Option Addr) (n c : Nat) (L : List Ev) (w : World) (H : Evs w A n L) (hn : n ≤ 300) : Calls Try.prog 7 #[.slice A n c] w (BytesEIs w (bytesE L)) := by
  have HO : Aside (Evs w A n L) := H
  have HLn := Lib.hid H.1
  have HOk := Lib.hid H.2.2.1
  clear H
  by_cases h256 : 256 < n
  · have hz : (256 : Int) < (n : Int) := by omega
    have HE : Hid (bytesE L = ([], 21)) := Lib.hid (by unfold bytesE; rw [HLn.out, if_pos h256])
    rw [HE.out]
    clear HE
    go_enter Try.func7, Try.ntmps7
    go_wp2_with fail
    refine bodyPost_ret (results_tmp2 rfl _ _ _) rfl ?_
    exact bytesE_no 21 (Below.refl _ _)
  have hz : ¬ (256 : Int) < (n : Int) := by omega
  have HK := Lib.hid (known_c A n c L w HO.out (by omega))
  cases hk : kdsOk L with
  | false =>
    have HE : Hid (bytesE L = ([], 2)) := Lib.hid (by unfold bytesE; rw [HLn.out, if_neg h256, hk]; rfl)
    rw [HE.out]
    rw [hk] at HK
    clear HE hk
    go_enter Try.func7, Try.ntmps7
    go_wp2_with fail
    refine HK.out.mono ?_
    rintro e w1 ⟨rfl, b1⟩
    have B1 := Lib.hid b1
    clear HK b1
    go_wp2_with fail
    refine bodyPost_ret (results_tmp2 rfl _ _ _) rfl ?_
    exact bytesE_no 2 B1.out
  | true =>
    have HE : Hid (bytesE L = (evsB L, 0)) := Lib.hid (by unfold bytesE; rw [HLn.out, if_neg h256, hk]; rfl)
    rw [HE.out]
    rw [hk] at HK
    clear HE hk
    have HLen := Lib.hid (evsB_len HOk.out (by rw [HLn.out]; exact hn))
    go_enter Try.func7, Try.ntmps7
    go_wp2_with fail
    refine HK.out.mono ?_
    rintro e w1 ⟨rfl, b1⟩
    have B1 := Lib.hid b1
    clear HK b1
    have hP := eput_c A n c w1.heap.size L w (w1.alloc (.cells #[.pointer none, .int .i64 0] 32)) HO.out hn ⟨B1.out.alloc B1.out.size _, by have := B1.out.size; simp; omega, _, Co.WS.new w1, fun k hk => by have := B1.out.size; omega⟩
    have HP := Lib.hid hP
    clear hP
    go_wp2_with fail
    refine HP.out.mono ?_
    rintro e w2 ⟨rfl, h2⟩
    have HB := Lib.hid (wk_bytes h2.out (by have := HLen.out; omega))
    clear HP h2
    go_wp2_with fail
    refine HB.out.mono ?_
    rintro e w3 ⟨A3, c3, rfl, h3⟩
    clear HB
    go_wp2_with fail
    refine bodyPost_ret (results_tmp2 rfl _ _ _) rfl ?_
    exact ⟨A3, c3, rfl, h3⟩
end Go.Proofs.Ytfglncbgifiigaa
