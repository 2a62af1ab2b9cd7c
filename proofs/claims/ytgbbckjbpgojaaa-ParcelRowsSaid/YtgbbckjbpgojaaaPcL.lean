/- parcel: what is wrapped is taken; the chapter's example. -/
import Derived.Test.YtgbbckjbpgojaaaPcK
import Derived.Lib.SlBytesConst
namespace Go.Proofs.Ytgbbckjbpgojaaa
open Go.RowKit

theorem lenF_natB (n : Nat) (hn : n ≤ 65536) (r : List UInt8) : lenF (natB n ++ r) = (n, (natB n).length, 0) := by
  have h10 : (natB n).length ≤ 10 := natB_len10 (by omega)
  have ht : (natB n ++ r).take 10 = natB n ++ r.take (10 - (natB n).length) := by
    rw [List.take_append, List.take_of_length_le h10]
  have hr : rdN ((natB n ++ r).take 10) false 18446744073709551615 = (n, r.take (10 - (natB n).length), false) := by
    rw [ht]
    unfold rdN
    rw [readNat_natB _ (by omega) (by omega)]
  unfold lenF
  rw [hr]
  simp only [Bool.false_eq_true, if_false]
  rw [if_neg (by omega), ht, List.length_append]
  congr 2
  omega
theorem firstF_wrap (kd : Nat) (h0 : 0 < kd) (h1 : kd < 256) (l : List UInt8) (hl : l.length ≤ 65536) (t : List UInt8) :
    firstF (wrapB kd l ++ t) = ⟨kd, 1 + (natB l.length).length, 1 + (natB l.length).length + l.length, 0⟩ := by
  have e0 : wrapB kd l ++ t = UInt8.ofNat kd :: (natB l.length ++ (l ++ (four (sumN (headB kd l)) ++ t))) := by
    unfold wrapB headB; simp
  have hlen : (wrapB kd l ++ t).length = 1 + (natB l.length).length + l.length + 4 + t.length := by
    rw [e0]; simp [four_len]; omega
  have hk : ((wrapB kd l ++ t).getD 0 0).toNat = kd := by
    rw [e0]; show (UInt8.ofNat kd).toNat = kd; exact ofNat_toNat h1
  have hd : (wrapB kd l ++ t).drop 1 = natB l.length ++ (l ++ (four (sumN (headB kd l)) ++ t)) := by rw [e0]; rfl
  have hh : (headB kd l).length = 1 + (natB l.length).length + l.length := by unfold headB; simp; omega
  have e1 : wrapB kd l ++ t = headB kd l ++ (four (sumN (headB kd l)) ++ t) := by unfold wrapB; simp
  have ht : (wrapB kd l ++ t).take (1 + (natB l.length).length + l.length) = headB kd l := by rw [e1, ← hh, List.take_left]
  have hdr : ((wrapB kd l ++ t).drop (1 + (natB l.length).length + l.length)).take 4 = four (sumN (headB kd l)) := by
    rw [e1, ← hh, List.drop_left]
    exact List.take_left (l₁ := four (sumN (headB kd l)))
  unfold firstF
  rw [hd, lenF_natB _ hl, hk, hlen]
  simp only
  rw [if_neg (by omega), if_neg (by omega), if_neg (by simp), if_neg (by omega), ht, hdr, if_pos rfl]
theorem parB_wrap (kd : Nat) (h0 : 0 < kd) (h1 : kd < 256) (l : List UInt8) (hl : l.length ≤ 65536) (t : List UInt8) : parB (wrapB kd l ++ t) = l ∧ parN (wrapB kd l ++ t) = (wrapB kd l).length := by
  have hf := firstF_wrap kd h0 h1 l hl t
  have e1 : wrapB kd l ++ t = (UInt8.ofNat kd :: natB l.length) ++ (l ++ (four (sumN (headB kd l)) ++ t)) := by unfold wrapB headB; simp
  constructor
  · unfold parB
    rw [hf]
    simp only
    rw [Nat.add_sub_cancel_left, e1, show 1 + (natB l.length).length = (UInt8.ofNat kd :: natB l.length).length by simp; omega, List.drop_left, List.take_left]
  · unfold parN
    rw [hf]
    simp only [if_true]
    unfold wrapB headB
    simp [four_len]; omega

/-- What Wrap tells: bytes, and what is wrong. -/
def wOut (kd : Nat) (l : List UInt8) : List UInt8 := if kd = 0 then [] else if 65536 < l.length then [] else wrapB kd l
def wErr (kd : Nat) (l : List UInt8) : Nat := if kd = 0 then 2 else if 65536 < l.length then 21 else 0
def Wrapped (w : World) (kd : Nat) (l : List UInt8) (e : Ending) (w' : World) : Prop :=
  ∃ A c, e = .returned (.tuple #[.slice A (wOut kd l).length c, .int .i64 (wErr kd l : Int)]) ∧ Hid (SlB w' A (wOut kd l).length (wOut kd l) ∧ Below w.heap.size w w' ∧ (wOut kd l).length ≤ c ∧ c ≤ maxLen ∧ ∀ k o, A = some ⟨k, o, none⟩ → w.heap.size ≤ k)
theorem own_all {w : World} {base n : Nat} {v : Value} {l : List UInt8} (h : w.ownsRow base 5 1 v n (l.map byt)) (hn : 0 < n) : ∃ k c, v = .slice (some ⟨k, 0, none⟩) n c ∧ base ≤ k ∧ SlB w (some ⟨k, 0, none⟩) n l ∧ n ≤ c ∧ c ≤ maxLen := by
  obtain ⟨k, c, hv, hb, _, hs⟩ := own_slb h hn
  refine ⟨k, c, hv, hb, hs, ?_⟩
  rcases h.2 with ⟨hx, _⟩ | ⟨kk, cap', cur, hx, _, _, hh, hm, _⟩
  · rw [hv] at hx; cases hx
  · rw [hv] at hx
    injection hx with _ _ hx
    omega
theorem wrapB_pos (kd : Nat) (l : List UInt8) : 0 < (wrapB kd l).length := by unfold wrapB headB; simp
theorem wrapAny_c (kd : Nat) (h1 : kd < 256) (A : Option Addr) (n cap : Nat) (l : List UInt8) (w : World) (h : SlB w A n l) (hn : n ≤ 1000000000) (hA : A = none → cap = 0) :
    Calls Try.prog 9 #[.int .u8 (kd : Int), .slice A n cap] w (Wrapped w kd l) := by
  unfold Wrapped wOut wErr
  by_cases hk : kd = 0
  · subst hk
    rw [if_pos rfl, if_pos rfl]
    exact (wrap_zero A n cap w).mono fun e w' ⟨he, hw⟩ => ⟨none, 0, he, ⟨rfl, .inl rfl⟩, by rw [hw]; exact Below.refl _ _, Nat.le_refl _, Nat.zero_le _, fun k o h => by cases h⟩
  rw [if_neg hk, if_neg hk]
  by_cases hl : 65536 < l.length
  · rw [if_pos hl, if_pos hl]
    exact (wrap_long kd (by omega) A n cap (by have := h.1; omega) hn w).mono fun e w' ⟨he, hw⟩ => ⟨none, 0, he, ⟨rfl, .inl rfl⟩, by rw [hw]; exact Below.refl _ _, Nat.le_refl _, Nat.zero_le _, fun k o h => by cases h⟩
  · rw [if_neg hl, if_neg hl]
    refine (wrap_c kd (by omega) h1 A n cap l w h (by have := h.1; omega) hA).mono fun e w' ⟨v, he, hw⟩ => ?_
    obtain ⟨k, c, rfl, hb, hs, hc, hm⟩ := own_all hw.out.1 (wrapB_pos kd l)
    exact ⟨_, c, he, hs, hw.out.2, hc, hm, fun k' o h => by injection h with h; injection h with h _ _; omega⟩
theorem exw_out : wOut 7 [97, 98] = wrapB 7 [97, 98] ∧ wErr 7 [97, 98] = 0 ∧ (wOut 7 [97, 98]).length = 8 := by
  have h : wOut 7 [97, 98] = wrapB 7 [97, 98] := by unfold wOut; rw [if_neg (by omega), if_neg (by simp)]
  refine ⟨h, by unfold wErr; rw [if_neg (by omega), if_neg (by simp)], ?_⟩
  rw [h]
  unfold wrapB headB
  rw [show ([97, 98] : List UInt8).length = 2 from rfl, natB_small (by omega)]
  rfl
theorem exw_take : (firstF (wOut 7 [97, 98])).kd = 7 ∧ (firstF (wOut 7 [97, 98])).er = 0 ∧ parB (wOut 7 [97, 98]) = [97, 98] ∧ parN (wOut 7 [97, 98]) = 8 := by
  have hf := firstF_wrap 7 (by omega) (by omega) [97, 98] (by simp) []
  have hp := parB_wrap 7 (by omega) (by omega) [97, 98] (by simp) []
  rw [List.append_nil] at hf hp
  rw [exw_out.1, hf]
  refine ⟨rfl, rfl, hp.1, ?_⟩
  rw [hp.2, ← exw_out.1]
  exact exw_out.2.2
theorem exw_sum : sumN [49, 50, 51, 52, 53, 54, 55, 56, 57] = 3421780262 := by decide +kernel

set_option maxHeartbeats 4000000 in
set_option maxRecDepth 100000 in
theorem lives3_c (w : World) : Calls Try.prog 4 #[] w fun e w' => e = .returned (.bool true) ∧ Below w.heap.size w w' := by
  have hn0 : (w.alloc (.cells #[.int .u8 97, .int .u8 98] 5 (2, 3))).heap[w.heap.size]? = some (.cells #[.int .u8 97, .int .u8 98] 5 (2, 3)) := heap_alloc_new w _
  have hS0 : SlB (w.alloc (.cells #[.int .u8 97, .int .u8 98] 5 (2, 3))) (some ⟨w.heap.size, 0, none⟩) 2 [97, 98] := by
    refine ⟨rfl, .inr ⟨_, _, rfl, blk_lt hn0, fun i hi => ?_⟩⟩
    match i, hi with
    | 0, _ => rw [cell_of_row _ _ _ _ _ _ hn0]; rfl
    | 1, _ => rw [cell_of_row _ _ _ _ _ _ hn0]; rfl
  have HB0 : Hid (Below w.heap.size w (w.alloc (.cells #[.int .u8 97, .int .u8 98] 5 (2, 3)))) := (Below.refl _ w).alloc (Nat.le_refl _) _
  have HW := wrapAny_c 7 (by omega) (some ⟨w.heap.size, 0, none⟩) 2 2 [97, 98] _ hS0 (by omega) (fun h => by cases h)
  unfold Wrapped at HW
  obtain ⟨o1, o2, o3⟩ := exw_out
  rw [o3, o2, show ((7 : Nat) : Int) = 7 from rfl, show ((0 : Nat) : Int) = 0 from rfl] at HW
  have H1 := Lib.hid HW
  have kc := fun (w : World) (C : Array Value) (n c : Nat) => Lib.run_convert_bytes_const (P := Try.prog) w 22 5 C n c Try.underlying22 Try.underlying5
  obtain ⟨t1, t2, t3, t4⟩ := exw_take
  have HT : Hid (∀ (A : Option Addr) (c : Nat) (W : World), SlB W A 8 (wOut 7 [97, 98]) → 8 ≤ c → c ≤ maxLen → Calls Try.prog 10 #[.slice A 8 c] W fun e w' => ∃ A c, e = .returned (.tuple #[.int .u8 7, .slice A 2 c, .int .i64 8, .int .i64 0]) ∧ Hid (SlB w' A 2 [97, 98] ∧ Below W.heap.size W w')) := by
    intro A c W hs h1 h2
    refine (take_c A 8 c _ W hs (by omega) h1 (by unfold maxLen at h2; omega)).mono fun e w' ⟨A, c, he, hw⟩ => ?_
    rw [t1, t2, t3, t4] at he
    rw [t3] at hw
    exact ⟨A, c, he, hw.out.1, hw.out.2.1⟩
  have HSm : Hid (∀ (k : Nat) (W : World), W.heap[k]? = some (.cells #[.int .u8 49, .int .u8 50, .int .u8 51, .int .u8 52, .int .u8 53, .int .u8 54, .int .u8 55, .int .u8 56, .int .u8 57] 5 (9, 10)) → Calls Try.prog 11 #[.slice (some ⟨k, 0, none⟩) 9 9] W fun e w' => e = .returned (.int .u32 3421780262) ∧ Below W.heap.size W w') := by
    intro k W hk
    have hs : SlB W (some ⟨k, 0, none⟩) 9 [49, 50, 51, 52, 53, 54, 55, 56, 57] := by
      refine ⟨rfl, .inr ⟨_, _, rfl, blk_lt hk, fun i hi => ?_⟩⟩
      match i, hi with
      | 0, _ => rw [cell_of_row _ _ _ _ _ _ hk]; rfl
      | 1, _ => rw [cell_of_row _ _ _ _ _ _ hk]; rfl
      | 2, _ => rw [cell_of_row _ _ _ _ _ _ hk]; rfl
      | 3, _ => rw [cell_of_row _ _ _ _ _ _ hk]; rfl
      | 4, _ => rw [cell_of_row _ _ _ _ _ _ hk]; rfl
      | 5, _ => rw [cell_of_row _ _ _ _ _ _ hk]; rfl
      | 6, _ => rw [cell_of_row _ _ _ _ _ _ hk]; rfl
      | 7, _ => rw [cell_of_row _ _ _ _ _ _ hk]; rfl
      | 8, _ => rw [cell_of_row _ _ _ _ _ _ hk]; rfl
    have := sum_c _ 9 9 _ W hs (by omega)
    rw [exw_sum] at this
    exact this
  clear hn0 hS0 HW o1 o2 o3 t1 t2 t3 t4
  go_enter Try.func4, Try.ntmps4
  go_wp2_with fail
  ((with_reducible refine H1.out.mono ?_); rintro e w1 ⟨A1, c1, rfl, hd1⟩)
  have B1 : Hid (Below w.heap.size w w1) := HB0.out.trans (hd1.out.2.1.mono HB0.out.size)
  have N1 := Lib.hid (HT.out A1 c1 w1 hd1.out.1 hd1.out.2.2.1 hd1.out.2.2.2.1)
  clear hd1 H1 HB0 HT
  go_wp2_with fail
  ((with_reducible refine N1.out.mono ?_); rintro e w2 ⟨A2, c2, rfl, hd2⟩)
  have B2 : Hid (Below w.heap.size w w2) := B1.out.trans (hd2.out.2.mono B1.out.size)
  have S2 := Lib.hid hd2.out.1
  clear hd2 N1 B1
  go_wp2_with fail
  have N3 := Lib.hid (HSm.out w2.heap.size _ (heap_alloc_new w2 _))
  have B3 := Lib.hid (B2.out.alloc B2.out.size (.cells #[.int .u8 49, .int .u8 50, .int .u8 51, .int .u8 52, .int .u8 53, .int .u8 54, .int .u8 55, .int .u8 56, .int .u8 57] 5 (9, 10)))
  have S3 : Hid (SlB (w2.alloc (.cells #[.int .u8 49, .int .u8 50, .int .u8 51, .int .u8 52, .int .u8 53, .int .u8 54, .int .u8 55, .int .u8 56, .int .u8 57] 5 (9, 10))) A2 2 [97, 98]) := S2.out.fr0 (S := fun _ => False) (Fr.of_below ((Below.refl _ _).alloc (Nat.le_refl _) _)) (fun _ _ _ h => h)
  clear HSm
  ((with_reducible refine N3.out.mono ?_); rintro e w3 ⟨rfl, b3⟩)
  have B4 : Hid (Below w.heap.size w w3) := B3.out.trans (b3.mono B3.out.size)
  have hcv := conv_str (c := c2) (S3.out.fr0 (S := fun _ => False) (Fr.of_below b3) (fun _ _ _ h => h))
  clear b3 N3 B2 B3 S2 S3
  go_wp2_with fail
  go_ret
  exact ⟨rfl, B4.out⟩
end Go.Proofs.Ytgbbckjbpgojaaa
