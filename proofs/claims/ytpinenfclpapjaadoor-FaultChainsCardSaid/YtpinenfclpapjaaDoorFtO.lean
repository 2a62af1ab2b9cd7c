/-
  A number's decimal digits, as the law makes them: strconv.Itoa's.
-/
import Derived.Test.YtpinenfclpapjaaDoorFtN
namespace Go.Proofs.YtpinenfclpapjaaDoor
open Go.RowKit
set_option linter.unusedVariables false

theorem tdiv_pos {n : Int} (h : 0 ≤ n) : n.tdiv 10 = n / 10 := Int.tdiv_eq_ediv_of_nonneg h
theorem tmod_pos {n : Int} (h : 0 ≤ n) : n.tmod 10 = n % 10 := Int.tmod_eq_emod_of_nonneg h
theorem tdiv_neg' {n : Int} (h : n < 0) : n.tdiv 10 = -((-n) / 10) := by
  have := Int.neg_tdiv (-n) 10
  rw [Int.neg_neg] at this
  rw [this, Int.tdiv_eq_ediv_of_nonneg (by omega)]
theorem tmod_neg' {n : Int} (h : n < 0) : n.tmod 10 = -((-n) % 10) := by
  have := Int.neg_tmod (-n) 10
  rw [Int.neg_neg] at this
  rw [this, Int.tmod_eq_emod_of_nonneg (by omega)]
theorem itoa_small {n : Int} (h0 : 0 ≤ n) (h1 : n < 10) : Lib.itoa n = [UInt8.ofNat (48 + n.toNat)] := by
  unfold Lib.itoa
  rw [if_neg (by omega)]
  exact Lib.decDigits_one (by omega)
theorem itoa_big {n : Int} (h1 : 10 ≤ n) : Lib.itoa n = Lib.itoa (n.tdiv 10) ++ [UInt8.ofNat (48 + (n.tmod 10).toNat)] := by
  rw [tdiv_pos (by omega), tmod_pos (by omega)]
  unfold Lib.itoa
  rw [if_neg (by omega), if_neg (by omega), Lib.decDigits, dif_neg (by omega)]
  have e1 : (n / 10).toNat = n.toNat / 10 := by omega
  have e2 : (n % 10).toNat = n.toNat % 10 := by omega
  rw [e1, e2]
theorem itoa_neg1 {n : Int} (h0 : n < 0) (h1 : -10 < n) : Lib.itoa n = [45] ++ [UInt8.ofNat (48 + n.natAbs)] := by
  unfold Lib.itoa
  rw [if_pos h0, Lib.decDigits_one (by omega)]
  rfl
theorem itoa_negb {n : Int} (h1 : n ≤ -10) : Lib.itoa n = Lib.itoa (n.tdiv 10) ++ [UInt8.ofNat (48 + (-(n.tmod 10)).toNat)] := by
  rw [tdiv_neg' (by omega), tmod_neg' (by omega)]
  unfold Lib.itoa
  rw [if_pos (by omega), if_pos (by omega), Lib.decDigits, dif_neg (by omega)]
  have e1 : (-((-n) / 10)).natAbs = n.natAbs / 10 := by omega
  have e2 : (-(-((-n) % 10))).toNat = n.natAbs % 10 := by omega
  rw [e1, e2]
  rfl

theorem conv_one (w : World) (x : Int) (d : UInt8) (hx : x = (d.toNat : Int)) : (convert 41 9 (.slice (some ⟨w.heap.size, 0, none⟩) 1 1)).run Tryd.prog (w.alloc (.cells #[.int .u8 x] 5)) = .ok (Str [d]) (w.alloc (.cells #[.int .u8 x] 5)) := by
  refine conv_str ⟨rfl, .inr ⟨w.heap.size, 0, rfl, by simp, fun i hi => ?_⟩⟩
  obtain rfl : i = 0 := by omega
  have hr : (w.alloc (.cells #[.int .u8 x] 5)).heap[w.heap.size]? = some (.cells #[.int .u8 x] 5 (0, 0)) := heap_alloc_new w _
  rw [cell_of_row _ _ _ _ _ _ hr, hx]
  rfl
theorem dig_pos {n : Int} (h : 0 ≤ n) : 48 + n % 10 = ((UInt8.ofNat (48 + (n.tmod 10).toNat)).toNat : Int) := by
  rw [tmod_pos h, ofNat_toNat (by omega)]
  omega
theorem dig_neg {n : Int} (h : n < 0) : wrap64 (48 - n.tmod 10) % 256 = ((UInt8.ofNat (48 + (-(n.tmod 10)).toNat)).toNat : Int) := by
  rw [tmod_neg' h, ofNat_toNat (by omega)]
  unfold wrap64
  omega
theorem str_app (x y : List UInt8) : (ByteArray.mk x.toArray ++ ByteArray.mk y.toArray) = ByteArray.mk (x ++ y).toArray := ByteArray.mk_append_mk x y

theorem str_ret (x y l : List UInt8) (h : l = x ++ y) : Ending.returned (.string (ByteArray.mk x.toArray ++ ByteArray.mk y.toArray)) = .returned (Str l) := by rw [str_app, h]
set_option maxHeartbeats 8000000 in
set_option maxRecDepth 100000 in
theorem digits_c : ∀ (m : Nat) (n : Int), n.natAbs ≤ m → -9223372036854775808 ≤ n → n ≤ 9223372036854775807 → ∀ (w : World), Calls Tryd.prog 7 #[.int .i64 n] w fun e w' => e = .returned (Str (Lib.itoa n)) ∧ Below w.heap.size w w' := by
  have small : ∀ (n : Int), 0 ≤ n → n < 10 → ∀ (w : World), Calls Tryd.prog 7 #[.int .i64 n] w fun e w' => e = .returned (Str (Lib.itoa n)) ∧ Below w.heap.size w w' := by
    intro n h0 h1 w
    obtain ⟨d, hd⟩ : ∃ d : UInt8, d = UInt8.ofNat (48 + (n.tmod 10).toNat) := ⟨_, rfl⟩
    have hcv := conv_one w _ d (hd ▸ dig_pos h0)
    have HE : Hid (Lib.itoa n = [d]) := by
      show _ = _
      rw [itoa_small h0 h1, hd, tmod_pos h0]; congr 3; omega
    clear hd
    go_enter Tryd.func7, Tryd.ntmps7
    go_wp2_with fail
    go_ret
    exact ⟨by rw [HE.out]; rfl, (Below.refl _ _).alloc (Nat.le_refl _) _⟩
  intro m
  induction m with
  | zero =>
    intro n hm h0 h1 w
    exact small n (by omega) (by omega) w
  | succ m ih =>
    intro n hm h0 h1 w
    by_cases hneg : n < 0
    · by_cases hs : -10 < n
      · obtain ⟨d, hd⟩ : ∃ d : UInt8, d = UInt8.ofNat (48 + (-(n.tmod 10)).toNat) := ⟨_, rfl⟩
        have hcv := conv_one w _ d (hd ▸ dig_neg hneg)
        have HE : Hid (Lib.itoa n = [45] ++ [d]) := by
          show _ = _
          rw [itoa_neg1 hneg hs, hd, tmod_neg' hneg]; congr 4; omega
        clear hd
        clear ih
        go_enter Tryd.func7, Tryd.ntmps7
        go_wp2_with fail
        go_ret
        exact ⟨str_ret [45] [d] _ HE.out, (Below.refl _ _).alloc (Nat.le_refl _) _⟩
      · have hs' : n ≤ -10 := by omega
        obtain ⟨d, hd⟩ : ∃ d : UInt8, d = UInt8.ofNat (48 + (-(n.tmod 10)).toNat) := ⟨_, rfl⟩
        have hcv := conv_one w _ d (hd ▸ dig_neg hneg)
        have HE : Hid (Lib.itoa n = Lib.itoa (n.tdiv 10) ++ [d]) := by show _ = _; rw [hd]; exact itoa_negb hs'
        clear hd
        have HT := Lib.hid (tdiv_neg' hneg)
        have hI := Lib.hid (ih (n.tdiv 10) (by rw [HT.out]; omega) (by rw [HT.out]; omega) (by rw [HT.out]; omega) (w.alloc (.cells #[.int .u8 (wrap64 (48 - n.tmod 10) % 256)] 5)))
        have hl := itoa_len (n := n.tdiv 10) (by rw [HT.out]; omega) (by rw [HT.out]; omega)
        have hnl : ¬ 9223372036854775807 < (Lib.itoa (n.tdiv 10)).length + 1 := by omega
        clear ih hl
        go_enter Tryd.func7, Tryd.ntmps7
        go_wp2_with fail
        (with_reducible refine hI.out.mono ?_); rintro e w1 ⟨rfl, hb1⟩
        have HB := Lib.hid (((Below.refl _ w).alloc (Nat.le_refl _) (.cells #[.int .u8 (wrap64 (48 - n.tmod 10) % 256)] 5)).trans (hb1.mono (by simp)))
        clear hb1
        go_wp2_with fail
        go_ret
        exact ⟨str_ret _ [d] _ HE.out, HB.out⟩
    · have hp : 0 ≤ n := by omega
      by_cases hs : n < 10
      · exact small n hp hs w
      · obtain ⟨d, hd⟩ : ∃ d : UInt8, d = UInt8.ofNat (48 + (n.tmod 10).toNat) := ⟨_, rfl⟩
        have hcv := conv_one w _ d (hd ▸ dig_pos hp)
        have HE : Hid (Lib.itoa n = Lib.itoa (n / 10) ++ [d]) := by show _ = _; rw [hd, ← tdiv_pos hp]; exact itoa_big (by omega)
        clear hd
        have hI := Lib.hid (ih (n / 10) (by omega) (by omega) (by omega) (w.alloc (.cells #[.int .u8 (48 + n % 10)] 5)))
        have hl := itoa_len (n := n / 10) (by omega) (by omega)
        have hnl : ¬ 9223372036854775807 < (Lib.itoa (n / 10)).length + 1 := by omega
        clear ih hl
        go_enter Tryd.func7, Tryd.ntmps7
        go_wp2_with fail
        (with_reducible refine hI.out.mono ?_); rintro e w1 ⟨rfl, hb1⟩
        have HB := Lib.hid (((Below.refl _ w).alloc (Nat.le_refl _) (.cells #[.int .u8 (48 + n % 10)] 5)).trans (hb1.mono (by simp)))
        clear hb1
        go_wp2_with fail
        go_ret
        exact ⟨str_ret _ [d] _ HE.out, HB.out⟩
end Go.Proofs.YtpinenfclpapjaaDoor
