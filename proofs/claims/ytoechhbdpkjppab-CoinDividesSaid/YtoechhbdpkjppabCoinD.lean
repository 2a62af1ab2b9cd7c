/- coin: Add, Sub, Mul; which product is below. -/
import Derived.Test.YtoechhbdpkjppabCoinC
namespace Go.Proofs.Ytoechhbdpkjppab
open Go.RowKit

theorem bl3 {a b c d : World} (h1 : Below a.heap.size a b) (h2 : Below b.heap.size b c) (h3 : Below c.heap.size c d) : Below a.heap.size a d :=
  (h1.trans (h2.mono h1.size)).trans (h3.mono (Nat.le_trans h1.size h2.size))

set_option maxHeartbeats 1000000 in
theorem Add_c (x y : Int) (hx : InR x) (hy : InR y) (w : World) :
    Calls Try.prog 8 #[.int .i64 x, .int .i64 y] w fun e w' => e = .returned (.tuple #[.int .i64 (tv (x + y)), .int .i64 (te (x + y))]) ∧ Below w.heap.size w w' := by
  have ⟨x0, x1⟩ := hx
  have ⟨y0, y1⟩ := hy
  have H1 := Lib.hid (rm_in hx)
  have H2 := Lib.hid (rm_in hy)
  have H3 : Hid (Rm (x + y)) := by show Rm _; unfold Rm; omega
  clear hx hy
  go_enter Try.func8, Try.ntmps8
  go_wp2_with fail
  ((with_reducible refine (wide_c x x0 x1 _).mono ?_); rintro e w1 ⟨rfl, rfl⟩)
  go_wp2_with fail
  ((with_reducible refine (wide_c y y0 y1 _).mono ?_); rintro e w1 ⟨rfl, rfl⟩)
  go_wp2_with fail
  ((with_reducible refine (plus_c x y H1.out H2.out H3.out _).mono ?_); rintro e w1 ⟨rfl, rfl⟩)
  go_wp2_with fail
  ((with_reducible refine (narrow_c (x + y) H3.out _).mono ?_); rintro e w4 ⟨rfl, hb4⟩)
  have hB : Below w.heap.size w w4 := Below.trans (by go_grown) (hb4.mono (by simp; omega))
  clear hb4
  go_wp2_with fail
  go_ret2
  first | exact ⟨rfl, hB⟩ | exact hB

set_option maxHeartbeats 1000000 in
theorem Sub_c (x y : Int) (hx : InR x) (hy : InR y) (w : World) :
    Calls Try.prog 9 #[.int .i64 x, .int .i64 y] w fun e w' => e = .returned (.tuple #[.int .i64 (tv (x - y)), .int .i64 (te (x - y))]) ∧ Below w.heap.size w w' := by
  have ⟨x0, x1⟩ := hx
  have ⟨y0, y1⟩ := hy
  have H1 := Lib.hid (rm_in hx)
  have H2 := Lib.hid (rm_in hy)
  have H3 : Hid (Rm (x - y)) := by show Rm _; unfold Rm; omega
  clear hx hy
  go_enter Try.func9, Try.ntmps9
  go_wp2_with fail
  ((with_reducible refine (wide_c x x0 x1 _).mono ?_); rintro e w1 ⟨rfl, rfl⟩)
  go_wp2_with fail
  ((with_reducible refine (wide_c y y0 y1 _).mono ?_); rintro e w1 ⟨rfl, rfl⟩)
  go_wp2_with fail
  ((with_reducible refine (minus_c x y H1.out H2.out H3.out _).mono ?_); rintro e w1 ⟨rfl, rfl⟩)
  go_wp2_with fail
  ((with_reducible refine (narrow_c (x - y) H3.out _).mono ?_); rintro e w4 ⟨rfl, hb4⟩)
  have hB : Below w.heap.size w w4 := Below.trans (by go_grown) (hb4.mono (by simp; omega))
  clear hb4
  go_wp2_with fail
  go_ret2
  first | exact ⟨rfl, hB⟩ | exact hB

set_option maxHeartbeats 1000000 in
theorem Mul_c (x y : Int) (hx : InR x) (hy : InR y) (w : World) :
    Calls Try.prog 10 #[.int .i64 x, .int .i64 y] w fun e w' => e = .returned (.tuple #[.int .i64 (tv (x * y)), .int .i64 (te (x * y))]) ∧ Below w.heap.size w w' := by
  have H1 := Lib.hid hx
  have H2 := Lib.hid hy
  have H3 := Lib.hid (times_rm hx hy)
  clear hx hy
  go_enter Try.func10, Try.ntmps10
  go_wp2_with fail
  ((with_reducible refine (times_c x y H1.out H2.out _).mono ?_); rintro e w1 ⟨rfl, hb1⟩)
  go_wp2_with fail
  ((with_reducible refine (narrow_c (x * y) H3.out _).mono ?_); rintro e w4 ⟨rfl, hb4⟩)
  have hB : Below w.heap.size w w4 := hb1.trans (hb4.mono hb1.size)
  clear hb4 hb1
  go_wp2_with fail
  go_ret2
  first | exact ⟨rfl, hB⟩ | exact hB

theorem below_math (x y : Int) : (x < y ↔ (hiOf x < hiOf y ∨ hiOf x = hiOf y ∧ loOf x < loOf y)) := by
  have h1 := hi_lo x
  have h2 := hi_lo y
  have h3 := lo_bd x
  have h4 := lo_bd y
  omega

set_option maxHeartbeats 1000000 in
theorem pbelow_c (x y : Int) (b : Bool) (hb : b = decide (x < y)) (w : World) :
    Calls Try.prog 41 #[PV x, PV y] w fun e w' => e = .returned (.bool b) ∧ (w.alloc (PC x)).alloc (PC y) = w' := by
  have hm := below_math x y
  have Hb := Lib.hid hb; clear hb
  by_cases he : hiOf x = hiOf y
  · have e1 : (hiOf x == hiOf y) = true := by simp [he]
    have hd : decide (loOf x < loOf y) = b := by rw [Hb.out]; simp only [decide_eq_decide]; omega
    have Hd := Lib.hid hd; clear hd
    have He := Lib.hid he; clear he
    have Hm := Lib.hid hm; clear hm
    have e2 : (hiOf x != hiOf y) = false := by simp [He.out]
    go_enter Try.func41, Try.ntmps41
    go_wp2
    go_ret
    exact ⟨ret_bool Hd.out, rfl⟩
  · have e1 : (hiOf x == hiOf y) = false := by simp [he]
    have hd : decide (hiOf x < hiOf y) = b := by rw [Hb.out]; simp only [decide_eq_decide]; omega
    have Hd := Lib.hid hd; clear hd
    have He := Lib.hid he; clear he
    have Hm := Lib.hid hm; clear hm
    have e2 : (hiOf x != hiOf y) = true := by simp [He.out]
    go_enter Try.func41, Try.ntmps41
    go_wp2
    go_ret
    exact ⟨ret_bool Hd.out, rfl⟩

set_option maxHeartbeats 1000000 in
theorem Less_c (a b c d : Int) (ha : InR a) (hb : InR b) (hc : InR c) (hd : InR d) (w : World) :
    Calls Try.prog 19 #[.int .i64 a, .int .i64 b, .int .i64 c, .int .i64 d] w fun e w' => e = .returned (.bool (decide (a * b < c * d))) ∧ Below w.heap.size w w' := by
  obtain ⟨r, hr⟩ : ∃ r, r = decide (a * b < c * d) := ⟨_, rfl⟩
  rw [← hr]
  have Hr := Lib.hid hr; clear hr
  have Ha := Lib.hid ha; clear ha
  have Hb := Lib.hid hb; clear hb
  have Hc := Lib.hid hc; clear hc
  have Hd := Lib.hid hd; clear hd
  go_enter Try.func19, Try.ntmps19
  go_wp2_with fail
  ((with_reducible refine (times_c a b Ha.out Hb.out _).mono ?_); rintro e w1 ⟨rfl, hb1⟩)
  go_wp2_with fail
  ((with_reducible refine (times_c c d Hc.out Hd.out _).mono ?_); rintro e w2 ⟨rfl, hb2⟩)
  go_wp2_with fail
  ((with_reducible refine (pbelow_c (a * b) (c * d) r Hr.out _).mono ?_); rintro e w3 ⟨rfl, rfl⟩)
  have hB : Below w.heap.size w w2 := hb1.trans (hb2.mono hb1.size)
  have hz : w.heap.size ≤ w2.heap.size := hB.size
  clear hb1 hb2
  go_wp2_with fail
  go_ret
  first | exact ⟨rfl, by go_grown⟩ | go_grown

set_option maxHeartbeats 1000000 in
theorem Capped_c (a b : Int) (ha : InR a) (hb : InR b) (r : Int)
    (hr : r = if a < 0 ∨ b < 0 ∨ 4611686018427387904 < a ∨ 4611686018427387904 < b then 0 else if 4611686018427387904 < a + b then 4611686018427387904 else a + b) (w : World) :
    Calls Try.prog 21 #[.int .i64 a, .int .i64 b] w fun e w' => e = .returned (.int .i64 r) ∧ w = w' := by
  have ⟨a0, a1⟩ := ha
  have ⟨b0, b1⟩ := hb
  clear ha hb
  have Hr := Lib.hid hr; clear hr
  have fin : ∀ x : Int, x = r → Ending.returned (.int .i64 x) = .returned (.int .i64 r) := fun x h => by rw [h]
  by_cases c1 : a < 0
  · go_enter Try.func21, Try.ntmps21
    go_wp2
    go_ret
    exact ⟨fin _ (by rw [Hr.out, if_pos (by omega)]), rfl⟩
  · by_cases c2 : b < 0
    · go_enter Try.func21, Try.ntmps21
      go_wp2
      go_ret
      exact ⟨fin _ (by rw [Hr.out, if_pos (by omega)]), rfl⟩
    · by_cases c3 : 4611686018427387904 < a
      · go_enter Try.func21, Try.ntmps21
        go_wp2
        go_ret
        exact ⟨fin _ (by rw [Hr.out, if_pos (by omega)]), rfl⟩
      · by_cases c4 : 4611686018427387904 < b
        · go_enter Try.func21, Try.ntmps21
          go_wp2
          go_ret
          exact ⟨fin _ (by rw [Hr.out, if_pos (by omega)]), rfl⟩
        · by_cases c5 : 4611686018427387904 - b < a
          · go_enter Try.func21, Try.ntmps21
            go_wp2
            go_ret
            exact ⟨fin _ (by rw [Hr.out, if_neg (by omega), if_pos (by omega)]), rfl⟩
          · go_enter Try.func21, Try.ntmps21
            go_wp2
            go_ret
            exact ⟨fin _ (by rw [Hr.out, if_neg (by omega), if_neg (by omega)]), rfl⟩
end Go.Proofs.Ytoechhbdpkjppab
