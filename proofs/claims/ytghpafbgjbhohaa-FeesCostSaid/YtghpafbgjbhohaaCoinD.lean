/- coin: Add, Sub, Mul; which product is below. -/
import Derived.Test.YtghpafbgjbhohaaCoinC
namespace Go.Proofs.Ytghpafbgjbhohaa
open Go.RowKit

theorem bl3 {a b c d : World} (h1 : Below a.heap.size a b) (h2 : Below b.heap.size b c) (h3 : Below c.heap.size c d) : Below a.heap.size a d :=
  (h1.trans (h2.mono h1.size)).trans (h3.mono (Nat.le_trans h1.size h2.size))

theorem below_math (x y : Int) : (x < y ↔ (hiOf x < hiOf y ∨ hiOf x = hiOf y ∧ loOf x < loOf y)) := by
  have h1 := hi_lo x
  have h2 := hi_lo y
  have h3 := lo_bd x
  have h4 := lo_bd y
  omega

set_option maxHeartbeats 1000000 in
theorem pbelow_c (x y : Int) (b : Bool) (hb : b = decide (x < y)) (w : World) :
    Calls Try.prog 42 #[PV x, PV y] w fun e w' => e = .returned (.bool b) ∧ (w.alloc (PC x)).alloc (PC y) = w' := by
  have hm := below_math x y
  have Hb := Lib.hid hb; clear hb
  by_cases he : hiOf x = hiOf y
  · have e1 : (hiOf x == hiOf y) = true := by simp [he]
    have hd : decide (loOf x < loOf y) = b := by rw [Hb.out]; simp only [decide_eq_decide]; omega
    have Hd := Lib.hid hd; clear hd
    have He := Lib.hid he; clear he
    have Hm := Lib.hid hm; clear hm
    have e2 : (hiOf x != hiOf y) = false := by simp [He.out]
    go_enter Try.func42, Try.ntmps42
    go_wp2
    go_ret
    exact ⟨ret_bool Hd.out, rfl⟩
  · have e1 : (hiOf x == hiOf y) = false := by simp [he]
    have hd : decide (hiOf x < hiOf y) = b := by rw [Hb.out]; simp only [decide_eq_decide]; omega
    have Hd := Lib.hid hd; clear hd
    have He := Lib.hid he; clear he
    have Hm := Lib.hid hm; clear hm
    have e2 : (hiOf x != hiOf y) = true := by simp [He.out]
    go_enter Try.func42, Try.ntmps42
    go_wp2
    go_ret
    exact ⟨ret_bool Hd.out, rfl⟩

set_option maxHeartbeats 1000000 in
theorem Less_c (a b c d : Int) (ha : InR a) (hb : InR b) (hc : InR c) (hd : InR d) (w : World) :
    Calls Try.prog 33 #[.int .i64 a, .int .i64 b, .int .i64 c, .int .i64 d] w fun e w' => e = .returned (.bool (decide (a * b < c * d))) ∧ Below w.heap.size w w' := by
  obtain ⟨r, hr⟩ : ∃ r, r = decide (a * b < c * d) := ⟨_, rfl⟩
  rw [← hr]
  have Hr := Lib.hid hr; clear hr
  have Ha := Lib.hid ha; clear ha
  have Hb := Lib.hid hb; clear hb
  have Hc := Lib.hid hc; clear hc
  have Hd := Lib.hid hd; clear hd
  go_enter Try.func33, Try.ntmps33
  go_wp2_with fail
  ((with_reducible refine (times_c a b Ha.out Hb.out _).mono ?_); rintro e w1 ⟨rfl, hb1⟩)
  go_wp2_with fail
  ((with_reducible refine (times_c c d Hc.out Hd.out _).mono ?_); rintro e w2 ⟨rfl, hb2⟩)
  go_wp2_with fail
  ((with_reducible refine (pbelow_c (a * b) (c * d) r Hr.out _).mono ?_); rintro e w3 ⟨rfl, rfl⟩)
  have hB : Below w.heap.size w w2 := hb1.trans (hb2.mono hb1.size)
  have hz : w.heap.size ≤ w2.heap.size := hB.size
  clear hb1 hb2
  go_wp2_with fail
  go_ret
  first | exact ⟨rfl, by go_grown⟩ | go_grown

end Go.Proofs.Ytghpafbgjbhohaa
