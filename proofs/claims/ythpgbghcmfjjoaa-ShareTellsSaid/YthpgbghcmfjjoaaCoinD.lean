/- coin: Add, Sub, Mul; which product is below. -/
import Derived.Test.YthpgbghcmfjjoaaCoinC
namespace Go.Proofs.Ythpgbghcmfjjoaa
open Go.RowKit

theorem bl3 {a b c d : World} (h1 : Below a.heap.size a b) (h2 : Below b.heap.size b c) (h3 : Below c.heap.size c d) : Below a.heap.size a d :=
  (h1.trans (h2.mono h1.size)).trans (h3.mono (Nat.le_trans h1.size h2.size))

theorem below_math (x y : Int) : (x < y ↔ (hiOf x < hiOf y ∨ hiOf x = hiOf y ∧ loOf x < loOf y)) := by
  have h1 := hi_lo x
  have h2 := hi_lo y
  have h3 := lo_bd x
  have h4 := lo_bd y
  omega

set_option maxHeartbeats 1000000 in
theorem pbelow_c (x y : Int) (b : Bool) (hb : b = decide (x < y)) (w : World) :
    Calls Try.prog 36 #[PV x, PV y] w fun e w' => e = .returned (.bool b) ∧ (w.alloc (PC x)).alloc (PC y) = w' := by
  have hm := below_math x y
  have Hb := Lib.hid hb; clear hb
  by_cases he : hiOf x = hiOf y
  · have e1 : (hiOf x == hiOf y) = true := by simp [he]
    have hd : decide (loOf x < loOf y) = b := by rw [Hb.out]; simp only [decide_eq_decide]; omega
    have Hd := Lib.hid hd; clear hd
    have He := Lib.hid he; clear he
    have Hm := Lib.hid hm; clear hm
    have e2 : (hiOf x != hiOf y) = false := by simp [He.out]
    go_enter Try.func36, Try.ntmps36
    go_wp2
    go_ret
    exact ⟨ret_bool Hd.out, rfl⟩
  · have e1 : (hiOf x == hiOf y) = false := by simp [he]
    have hd : decide (hiOf x < hiOf y) = b := by rw [Hb.out]; simp only [decide_eq_decide]; omega
    have Hd := Lib.hid hd; clear hd
    have He := Lib.hid he; clear he
    have Hm := Lib.hid hm; clear hm
    have e2 : (hiOf x != hiOf y) = true := by simp [He.out]
    go_enter Try.func36, Try.ntmps36
    go_wp2
    go_ret
    exact ⟨ret_bool Hd.out, rfl⟩

end Go.Proofs.Ythpgbghcmfjjoaa
