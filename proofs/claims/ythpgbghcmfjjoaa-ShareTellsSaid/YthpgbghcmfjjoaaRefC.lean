/- Whether a row of bits is 0; which of two is less; one place up. -/
import Derived.Test.YthpgbghcmfjjoaaRefK
namespace Go.Proofs.Ythpgbghcmfjjoaa
open Go.RowKit

set_option maxHeartbeats 4000000 in
set_option maxRecDepth 100000 in
theorem nought_c (m : Nat) (s : Bool) (b : Bool) (hm : m < 2 ^ 136) (hb : b = decide (m = 0)) (w : World) :
    Calls Try.prog 29 #[.agg (NC m s)] w fun e w' => e = .returned (.bool b) ∧ Below w.heap.size w w' := by
  have hz0 := zero_of_bits m hm
  have Hm := Lib.hid hm; clear hm
  have Hb := Lib.hid hb; clear hb
  have Hz := Lib.hid hz0; clear hz0
  go_enter Try.func29, Try.ntmps29
  go_wp2
  go_loop [3] (fun i => ∃ k : Nat, k ≤ 136 ∧ i = .int .i64 k ∧ (∀ j, j < k → m.testBit j = false)) (fun i => 136 - (intOf i).toNat)
  case atStart => exact ⟨0, by omega, rfl, by omega⟩
  case round =>
    obtain ⟨k, hk, rfl, hf⟩ := hrel
    have Hf := Lib.hid hf; clear hf
    by_cases hlt : k < 136
    · have g1 := NC_get m s k hlt
      obtain ⟨x, hx⟩ : ∃ x, x = m.testBit k := ⟨_, rfl⟩
      rw [← hx] at g1
      have Hx := Lib.hid hx; clear hx
      cases x
      · go_wp2
        refine ⟨⟨k + 1, by omega, by go_num, fun j hj => ?_⟩, by simp [intOf]; omega⟩
        by_cases e : j = k
        · subst e; exact Hx.out.symm
        · exact Hf.out j (by omega)
      · go_wp2
        go_ret
        refine ⟨ret_bool ?_, by go_grown⟩
        rw [Hb.out]
        refine (decide_eq_false ?_).symm
        intro h0
        have := (Hz.out.1 h0) k hlt
        rw [← Hx.out] at this
        cases this
    · obtain rfl : k = 136 := by omega
      go_wp2
      go_ret
      refine ⟨ret_bool ?_, by go_grown⟩
      rw [Hb.out]
      exact (decide_eq_true (Hz.out.2 Hf.out)).symm
end Go.Proofs.Ythpgbghcmfjjoaa
