/- The sum of two rows of bits. -/
import Derived.Test.YthpgbghcmfjjoaaRefK
namespace Go.Proofs.Ythpgbghcmfjjoaa
open Go.RowKit

set_option maxHeartbeats 4000000 in
set_option maxRecDepth 100000 in
theorem more_c (a b : Nat) (s t : Bool) (w : World) :
    Calls Try.prog 32 #[.agg (NC a s), .agg (NC b t)] w fun e w' => e = .returned (.agg (NC (a + b) false)) ∧ Below w.heap.size w w' := by
  have hz := zero83
  go_enter Try.func32, Try.ntmps32
  go_wp2
  go_loopw [6, 7] (fun c i wr => ∃ k : Nat, k ≤ 136 ∧ i = .int .i64 k ∧ c = .bool (carry a b k) ∧
      wr = (((w.alloc (.cells (NC a s) 57)).alloc (.cells (NC b t) 57)).alloc (.cells (NC 0 false) 57)).alloc (.cells (NCf (below (a + b).testBit k) false) 57)) (fun _ i _ => 136 - (intOf i).toNat)
  case atStart => exact ⟨0, by omega, rfl, by rw [carry_zero], by rw [NCf_below_zero]⟩
  case round =>
    obtain ⟨k, hk, rfl, rfl, rfl⟩ := hrel
    by_cases hlt : k < 136
    · have ⟨h1, h2⟩ := add_step a b k
      have g1 := NC_get a s k hlt
      have g2 := NC_get b t k hlt
      generalize a.testBit k = x at *
      generalize b.testBit k = y at *
      generalize carry a b k = z at *
      have H1 := Lib.hid h1; clear h1
      have H2 := Lib.hid h2; clear h2
      have g3 := NCf_get (below (a + b).testBit k) false k hlt
      cases x <;> cases y <;> cases z
      all_goals
        go_wp2
        exact ⟨⟨k + 1, by omega, by go_num, by rw [H2.out]; rfl, by rw [NCf_below_set _ _ _ _ hlt (by rw [H1.out]; rfl)]⟩, by simp [intOf]; omega⟩
    · obtain rfl : k = 136 := by omega
      rw [NCf_below_all]
      go_wp2_with (first | ((with_reducible apply load83); rfl; rfl; rfl; (focus ((repeat' (first | (with_reducible assumption) | ((with_reducible refine heap_last ?_); (focus (first | (simp; done) | omega | (simp; omega)))) | ((with_reducible refine heap_prev ?_ ?_); (focus (first | (simp; done) | omega | (simp; omega)))) | (with_reducible apply sign_heap) | (with_reducible apply row_heap) | (with_reducible apply bit0_heap) | ((with_reducible refine sign_other ?_ ?_); (focus (first | (simp; done) | omega | (simp; omega)))) | ((with_reducible refine row_other ?_ ?_); (focus (first | (simp; done) | omega | (simp; omega)))) | (with_reducible refine drew_heap ?_))); done)); skip) | (first | ((with_reducible apply store83_0); rfl; rfl; rfl; rfl; (focus (simp; done)); skip) | ((with_reducible apply store83_1); rfl; rfl; rfl; rfl; (focus (simp; done)); skip) | ((with_reducible apply store83_2); rfl; rfl; rfl; rfl; (focus (simp; done)); skip) | ((with_reducible apply store83_3); rfl; rfl; rfl; rfl; (focus (simp; done)); skip) | ((with_reducible apply store83_4); rfl; rfl; rfl; rfl; (focus (simp; done)); skip)) | ((with_reducible apply bodyPost_ret); (apply ret83; rfl; rfl; (focus ((repeat' (first | (with_reducible assumption) | ((with_reducible refine heap_last ?_); (focus (first | (simp; done) | omega | (simp; omega)))) | ((with_reducible refine heap_prev ?_ ?_); (focus (first | (simp; done) | omega | (simp; omega)))) | (with_reducible apply sign_heap) | (with_reducible apply row_heap) | (with_reducible apply bit0_heap) | ((with_reducible refine sign_other ?_ ?_); (focus (first | (simp; done) | omega | (simp; omega)))) | ((with_reducible refine row_other ?_ ?_); (focus (first | (simp; done) | omega | (simp; omega)))) | (with_reducible refine drew_heap ?_))); done))); rfl; skip))
      go_grown
end Go.Proofs.Ythpgbghcmfjjoaa
