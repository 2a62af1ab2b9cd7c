/- Whether a row of bits is 0; which of two is less; one place up. -/
import Derived.Test.YthpgbghcmfjjoaaRefK
namespace Go.Proofs.Ythpgbghcmfjjoaa
open Go.RowKit

set_option maxHeartbeats 4000000 in
set_option maxRecDepth 100000 in
theorem twice_c (m : Nat) (s : Bool) (w : World) :
    Calls Try.prog 30 #[.agg (NC m s)] w fun e w' => e = .returned (.agg (NC (2 * m) s)) ∧ Below w.heap.size w w' := by
  have hz := zero83
  go_enter Try.func30, Try.ntmps30
  go_wp2_with (first | ((with_reducible apply load83); rfl; rfl; rfl; (focus ((repeat' (first | (with_reducible assumption) | ((with_reducible refine heap_last ?_); (focus (first | (simp; done) | omega | (simp; omega)))) | ((with_reducible refine heap_prev ?_ ?_); (focus (first | (simp; done) | omega | (simp; omega)))) | (with_reducible apply sign_heap) | (with_reducible apply row_heap) | (with_reducible apply bit0_heap) | ((with_reducible refine sign_other ?_ ?_); (focus (first | (simp; done) | omega | (simp; omega)))) | ((with_reducible refine row_other ?_ ?_); (focus (first | (simp; done) | omega | (simp; omega)))) | (with_reducible refine drew_heap ?_))); done)); skip) | (first | ((with_reducible apply store83_0); rfl; rfl; rfl; rfl; (focus (simp; done)); skip) | ((with_reducible apply store83_1); rfl; rfl; rfl; rfl; (focus (simp; done)); skip) | ((with_reducible apply store83_2); rfl; rfl; rfl; rfl; (focus (simp; done)); skip) | ((with_reducible apply store83_3); rfl; rfl; rfl; rfl; (focus (simp; done)); skip) | ((with_reducible apply store83_4); rfl; rfl; rfl; rfl; (focus (simp; done)); skip)) | ((with_reducible apply bodyPost_ret); (apply ret83; rfl; rfl; (focus ((repeat' (first | (with_reducible assumption) | ((with_reducible refine heap_last ?_); (focus (first | (simp; done) | omega | (simp; omega)))) | ((with_reducible refine heap_prev ?_ ?_); (focus (first | (simp; done) | omega | (simp; omega)))) | (with_reducible apply sign_heap) | (with_reducible apply row_heap) | (with_reducible apply bit0_heap) | ((with_reducible refine sign_other ?_ ?_); (focus (first | (simp; done) | omega | (simp; omega)))) | ((with_reducible refine row_other ?_ ?_); (focus (first | (simp; done) | omega | (simp; omega)))) | (with_reducible refine drew_heap ?_))); done))); rfl; skip))
  go_loopw [4] (fun i wr => ∃ k : Nat, k ≤ 135 ∧ i = .int .i64 k ∧
      wr = ((w.alloc (.cells (NC m s) 57)).alloc (.cells (NC 0 false) 57)).alloc (.cells (NCf (up m.testBit k) s) 57)) (fun i _ => (intOf i).toNat)
  case atStart => exact ⟨135, by omega, rfl, by rw [up_start]⟩
  case round =>
    obtain ⟨k, hk, rfl, rfl⟩ := hrel
    by_cases hlt : 0 < k
    · obtain ⟨j, rfl⟩ : ∃ j, k = j + 1 := ⟨k - 1, by omega⟩
      have g1 := NC_get m s j (by omega)
      have g3 := NCf_get (up m.testBit (j + 1)) s (j + 1) (by omega)
      have q0 : (0 : Int) ≤ (j : Int) := by omega
      have q1 : (j : Int) < 135 := by omega
      go_wp2
      exact ⟨⟨j, by omega, rfl, by rw [up_set _ _ _ (by omega) _ rfl]⟩, by simp [intOf]⟩
    · obtain rfl : k = 0 := by omega
      have g3 := NCf_get (up m.testBit 0) s 0 (by omega)
      have he := up_end m s
      go_wp2_with (first | ((with_reducible apply load83); rfl; rfl; rfl; (focus ((repeat' (first | (with_reducible assumption) | ((with_reducible refine heap_last ?_); (focus (first | (simp; done) | omega | (simp; omega)))) | ((with_reducible refine heap_prev ?_ ?_); (focus (first | (simp; done) | omega | (simp; omega)))) | (with_reducible apply sign_heap) | (with_reducible apply row_heap) | (with_reducible apply bit0_heap) | ((with_reducible refine sign_other ?_ ?_); (focus (first | (simp; done) | omega | (simp; omega)))) | ((with_reducible refine row_other ?_ ?_); (focus (first | (simp; done) | omega | (simp; omega)))) | (with_reducible refine drew_heap ?_))); done)); skip) | (first | ((with_reducible apply store83_0); rfl; rfl; rfl; rfl; (focus (simp; done)); skip) | ((with_reducible apply store83_1); rfl; rfl; rfl; rfl; (focus (simp; done)); skip) | ((with_reducible apply store83_2); rfl; rfl; rfl; rfl; (focus (simp; done)); skip) | ((with_reducible apply store83_3); rfl; rfl; rfl; rfl; (focus (simp; done)); skip) | ((with_reducible apply store83_4); rfl; rfl; rfl; rfl; (focus (simp; done)); skip)) | ((with_reducible apply bodyPost_ret); (apply ret83; rfl; rfl; (focus ((repeat' (first | (with_reducible assumption) | ((with_reducible refine heap_last ?_); (focus (first | (simp; done) | omega | (simp; omega)))) | ((with_reducible refine heap_prev ?_ ?_); (focus (first | (simp; done) | omega | (simp; omega)))) | (with_reducible apply sign_heap) | (with_reducible apply row_heap) | (with_reducible apply bit0_heap) | ((with_reducible refine sign_other ?_ ?_); (focus (first | (simp; done) | omega | (simp; omega)))) | ((with_reducible refine row_other ?_ ?_); (focus (first | (simp; done) | omega | (simp; omega)))) | (with_reducible refine drew_heap ?_))); done))); rfl; skip))
      go_grown
end Go.Proofs.Ythpgbghcmfjjoaa
