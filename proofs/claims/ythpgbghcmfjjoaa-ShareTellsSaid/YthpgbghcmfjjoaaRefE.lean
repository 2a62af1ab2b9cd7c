/- Whether a row of bits is 0; which of two is less; one place up. -/
import Derived.Test.YthpgbghcmfjjoaaRefK
namespace Go.Proofs.Ythpgbghcmfjjoaa
open Go.RowKit

set_option maxHeartbeats 4000000 in
set_option maxRecDepth 100000 in
theorem below_c (a b : Nat) (s t : Bool) (r : Bool) (ha : a < 2 ^ 136) (hb : b < 2 ^ 136) (hr : r = decide (a < b)) (w : World) :
    Calls Try.prog 31 #[.agg (NC a s), .agg (NC b t)] w fun e w' => e = .returned (.bool r) ∧ Below w.heap.size w w' := by
  have ht := top_start a b ha hb
  have Ha := Lib.hid ha; clear ha
  have Hb := Lib.hid hb; clear hb
  have Hr := Lib.hid hr; clear hr
  have Ht := Lib.hid ht; clear ht
  go_enter Try.func31, Try.ntmps31
  go_wp2
  go_loopw [5] (fun i wr => ∃ k : Nat, k ≤ 136 ∧ i = .int .i64 ((k : Int) - 1) ∧ Hid (a / 2 ^ k = b / 2 ^ k) ∧ wr.heap[w.heap.size]? = some (.cells (NC a s) 57 (0, 0)) ∧ wr.heap[w.heap.size + 1]? = some (.cells (NC b t) 57 (0, 0)) ∧ Below w.heap.size w wr) (fun i _ => (intOf i + 1).toNat)
  case atStart => exact ⟨136, by omega, rfl, Ht, (by (focus ((repeat' (first | (with_reducible assumption) | ((with_reducible refine heap_last ?_); (focus (first | (simp; done) | omega | (simp; omega)))) | ((with_reducible refine heap_prev ?_ ?_); (focus (first | (simp; done) | omega | (simp; omega)))) | (with_reducible apply sign_heap) | (with_reducible apply row_heap) | (with_reducible apply bit0_heap) | ((with_reducible refine sign_other ?_ ?_); (focus (first | (simp; done) | omega | (simp; omega)))) | ((with_reducible refine row_other ?_ ?_); (focus (first | (simp; done) | omega | (simp; omega)))) | (with_reducible refine drew_heap ?_))); done))), (by (focus ((repeat' (first | (with_reducible assumption) | ((with_reducible refine heap_last ?_); (focus (first | (simp; done) | omega | (simp; omega)))) | ((with_reducible refine heap_prev ?_ ?_); (focus (first | (simp; done) | omega | (simp; omega)))) | (with_reducible apply sign_heap) | (with_reducible apply row_heap) | (with_reducible apply bit0_heap) | ((with_reducible refine sign_other ?_ ?_); (focus (first | (simp; done) | omega | (simp; omega)))) | ((with_reducible refine row_other ?_ ?_); (focus (first | (simp; done) | omega | (simp; omega)))) | (with_reducible refine drew_heap ?_))); done))), by go_grown⟩
  case round =>
    obtain ⟨k, hk, rfl, hf, h0, h1, hbw⟩ := hrel
    by_cases hlt : 0 < k
    · obtain ⟨j, rfl⟩ : ∃ j, k = j + 1 := ⟨k - 1, by omega⟩
      rw [show (((j + 1 : Nat) : Int) - 1) = (j : Int) by omega]
      have hj : j < 136 := by omega
      have ⟨s1, s2⟩ := top_step a b j hf.out
      have c1 : wr.cell? ⟨w.heap.size, j, none⟩ = some (.bool (a.testBit j)) := by rw [cell_of_row wr _ j _ _ _ h0, NC_get a s j hj]
      have c2 : wr.cell? ⟨w.heap.size + 1, j, none⟩ = some (.bool (b.testBit j)) := by rw [cell_of_row wr _ j _ _ _ h1, NC_get b t j hj]
      have H0 := Lib.hid h0; clear h0
      have H1 := Lib.hid h1; clear h1
      generalize a.testBit j = x at *
      generalize b.testBit j = y at *
      have q0 : (0 : Int) ≤ (j : Int) := by omega
      have q1 : (j : Int) < 136 := by omega
      cases x <;> cases y
      · have S1 := Lib.hid (s1 rfl)
        clear s1 s2
        go_wp2
        go_quiet (fail)
        go_wp2
        exact ⟨⟨j, by omega, rfl, S1.out, H0.out, H1.out, below_drewN hbw _⟩, by simp [intOf]⟩
      · have S1 := Lib.hid (decide_eq_true ((s2 (by simp)).2 rfl))
        clear s1 s2
        go_wp2
        go_quiet (fail)
        go_wp2
        go_ret
        exact ⟨ret_bool (by rw [Hr.out]; exact S1.out.symm), below_drewN hbw _⟩
      · have S1 := Lib.hid (decide_eq_false (fun h => Bool.false_ne_true ((s2 (by simp)).1 h)))
        clear s1 s2
        go_wp2
        go_quiet (fail)
        go_wp2
        go_ret
        exact ⟨ret_bool (by rw [Hr.out]; exact S1.out.symm), below_drewN hbw _⟩
      · have S1 := Lib.hid (s1 rfl)
        clear s1 s2
        go_wp2
        go_quiet (fail)
        go_wp2
        exact ⟨⟨j, by omega, rfl, S1.out, H0.out, H1.out, below_drewN hbw _⟩, by simp [intOf]⟩
    · obtain rfl : k = 0 := by omega
      go_wp2
      go_ret
      refine ⟨ret_bool ?_, hbw⟩
      rw [Hr.out]
      refine (decide_eq_false ?_).symm
      have := hf.out
      simp at this
      omega
end Go.Proofs.Ythpgbghcmfjjoaa
