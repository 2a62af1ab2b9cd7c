/- A number of 64 bits as a row of bits. -/
import Derived.Test.YthpgbghcmfjjoaaRefK
namespace Go.Proofs.Ythpgbghcmfjjoaa
open Go.RowKit

theorem abs_lt (x : Int) (h0 : -9223372036854775808 ≤ x) (h1 : x ≤ 9223372036854775807) : x.natAbs < 2 ^ 64 := by omega
set_option maxHeartbeats 4000000 in
set_option maxRecDepth 100000 in
theorem Of_c (x : Int) (h0 : -9223372036854775808 ≤ x) (h1 : x ≤ 9223372036854775807) (w : World) :
    Calls Try.prog 27 #[.int .i64 x] w fun e w' => e = .returned (.agg (NC x.natAbs (decide (x < 0)))) ∧ Below w.heap.size w w' := by
  have hz := zero83
  have ha := abs_lt x h0 h1
  have Ha := Lib.hid ha; clear ha
  have g1 := NC_sign 0 false
  have g2 := NC_setSign 0 false true
  have g3 := NC_setSign 0 false false
  obtain ⟨m, hm⟩ : ∃ m, m = x.natAbs := ⟨_, rfl⟩
  rw [← hm]
  by_cases hneg : x < 0
  · have hd : decide (x < 0) = true := decide_eq_true hneg
    have g4 := NC_sign 0 true
    rw [hd]
    have Hst : Hid (IntKind.u64.wrap (IntKind.u64.wrap (18446744073709551615 - IntKind.u64.wrap x) + 1) = ((m / 2 ^ 0 : Nat) : Int)) := by
      show _ = _
      simp only [IntKind.wrap_u64]; omega
    have Hm := Lib.hid hm; clear hm
    go_enter Try.func27, Try.ntmps27
    go_wp2
    go_loopw [4, 5] (fun u i wr => ∃ k : Nat, k ≤ 64 ∧ i = .int .i64 k ∧ u = .int .u64 ((m / 2 ^ k : Nat) : Int) ∧
      wr = (w.alloc (.cells (NC 0 false) 57)).alloc (.cells (NCf (below m.testBit k) true) 57)) (fun _ i _ => 64 - (intOf i).toNat)
    case atStart => exact ⟨0, by omega, rfl, by rw [Hst.out], by rw [NCf_below_zero]⟩
    case round => 
      obtain ⟨k, hk, rfl, rfl, rfl⟩ := hrel
      by_cases hlt : k < 64
      · have g5 := NCf_get (below m.testBit k) true k (by omega)
        have h1 := bit_eq m k
        have h2 := div_succ m k
        have hb : m / 2 ^ k ≤ 18446744073709551615 := Nat.le_trans (Nat.div_le_self _ _) (by have := Ha.out; have := Hm.out; omega)
        have H1 := Lib.hid h1; clear h1
        have H2 := Lib.hid h2; clear h2
        generalize m / 2 ^ k = q at *
        rcases Nat.mod_two_eq_zero_or_one q with e | e
        · have e1 : ((q : Int) % 2 == 1) = false := by simp; omega
          have E := Lib.hid e; clear e
          go_wp2
          exact ⟨⟨k + 1, by omega, by go_num, by rw [H2.out]; simp, by rw [NCf_below_set _ _ _ _ (by omega) (by rw [H1.out]; simp [E.out])]⟩, by simp [intOf]; omega⟩
        · have e1 : ((q : Int) % 2 == 1) = true := by simp; omega
          have E := Lib.hid e; clear e
          go_wp2
          exact ⟨⟨k + 1, by omega, by go_num, by rw [H2.out]; simp, by rw [NCf_below_set _ _ _ _ (by omega) (by rw [H1.out]; simp [E.out])]⟩, by simp [intOf]; omega⟩
      · obtain rfl : k = 64 := by omega
        rw [of_all _ _ (by have := Ha.out; have := Hm.out; omega)]
        go_wp2_with (first | ((with_reducible apply load83); rfl; rfl; rfl; (focus ((repeat' (first | (with_reducible assumption) | ((with_reducible refine heap_last ?_); (focus (first | (simp; done) | omega | (simp; omega)))) | ((with_reducible refine heap_prev ?_ ?_); (focus (first | (simp; done) | omega | (simp; omega)))) | (with_reducible apply sign_heap) | (with_reducible apply row_heap) | (with_reducible apply bit0_heap) | ((with_reducible refine sign_other ?_ ?_); (focus (first | (simp; done) | omega | (simp; omega)))) | ((with_reducible refine row_other ?_ ?_); (focus (first | (simp; done) | omega | (simp; omega)))) | (with_reducible refine drew_heap ?_))); done)); skip) | (first | ((with_reducible apply store83_0); rfl; rfl; rfl; rfl; (focus (simp; done)); skip) | ((with_reducible apply store83_1); rfl; rfl; rfl; rfl; (focus (simp; done)); skip) | ((with_reducible apply store83_2); rfl; rfl; rfl; rfl; (focus (simp; done)); skip) | ((with_reducible apply store83_3); rfl; rfl; rfl; rfl; (focus (simp; done)); skip) | ((with_reducible apply store83_4); rfl; rfl; rfl; rfl; (focus (simp; done)); skip)) | ((with_reducible apply bodyPost_ret); (apply ret83; rfl; rfl; (focus ((repeat' (first | (with_reducible assumption) | ((with_reducible refine heap_last ?_); (focus (first | (simp; done) | omega | (simp; omega)))) | ((with_reducible refine heap_prev ?_ ?_); (focus (first | (simp; done) | omega | (simp; omega)))) | (with_reducible apply sign_heap) | (with_reducible apply row_heap) | (with_reducible apply bit0_heap) | ((with_reducible refine sign_other ?_ ?_); (focus (first | (simp; done) | omega | (simp; omega)))) | ((with_reducible refine row_other ?_ ?_); (focus (first | (simp; done) | omega | (simp; omega)))) | (with_reducible refine drew_heap ?_))); done))); rfl; skip))
        go_grown
  · have hd : decide (x < 0) = false := decide_eq_false hneg
    rw [hd]
    have Hst : Hid (x = ((m / 2 ^ 0 : Nat) : Int)) := by
      show _ = _
      omega
    have Hm := Lib.hid hm; clear hm
    go_enter Try.func27, Try.ntmps27
    go_wp2
    go_loopw [4, 5] (fun u i wr => ∃ k : Nat, k ≤ 64 ∧ i = .int .i64 k ∧ u = .int .u64 ((m / 2 ^ k : Nat) : Int) ∧
      wr = (w.alloc (.cells (NC 0 false) 57)).alloc (.cells (NCf (below m.testBit k) false) 57)) (fun _ i _ => 64 - (intOf i).toNat)
    case atStart => exact ⟨0, by omega, rfl, by rw [← Hst.out], by rw [NCf_below_zero]⟩
    case round => 
      obtain ⟨k, hk, rfl, rfl, rfl⟩ := hrel
      by_cases hlt : k < 64
      · have g5 := NCf_get (below m.testBit k) false k (by omega)
        have h1 := bit_eq m k
        have h2 := div_succ m k
        have hb : m / 2 ^ k ≤ 18446744073709551615 := Nat.le_trans (Nat.div_le_self _ _) (by have := Ha.out; have := Hm.out; omega)
        have H1 := Lib.hid h1; clear h1
        have H2 := Lib.hid h2; clear h2
        generalize m / 2 ^ k = q at *
        rcases Nat.mod_two_eq_zero_or_one q with e | e
        · have e1 : ((q : Int) % 2 == 1) = false := by simp; omega
          have E := Lib.hid e; clear e
          go_wp2
          exact ⟨⟨k + 1, by omega, by go_num, by rw [H2.out]; simp, by rw [NCf_below_set _ _ _ _ (by omega) (by rw [H1.out]; simp [E.out])]⟩, by simp [intOf]; omega⟩
        · have e1 : ((q : Int) % 2 == 1) = true := by simp; omega
          have E := Lib.hid e; clear e
          go_wp2
          exact ⟨⟨k + 1, by omega, by go_num, by rw [H2.out]; simp, by rw [NCf_below_set _ _ _ _ (by omega) (by rw [H1.out]; simp [E.out])]⟩, by simp [intOf]; omega⟩
      · obtain rfl : k = 64 := by omega
        rw [of_all _ _ (by have := Ha.out; have := Hm.out; omega)]
        go_wp2_with (first | ((with_reducible apply load83); rfl; rfl; rfl; (focus ((repeat' (first | (with_reducible assumption) | ((with_reducible refine heap_last ?_); (focus (first | (simp; done) | omega | (simp; omega)))) | ((with_reducible refine heap_prev ?_ ?_); (focus (first | (simp; done) | omega | (simp; omega)))) | (with_reducible apply sign_heap) | (with_reducible apply row_heap) | (with_reducible apply bit0_heap) | ((with_reducible refine sign_other ?_ ?_); (focus (first | (simp; done) | omega | (simp; omega)))) | ((with_reducible refine row_other ?_ ?_); (focus (first | (simp; done) | omega | (simp; omega)))) | (with_reducible refine drew_heap ?_))); done)); skip) | (first | ((with_reducible apply store83_0); rfl; rfl; rfl; rfl; (focus (simp; done)); skip) | ((with_reducible apply store83_1); rfl; rfl; rfl; rfl; (focus (simp; done)); skip) | ((with_reducible apply store83_2); rfl; rfl; rfl; rfl; (focus (simp; done)); skip) | ((with_reducible apply store83_3); rfl; rfl; rfl; rfl; (focus (simp; done)); skip) | ((with_reducible apply store83_4); rfl; rfl; rfl; rfl; (focus (simp; done)); skip)) | ((with_reducible apply bodyPost_ret); (apply ret83; rfl; rfl; (focus ((repeat' (first | (with_reducible assumption) | ((with_reducible refine heap_last ?_); (focus (first | (simp; done) | omega | (simp; omega)))) | ((with_reducible refine heap_prev ?_ ?_); (focus (first | (simp; done) | omega | (simp; omega)))) | (with_reducible apply sign_heap) | (with_reducible apply row_heap) | (with_reducible apply bit0_heap) | ((with_reducible refine sign_other ?_ ?_); (focus (first | (simp; done) | omega | (simp; omega)))) | ((with_reducible refine row_other ?_ ?_); (focus (first | (simp; done) | omega | (simp; omega)))) | (with_reducible refine drew_heap ?_))); done))); rfl; skip))
        go_grown
end Go.Proofs.Ythpgbghcmfjjoaa
