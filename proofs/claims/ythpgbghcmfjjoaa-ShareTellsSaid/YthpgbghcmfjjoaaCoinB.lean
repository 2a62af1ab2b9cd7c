/- coin: narrow, size, below, times, and what stands on them. -/
import Derived.Test.YthpgbghcmfjjoaaCoinA
namespace Go.Proofs.Ythpgbghcmfjjoaa
open Go.RowKit

theorem pv_eq {x y : Int} : (hiOf x = hiOf y ∧ loOf x = loOf y) ↔ x = y := by
  constructor
  · rintro ⟨a, b⟩
    rw [hi_lo x, hi_lo y, a, b]
  · rintro rfl; exact ⟨rfl, rfl⟩
theorem drew_below {B : Nat} {w w' : World} (h : Below B w w') : Below B w w'.drew := h.drew

set_option maxHeartbeats 1000000 in
theorem narrow_c (x : Int) (hx : Rm x) (w : World) :
    Calls Try.prog 25 #[PV x] w fun e w' => e = .returned (.tuple #[.int .i64 (tv x), .int .i64 (te x)]) ∧ Below w.heap.size w w' := by
  have ⟨x3, x4⟩ := lo_bd x
  have ⟨x5, x6⟩ := hi_bd hx
  by_cases hin : InR x
  · rw [tv_in hin, te_in hin]
    have h0 := hin.1
    have h1 := hin.2
    have e1 : wrap64 (loOf x) = x := by unfold wrap64 loOf; omega
    clear hin hx
    go_enter Try.func25, Try.ntmps25
    go_wp2_with fail
    go_region_with (go_at_call 20; refine (wide_c _ h0 h1 _).mono ?_; rintro e w' ⟨rfl, rfl⟩)
    all_goals
      go_wp2
      go_ret2
      first | exact ⟨rfl, by go_grown⟩ | go_grown
  · rw [tv_out hin, te_out hin]
    obtain ⟨n, hn⟩ : ∃ n, n = wrap64 (loOf x) := ⟨_, rfl⟩
    have h0 : -9223372036854775808 ≤ n := by rw [hn]; unfold wrap64; omega
    have h1 : n ≤ 9223372036854775807 := by rw [hn]; unfold wrap64; omega
    have hl : loOf n = loOf x := by rw [hn]; unfold wrap64 loOf; omega
    have hne : (hiOf x == hiOf n) = false := by
      simp only [beq_eq_false_iff_ne]
      intro h
      have := pv_eq.1 ⟨h, hl.symm⟩
      exact hin (by rw [this]; exact ⟨h0, h1⟩)
    have e1 := hn.symm
    have Hl := Lib.hid hl; clear hl hn hin hx
    go_enter Try.func25, Try.ntmps25
    go_wp2_with fail
    go_region_with (go_at_call 20; refine (wide_c _ h0 h1 _).mono ?_; rintro e w' ⟨rfl, rfl⟩)
    all_goals
      go_wp2
      go_ret2
      first | exact ⟨rfl, by go_grown⟩ | go_grown

theorem rm_in {n : Int} (h : InR n) : Rm n := by unfold InR at h; unfold Rm; omega

set_option maxHeartbeats 1000000 in
theorem size_c (x : Int) (hx : Rm x) (hn : Rm (-x)) (w : World) :
    Calls Try.prog 19 #[PV x] w fun e w' => e = .returned (PV (x.natAbs : Int)) ∧ Below w.heap.size w w' := by
  have ⟨x3, x4⟩ := lo_bd x
  have ⟨x5, x6⟩ := hi_bd hx
  by_cases hneg : x < 0
  · have hh : hiOf x < 0 := by unfold hiOf; omega
    rw [show ((x.natAbs : Nat) : Int) = -x by omega]
    have Hm : Hid (Rm (0 - x)) := by show Rm _; rw [show 0 - x = -x by omega]; exact hn
    have Hx := Lib.hid hx
    have H0 : Hid (Rm 0) := by show Rm 0; unfold Rm; omega
    clear hx hn hneg
    go_enter Try.func19, Try.ntmps19
    go_wp2_with fail
    go_region_with (first | (go_at_call 20; refine (wide_c 0 (by omega) (by omega) _).mono ?_; rintro e w' ⟨rfl, rfl⟩) | (go_at_call 24; refine (minus_c 0 x H0.out Hx.out Hm.out _).mono ?_; rintro e w' ⟨rfl, rfl⟩))
    all_goals
      go_wp2
      go_returns
      first | exact ⟨rfl, by go_grown⟩ | go_grown
  · have hh : ¬ hiOf x < 0 := by unfold hiOf; omega
    rw [show ((x.natAbs : Nat) : Int) = x by omega]
    clear hx hn hneg
    go_enter Try.func19, Try.ntmps19
    go_wp2
    go_returns
    first | exact ⟨rfl, by go_grown⟩ | go_grown
end Go.Proofs.Ythpgbghcmfjjoaa
