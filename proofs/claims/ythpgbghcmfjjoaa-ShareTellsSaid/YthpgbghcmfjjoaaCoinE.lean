/- coin: whether a quotient is rounded away from 0. -/
import Derived.Test.YthpgbghcmfjjoaaCoinD
import Derived.Deep.RegionHeld3
namespace Go.Proofs.Ythpgbghcmfjjoaa
open Go.RowKit

/-- Is a quotient that leaves the rest r, of d, rounded away from 0? -/
def awayB (round : Int) (neg odd : Bool) (r d : Nat) : Bool :=
  if r = 0 then false else if round = 2 then !neg else if round = 1 then neg else decide (d < 2 * r) || (decide (2 * r = d) && odd)

set_option maxHeartbeats 2000000 in
theorem outward_zero (round : Int) (neg odd : Bool) (r d : Nat) (h0 : r = 0) (w : World) :
    Calls Try.prog 22 #[.int .i64 round, .bool neg, .bool odd, PV (r : Int), PV (d : Int)] w fun e w' => e = .returned (.bool false) ∧ Below w.heap.size w w' := by
  subst h0
  go_enter Try.func22, Try.ntmps22
  go_wp2_with fail
  go_region_with (go_at_call 20; refine (wide_c 0 (by omega) (by omega) _).mono ?_; rintro e w' ⟨rfl, rfl⟩)
  all_goals
    go_wp2
    go_ret
    first | exact ⟨rfl, by go_grown⟩ | go_grown

theorem pv_ne {x : Int} (h : x ≠ 0) : (hiOf x == hiOf 0 && loOf x == loOf 0) = false := by
  rw [Bool.eq_false_iff]
  intro e
  simp only [Bool.and_eq_true, beq_iff_eq] at e
  exact h (pv_eq.1 e)

set_option maxHeartbeats 2000000 in
theorem outward_dir (round : Int) (neg odd : Bool) (r d : Nat) (hr : r < 2 ^ 64) (hr0 : r ≠ 0) (b : Bool) (h : round = 2 ∧ b = (!neg) ∨ round = 1 ∧ b = neg) (w : World) :
    Calls Try.prog 22 #[.int .i64 round, .bool neg, .bool odd, PV (r : Int), PV (d : Int)] w fun e w' => e = .returned (.bool b) ∧ Below w.heap.size w w' := by
  have e0 : (hiOf (r : Int) == hiOf 0) = true := by unfold hiOf; simp; omega
  have e1 : (loOf (r : Int) == loOf 0) = false := by unfold loOf; simp; omega
  clear hr hr0
  rcases h with ⟨rfl, rfl⟩ | ⟨rfl, rfl⟩
  all_goals
    go_enter Try.func22, Try.ntmps22
    go_wp2_with fail
    go_region_with (go_at_call 20; refine (wide_c 0 (by omega) (by omega) _).mono ?_; rintro e w' ⟨rfl, rfl⟩)
    all_goals
      go_wp2
      go_ret
      first | exact ⟨rfl, by go_grown⟩ | go_grown

set_option maxHeartbeats 4000000 in
theorem outward_even (neg odd : Bool) (r d : Nat) (hr : r < 2 ^ 64) (hd : d < 2 ^ 64) (hr0 : r ≠ 0) (b : Bool) (hb : b = (decide (d < 2 * r) || (decide (2 * r = d) && odd))) (w : World) :
    Calls Try.prog 22 #[.int .i64 3, .bool neg, .bool odd, PV (r : Int), PV (d : Int)] w fun e w' => e = .returned (.bool b) ∧ Below w.heap.size w w' := by
  have e0 : (hiOf (r : Int) == hiOf 0) = true := by unfold hiOf; simp; omega
  have e1 : (loOf (r : Int) == loOf 0) = false := by unfold loOf; simp; omega
  have R1 : Hid (Rm (r : Int)) := by show Rm _; unfold Rm; omega
  have R2 : Hid (Rm ((r : Int) + r)) := by show Rm _; unfold Rm; omega
  have Hd := Lib.hid hd
  clear hr hr0 hd
  have Hb := Lib.hid hb; clear hb
  go_enter Try.func22, Try.ntmps22
  go_wp2_with fail
  go_region_held3 (fun w' => w'.cell? ⟨w.heap.size, 0, none⟩ = some (.int .i64 (hiOf (r : Int))) ∧ w'.cell? ⟨w.heap.size, 1, none⟩ = some (.int .u64 (loOf (r : Int)))) (go_keep) (first | (go_at_call 20; refine (wide_c 0 (by omega) (by omega) _).mono ?_; rintro e w' ⟨rfl, rfl⟩))
  go_wp2_with fail
  go_region_held3 (fun w' => w'.cell? ⟨w.heap.size, 0, none⟩ = some (.int .i64 (hiOf (r : Int))) ∧ w'.cell? ⟨w.heap.size, 1, none⟩ = some (.int .u64 (loOf (r : Int))) ∧ w'.cell? ⟨w.heap.size + 1, 0, none⟩ = some (.int .i64 (hiOf (d : Int))) ∧ w'.cell? ⟨w.heap.size + 1, 1, none⟩ = some (.int .u64 (loOf (d : Int)))) (first | (refine ⟨?_, ?_, ?_, ?_⟩ <;> (focus ((with_reducible apply cell_heap); (focus ((repeat' (first | (with_reducible assumption) | ((with_reducible refine heap_last ?_); (focus (first | (simp; done) | omega | (simp; omega)))) | ((with_reducible refine heap_prev ?_ ?_); (focus (first | (simp; done) | omega | (simp; omega)))) | (with_reducible refine drew_heap ?_) | (with_reducible refine drewN_heap ?_))); done)); rfl))) | go_keep) (first | (go_at_call 23; refine (plus_c _ _ R1.out R1.out R2.out _).mono ?_; rintro e w' ⟨rfl, rfl⟩))
  all_goals
    go_wp2_with fail
    rcases Nat.lt_trichotomy d (2 * r) with h | h | h
    · have H : Hid (true = decide ((d : Int) < (r : Int) + r)) := by show _ = _; simp; omega
      ((with_reducible refine (pbelow_c (d : Int) ((r : Int) + r) true H.out _).mono ?_); rintro e w' ⟨rfl, rfl⟩)
      have hb : b = true := by rw [Hb.out]; simp [h]
      have HB := Lib.hid hb; clear hb h
      go_wp2_with fail
      go_ret
      exact ⟨ret_bool HB.out.symm, by go_grown⟩
    · have H : Hid (false = decide ((d : Int) < (r : Int) + r)) := by show _ = _; simp; omega
      ((with_reducible refine (pbelow_c (d : Int) ((r : Int) + r) false H.out _).mono ?_); rintro e w' ⟨rfl, rfl⟩)
      have hb : b = odd := by rw [Hb.out, h]; simp
      have k1 : (hiOf ((r : Int) + r) == hiOf (d : Int)) = true := by rw [show (r : Int) + r = (d : Int) by omega]; simp
      have k2 : (loOf ((r : Int) + r) == loOf (d : Int)) = true := by rw [show (r : Int) + r = (d : Int) by omega]; simp
      have HB := Lib.hid hb; clear hb h
      go_wp2_with fail
      go_ret
      exact ⟨ret_bool HB.out.symm, by go_grown⟩
    · have H : Hid (false = decide ((d : Int) < (r : Int) + r)) := by show _ = _; simp; omega
      ((with_reducible refine (pbelow_c (d : Int) ((r : Int) + r) false H.out _).mono ?_); rintro e w' ⟨rfl, rfl⟩)
      have hb : b = false := by rw [Hb.out]; simp; omega
      have k1 : (hiOf ((r : Int) + r) == hiOf (d : Int)) = true := by have := Hd.out; unfold hiOf; simp; omega
      have k2 : (loOf ((r : Int) + r) == loOf (d : Int)) = false := by have := Hd.out; unfold loOf; simp; omega
      have HB := Lib.hid hb; clear hb h
      go_wp2_with fail
      go_ret
      exact ⟨ret_bool HB.out.symm, by go_grown⟩

theorem outward_c (round : Int) (neg odd : Bool) (r d : Nat) (hr : r < 2 ^ 64) (hd : d < 2 ^ 64) (h : round = 1 ∨ round = 2 ∨ round = 3) (b : Bool) (hb : b = awayB round neg odd r d) (w : World) :
    Calls Try.prog 22 #[.int .i64 round, .bool neg, .bool odd, PV (r : Int), PV (d : Int)] w fun e w' => e = .returned (.bool b) ∧ Below w.heap.size w w' := by
  subst hb
  unfold awayB
  by_cases h0 : r = 0
  · rw [if_pos h0]
    exact outward_zero round neg odd r d h0 w
  · rw [if_neg h0]
    rcases h with h | h | h
    · rw [if_neg (by omega), if_pos h]
      exact outward_dir round neg odd r d hr h0 neg (Or.inr ⟨h, rfl⟩) w
    · rw [if_pos h]
      exact outward_dir round neg odd r d hr h0 (!neg) (Or.inl ⟨h, rfl⟩) w
    · rw [if_neg (by omega), if_neg (by omega)]
      subst h
      exact outward_even neg odd r d hr hd h0 _ rfl w
end Go.Proofs.Ythpgbghcmfjjoaa
