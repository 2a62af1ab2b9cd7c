/- requant: limits' Lot, and the reference's (out of XLiA, XLiB). -/
import Derived.Test.YtpibkjldmmecpaaMem
namespace Go.Proofs.Ytpibkjldmmecpaa
open Go.RowKit

def lotN (lot qty : Int) : Int := if lot < 1 ∨ 1099511627776 < lot then 2 else if qty < 1 ∨ 1099511627776 < qty ∨ ¬ qty % lot = 0 then 41 else 0
set_option maxHeartbeats 4000000 in
set_option maxRecDepth 100000 in
theorem lot_c (lot qty : Int) (w : World) :
    Calls Try.prog 18 #[.int .i64 lot, .int .i64 qty] w fun e w' => e = .returned (.int .i64 (lotN lot qty)) ∧ w = w' := by
  obtain ⟨r, hr⟩ : ∃ r, r = lotN lot qty := ⟨_, rfl⟩
  rw [← hr]
  unfold lotN at hr
  by_cases h1 : lot < 1
  · have h : Hid (r = 2) := by show r = 2; rw [hr, if_pos (.inl h1)]
    clear hr
    go_enter Try.func18, Try.ntmps18
    go_wp2_with fail
    go_ret
    rw [h.out]; exact ⟨rfl, rfl⟩
  by_cases h2 : 1099511627776 < lot
  · have h : Hid (r = 2) := by show r = 2; rw [hr, if_pos (.inr h2)]
    clear hr
    go_enter Try.func18, Try.ntmps18
    go_wp2_with fail
    go_ret
    rw [h.out]; exact ⟨rfl, rfl⟩
  rw [if_neg (by omega)] at hr
  by_cases h3 : qty < 1
  · have h : Hid (r = 41) := by show r = 41; rw [hr, if_pos (.inl h3)]
    clear hr
    go_enter Try.func18, Try.ntmps18
    go_wp2_with fail
    go_ret
    rw [h.out]; exact ⟨rfl, rfl⟩
  by_cases h4 : 1099511627776 < qty
  · have h : Hid (r = 41) := by show r = 41; rw [hr, if_pos (.inr (.inl h4))]
    clear hr
    go_enter Try.func18, Try.ntmps18
    go_wp2_with fail
    go_ret
    rw [h.out]; exact ⟨rfl, rfl⟩
  have g1 : 1 ≤ lot := by omega
  have g2 : lot ≤ 1099511627776 := by omega
  have g3 : 1 ≤ qty := by omega
  have g4 : qty ≤ 1099511627776 := by omega
  have g5 : (lot == 0) = false := by simp; omega
  have g6 : 0 ≤ qty := by omega
  by_cases h5 : qty % lot = 0
  · have h : Hid (r = 0) := by show r = 0; rw [hr, if_neg (by omega)]
    have f5 : (qty % lot == 0) = true := by simp [h5]
    have f6 : (qty % lot != 0) = false := by simp [h5]
    clear hr h1 h2 h3 h4 h5
    go_enter Try.func18, Try.ntmps18
    go_wp2_with fail
    go_ret
    rw [h.out]; exact ⟨rfl, rfl⟩
  · have h : Hid (r = 41) := by show r = 41; rw [hr, if_pos (.inr (.inr h5))]
    have f5 : (qty % lot == 0) = false := by simp [h5]
    have f6 : (qty % lot != 0) = true := by simp [h5]
    clear hr h1 h2 h3 h4 h5
    go_enter Try.func18, Try.ntmps18
    go_wp2_with fail
    go_ret
    rw [h.out]; exact ⟨rfl, rfl⟩

set_option maxHeartbeats 4000000 in
set_option maxRecDepth 100000 in
theorem rLot_c (lot qty : Int) (w : World) :
    Calls Try.prog 21 #[.int .i64 lot, .int .i64 qty] w fun e w' => e = .returned (.int .i64 (lotN lot qty)) ∧ w = w' := by
  obtain ⟨r, hr⟩ : ∃ r, r = lotN lot qty := ⟨_, rfl⟩
  rw [← hr]
  unfold lotN at hr
  by_cases h1 : lot < 1
  · have h : Hid (r = 2) := by show r = 2; rw [hr, if_pos (.inl h1)]
    clear hr
    go_enter Try.func21, Try.ntmps21
    go_wp2_with fail
    go_ret
    rw [h.out]; exact ⟨rfl, rfl⟩
  by_cases h2 : 1099511627776 < lot
  · have h : Hid (r = 2) := by show r = 2; rw [hr, if_pos (.inr h2)]
    clear hr
    go_enter Try.func21, Try.ntmps21
    go_wp2_with fail
    go_ret
    rw [h.out]; exact ⟨rfl, rfl⟩
  rw [if_neg (by omega)] at hr
  by_cases h3 : qty < 1
  · have h : Hid (r = 41) := by show r = 41; rw [hr, if_pos (.inl h3)]
    clear hr
    go_enter Try.func21, Try.ntmps21
    go_wp2_with fail
    go_ret
    rw [h.out]; exact ⟨rfl, rfl⟩
  by_cases h4 : 1099511627776 < qty
  · have h : Hid (r = 41) := by show r = 41; rw [hr, if_pos (.inr (.inl h4))]
    clear hr
    go_enter Try.func21, Try.ntmps21
    go_wp2_with fail
    go_ret
    rw [h.out]; exact ⟨rfl, rfl⟩
  have g1 : 1 ≤ lot := by omega
  have g2 : lot ≤ 1099511627776 := by omega
  have g3 : 1 ≤ qty := by omega
  have g4 : qty ≤ 1099511627776 := by omega
  have g5 : (lot == 0) = false := by simp; omega
  have g6 : 0 ≤ qty := by omega
  by_cases h5 : qty % lot = 0
  · have h : Hid (r = 0) := by show r = 0; rw [hr, if_neg (by omega)]
    have f5 : (qty % lot == 0) = true := by simp [h5]
    have f6 : (qty % lot != 0) = false := by simp [h5]
    clear hr h1 h2 h3 h4 h5
    go_enter Try.func21, Try.ntmps21
    go_wp2_with fail
    go_ret
    rw [h.out]; exact ⟨rfl, rfl⟩
  · have h : Hid (r = 41) := by show r = 41; rw [hr, if_pos (.inr (.inr h5))]
    have f5 : (qty % lot == 0) = false := by simp [h5]
    have f6 : (qty % lot != 0) = true := by simp [h5]
    clear hr h1 h2 h3 h4 h5
    go_enter Try.func21, Try.ntmps21
    go_wp2_with fail
    go_ret
    rw [h.out]; exact ⟨rfl, rfl⟩
end Go.Proofs.Ytpibkjldmmecpaa
