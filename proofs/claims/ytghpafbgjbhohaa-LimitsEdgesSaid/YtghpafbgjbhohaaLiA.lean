/- limits: the code's lots and bands. -/
import Derived.Test.YtghpafbgjbhohaaDivB
import Derived.Test.YtghpafbgjbhohaaFeD
namespace Go.Proofs.Ytghpafbgjbhohaa
open Go.RowKit

set_option maxHeartbeats 4000000 in
set_option maxRecDepth 100000 in
theorem lot_c (lot qty : Int) (w : World) :
    Calls Try.prog 9 #[.int .i64 lot, .int .i64 qty] w fun e w' => e = .returned (.int .i64 (lotN lot qty)) ∧ w = w' := by
  obtain ⟨r, hr⟩ : ∃ r, r = lotN lot qty := ⟨_, rfl⟩
  rw [← hr]
  unfold lotN at hr
  by_cases h1 : lot < 1
  · have h : Hid (r = 2) := by show r = 2; rw [hr, if_pos (.inl h1)]
    clear hr
    go_enter Try.func9, Try.ntmps9
    go_wp2_with fail
    go_ret
    rw [h.out]; exact ⟨rfl, rfl⟩
  by_cases h2 : 1099511627776 < lot
  · have h : Hid (r = 2) := by show r = 2; rw [hr, if_pos (.inr h2)]
    clear hr
    go_enter Try.func9, Try.ntmps9
    go_wp2_with fail
    go_ret
    rw [h.out]; exact ⟨rfl, rfl⟩
  rw [if_neg (by omega)] at hr
  by_cases h3 : qty < 1
  · have h : Hid (r = 41) := by show r = 41; rw [hr, if_pos (.inl h3)]
    clear hr
    go_enter Try.func9, Try.ntmps9
    go_wp2_with fail
    go_ret
    rw [h.out]; exact ⟨rfl, rfl⟩
  by_cases h4 : 1099511627776 < qty
  · have h : Hid (r = 41) := by show r = 41; rw [hr, if_pos (.inr (.inl h4))]
    clear hr
    go_enter Try.func9, Try.ntmps9
    go_wp2_with fail
    go_ret
    rw [h.out]; exact ⟨rfl, rfl⟩
  have g1 : 1 ≤ lot := by omega
  have g2 : lot ≤ 1099511627776 := by omega
  have g3 : 1 ≤ qty := by omega
  have g4 : qty ≤ 1099511627776 := by omega
  have g5 : (lot == 0) = false := by simp; omega
  have g6 : 0 ≤ qty := by omega
  by_cases h5 : qty % lot = 0
  · have h : Hid (r = 0) := by show r = 0; rw [hr, if_neg (by omega)]
    have f5 : (qty % lot == 0) = true := by simp [h5]
    have f6 : (qty % lot != 0) = false := by simp [h5]
    clear hr h1 h2 h3 h4 h5
    go_enter Try.func9, Try.ntmps9
    go_wp2_with fail
    go_ret
    rw [h.out]; exact ⟨rfl, rfl⟩
  · have h : Hid (r = 41) := by show r = 41; rw [hr, if_pos (.inr (.inr h5))]
    have f5 : (qty % lot == 0) = false := by simp [h5]
    have f6 : (qty % lot != 0) = true := by simp [h5]
    clear hr h1 h2 h3 h4 h5
    go_enter Try.func9, Try.ntmps9
    go_wp2_with fail
    go_ret
    rw [h.out]; exact ⟨rfl, rfl⟩

set_option maxHeartbeats 4000000 in
set_option maxRecDepth 100000 in
theorem trim_c (lot qty : Int) (hq : InR qty) (hl : InR lot) (w : World) :
    Calls Try.prog 11 #[.int .i64 lot, .int .i64 qty] w fun e w' => e = .returned (.int .i64 (trimN lot qty)) ∧ w = w' := by
  by_cases h1 : lot < 1
  · have h : Hid (trimN lot qty = 0) := by show _ = _; unfold trimN; rw [if_pos (.inl h1)]
    go_enter Try.func11, Try.ntmps11
    go_wp2_with fail
    go_ret
    rw [h.out]; exact ⟨rfl, rfl⟩
  by_cases h2 : qty < 1
  · have h : Hid (trimN lot qty = 0) := by show _ = _; unfold trimN; rw [if_pos (.inr h2)]
    go_enter Try.func11, Try.ntmps11
    go_wp2_with fail
    go_ret
    rw [h.out]; exact ⟨rfl, rfl⟩
  have ht := trim_bd (lot := lot) (qty := qty) (by omega) (by omega)
  obtain ⟨t, htt⟩ : ∃ t, t = trimN lot qty := ⟨_, rfl⟩
  rw [← htt] at ht ⊢
  obtain ⟨t0, t1, _, _, t4⟩ := ht
  obtain ⟨m, hm⟩ : ∃ m, m = qty % lot := ⟨_, rfl⟩
  have hm' : qty % lot = m := hm.symm
  rw [← hm] at t4
  have e1 : IntKind.i64.wrap (qty - m) = t := by unfold InR at hq hl; rw [IntKind.wrap_i64]; omega
  have e2 : qty - m = t := by omega
  have g1 : 1 ≤ lot := by omega
  have g3 : 1 ≤ qty := by omega
  have g5 : (lot == 0) = false := by simp; omega
  have g6 : 0 ≤ qty := by omega
  have g7 : qty ≤ 9223372036854775807 := hq.2
  have g8 : lot ≤ 9223372036854775807 := hl.2
  clear h1 h2 hq hl htt hm t4
  go_enter Try.func11, Try.ntmps11
  go_wp2_with fail
  go_ret
  exact ⟨rfl, rfl⟩

set_option maxHeartbeats 4000000 in
set_option maxRecDepth 100000 in
theorem lwrong_c (last band : Int) (r : Bool) (hr : r = decide (WrongL last band)) (w : World) :
    Calls Try.prog 30 #[.int .i64 last, .int .i64 band] w fun e w' => e = .returned (.bool r) ∧ w = w' := by
  unfold WrongL at hr
  by_cases h1 : last < 0
  · have h : r = true := by rw [hr]; exact decide_eq_true (.inl h1)
    subst h; clear hr
    go_enter Try.func30, Try.ntmps30
    go_wp2_with fail
    go_ret
    exact ⟨rfl, rfl⟩
  by_cases h2 : 1099511627776 < last
  · have h : r = true := by rw [hr]; exact decide_eq_true (.inr (.inl h2))
    subst h; clear hr
    go_enter Try.func30, Try.ntmps30
    go_wp2_with fail
    go_ret
    exact ⟨rfl, rfl⟩
  by_cases h3 : band < 0
  · have h : r = true := by rw [hr]; exact decide_eq_true (.inr (.inr (.inl h3)))
    subst h; clear hr
    go_enter Try.func30, Try.ntmps30
    go_wp2_with fail
    go_ret
    exact ⟨rfl, rfl⟩
  by_cases h4 : 1000000 < band
  · have h : r = true := by rw [hr]; exact decide_eq_true (.inr (.inr (.inr h4)))
    subst h; clear hr
    go_enter Try.func30, Try.ntmps30
    go_wp2_with fail
    go_ret
    exact ⟨rfl, rfl⟩
  · have h : r = false := by rw [hr]; exact decide_eq_false (by omega)
    subst h; clear hr
    have d1 : decide (1000000 < band) = false := decide_eq_false (by omega)
    have d2 : decide (band < 0) = false := decide_eq_false (by omega)
    have d3 : decide (1099511627776 < last) = false := decide_eq_false (by omega)
    have d4 : decide (last < 0) = false := decide_eq_false (by omega)
    go_enter Try.func30, Try.ntmps30
    go_wp2_with fail
    go_ret
    exact ⟨rfl, rfl⟩

set_option maxHeartbeats 4000000 in
set_option maxRecDepth 100000 in
theorem lopen_c (last band : Int) (r : Bool) (hr : r = decide (last = 0 ∨ band = 0)) (w : World) :
    Calls Try.prog 31 #[.int .i64 last, .int .i64 band] w fun e w' => e = .returned (.bool r) ∧ w = w' := by
  by_cases h1 : last = 0
  · have h : r = true := by rw [hr]; exact decide_eq_true (.inl h1)
    subst h; clear hr; subst h1
    go_enter Try.func31, Try.ntmps31
    go_wp2_with fail
    go_ret
    exact ⟨rfl, rfl⟩
  have e1 : (last == 0) = false := by simp [h1]
  by_cases h2 : band = 0
  · have h : r = true := by rw [hr]; exact decide_eq_true (.inr h2)
    subst h; clear hr h1; subst h2
    go_enter Try.func31, Try.ntmps31
    go_wp2_with fail
    go_ret
    exact ⟨rfl, rfl⟩
  have e2 : (band == 0) = false := by simp [h2]
  have h : r = false := by rw [hr]; exact decide_eq_false (by omega)
  subst h; clear hr h1 h2
  go_enter Try.func31, Try.ntmps31
  go_wp2_with fail
  go_ret
  exact ⟨rfl, rfl⟩

/-- The boxes of both numbers. -/
def LB (w : World) (c : Nat) (last band : Int) : Prop := Bx 2 w c (.int .i64 last) ∧ Bx 2 w (c + 1) (.int .i64 band)
theorem LB.new (w : World) (last band : Int) : LB ((w.alloc (.cells #[.int .i64 last] 2)).alloc (.cells #[.int .i64 band] 2)) w.heap.size last band := by
  refine ⟨Bx.alloc (heap_alloc_new w _) _, ?_⟩
  have h := heap_alloc_new (w.alloc (.cells #[.int .i64 last] 2)) (.cells #[.int .i64 band] 2)
  rw [World.size_alloc] at h
  exact h
theorem LB.below {w w' : World} {c : Nat} {last band : Int} (h : LB w c last band) (hb : Below w.heap.size w w') : LB w' c last band := ⟨(hb.block c (blk_lt h.1)).trans h.1, (hb.block _ (blk_lt h.2)).trans h.2⟩

set_option maxHeartbeats 4000000 in
set_option maxRecDepth 100000 in
theorem lbeyond_c (c : Nat) (last band way : Int) (h1 : InR last) (h2 : InR band) (h3 : InR way) (w : World) (h : LB w c last band) (r : Bool) (hr : r = decide (last * band < way * 1000000)) :
    Calls Try.prog 32 #[.int .i64 way, .pointer (some ⟨c, 0, none⟩), .pointer (some ⟨c + 1, 0, none⟩)] w (Got w (.bool r)) := by
  have k0 := h.1.c0
  have k1 := h.2.c0
  have HL : Hid (∀ w, Calls Try.prog 33 #[.int .i64 last, .int .i64 band, .int .i64 way, .int .i64 1000000] w fun e w' => e = .returned (.bool r) ∧ Below w.heap.size w w') := by
    intro w
    rw [hr]
    exact Less_c last band way 1000000 h1 h2 h3 (by unfold InR; omega) w
  clear h1 h2 h3 h hr
  go_enter Try.func32, Try.ntmps32
  go_wp2_with fail
  ((with_reducible refine (HL.out _).mono ?_); rintro e w1 ⟨rfl, b1⟩)
  go_wp2_with fail
  go_ret
  exact ⟨rfl, b1⟩
end Go.Proofs.Ytghpafbgjbhohaa
