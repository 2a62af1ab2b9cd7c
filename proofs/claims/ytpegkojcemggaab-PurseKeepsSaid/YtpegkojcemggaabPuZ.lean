/- the reference's purse, told whole. -/
import Derived.Test.YtpegkojcemggaabPuQ1
import Derived.Test.YtpegkojcemggaabPuQ2
import Derived.Test.YtpegkojcemggaabPuQ3
import Derived.Test.YtpegkojcemggaabPuQ4
import Derived.Test.YtpegkojcemggaabPuY1
import Derived.Test.YtpegkojcemggaabPuY2
import Derived.Test.YtpegkojcemggaabPuY3
import Derived.Test.YtpegkojcemggaabPuY4
import Derived.Test.YtpegkojcemggaabPuU
namespace Go.Proofs.Ytpegkojcemggaab
open Go.RowKit

theorem rdep_c (z : Ti) (g : Good z) (a s n : Int) (w : World) :
    Calls Try.prog 25 #[.agg (TC z), .int .i64 a, .int .i64 s, .int .i64 n] w fun e w' => e = .returned (.tuple #[.agg (TC (depN z a s n).1), .int .i64 (depN z a s n).2]) ∧ Below w.heap.size w w' := by
  by_cases h : May a s ∧ 1 ≤ n ∧ n ≤ 4611686018427387904
  rotate_left
  · have e : depN z a s n = (z, 2) := by unfold depN; rw [if_neg h]
    rw [e]; exact rdep_bad z a s n h w
  have hm := h.1
  have h1 := h.2.1
  have hM : Mny n := ⟨by omega, h.2.2⟩
  obtain ⟨m0, m8, hs⟩ := hm
  obtain ⟨k, hk, rfl⟩ := int_nat m0 m8
  rcases hs with rfl | rfl
  · have ea : allS z 1 = cashS z := rfl
    by_cases hc : allS z 1 + n ≤ 4611686018427387904
    · have e : depN z (k : Int) 1 n = (upd z (ix (k : Int) 1) n, 0) := by unfold depN; rw [if_pos h, if_pos hc]
      rw [e, ix_cash (a := (k : Int)) (s := 1) rfl, toNat_k]; exact rdep_cash_ok z g k hk n hM h1 (by rw [ea] at hc; exact hc) w
    · have e : depN z (k : Int) 1 n = (z, 10) := by unfold depN; rw [if_pos h, if_neg hc]
      rw [e]; exact rdep_cash_big z g k hk n hM h1 (by rw [ea] at hc; exact hc) w
  · have ea : allS z 2 = stockS z := rfl
    by_cases hc : allS z 2 + n ≤ 4611686018427387904
    · have e : depN z (k : Int) 2 n = (upd z (ix (k : Int) 2) n, 0) := by unfold depN; rw [if_pos h, if_pos hc]
      rw [e, ix_stock (a := (k : Int)) (s := 2) rfl, toNat_k]; exact rdep_stock_ok z g k hk n hM h1 (by rw [ea] at hc; exact hc) w
    · have e : depN z (k : Int) 2 n = (z, 10) := by unfold depN; rw [if_pos h, if_neg hc]
      rw [e]; exact rdep_stock_big z g k hk n hM h1 (by rw [ea] at hc; exact hc) w

theorem rwd_c (z : Ti) (g : Good z) (a s n : Int) (w : World) :
    Calls Try.prog 27 #[.agg (TC z), .int .i64 a, .int .i64 s, .int .i64 n] w fun e w' => e = .returned (.tuple #[.agg (TC (wdN z a s n).1), .int .i64 (wdN z a s n).2]) ∧ Below w.heap.size w w' := by
  by_cases h : May a s ∧ 1 ≤ n ∧ n ≤ 4611686018427387904
  rotate_left
  · have e : wdN z a s n = (z, 2) := by unfold wdN; rw [if_neg h]
    rw [e]; exact rwd_bad z a s n h w
  have hm := h.1
  have h1 := h.2.1
  have hM : Mny n := ⟨by omega, h.2.2⟩
  obtain ⟨m0, m8, hs⟩ := hm
  obtain ⟨k, hk, rfl⟩ := int_nat m0 m8
  rcases hs with rfl | rfl
  · have ea : freeN z (k : Int) 1 - owedS z (k : Int) 1 = z (6 * k) - z (6 * k + 2) - z (6 * k + 4) := by unfold freeN owedS; rw [if_pos h.1, ix_cash (a := (k : Int)) (s := 1) rfl, toNat_k, if_pos rfl]
    by_cases hc : n ≤ freeN z (k : Int) 1 - owedS z (k : Int) 1
    · have e : wdN z (k : Int) 1 n = (upd z (ix (k : Int) 1) (-n), 0) := by unfold wdN; rw [if_pos h, if_pos hc]
      rw [e, ix_cash (a := (k : Int)) (s := 1) rfl, toNat_k]; exact rwd_cash_ok z g k hk n hM h1 (by rw [ea] at hc; exact hc) w
    · have e : wdN z (k : Int) 1 n = (z, 53) := by unfold wdN; rw [if_pos h, if_neg hc]
      rw [e]; exact rwd_cash_no z g k hk n hM h1 (by rw [ea] at hc; exact hc) w
  · have ea : freeN z (k : Int) 2 - owedS z (k : Int) 2 = z (6 * k + 1) - z (6 * k + 3) := by unfold freeN owedS; rw [if_pos h.1, ix_stock (a := (k : Int)) (s := 2) rfl, toNat_k, if_neg (by omega), Int.sub_zero]
    by_cases hc : n ≤ freeN z (k : Int) 2 - owedS z (k : Int) 2
    · have e : wdN z (k : Int) 2 n = (upd z (ix (k : Int) 2) (-n), 0) := by unfold wdN; rw [if_pos h, if_pos hc]
      rw [e, ix_stock (a := (k : Int)) (s := 2) rfl, toNat_k]; exact rwd_stock_ok z g k hk n hM h1 (by rw [ea] at hc; exact hc) w
    · have e : wdN z (k : Int) 2 n = (z, 53) := by unfold wdN; rw [if_pos h, if_neg hc]
      rw [e]; exact rwd_stock_no z g k hk n hM h1 (by rw [ea] at hc; exact hc) w

theorem rhold_c (z : Ti) (g : Good z) (a s n : Int) (w : World) :
    Calls Try.prog 28 #[.agg (TC z), .int .i64 a, .int .i64 s, .int .i64 n] w fun e w' => e = .returned (.tuple #[.agg (TC (holdN z a s n).1), .int .i64 (holdN z a s n).2]) ∧ Below w.heap.size w w' := by
  by_cases h : May a s ∧ Mny n
  rotate_left
  · have e : holdN z a s n = (z, 2) := by unfold holdN; rw [if_neg h]
    rw [e]; exact rhold_bad z a s n h w
  have hm := h.1
  have hM := h.2
  obtain ⟨m0, m8, hs⟩ := hm
  obtain ⟨k, hk, rfl⟩ := int_nat m0 m8
  rcases hs with rfl | rfl
  · have ea : freeN z (k : Int) 1 = z (6 * k) - z (6 * k + 2) := by unfold freeN; rw [if_pos h.1, ix_cash (a := (k : Int)) (s := 1) rfl, toNat_k]
    by_cases hc : n ≤ freeN z (k : Int) 1
    · have e : holdN z (k : Int) 1 n = (upd z (ix (k : Int) 1 + 2) n, 0) := by unfold holdN; rw [if_pos h, if_pos hc]
      rw [e, ix_cash (a := (k : Int)) (s := 1) rfl, toNat_k]; exact rhold_cash_ok z g k hk n hM (by rw [ea] at hc; exact hc) w
    · have e : holdN z (k : Int) 1 n = (z, 53) := by unfold holdN; rw [if_pos h, if_neg hc]
      rw [e]; exact rhold_cash_no z g k hk n hM (by rw [ea] at hc; exact hc) w
  · have ea : freeN z (k : Int) 2 = z (6 * k + 1) - z (6 * k + 3) := by unfold freeN; rw [if_pos h.1, ix_stock (a := (k : Int)) (s := 2) rfl, toNat_k]
    by_cases hc : n ≤ freeN z (k : Int) 2
    · have e : holdN z (k : Int) 2 n = (upd z (ix (k : Int) 2 + 2) n, 0) := by unfold holdN; rw [if_pos h, if_pos hc]
      rw [e, ix_stock (a := (k : Int)) (s := 2) rfl, toNat_k]; exact rhold_stock_ok z g k hk n hM (by rw [ea] at hc; exact hc) w
    · have e : holdN z (k : Int) 2 n = (z, 53) := by unfold holdN; rw [if_pos h, if_neg hc]
      rw [e]; exact rhold_stock_no z g k hk n hM (by rw [ea] at hc; exact hc) w

theorem rrel_c (z : Ti) (g : Good z) (a s n : Int) (w : World) :
    Calls Try.prog 30 #[.agg (TC z), .int .i64 a, .int .i64 s, .int .i64 n] w fun e w' => e = .returned (.tuple #[.agg (TC (relN z a s n).1), .int .i64 (relN z a s n).2]) ∧ Below w.heap.size w w' := by
  by_cases h : May a s ∧ Mny n
  rotate_left
  · have e : relN z a s n = (z, 2) := by unfold relN; rw [if_neg h]
    rw [e]; exact rrel_bad z a s n h w
  have hm := h.1
  have hM := h.2
  obtain ⟨m0, m8, hs⟩ := hm
  obtain ⟨k, hk, rfl⟩ := int_nat m0 m8
  rcases hs with rfl | rfl
  · have ea : z (ix (k : Int) 1 + 2) = z (6 * k + 2) := by rw [ix_cash (a := (k : Int)) (s := 1) rfl, toNat_k]
    by_cases hc : n ≤ z (ix (k : Int) 1 + 2)
    · have e : relN z (k : Int) 1 n = (upd z (ix (k : Int) 1 + 2) (-n), 0) := by unfold relN; rw [if_pos h, if_pos hc]
      rw [e, ix_cash (a := (k : Int)) (s := 1) rfl, toNat_k]; exact rrel_cash_ok z g k hk n hM (by rw [ea] at hc; exact hc) w
    · have e : relN z (k : Int) 1 n = (z, 53) := by unfold relN; rw [if_pos h, if_neg hc]
      rw [e]; exact rrel_cash_no z g k hk n hM (by rw [ea] at hc; exact hc) w
  · have ea : z (ix (k : Int) 2 + 2) = z (6 * k + 3) := by rw [ix_stock (a := (k : Int)) (s := 2) rfl, toNat_k]
    by_cases hc : n ≤ z (ix (k : Int) 2 + 2)
    · have e : relN z (k : Int) 2 n = (upd z (ix (k : Int) 2 + 2) (-n), 0) := by unfold relN; rw [if_pos h, if_pos hc]
      rw [e, ix_stock (a := (k : Int)) (s := 2) rfl, toNat_k]; exact rrel_stock_ok z g k hk n hM (by rw [ea] at hc; exact hc) w
    · have e : relN z (k : Int) 2 n = (z, 53) := by unfold relN; rw [if_pos h, if_neg hc]
      rw [e]; exact rrel_stock_no z g k hk n hM (by rw [ea] at hc; exact hc) w

theorem put0_cash (z : Ti) (k : Nat) (hk : k < 8) (n : Int) (h : -9223372036854775808 ≤ z (6 * k) + n ∧ z (6 * k) + n ≤ 9223372036854775807) (h2 : Mny (z (6 * k + 2))) (w : World) :
    Calls Try.prog 41 #[.agg (TC z), .int .i64 (k : Int), .int .i64 1, .int .i64 n, .int .i64 0] w fun e w' => e = .returned (.agg (TC (upd z (6 * k) n))) ∧ Below w.heap.size w w' := by
  have := rput_cash z k hk n 0 h (by unfold Mny at h2; unfold InR; omega) w
  rw [upd_zero] at this
  exact this
theorem put0_stock (z : Ti) (k : Nat) (hk : k < 8) (n : Int) (h : -9223372036854775808 ≤ z (6 * k + 1) + n ∧ z (6 * k + 1) + n ≤ 9223372036854775807) (h2 : Mny (z (6 * k + 3))) (w : World) :
    Calls Try.prog 41 #[.agg (TC z), .int .i64 (k : Int), .int .i64 2, .int .i64 n, .int .i64 0] w fun e w' => e = .returned (.agg (TC (upd z (6 * k + 1) n))) ∧ Below w.heap.size w w' := by
  have := rput_stock z k hk n 0 h (by unfold Mny at h2; unfold InR; omega) w
  rw [upd_zero] at this
  exact this

theorem rtrade_c (z : Ti) (g : Good z) (d : Dl) (hd : d.inr) (w : World) :
    Calls Try.prog 31 #[.agg (TC z), .agg (DC d)] w fun e w' => e = .returned (.tuple #[.agg (TC (trN z d).1), .int .i64 (trN z d).2]) ∧ Below w.heap.size w w' := by
  by_cases hm : d.may
  rotate_left
  · have e : trN z d = (z, 2) := by unfold trN; rw [if_neg hm]
    rw [e]
    obtain ⟨b, s, c, st, hc, hs, bf, sf⟩ := d
    have yb := fun w => rmay_c b 1 w
    have ys := fun w => rmay_c s 1 w
    by_cases m0 : There b
    rotate_left
    · rw [decide_eq_false (show ¬ May b 1 from fun h => m0 ⟨h.1, h.2.1⟩)] at yb
      exact rtr_core_bad0 z b s c st hc hs bf sf (Lib.hid yb) w
    rw [decide_eq_true (show May b 1 from ⟨m0.1, m0.2, .inl rfl⟩)] at yb
    by_cases m1 : There s
    rotate_left
    · rw [decide_eq_false (show ¬ May s 1 from fun h => m1 ⟨h.1, h.2.1⟩)] at ys
      exact rtr_core_bad1 z b s c st hc hs bf sf (Lib.hid yb) (Lib.hid ys) w
    rw [decide_eq_true (show May s 1 from ⟨m1.1, m1.2, .inl rfl⟩)] at ys
    have y2 := fun w => rfine_c c w
    by_cases m2 : Mny c
    rotate_left
    · rw [show mnyB c = false from decide_eq_false m2] at y2
      exact rtr_core_bad2 z b s c st hc hs bf sf (Lib.hid yb) (Lib.hid ys) (Lib.hid y2) w
    rw [show mnyB c = true from decide_eq_true m2] at y2
    have y3 := fun w => rfine_c st w
    by_cases m3 : Mny st
    rotate_left
    · rw [show mnyB st = false from decide_eq_false m3] at y3
      exact rtr_core_bad3 z b s c st hc hs bf sf (Lib.hid yb) (Lib.hid ys) (Lib.hid y2) (Lib.hid y3) w
    rw [show mnyB st = true from decide_eq_true m3] at y3
    have y4 := fun w => rfine_c hc w
    by_cases m4 : Mny hc
    rotate_left
    · rw [show mnyB hc = false from decide_eq_false m4] at y4
      exact rtr_core_bad4 z b s c st hc hs bf sf (Lib.hid yb) (Lib.hid ys) (Lib.hid y2) (Lib.hid y3) (Lib.hid y4) w
    rw [show mnyB hc = true from decide_eq_true m4] at y4
    have y5 := fun w => rfine_c hs w
    by_cases m5 : Mny hs
    rotate_left
    · rw [show mnyB hs = false from decide_eq_false m5] at y5
      exact rtr_core_bad5 z b s c st hc hs bf sf (Lib.hid yb) (Lib.hid ys) (Lib.hid y2) (Lib.hid y3) (Lib.hid y4) (Lib.hid y5) w
    rw [show mnyB hs = true from decide_eq_true m5] at y5
    have y6 := fun w => rfine_c bf w
    by_cases m6 : Mny bf
    rotate_left
    · rw [show mnyB bf = false from decide_eq_false m6] at y6
      exact rtr_core_bad6 z b s c st hc hs bf sf (Lib.hid yb) (Lib.hid ys) (Lib.hid y2) (Lib.hid y3) (Lib.hid y4) (Lib.hid y5) (Lib.hid y6) w
    rw [show mnyB bf = true from decide_eq_true m6] at y6
    have y7 := fun w => rfine_c sf w
    have m7 : ¬ Mny sf := fun h => hm ⟨m0, m1, m2, m3, m4, m5, m6, h⟩
    rw [show mnyB sf = false from decide_eq_false m7] at y7
    exact rtr_core_bad7 z b s c st hc hs bf sf (Lib.hid yb) (Lib.hid ys) (Lib.hid y2) (Lib.hid y3) (Lib.hid y4) (Lib.hid y5) (Lib.hid y6) (Lib.hid y7) w
  obtain ⟨b, s, c, st, hc, hs, bf, sf⟩ := d
  obtain ⟨hb, hsl, m1, m2, m3, m4, m5, m6⟩ := hm
  have hm : Dl.may ⟨b, s, c, st, hc, hs, bf, sf⟩ := ⟨hb, hsl, m1, m2, m3, m4, m5, m6⟩
  replace m1 : Mny c := m1
  replace m2 : Mny st := m2
  replace m3 : Mny hc := m3
  replace m4 : Mny hs := m4
  replace m5 : Mny bf := m5
  replace m6 : Mny sf := m6
  obtain ⟨kb, hkb, rfl⟩ := int_nat hb.1 hb.2
  obtain ⟨ks, hks, rfl⟩ := int_nat hsl.1 hsl.2
  have gu0 := Lib.hid (fun w => rmay_yes (s := 1) hkb (.inl rfl) w)
  have gu1 := Lib.hid (fun w => rmay_yes (s := 1) hks (.inl rfl) w)
  have fy : ∀ x, Mny x → ∀ w, Calls Try.prog 17 #[.int .i64 x] w fun e w' => e = .returned (.bool true) ∧ w = w' := fun x hx w => by
    have := rfine_c x w
    rwa [show mnyB x = true from decide_eq_true hx] at this
  have gu2 := Lib.hid (fy c m1)
  have gu3 := Lib.hid (fy st m2)
  have gu4 := Lib.hid (fy hc m3)
  have gu5 := Lib.hid (fy hs m4)
  have gu6 := Lib.hid (fy bf m5)
  have gu7 := Lib.hid (fy sf m6)
  have no : ¬ Dl.can z ⟨kb, ks, c, st, hc, hs, bf, sf⟩ → trN z ⟨kb, ks, c, st, hc, hs, bf, sf⟩ = (z, 53) := fun h => by unfold trN; rw [if_pos hm, if_neg h]
  have cn : Dl.can z ⟨kb, ks, c, st, hc, hs, bf, sf⟩ ↔ (hc ≤ z (6 * kb + 2) ∧ hs ≤ z (6 * ks + 3) ∧ c ≤ relT z ⟨kb, ks, c, st, hc, hs, bf, sf⟩ (6 * kb) - relT z ⟨kb, ks, c, st, hc, hs, bf, sf⟩ (6 * kb + 2) ∧ st ≤ relT z ⟨kb, ks, c, st, hc, hs, bf, sf⟩ (6 * ks + 1) - relT z ⟨kb, ks, c, st, hc, hs, bf, sf⟩ (6 * ks + 3)) := by
    unfold Dl.can; simp only [toNat_k]
  have rT : relT z ⟨kb, ks, c, st, hc, hs, bf, sf⟩ = upd (upd z (6 * kb + 2) (-hc)) (6 * ks + 3) (-hs) := by unfold relT; simp only [toNat_k]
  rw [rT] at cn
  by_cases h1 : hc ≤ z (6 * kb + 2)
  rotate_left
  · rw [no (fun h => h1 (cn.1 h).1)]
    exact rtr_core_no1 z z kb ks c st hc hs bf sf gu0 gu1 gu2 gu3 gu4 gu5 gu6 gu7 (Lib.hid fun w => rrel_cash_no z g kb hkb hc m3 h1 w) w
  have g1 := rel_as hkb m3 h1 g
  have HR1 := Lib.hid fun w => rrel_cash_ok z g kb hkb hc m3 h1 w
  have e3 : upd z (6 * kb + 2) (-hc) (6 * ks + 3) = z (6 * ks + 3) := upd_other _ _ _ _ (by omega)
  by_cases h2 : hs ≤ z (6 * ks + 3)
  rotate_left
  · rw [no (fun h => h2 (cn.1 h).2.1)]
    exact rtr_core_no2 z _ _ kb ks c st hc hs bf sf gu0 gu1 gu2 gu3 gu4 gu5 gu6 gu7 HR1 (Lib.hid fun w => rrel_stock_no _ g1 ks hks hs m4 (by rw [e3]; exact h2) w) w
  have h2' : hs ≤ upd z (6 * kb + 2) (-hc) (6 * ks + 3) := by rw [e3]; exact h2
  have g2 := rel_as2 hks m4 h2' g1
  have HR2 := Lib.hid fun w => rrel_stock_ok _ g1 ks hks hs m4 h2' w
  have HF1 := Lib.hid fun w => rfree_cash _ g2 kb hkb w
  have HF2 := Lib.hid fun w => rfree_stock _ g2 ks hks w
  by_cases h3 : c ≤ upd (upd z (6 * kb + 2) (-hc)) (6 * ks + 3) (-hs) (6 * kb) - upd (upd z (6 * kb + 2) (-hc)) (6 * ks + 3) (-hs) (6 * kb + 2)
  rotate_left
  · rw [no (fun h => h3 (cn.1 h).2.2.1)]
    exact rtr_core_no3 z _ _ kb ks c st hc hs bf sf _ gu0 gu1 gu2 gu3 gu4 gu5 gu6 gu7 HR1 HR2 HF1 (decide_eq_true (by omega)) w
  by_cases h4 : st ≤ upd (upd z (6 * kb + 2) (-hc)) (6 * ks + 3) (-hs) (6 * ks + 1) - upd (upd z (6 * kb + 2) (-hc)) (6 * ks + 3) (-hs) (6 * ks + 3)
  rotate_left
  · rw [no (fun h => h4 (cn.1 h).2.2.2)]
    exact rtr_core_no4 z _ _ kb ks c st hc hs bf sf _ _ gu0 gu1 gu2 gu3 gu4 gu5 gu6 gu7 HR1 HR2 HF1 (decide_eq_false (by omega)) HF2 (decide_eq_true (by omega)) w
  have hcan := cn.2 ⟨h1, h2, h3, h4⟩
  have e : trN z ⟨kb, ks, c, st, hc, hs, bf, sf⟩ = (oweN (oweN (movT (upd (upd z (6 * kb + 2) (-hc)) (6 * ks + 3) (-hs)) ⟨kb, ks, c, st, hc, hs, bf, sf⟩) kb bf c) ks sf c, 0) := by
    unfold trN; rw [if_pos hm, if_pos hcan, rT]; simp only [toNat_k]
  have mv : ∀ y, movT y ⟨kb, ks, c, st, hc, hs, bf, sf⟩ = upd (upd (upd (upd y (6 * kb) (-c)) (6 * ks) c) (6 * ks + 1) (-st)) (6 * kb + 1) st := fun y => by unfold movT; simp only [toNat_k]
  obtain ⟨_, s3, s4, s5, s6⟩ := tr_steps g hm hcan
  rw [rT] at s3 s4 s5 s6
  rw [mv] at s6 e
  simp only [toNat_k] at s3 s4 s5
  rw [e]
  have g7 := good_owe s6 hkb bf c
  have r3 := upd_rng s3 (by omega)
  have r4 := upd_rng s4 (by omega)
  have r5 := upd_rng s5 (by omega)
  have r6 := upd_rng s6 (by omega)
  exact rtr_core_ok z _ _ _ _ _ _ _ _ kb ks c st hc hs bf sf _ _ gu0 gu1 gu2 gu3 gu4 gu5 gu6 gu7 HR1 HR2 HF1 (decide_eq_false (by omega)) HF2 (decide_eq_false (by omega))
    (Lib.hid fun w => put0_cash _ kb hkb (-c) r3 (good_in g2 (by omega)) w) (Lib.hid fun w => put0_cash _ ks hks c r4 (good_in s3 (by omega)) w)
    (Lib.hid fun w => put0_stock _ ks hks (-st) r5 (good_in s4 (by omega)) w) (Lib.hid fun w => put0_stock _ kb hkb st r6 (good_in s5 (by omega)) w)
    (Lib.hid fun w => rowe_c _ kb hkb bf c (mny_in m5) (mny_in m1) (mny_in (good_in s6 (by omega))) (mny_in (good_in s6 (by omega))) w)
    (Lib.hid fun w => rowe_c _ ks hks sf c (mny_in m6) (mny_in m1) (mny_in (good_in g7 (by omega))) (mny_in (good_in g7 (by omega))) w)
    m1.1 m1.2 m2.1 m2.2 w
end Go.Proofs.Ytpegkojcemggaab
