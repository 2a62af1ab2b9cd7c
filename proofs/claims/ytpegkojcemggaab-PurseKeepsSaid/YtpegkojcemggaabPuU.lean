/- purse: Trade, told whole. -/
import Derived.Test.YtpegkojcemggaabPuT1
import Derived.Test.YtpegkojcemggaabPuT2
import Derived.Test.YtpegkojcemggaabPuT3
import Derived.Test.YtpegkojcemggaabPuT4
namespace Go.Proofs.Ytpegkojcemggaab
open Go.RowKit

theorem upd_rng {z : Ti} {i : Nat} {n : Int} (g : Good (upd z i n)) (hi : i < 49) : -9223372036854775808 ≤ z i + n ∧ z i + n ≤ 9223372036854775807 := by
  have := good_in g hi
  rw [upd_same] at this
  unfold Mny at this; omega
theorem rel_as {z : Ti} {kb : Nat} {hc : Int} (hk : kb < 8) (hm : Mny hc) (h : hc ≤ z (6 * kb + 2)) (g : Good z) : Good (upd z (6 * kb + 2) (-hc)) := by
  have := rel_good g (kb : Int) 1 hc
  unfold relN at this
  rw [if_pos ⟨⟨by omega, by omega, .inl rfl⟩, hm⟩, ix_cash rfl, toNat_k, if_pos h] at this
  exact this
theorem rel_as2 {z : Ti} {ks : Nat} {hs : Int} (hk : ks < 8) (hm : Mny hs) (h : hs ≤ z (6 * ks + 3)) (g : Good z) : Good (upd z (6 * ks + 3) (-hs)) := by
  have := rel_good g (ks : Int) 2 hs
  unfold relN at this
  rw [if_pos ⟨⟨by omega, by omega, .inr rfl⟩, hm⟩, ix_stock rfl, toNat_k, show 6 * ks + 1 + 2 = 6 * ks + 3 from rfl, if_pos h] at this
  exact this

theorem trade_c (z : Ti) (g : Good z) (d : Dl) (hd : d.inr) (w : World) :
    Calls Try.prog 21 #[.agg (TC z), .agg (DC d)] w fun e w' => e = .returned (.tuple #[.agg (TC (trN z d).1), .int .i64 (trN z d).2]) ∧ Below w.heap.size w w' := by
  have HMay := dmay_c d hd
  by_cases hm : d.may
  rotate_left
  · have e : trN z d = (z, 2) := by unfold trN; rw [if_neg hm]
    rw [e]
    rw [decide_eq_false hm] at HMay
    exact tr_core_bad z d.b d.s d.cash d.stock d.hc d.hs d.bf d.sf (Lib.hid HMay) w
  rw [decide_eq_true hm] at HMay
  obtain ⟨b, s, c, st, hc, hs, bf, sf⟩ := d
  obtain ⟨hb, hsl, m1, m2, m3, m4, m5, m6⟩ := hm
  have hm : Dl.may ⟨b, s, c, st, hc, hs, bf, sf⟩ := ⟨hb, hsl, m1, m2, m3, m4, m5, m6⟩
  replace m1 : Mny c := m1
  replace m2 : Mny st := m2
  replace m3 : Mny hc := m3
  replace m4 : Mny hs := m4
  replace m5 : Mny bf := m5
  replace m6 : Mny sf := m6
  obtain ⟨kb, hkb, rfl⟩ := int_nat hb.1 hb.2
  obtain ⟨ks, hks, rfl⟩ := int_nat hsl.1 hsl.2
  have no : ¬ Dl.can z ⟨kb, ks, c, st, hc, hs, bf, sf⟩ → trN z ⟨kb, ks, c, st, hc, hs, bf, sf⟩ = (z, 53) := fun h => by unfold trN; rw [if_pos hm, if_neg h]
  have cn : Dl.can z ⟨kb, ks, c, st, hc, hs, bf, sf⟩ ↔ (hc ≤ z (6 * kb + 2) ∧ hs ≤ z (6 * ks + 3) ∧ c ≤ relT z ⟨kb, ks, c, st, hc, hs, bf, sf⟩ (6 * kb) - relT z ⟨kb, ks, c, st, hc, hs, bf, sf⟩ (6 * kb + 2) ∧ st ≤ relT z ⟨kb, ks, c, st, hc, hs, bf, sf⟩ (6 * ks + 1) - relT z ⟨kb, ks, c, st, hc, hs, bf, sf⟩ (6 * ks + 3)) := by
    unfold Dl.can; simp only [toNat_k]
  have rT : relT z ⟨kb, ks, c, st, hc, hs, bf, sf⟩ = upd (upd z (6 * kb + 2) (-hc)) (6 * ks + 3) (-hs) := by unfold relT; simp only [toNat_k]
  rw [rT] at cn
  by_cases h1 : hc ≤ z (6 * kb + 2)
  rotate_left
  · rw [no (fun h => h1 (cn.1 h).1)]
    have R2 := rel_c z g (ks : Int) 2 hs (mny_in m4)
    exact tr_core_no1 z z (relN z (ks : Int) 2 hs).1 kb ks c st hc hs bf sf (relN z (ks : Int) 2 hs).2 (Lib.hid HMay) (Lib.hid fun w => rel_cash_no z g kb hkb hc m3 h1 w) (Lib.hid R2) w
  have g1 := rel_as hkb m3 h1 g
  have HR1 := Lib.hid fun w => rel_cash_ok z g kb hkb hc m3 h1 w
  have e3 : upd z (6 * kb + 2) (-hc) (6 * ks + 3) = z (6 * ks + 3) := upd_other _ _ _ _ (by omega)
  by_cases h2 : hs ≤ z (6 * ks + 3)
  rotate_left
  · rw [no (fun h => h2 (cn.1 h).2.1)]
    exact tr_core_no2 z _ _ kb ks c st hc hs bf sf (Lib.hid HMay) HR1 (Lib.hid fun w => rel_stock_no _ g1 ks hks hs m4 (by rw [e3]; exact h2) w) w
  have h2' : hs ≤ upd z (6 * kb + 2) (-hc) (6 * ks + 3) := by rw [e3]; exact h2
  have g2 := rel_as2 hks m4 h2' g1
  have HR2 := Lib.hid fun w => rel_stock_ok _ g1 ks hks hs m4 h2' w
  have HF1 := Lib.hid fun w => free_cash _ g2 kb hkb w
  have HF2 := Lib.hid fun w => free_stock _ g2 ks hks w
  by_cases h3 : c ≤ upd (upd z (6 * kb + 2) (-hc)) (6 * ks + 3) (-hs) (6 * kb) - upd (upd z (6 * kb + 2) (-hc)) (6 * ks + 3) (-hs) (6 * kb + 2)
  rotate_left
  · rw [no (fun h => h3 (cn.1 h).2.2.1)]
    exact tr_core_no3 z _ _ kb ks c st hc hs bf sf _ (Lib.hid HMay) HR1 HR2 HF1 (decide_eq_true (by omega)) w
  by_cases h4 : st ≤ upd (upd z (6 * kb + 2) (-hc)) (6 * ks + 3) (-hs) (6 * ks + 1) - upd (upd z (6 * kb + 2) (-hc)) (6 * ks + 3) (-hs) (6 * ks + 3)
  rotate_left
  · rw [no (fun h => h4 (cn.1 h).2.2.2)]
    exact tr_core_no4 z _ _ kb ks c st hc hs bf sf _ _ (Lib.hid HMay) HR1 HR2 HF1 (decide_eq_false (by omega)) HF2 (decide_eq_true (by omega)) w
  have hcan := cn.2 ⟨h1, h2, h3, h4⟩
  have e : trN z ⟨kb, ks, c, st, hc, hs, bf, sf⟩ = (oweN (oweN (movT (upd (upd z (6 * kb + 2) (-hc)) (6 * ks + 3) (-hs)) ⟨kb, ks, c, st, hc, hs, bf, sf⟩) kb bf c) ks sf c, 0) := by
    unfold trN; rw [if_pos hm, if_pos hcan, rT]; simp only [toNat_k]
  have mv : ∀ y, movT y ⟨kb, ks, c, st, hc, hs, bf, sf⟩ = upd (upd (upd (upd y (6 * kb) (-c)) (6 * ks) c) (6 * ks + 1) (-st)) (6 * kb + 1) st := fun y => by unfold movT; simp only [toNat_k]
  obtain ⟨_, s3, s4, s5, s6⟩ := tr_steps g hm hcan
  rw [rT] at s3 s4 s5 s6
  rw [mv] at s6 e
  simp only [toNat_k] at s3 s4 s5
  rw [e]
  have g7 := good_owe s6 hkb bf c
  have r3 := upd_rng s3 (by omega)
  have r4 := upd_rng s4 (by omega)
  have r5 := upd_rng s5 (by omega)
  have r6 := upd_rng s6 (by omega)
  exact tr_core_ok z _ _ _ _ _ _ _ _ kb ks c st hc hs bf sf _ _ (Lib.hid HMay) HR1 HR2 HF1 (decide_eq_false (by omega)) HF2 (decide_eq_false (by omega))
    (Lib.hid fun w => more_cash _ kb 1 (-c) w hkb rfl (6 * kb) rfl r3.1 r3.2) (Lib.hid fun w => more_cash _ ks 1 c w hks rfl (6 * ks) rfl r4.1 r4.2)
    (Lib.hid fun w => more_stock _ ks 2 (-st) w hks rfl (6 * ks + 1) rfl r5.1 r5.2) (Lib.hid fun w => more_stock _ kb 2 st w hkb rfl (6 * kb + 1) rfl r6.1 r6.2)
    (Lib.hid fun w => charged_c _ kb hkb bf c (mny_in m5) (mny_in m1) (mny_in (good_in s6 (by omega))) (mny_in (good_in s6 (by omega))) w)
    (Lib.hid fun w => charged_c _ ks hks sf c (mny_in m6) (mny_in m1) (mny_in (good_in g7 (by omega))) (mny_in (good_in g7 (by omega))) w)
    m1.1 m1.2 m2.1 m2.2 w
end Go.Proofs.Ytpegkojcemggaab
