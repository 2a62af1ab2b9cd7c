/- purse: Settle, told whole, both ways. -/
import Derived.Test.YtpegkojcemggaabPuS1
import Derived.Test.YtpegkojcemggaabPuS2
import Derived.Test.YtpegkojcemggaabPuZ
namespace Go.Proofs.Ytpegkojcemggaab
open Go.RowKit

theorem stl_facts (z : Ti) {k : Nat} (hk : k < 8) :
    (if z (6 * k) - z (6 * k + 2) < z (6 * k + 4) then z (6 * k) - z (6 * k + 2) else z (6 * k + 4)) = stlM z k ∧ put (put (upd z (6 * k) (-stlM z k)) (k * 6 + 4) (z (6 * k + 4) - stlM z k)) 48 (z 48 + stlM z k) = stlT z k (stlM z k) := by
  constructor
  · unfold stlM; omega
  · unfold stlT
    have e1 : upd z (6 * k) (-stlM z k) (6 * k + 4) = z (6 * k + 4) := upd_other _ _ _ _ (by omega)
    have e2 : upd (upd z (6 * k) (-stlM z k)) (6 * k + 4) (-stlM z k) 48 = z 48 := by rw [upd_other _ _ _ _ (by omega), upd_other _ _ _ _ (by omega)]
    rw [← put_upd (upd (upd z (6 * k) (-stlM z k)) (6 * k + 4) (-stlM z k)), e2, ← put_upd (upd z (6 * k) (-stlM z k)) (6 * k + 4), e1, show k * 6 + 4 = 6 * k + 4 by omega, show z (6 * k + 4) - stlM z k = z (6 * k + 4) + -stlM z k by omega]

theorem settle_c (z : Ti) (g : Good z) (a : Int) (w : World) :
    Calls Try.prog 32 #[.agg (TC z), .int .i64 a] w fun e w' => e = .returned (.tuple #[.agg (TC (stlN z a).1), .int .i64 (stlN z a).2.1, .int .i64 (stlN z a).2.2]) ∧ Below w.heap.size w w' := by
  have HT := fun w => there_c a w
  by_cases h : There a
  rotate_left
  · have e : stlN z a = (z, 0, 2) := by unfold stlN; rw [if_neg h]
    rw [e]
    rw [decide_eq_false h] at HT
    exact stl_core_bad z a (Lib.hid HT) w
  rw [decide_eq_true h] at HT
  obtain ⟨k, hk, rfl⟩ := int_nat h.1 h.2
  have hkI : (k : Int) < 8 := by omega
  have hk0 : (0 : Int) ≤ (k : Int) := by omega
  have HF := Lib.hid fun w => free_cash z g k hk w
  have CO : Hid (∀ (W : World) (b : Nat), W.heap[b]? = some (.cells (TC z) 26 (0, 0)) → W.cell? ⟨b, k * 6 + 4, none⟩ = some (.int .i64 (z (6 * k + 4)))) := fun _ _ h => by rw [till_cell h (by omega), show k * 6 + 4 = 6 * k + 4 by omega]
  by_cases h1 : z (6 * k + 4) = 0
  · have e : stlN z (k : Int) = (z, 0, 51) := by unfold stlN; rw [if_pos h, toNat_k, if_pos h1]
    rw [e]
    exact stl_core_none z k hkI hk0 _ _ (Lib.hid HT) HF CO (by simp [h1]) w
  by_cases h2 : z (6 * k) - z (6 * k + 2) = 0
  · have e : stlN z (k : Int) = (z, 0, 53) := by unfold stlN; rw [if_pos h, toNat_k, if_neg h1, if_pos h2]
    rw [e]
    exact stl_core_no z k hkI hk0 _ _ (Lib.hid HT) HF CO (by simp [h1]) (by simp [h2]) w
  have e : stlN z (k : Int) = (stlT z k (stlM z k), stlM z k, 0) := by unfold stlN; rw [if_pos h, toNat_k, if_neg h1, if_neg h2]
  rw [e]
  obtain ⟨f1, f2⟩ := stl_facts z hk
  obtain ⟨s1, s2, s3⟩ := stl_mny g hk h1 h2
  obtain ⟨g1, g2, g3⟩ := stl_steps g hk s1 s2 s3
  have r := upd_rng g1 (by omega)
  have o1 := (g.1 k hk).2.2.2.2.1
  have c1 := (g.1 k hk).1
  have d1 := (g.1 k hk).2.2.1
  have hh := g.2.1
  have cl := cash_le g hk
  have gc := g.2.2.1
  unfold Mny at o1 c1 d1 hh
  have e4 : upd z (6 * k) (-stlM z k) (k * 6 + 4) = z (6 * k + 4) := by rw [show k * 6 + 4 = 6 * k + 4 by omega]; exact upd_other _ _ _ _ (by omega)
  have e48 : upd z (6 * k) (-stlM z k) 48 = z 48 := upd_other _ _ _ _ (by omega)
  exact stl_core_ok z _ _ k hk hkI hk0 _ _ _ _ _ (Lib.hid HT) HF CO (by simp [h1]) (by simp [h2]) f1 s1 (by omega) (Lib.hid fun w => more_cash z k 1 (-stlM z k) w hk rfl (6 * k) rfl r.1 r.2) (Lib.hid e4) (Lib.hid e48) (by omega) (by omega) (by omega) (by omega) (Lib.hid f2) w

theorem rsettle_c (z : Ti) (g : Good z) (a : Int) (w : World) :
    Calls Try.prog 33 #[.agg (TC z), .int .i64 a] w fun e w' => e = .returned (.tuple #[.agg (TC (stlN z a).1), .int .i64 (stlN z a).2.1, .int .i64 (stlN z a).2.2]) ∧ Below w.heap.size w w' := by
  have HT := fun w => rmay_c a 1 w
  by_cases h : There a
  rotate_left
  · have e : stlN z a = (z, 0, 2) := by unfold stlN; rw [if_neg h]
    rw [e]
    rw [decide_eq_false (show ¬ May a 1 from fun h' => h ⟨h'.1, h'.2.1⟩)] at HT
    exact rstl_core_bad z a (Lib.hid HT) w
  rw [decide_eq_true (show May a 1 from ⟨h.1, h.2, .inl rfl⟩)] at HT
  obtain ⟨k, hk, rfl⟩ := int_nat h.1 h.2
  have hkI : (k : Int) < 8 := by omega
  have hk0 : (0 : Int) ≤ (k : Int) := by omega
  have HF := Lib.hid fun w => rfree_cash z g k hk w
  have CO := TC_get z (show k * 6 + 4 < 49 by omega)
  rw [show z (k * 6 + 4) = z (6 * k + 4) by rw [Nat.mul_comm]] at CO
  by_cases h1 : z (6 * k + 4) = 0
  · have e : stlN z (k : Int) = (z, 0, 51) := by unfold stlN; rw [if_pos h, toNat_k, if_pos h1]
    rw [e]
    exact rstl_core_none z k hkI hk0 _ (Lib.hid HT) CO (by simp [h1]) w
  by_cases h2 : z (6 * k) - z (6 * k + 2) = 0
  · have e : stlN z (k : Int) = (z, 0, 53) := by unfold stlN; rw [if_pos h, toNat_k, if_neg h1, if_pos h2]
    rw [e]
    have o0 := (g.1 k hk).2.2.2.2.1.1
    exact rstl_core_no z k hkI hk0 _ _ 0 (Lib.hid HT) HF CO (by simp [h1]) (by rw [if_pos (by omega)]; exact h2) rfl w
  have e : stlN z (k : Int) = (stlT z k (stlM z k), stlM z k, 0) := by unfold stlN; rw [if_pos h, toNat_k, if_neg h1, if_neg h2]
  rw [e]
  obtain ⟨f1, f2⟩ := stl_facts z hk
  obtain ⟨s1, s2, s3⟩ := stl_mny g hk h1 h2
  obtain ⟨g1, g2, g3⟩ := stl_steps g hk s1 s2 s3
  have r := upd_rng g1 (by omega)
  have o1 := (g.1 k hk).2.2.2.2.1
  have c1 := (g.1 k hk).1
  have d1 := (g.1 k hk).2.2.1
  have hh := g.2.1
  have cl := cash_le g hk
  have gc := g.2.2.1
  unfold Mny at o1 c1 d1 hh
  have e4 : upd z (6 * k) (-stlM z k) (k * 6 + 4) = z (6 * k + 4) := by rw [show k * 6 + 4 = 6 * k + 4 by omega]; exact upd_other _ _ _ _ (by omega)
  have e48 : upd z (6 * k) (-stlM z k) 48 = z 48 := upd_other _ _ _ _ (by omega)
  exact rstl_core_ok z _ _ k hk hkI hk0 _ _ _ _ _ (Lib.hid HT) HF CO (by simp [h1]) f1 (by simp; omega) s1 (by omega) (Lib.hid fun w => put0_cash z k hk (-stlM z k) r (g.1 k hk).2.2.1 w) (Lib.hid e4) (Lib.hid e48) (by omega) (by omega) (by omega) (by omega) (Lib.hid f2) w
end Go.Proofs.Ytpegkojcemggaab
