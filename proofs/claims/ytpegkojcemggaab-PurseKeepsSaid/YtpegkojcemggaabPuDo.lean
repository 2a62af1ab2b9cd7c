/- purse: the law's Do, told whole. -/
import Derived.Test.YtpegkojcemggaabPuD1
import Derived.Test.YtpegkojcemggaabPuD2
import Derived.Test.YtpegkojcemggaabPuN
import Derived.Test.YtpegkojcemggaabPuS3
namespace Go.Proofs.Ytpegkojcemggaab
open Go.RowKit

theorem do_c (z : Ti) (g : Good z) (o : Ti) (ho : ∀ k, k < 12 → InR (o k)) (w : World) :
    Calls Try.prog 14 #[.agg (TC z), .agg (OC o)] w fun e w' => e = .returned (.tuple #[.agg (TC (doN z o)), .bool true]) ∧ Below w.heap.size w w' := by
  unfold doN
  have i3 := ho 3 (by omega)
  by_cases h0 : o 0 = 0
  · rw [if_pos h0]
    exact do_coreA z _ _ _ _ _ _ _ _ _ _ _ _ _ (.inl ⟨_, by simp [h0], (Lib.hid fun w => dep_c z g (o 1) (o 2) (o 3) i3 w), (Lib.hid fun w => rdep_c z g (o 1) (o 2) (o 3) w)⟩) w
  rw [if_neg h0]
  by_cases h1 : o 0 = 1
  · rw [if_pos h1]
    exact do_coreA z _ _ _ _ _ _ _ _ _ _ _ _ _ (.inr (.inl ⟨_, by simp [h0], by simp [h1], (Lib.hid fun w => wd_c z g (o 1) (o 2) (o 3) i3 w), (Lib.hid fun w => rwd_c z g (o 1) (o 2) (o 3) w)⟩)) w
  rw [if_neg h1]
  by_cases h2 : o 0 = 2
  · rw [if_pos h2]
    exact do_coreA z _ _ _ _ _ _ _ _ _ _ _ _ _ (.inr (.inr ⟨_, by simp [h0], by simp [h1], by simp [h2], (Lib.hid fun w => hold_c z g (o 1) (o 2) (o 3) i3 w), (Lib.hid fun w => rhold_c z g (o 1) (o 2) (o 3) w)⟩)) w
  rw [if_neg h2]
  by_cases h3 : o 0 = 3
  · rw [if_pos h3]
    exact do_coreB z _ _ _ _ _ _ _ _ _ _ _ _ _ (.inl ⟨_, by simp [h0], by simp [h1], by simp [h2], by simp [h3], (Lib.hid fun w => rel_c z g (o 1) (o 2) (o 3) i3 w), (Lib.hid fun w => rrel_c z g (o 1) (o 2) (o 3) w)⟩) w
  rw [if_neg h3]
  by_cases h4 : o 0 = 4
  · rw [if_pos h4]
    have hd : (opD o).inr := ⟨ho 6 (by omega), ho 7 (by omega), ho 8 (by omega), ho 9 (by omega), ho 10 (by omega), ho 11 (by omega)⟩
    exact do_coreB z _ _ _ _ _ _ _ _ _ _ _ _ _ (.inr (.inl ⟨_, by simp [h0], by simp [h1], by simp [h2], by simp [h3], by simp [h4], (Lib.hid fun w => trade_c z g (opD o) hd w), (Lib.hid fun w => rtrade_c z g (opD o) hd w)⟩)) w
  rw [if_neg h4]
  exact do_coreB z _ _ _ _ _ _ _ _ _ _ _ _ _ (.inr (.inr ⟨_, _, by simp [h0], by simp [h1], by simp [h2], by simp [h3], by simp [h4], (Lib.hid fun w => settle_c z g (o 1) w), (Lib.hid fun w => rsettle_c z g (o 1) w)⟩)) w
def doAll (z : Ti) (its : List Opz) (k : Nat) : Ti := (its.take k).foldl (fun y x => doN y x.o) z
theorem doAll_0 (z : Ti) (its : List Opz) : doAll z its 0 = z := rfl
theorem doAll_succ (z : Ti) (its : List Opz) {k : Nat} (h : k < its.length) : doAll z its (k + 1) = doN (doAll z its k) (its[k]!).o := by
  unfold doAll
  rw [List.take_succ_eq_append_getElem h, List.foldl_append, List.getElem!_eq_getElem?_getD, List.getElem?_eq_getElem h]; rfl
theorem doAll_good {z : Ti} (g : Good z) (its : List Opz) (k : Nat) : Good (doAll z its k) := by
  unfold doAll
  generalize its.take k = l
  induction l generalizing z with
  | nil => exact g
  | cons x l ih => exact ih (do_good g x.o)

theorem gtotals_c {z : Ti} (g : Good z) (w : World) : Calls Try.prog 10 #[.agg (TC z)] w fun e w' => e = .returned (.tuple #[.int .i64 (cashS z), .int .i64 (stockS z)]) ∧ Below w.heap.size w w' := by
  have h1 : InR (cashS z) := by have := cash_nn g; have := g.2.2.1; unfold InR; omega
  have h2 : InR (stockS z) := by have := stock_nn g; have := g.2.2.2; unfold InR; omega
  have := totals_c z (good_inr g) w
  rwa [tv_in h1, tv_in h2] at this
theorem ggood_c {z : Ti} (g : Good z) (w : World) : Calls Try.prog 7 #[.agg (TC z)] w fun e w' => e = .returned (.bool true) ∧ Below w.heap.size w w' := by
  have := good_c z (good_inr g) w
  rwa [decide_eq_true g] at this
/-- What a call turns of the totals, as the law asks it. -/
theorem keep_ways {z : Ti} (g : Good z) (o : Ti) :
    (decide (o 0 ≤ 1) = false ∧ True ∧ (cashS z != cashS (doN z o)) = false ∧ (stockS z != stockS (doN z o)) = false) ∨
    (decide (o 0 ≤ 1) = true ∧ decide (0 ≤ o 0) = false ∧ (cashS z != cashS (doN z o)) = false ∧ (stockS z != stockS (doN z o)) = false) ∨
    (decide (o 0 ≤ 1) = true ∧ decide (0 ≤ o 0) = true ∧ (∀ w, (binOp .neq 26 (.agg (TC (doN z o))) (.agg (TC z))).run Try.prog w = .ok (.bool false) w) ∧ (cashS z != cashS (doN z o)) = false ∧ (stockS z != stockS (doN z o)) = false) ∨
    (o 0 = 0 ∧ o 2 = 1 ∧ (∀ w, (binOp .neq 26 (.agg (TC (doN z o))) (.agg (TC z))).run Try.prog w = .ok (.bool true) w) ∧ True ∧ (cashS z + o 3 != cashS (doN z o)) = false ∧ (stockS z != stockS (doN z o)) = false ∧ -9223372036854775808 ≤ cashS z + o 3 ∧ cashS z + o 3 ≤ 9223372036854775807) ∨
    (o 0 = 0 ∧ o 2 = 2 ∧ (∀ w, (binOp .neq 26 (.agg (TC (doN z o))) (.agg (TC z))).run Try.prog w = .ok (.bool true) w) ∧ True ∧ (cashS z != cashS (doN z o)) = false ∧ (stockS z + o 3 != stockS (doN z o)) = false ∧ -9223372036854775808 ≤ stockS z + o 3 ∧ stockS z + o 3 ≤ 9223372036854775807) ∨
    (o 0 = 1 ∧ o 2 = 1 ∧ True ∧ (∀ w, (binOp .neq 26 (.agg (TC (doN z o))) (.agg (TC z))).run Try.prog w = .ok (.bool true) w) ∧ True ∧ (cashS z + -o 3 != cashS (doN z o)) = false ∧ (stockS z != stockS (doN z o)) = false ∧ 1 ≤ o 3 ∧ o 3 ≤ 4611686018427387904 ∧ -9223372036854775808 ≤ cashS z + -o 3 ∧ cashS z + -o 3 ≤ 9223372036854775807) ∨
    (o 0 = 1 ∧ o 2 = 2 ∧ True ∧ (∀ w, (binOp .neq 26 (.agg (TC (doN z o))) (.agg (TC z))).run Try.prog w = .ok (.bool true) w) ∧ True ∧ (cashS z != cashS (doN z o)) = false ∧ (stockS z + -o 3 != stockS (doN z o)) = false ∧ 1 ≤ o 3 ∧ o 3 ≤ 4611686018427387904 ∧ -9223372036854775808 ≤ stockS z + -o 3 ∧ stockS z + -o 3 ≤ 9223372036854775807) := by
  have g2 := do_good g o
  have a1 := cash_nn g2
  have a2 := g2.2.2.1
  have a3 := stock_nn g2
  have a4 := g2.2.2.2
  by_cases h : o 0 = 0 ∨ o 0 = 1
  rotate_left
  · have hs := do_sum_other z (o := o) (fun e => h (.inl e)) (fun e => h (.inr e))
    rw [hs.1, hs.2]
    by_cases h1 : o 0 ≤ 1
    · right; left
      exact ⟨decide_eq_true h1, decide_eq_false (by omega), by simp, by simp⟩
    · left
      exact ⟨decide_eq_false h1, trivial, by simp, by simp⟩
  have same : doN z o = z → (decide (o 0 ≤ 1) = true ∧ decide (0 ≤ o 0) = true ∧ (∀ w, (binOp .neq 26 (.agg (TC (doN z o))) (.agg (TC z))).run Try.prog w = .ok (.bool false) w) ∧ (cashS z != cashS (doN z o)) = false ∧ (stockS z != stockS (doN z o)) = false) := fun e => by
    rw [e]
    refine ⟨decide_eq_true (by omega), decide_eq_true (by omega), fun w => ?_, by simp, by simp⟩
    rw [neqP, tillE_same]; rfl
  rcases h with h | h
  · have e : doN z o = (depN z (o 1) (o 2) (o 3)).1 := by unfold doN; rw [if_pos h]
    rcases dep_ways z (o 1) (o 2) (o 3) with h1 | ⟨k, hk, h1, h2, h3, h4⟩
    · right; right; left; exact same (e.trans h1)
    · have hn : ∀ w, (binOp .neq 26 (.agg (TC (doN z o))) (.agg (TC z))).run Try.prog w = .ok (.bool true) w := fun w => by
        rw [neqP, e, h1, tillE_upd hk (by omega)]; rfl
      rw [← e] at h4
      rcases h4 with ⟨s1, s2, s3⟩ | ⟨s1, s2, s3⟩
      · right; right; right; left
        exact ⟨h, s1, hn, trivial, by rw [s2]; simp, by rw [s3]; simp, by omega, by omega⟩
      · right; right; right; right; left
        exact ⟨h, s1, hn, trivial, by rw [s2]; simp, by rw [s3]; simp, by omega, by omega⟩
  · have e : doN z o = (wdN z (o 1) (o 2) (o 3)).1 := by unfold doN; rw [if_neg (by omega), if_pos h]
    rcases wd_ways z (o 1) (o 2) (o 3) with h1 | ⟨k, hk, h1, h2, h3, h4⟩
    · right; right; left; exact same (e.trans h1)
    · have hn : ∀ w, (binOp .neq 26 (.agg (TC (doN z o))) (.agg (TC z))).run Try.prog w = .ok (.bool true) w := fun w => by
        rw [neqP, e, h1, tillE_upd hk (by omega)]; rfl
      rw [← e] at h4
      rcases h4 with ⟨s1, s2, s3⟩ | ⟨s1, s2, s3⟩
      · right; right; right; right; right; left
        exact ⟨h, s1, trivial, hn, trivial, by rw [s2]; simp, by rw [s3]; simp, h2, h3, by omega, by omega⟩
      · right; right; right; right; right; right
        exact ⟨h, s1, trivial, hn, trivial, by rw [s2]; simp, by rw [s3]; simp, h2, h3, by omega, by omega⟩
end Go.Proofs.Ytpegkojcemggaab
