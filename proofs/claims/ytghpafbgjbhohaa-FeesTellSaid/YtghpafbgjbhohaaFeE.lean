/- fees: a fee, by its parts, and by a table. -/
import Derived.Test.YtghpafbgjbhohaaFeC
import Derived.Test.YtghpafbgjbhohaaFeD
import Derived.Test.YtghpafbgjbhohaaRefO
namespace Go.Proofs.Ytghpafbgjbhohaa
open Go.RowKit

theorem fee_out {n p round : Int} (h : n < 0 ∨ 4611686018427387904 < n ∨ p < 0 ∨ 100000 < p) : feeN n p round = 0 ∧ feeE n p round = 2 := by
  have hn : ¬ feeOk n p round := fun ⟨h1, h2, h3, h4, _⟩ => by omega
  exact ⟨if_neg hn, if_neg hn⟩

set_option maxHeartbeats 4000000 in
set_option maxRecDepth 100000 in
theorem fee_c (n p round : Int) (w : World) :
    Calls Try.prog 28 #[.int .i64 n, .int .i64 p, .int .i64 round] w (Got w (.tuple #[.int .i64 (feeN n p round), .int .i64 (feeE n p round)])) := by
  by_cases h1 : n < 0
  · rw [(fee_out (.inl h1)).1, (fee_out (.inl h1)).2]
    go_enter Try.func28, Try.ntmps28
    go_wp2_with fail
    go_ret2
    exact ⟨rfl, Below.refl _ _⟩
  by_cases h2 : 4611686018427387904 < n
  · rw [(fee_out (.inr (.inl h2))).1, (fee_out (.inr (.inl h2))).2]
    go_enter Try.func28, Try.ntmps28
    go_wp2_with fail
    go_ret2
    exact ⟨rfl, Below.refl _ _⟩
  by_cases h3 : p < 0
  · rw [(fee_out (.inr (.inr (.inl h3)))).1, (fee_out (.inr (.inr (.inl h3)))).2]
    go_enter Try.func28, Try.ntmps28
    go_wp2_with fail
    go_ret2
    exact ⟨rfl, Below.refl _ _⟩
  by_cases h4 : 100000 < p
  · rw [(fee_out (.inr (.inr (.inr h4)))).1, (fee_out (.inr (.inr (.inr h4)))).2]
    go_enter Try.func28, Try.ntmps28
    go_wp2_with fail
    go_ret2
    exact ⟨rfl, Below.refl _ _⟩
  have hd := Div_any n p 1000000 round (by unfold InR; omega) (by unfold InR; omega) (by unfold InR; omega)
  have he := dv_fee (n := n) (p := p) (round := round) (by omega) (by omega) (by omega) (by omega)
  rw [he.1, he.2] at hd
  have HD := Lib.hid hd
  have g1 : 0 ≤ n := by omega
  have g2 : n ≤ 4611686018427387904 := by omega
  have g3 : 0 ≤ p := by omega
  have g4 : p ≤ 100000 := by omega
  clear hd he h1 h2 h3 h4
  go_enter Try.func28, Try.ntmps28
  go_wp2_with fail
  ((with_reducible refine (HD.out _).mono ?_); rintro e w1 ⟨rfl, b1⟩)
  go_wp2_with fail
  go_ret2
  exact ⟨rfl, b1⟩

set_option maxHeartbeats 4000000 in
set_option maxRecDepth 100000 in
theorem of_c (v n role round : Int) (a : Option Addr) (len cap : Nat) (t : List Ti) (w : World) (h : Tis w a len t) :
    Calls Try.prog 26 #[.slice a len cap, .int .i64 v, .int .i64 n, .int .i64 role, .int .i64 round] w (Got w (.tuple #[.int .i64 (ofN t v n role round), .int .i64 (ofE t v n role round)])) := by
  have HC := Lib.hid (check_c a len cap t w h)
  by_cases hg : GoodT t
  · rw [checkT_iff.1 hg] at HC
    have HTi := Lib.hid (fun (W : World) (hW : Below w.heap.size w W) => tier_c v a len cap t W (h.below hW))
    have e1 : ofN t v n role round = if ofOk t v role then feeN n (partT t v role) round else 0 := if_pos hg
    have e2 : ofE t v n role round = if ofOk t v role then feeE n (partT t v role) round else 2 := if_pos hg
    have e3 : partT t v role = if role = 1 then (rowT t v).k else (rowT t v).m := rfl
    have HP := Lib.hid (paid_c (rowT t v).f (rowT t v).m (rowT t v).k role)
    rw [e1, e2]
    obtain ⟨rf, hrf⟩ : ∃ x, x = (rowT t v).f := ⟨_, rfl⟩
    obtain ⟨rm, hrm⟩ : ∃ x, x = (rowT t v).m := ⟨_, rfl⟩
    obtain ⟨rk, hrk⟩ : ∃ x, x = (rowT t v).k := ⟨_, rfl⟩
    rw [← hrf, ← hrm, ← hrk] at HTi HP
    rw [← hrm, ← hrk] at e3
    clear hrf hrm hrk e1 e2 h hg
    by_cases ho : ofOk t v role
    · rw [if_pos ho, if_pos ho]
      obtain ⟨hv, hro⟩ := ho
      have HF := Lib.hid (fee_c n (partT t v role) round)
      have e4 : partT t v role = if role = 1 then rk else if role = 2 then rm else 0 := by
        rw [e3]
        by_cases h1 : role = 1
        · rw [if_pos h1, if_pos h1]
        · rw [if_neg h1, if_neg h1, if_pos (by omega)]
      obtain ⟨x, hx⟩ : ∃ x, x = partT t v role := ⟨_, rfl⟩
      rw [← hx] at e4 HF ⊢
      rw [← e4, decide_eq_true hro] at HP
      clear e3 e4 hx hro
      go_enter Try.func26, Try.ntmps26
      go_wp2_with fail
      ((with_reducible refine HC.out.mono ?_); rintro e w1 ⟨rfl, b1⟩)
      have B1 := Lib.hid b1
      have NT := Lib.hid (HTi.out w1 b1)
      clear b1 HC HTi
      go_wp2_with fail
      ((with_reducible refine NT.out.mono ?_); rintro e w2 ⟨rfl, b2⟩)
      have B2 : Hid (Below w.heap.size w w2) := B1.out.trans (b2.mono B1.out.size)
      clear b2 NT B1
      go_wp2_with fail
      ((with_reducible refine (HP.out _).mono ?_); rintro e w3 ⟨rfl, b3⟩)
      have B3 : Hid (Below w.heap.size w w3) := B2.out.trans (b3.mono B2.out.size)
      clear b3 HP B2
      go_wp2_with fail
      ((with_reducible refine (HF.out _).mono ?_); rintro e w4 ⟨rfl, b4⟩)
      have B4 : Hid (Below w.heap.size w w4) := B3.out.trans (b4.mono B3.out.size)
      clear b4 HF B3
      go_wp2_with fail
      go_ret2
      exact ⟨rfl, B4.out⟩
    · rw [if_neg ho, if_neg ho]
      have hcase : v < 0 ∨ (0 ≤ v ∧ ¬ (role = 1 ∨ role = 2)) := by unfold ofOk at ho; omega
      obtain ⟨y, hy⟩ : ∃ y, y = if role = 1 then rk else if role = 2 then rm else 0 := ⟨_, rfl⟩
      obtain ⟨b, hb⟩ : ∃ b, b = decide (role = 1 ∨ role = 2) := ⟨_, rfl⟩
      rw [← hy, ← hb] at HP
      have hcase2 : v < 0 ∨ (0 ≤ v ∧ b = false) := by
        rcases hcase with h | ⟨h1, h2⟩
        · exact .inl h
        · exact .inr ⟨h1, by rw [hb]; exact decide_eq_false h2⟩
      clear e3 ho hy hb hcase
      rcases hcase2 with h1 | ⟨h1, rfl⟩
      all_goals
        go_enter Try.func26, Try.ntmps26
        go_wp2_with fail
        ((with_reducible refine HC.out.mono ?_); rintro e w1 ⟨rfl, b1⟩)
        have B1 := Lib.hid b1
        have NT := Lib.hid (HTi.out w1 b1)
        clear b1 HC HTi
        go_wp2_with fail
        ((with_reducible refine NT.out.mono ?_); rintro e w2 ⟨rfl, b2⟩)
        have B2 : Hid (Below w.heap.size w w2) := B1.out.trans (b2.mono B1.out.size)
        clear b2 NT B1
        go_wp2_with fail
        ((with_reducible refine (HP.out _).mono ?_); rintro e w3 ⟨rfl, b3⟩)
        have B3 : Hid (Below w.heap.size w w3) := B2.out.trans (b3.mono B2.out.size)
        clear b3 HP B2
        go_wp2_with fail
        go_ret2
        exact ⟨rfl, B3.out⟩
  · rw [checkT_iff.2 hg] at HC
    rw [show ofN t v n role round = 0 from if_neg hg, show ofE t v n role round = 43 from if_neg hg]
    clear h hg
    go_enter Try.func26, Try.ntmps26
    go_wp2_with fail
    ((with_reducible refine HC.out.mono ?_); rintro e w1 ⟨rfl, b1⟩)
    go_wp2_with fail
    go_ret2
    exact ⟨rfl, b1⟩
end Go.Proofs.Ytghpafbgjbhohaa
