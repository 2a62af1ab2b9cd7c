/- fees, the reference: the greatest part, a fee by its parts, and by a table. -/
import Derived.Test.YtghpafbgjbhohaaFeT
namespace Go.Proofs.Ytghpafbgjbhohaa
open Go.RowKit

set_option maxHeartbeats 8000000 in
set_option maxRecDepth 100000 in
theorem rTop_c (a : Option Addr) (len cap : Nat) (t : List Ti) (w : World) (h : Tis w a len t) :
    Calls Try.prog 24 #[.slice a len cap] w (Got w (.int .i64 (topT t))) := by
  have HT := Lib.hid h
  have HL := Lib.hid h.1
  by_cases hg : GoodT t
  · have HG := Lib.hid (fun (W : World) (hW : Below w.heap.size w W) => rGood_c a len cap t W (h.below hW) true (decide_eq_true hg).symm)
    have hl8 : (len : Int) ≤ 8 := by have := hg.2.1; have := h.1; omega
    have HR : Hid (topT t = topS t len) := by show _ = _; rw [← h.1]; exact if_pos hg
    clear h hg
    go_enter Try.func24, Try.ntmps24
    go_wp2_with fail
    go_loopw [3, 4] (fun v i wr => ∃ k : Nat, k ≤ len ∧ i = .int .i64 (k : Int) ∧ v = .int .i64 (topS t k) ∧ Hid (Below w.heap.size w wr)) (fun _ i _ => len - (intOf i).toNat)
    case atStart => exact ⟨0, by omega, rfl, rfl, Below.refl _ _⟩
    case round =>
      obtain ⟨k, hk, rfl, rfl, hd⟩ := hrel
      have hk0 : (0 : Int) ≤ (k : Int) := by omega
      have N := Lib.hid (HG.out wr hd.out)
      clear HG
      by_cases hlt : k < len
      · have hltI : (k : Int) < (len : Int) := by omega
        have HN : Hid (max (max (topS t k) (TM t k)) (TK t k) = topS t (k + 1)) := rfl
        obtain ⟨s, hs⟩ : ∃ s, s = topS t k := ⟨_, rfl⟩
        rw [← hs] at HN ⊢
        clear hs
        go_wp2_with fail
        ((with_reducible refine N.out.mono ?_); rintro e w2 ⟨rfl, b2⟩)
        have HB2 : Hid (Below w.heap.size w w2) := hd.out.trans (b2.mono hd.out.size)
        clear hd N b2
        obtain ⟨b, off, rfl, hb, p0, p1, p2, _⟩ := (HT.out.below HB2.out).row hlt
        obtain ⟨f, hf⟩ : ∃ f, f = TF t k := ⟨_, rfl⟩
        obtain ⟨m, hmm⟩ : ∃ m, m = TM t k := ⟨_, rfl⟩
        obtain ⟨x, hx⟩ : ∃ x, x = TK t k := ⟨_, rfl⟩
        obtain ⟨n, hn⟩ : ∃ n, n = topS t (k + 1) := ⟨_, rfl⟩
        rw [← hf] at p0
        rw [← hmm] at p1 HN
        rw [← hx] at p2 HN
        rw [← hn] at HN
        have HNn := Lib.hid hn
        have hcase : (s < m ∧ m < x ∧ n = x) ∨ (s < m ∧ x ≤ m ∧ n = m) ∨ (m ≤ s ∧ s < x ∧ n = x) ∨ (m ≤ s ∧ x ≤ s ∧ n = s) := by have := HN.out; omega
        clear hf hmm hx hn HN
        rcases hcase with ⟨g1, g2, rfl⟩ | ⟨g1, g2, rfl⟩ | ⟨g1, g2, rfl⟩ | ⟨g1, g2, rfl⟩
        all_goals
          go_wp2_with fail
          go_quiet (fail)
          go_wp2_with fail
          exact ⟨⟨k + 1, by omega, by go_num, by rw [HNn.out], below_drewT HB2.out _⟩, by simp [intOf]; omega⟩
      · have hkl : k = len := by omega
        subst hkl
        go_wp2_with fail
        ((with_reducible refine N.out.mono ?_); rintro e w2 ⟨rfl, b2⟩)
        have HB2 : Hid (Below w.heap.size w w2) := hd.out.trans (b2.mono hd.out.size)
        clear hd N b2
        go_wp2_with fail
        go_ret
        rw [HR.out]
        exact ⟨rfl, HB2.out⟩
  · have HG := Lib.hid (fun (W : World) (hW : Below w.heap.size w W) => rGood_c a len cap t W (h.below hW) false (decide_eq_false hg).symm)
    rw [show topT t = 0 from if_neg hg]
    clear h hg
    go_enter Try.func24, Try.ntmps24
    go_wp2_with fail
    go_loopw [3, 4] (fun v i wr => i = .int .i64 0 ∧ v = .int .i64 0 ∧ Hid (Below w.heap.size w wr)) (fun _ _ _ => 0)
    case atStart => exact ⟨rfl, rfl, Below.refl _ _⟩
    case round =>
      obtain ⟨rfl, rfl, hd⟩ := hrel
      have N := Lib.hid (HG.out wr hd.out)
      clear HG
      go_wp2_with fail
      ((with_reducible refine N.out.mono ?_); rintro e w2 ⟨rfl, b2⟩)
      have HB2 : Hid (Below w.heap.size w w2) := hd.out.trans (b2.mono hd.out.size)
      clear hd N b2
      go_wp2_with fail
      go_ret
      exact ⟨rfl, HB2.out⟩

set_option maxHeartbeats 4000000 in
set_option maxRecDepth 100000 in
theorem rFee_c (n p round : Int) (w : World) :
    Calls Try.prog 29 #[.int .i64 n, .int .i64 p, .int .i64 round] w (Got w (.tuple #[.int .i64 (feeN n p round), .int .i64 (feeE n p round)])) := by
  by_cases h1 : n < 0
  · rw [(fee_out (.inl h1)).1, (fee_out (.inl h1)).2]
    go_enter Try.func29, Try.ntmps29
    go_wp2_with fail
    go_ret2
    exact ⟨rfl, Below.refl _ _⟩
  by_cases h2 : 4611686018427387904 < n
  · rw [(fee_out (.inr (.inl h2))).1, (fee_out (.inr (.inl h2))).2]
    go_enter Try.func29, Try.ntmps29
    go_wp2_with fail
    go_ret2
    exact ⟨rfl, Below.refl _ _⟩
  by_cases h3 : p < 0
  · rw [(fee_out (.inr (.inr (.inl h3)))).1, (fee_out (.inr (.inr (.inl h3)))).2]
    go_enter Try.func29, Try.ntmps29
    go_wp2_with fail
    go_ret2
    exact ⟨rfl, Below.refl _ _⟩
  by_cases h4 : 100000 < p
  · rw [(fee_out (.inr (.inr (.inr h4)))).1, (fee_out (.inr (.inr (.inr h4)))).2]
    go_enter Try.func29, Try.ntmps29
    go_wp2_with fail
    go_ret2
    exact ⟨rfl, Below.refl _ _⟩
  by_cases h5 : round < 1
  · have hn : ¬ feeOk n p round := fun ⟨_, _, _, _, h⟩ => by omega
    rw [show feeN n p round = 0 from if_neg hn, show feeE n p round = 2 from if_neg hn]
    clear hn
    go_enter Try.func29, Try.ntmps29
    go_wp2_with fail
    go_ret2
    exact ⟨rfl, Below.refl _ _⟩
  by_cases h6 : 3 < round
  · have hn : ¬ feeOk n p round := fun ⟨_, _, _, _, h⟩ => by omega
    rw [show feeN n p round = 0 from if_neg hn, show feeE n p round = 2 from if_neg hn]
    clear hn
    go_enter Try.func29, Try.ntmps29
    go_wp2_with fail
    go_ret2
    exact ⟨rfl, Below.refl _ _⟩
  have hd := refDiv_any n p 1000000 round (by unfold InR; omega) (by unfold InR; omega) (by unfold InR; omega)
  have he := dv_fee (n := n) (p := p) (round := round) (by omega) (by omega) (by omega) (by omega)
  rw [he.1, he.2] at hd
  have HD := Lib.hid hd
  have g1 : 0 ≤ n := by omega
  have g2 : n ≤ 4611686018427387904 := by omega
  have g3 : 0 ≤ p := by omega
  have g4 : p ≤ 100000 := by omega
  have g5 : 1 ≤ round := by omega
  have g6 : round ≤ 3 := by omega
  clear hd he h1 h2 h3 h4 h5 h6
  go_enter Try.func29, Try.ntmps29
  go_wp2_with fail
  ((with_reducible refine (HD.out _).mono ?_); rintro e w1 ⟨rfl, b1⟩)
  go_wp2_with fail
  go_ret2
  exact ⟨rfl, b1⟩

set_option maxHeartbeats 4000000 in
set_option maxRecDepth 100000 in
theorem rOf_c (v n role round : Int) (a : Option Addr) (len cap : Nat) (t : List Ti) (w : World) (h : Tis w a len t) :
    Calls Try.prog 27 #[.slice a len cap, .int .i64 v, .int .i64 n, .int .i64 role, .int .i64 round] w (Got w (.tuple #[.int .i64 (ofN t v n role round), .int .i64 (ofE t v n role round)])) := by
  by_cases hg : GoodT t
  · have HC := Lib.hid (rGood_c a len cap t w h true (decide_eq_true hg).symm)
    have HTi := Lib.hid (fun (W : World) (hW : Below w.heap.size w W) => rRow_c v a len cap t W (h.below hW))
    have e1 : ofN t v n role round = if ofOk t v role then feeN n (partT t v role) round else 0 := if_pos hg
    have e2 : ofE t v n role round = if ofOk t v role then feeE n (partT t v role) round else 2 := if_pos hg
    have e3 : partT t v role = if role = 1 then (rowT t v).k else (rowT t v).m := rfl
    rw [e1, e2]
    obtain ⟨rf, hrf⟩ : ∃ x, x = (rowT t v).f := ⟨_, rfl⟩
    obtain ⟨rm, hrm⟩ : ∃ x, x = (rowT t v).m := ⟨_, rfl⟩
    obtain ⟨rk, hrk⟩ : ∃ x, x = (rowT t v).k := ⟨_, rfl⟩
    rw [← hrf, ← hrm, ← hrk] at HTi
    rw [← hrm, ← hrk] at e3
    clear hrf hrm hrk e1 e2 h hg
    by_cases ho : ofOk t v role
    · rw [if_pos ho, if_pos ho]
      obtain ⟨hv, hro⟩ := ho
      have HF := Lib.hid (rFee_c n (partT t v role) round)
      obtain ⟨x, hx⟩ : ∃ x, x = partT t v role := ⟨_, rfl⟩
      rw [← hx] at HF e3 ⊢
      clear hx
      have hcase : (role = 1 ∧ x = rk) ∨ (role = 2 ∧ x = rm) := by
        rcases hro with h | h
        · left; exact ⟨h, by rw [e3, if_pos h]⟩
        · right; exact ⟨h, by rw [e3, if_neg (by omega)]⟩
      clear e3 hro
      rcases hcase with ⟨rfl, rfl⟩ | ⟨rfl, rfl⟩
      all_goals
        go_enter Try.func27, Try.ntmps27
        go_wp2_with fail
        ((with_reducible refine HC.out.mono ?_); rintro e w1 ⟨rfl, b1⟩)
        have B1 := Lib.hid b1
        have NT := Lib.hid (HTi.out w1 b1)
        clear b1 HC HTi
        go_wp2_with fail
        ((with_reducible refine NT.out.mono ?_); rintro e w2 ⟨rfl, b2⟩)
        have B2 : Hid (Below w.heap.size w w2) := B1.out.trans (b2.mono B1.out.size)
        have B2a := Lib.hid (fun o => B2.out.alloc B2.out.size o)
        have S2 := Lib.hid B2.out.size
        clear b2 NT B1
        go_wp2_with fail
        ((with_reducible refine (HF.out _).mono ?_); rintro e w4 ⟨rfl, b4⟩)
        have B4 : Hid (Below w.heap.size w w4) := (B2a.out _).trans (b4.mono (by have := S2.out; simp; omega))
        clear b4 HF B2 B2a S2
        go_wp2_with fail
        go_ret2
        exact ⟨rfl, B4.out⟩
    · rw [if_neg ho, if_neg ho]
      have hcase : v < 0 ∨ (0 ≤ v ∧ role < 1) ∨ (0 ≤ v ∧ 1 ≤ role ∧ 2 < role) := by unfold ofOk at ho; omega
      clear e3 ho HTi
      rcases hcase with h1 | ⟨h1, h2⟩ | ⟨h1, h2, h3⟩
      all_goals
        go_enter Try.func27, Try.ntmps27
        go_wp2_with fail
        ((with_reducible refine HC.out.mono ?_); rintro e w1 ⟨rfl, b1⟩)
        go_wp2_with fail
        go_ret2
        exact ⟨rfl, b1⟩
  · have HC := Lib.hid (rGood_c a len cap t w h false (decide_eq_false hg).symm)
    rw [show ofN t v n role round = 0 from if_neg hg, show ofE t v n role round = 43 from if_neg hg]
    clear h hg
    go_enter Try.func27, Try.ntmps27
    go_wp2_with fail
    ((with_reducible refine HC.out.mono ?_); rintro e w1 ⟨rfl, b1⟩)
    go_wp2_with fail
    go_ret2
    exact ⟨rfl, b1⟩
end Go.Proofs.Ytghpafbgjbhohaa
