/- parcel, the reference: Take, of any bytes. -/
import Derived.Test.YtgbbckjbpgojaaaPcN
namespace Go.Proofs.Ytgbbckjbpgojaaa
open Go.RowKit

theorem natAt_take : ∀ (s : List UInt8) (i n : Nat), i ≤ 9 → natAt i n s = (natAt i n (s.take (10 - i))).map (fun p => (p.1, p.2 ++ s.drop (10 - i)))
  | [], i, n, _ => by simp [natAt_nil]
  | b :: t, i, n, hi => by
    have hlt := b.toNat_lt
    obtain ⟨k, hk⟩ : ∃ k, 10 - i = k + 1 := ⟨9 - i, by omega⟩
    rw [hk, List.take_succ_cons, List.drop_succ_cons]
    by_cases h9 : i = 9 ∧ 1 < b.toNat
    · rw [natAt_over h9, natAt_over h9]; rfl
    · by_cases hb : b.toNat < 128
      · by_cases h0 : b.toNat = 0 ∧ i ≠ 0
        · rw [natAt_long h9 hb h0, natAt_long h9 hb h0]; rfl
        · rw [natAt_last h9 hb h0, natAt_last h9 hb h0]
          simp
      · rw [natAt_more h9 (by omega), natAt_more h9 (by omega), natAt_take t (i + 1) _ (by omega), show 10 - (i + 1) = k by omega]
theorem natAt_on : ∀ (s : List UInt8) (i n : Nat), onB s = true → natAt i n s = none
  | [], _, _, _ => rfl
  | b :: t, i, n, h => by
    unfold onB at h
    rw [List.all_cons, Bool.and_eq_true, decide_eq_true_iff] at h
    by_cases h9 : i = 9 ∧ 1 < b.toNat
    · exact natAt_over h9
    · rw [natAt_more h9 h.1]
      exact natAt_on t (i + 1) _ h.2
theorem rdN_on {s : List UInt8} {bd : Bool} {most : Nat} (h : onB s = true) : rdN s bd most = (0, [], true) := by
  unfold rdN readNat
  rw [natAt_on s 0 0 h]
theorem rdN_ten (s : List UInt8) (x : Nat) (t : List UInt8) (b : Bool) (h : rdN s false 18446744073709551615 = (x, t, b)) :
    (b = true ∧ rdN (s.take 10) false 18446744073709551615 = (0, [], true)) ∨ (b = false ∧ ∃ t10, t = t10 ++ s.drop 10 ∧ rdN (s.take 10) false 18446744073709551615 = (x, t10, false)) := by
  have hn := natAt_take s 0 0 (by omega)
  rw [Nat.sub_zero] at hn
  unfold rdN readNat at h ⊢
  cases e : natAt 0 0 (s.take 10) with
  | none =>
    rw [e] at hn
    rw [hn] at h
    simp at h
    exact .inl ⟨h.2.2, rfl⟩
  | some p =>
    obtain ⟨m, u⟩ := p
    rw [e] at hn
    rw [hn] at h
    simp only [Option.map_some] at h ⊢
    by_cases hm : m ≤ 18446744073709551615
    · rw [if_pos hm] at h ⊢
      simp only at h ⊢
      injection h with h1 h2
      injection h2 with h2 h3
      exact .inr ⟨h3.symm, u, h2.symm, by rw [h1]⟩
    · rw [if_neg hm] at h ⊢
      simp only at h ⊢
      injection h with h1 h2
      injection h2 with h2 h3
      exact .inl ⟨h3.symm, by simp⟩
theorem lenF_bad {s : List UInt8} {x : Nat} {t : List UInt8} (h : rdN s false 18446744073709551615 = (x, t, true)) : lenF s = if s.length < 10 ∧ onB s = true then (0, 0, 31) else (0, 0, 20) := by
  rcases rdN_ten s x t true h with ⟨_, h10⟩ | ⟨h, _⟩
  · unfold lenF
    rw [h10]
    simp only [if_true]
    by_cases hl : s.length < 10
    · rw [List.take_of_length_le (by omega)]
    · rw [if_neg (by rw [List.length_take]; omega), if_neg (fun h => hl h.1)]
  · cases h
theorem lenF_good {s : List UInt8} {x : Nat} {t : List UInt8} (h : rdN s false 18446744073709551615 = (x, t, false)) : lenF s = if 65536 < x then (0, 0, 21) else (x, s.length - t.length, 0) := by
  rcases rdN_ten s x t false h with ⟨h, _⟩ | ⟨_, t10, ht, h10⟩
  · cases h
  · unfold lenF
    rw [h10]
    simp only [Bool.false_eq_true, if_false]
    have hl : (s.take 10).length - t10.length = s.length - t.length := by
      rw [ht, List.length_append, List.length_take, List.length_drop]
      have hb := readNat_strict (l := s.take 10) (bd := false) (most := 18446744073709551615) (by rw [h10])
      rw [h10] at hb
      simp only at hb
      rw [List.length_take] at hb
      omega
    rw [hl]
theorem rdN_split {s : List UInt8} {x : Nat} {t : List UInt8} (h : rdN s false 18446744073709551615 = (x, t, false)) : t = s.drop (s.length - t.length) ∧ t.length < s.length := by
  have hs := readNat_strict (l := s) (bd := false) (most := 18446744073709551615) (by rw [h])
  rw [h] at hs
  refine ⟨?_, hs⟩
  unfold rdN at h
  cases e : readNat s 18446744073709551615 with
  | none => rw [e] at h; simp at h
  | some p =>
    obtain ⟨m, u⟩ := p
    rw [e] at h
    simp only at h
    injection h with h1 h2
    injection h2 with h2 _
    subst h2
    have hsp := natB_readNat e
    have : s.length - u.length = (natB m).length := by rw [hsp]; simp
    rw [this]
    conv => rhs; rw [hsp]
    rw [List.drop_left]

theorem None1.taken {w : World} {l : List UInt8} {er : Nat} (h : (firstF l).er = er) (h0 : ¬ er = 0) {e : Ending} {w' : World} (hN : None1 w er e w') : Taken w l e w' := by
  obtain ⟨k1, k2, k3, _⟩ := firstF_bad (l := l) (by rw [h]; exact h0)
  have hp : parB l = [] := by unfold parB; rw [k2, k3]; rfl
  have hq : parN l = 0 := if_neg (by rw [h]; exact h0)
  unfold Taken
  rw [k1, hp, hq, h]
  exact ⟨none, 0, hN.1, ⟨rfl, .inl rfl⟩, hN.2.out, Nat.le_refl _, Nat.zero_le _⟩

theorem rTake_c (A : Option Addr) (n cap : Nat) (l : List UInt8) (w : World) (h : SlB w A n l) (hn : n ≤ 1000000) (hc : n ≤ cap) (hcap : cap ≤ maxLen) :
    Calls Try.prog 8 #[.slice A n cap] w (Taken w l) := by
  have hl := h.1
  by_cases h0 : l.length = 0
  · obtain rfl : n = 0 := by omega
    have he : (firstF l).er = 31 := by unfold firstF; rw [if_pos h0]
    exact (rTake_nil A cap w).mono fun e w' hN => hN.taken he (by omega)
  rcases h.2 with hx | ⟨b, off, rfl, hb, hcell⟩
  · omega
  have p0 : w.cell? ⟨b, off, none⟩ = some (.int .u8 ((l.getD 0 0).toNat : Int)) := hcell 0 (by omega)
  by_cases hz : (l.getD 0 0).toNat = 0
  · rw [hz] at p0
    have he : (firstF l).er = 20 := by unfold firstF; rw [if_neg h0, if_pos hz]
    exact (rTake_zero b off n cap w (by omega) p0).mono fun e w' hN => hN.taken he (by omega)
  have hF : firstF l = if ¬ (lenF (l.drop 1)).2.2 = 0 then ⟨0, 0, 0, (lenF (l.drop 1)).2.2⟩
      else if l.length < 1 + (lenF (l.drop 1)).2.1 + (lenF (l.drop 1)).1 + 4 then ⟨0, 0, 0, 31⟩
      else if four (sumN (l.take (1 + (lenF (l.drop 1)).2.1 + (lenF (l.drop 1)).1))) = (l.drop (1 + (lenF (l.drop 1)).2.1 + (lenF (l.drop 1)).1)).take 4 then ⟨(l.getD 0 0).toNat, 1 + (lenF (l.drop 1)).2.1, 1 + (lenF (l.drop 1)).2.1 + (lenF (l.drop 1)).1, 0⟩
      else ⟨0, 0, 0, 30⟩ := by
    unfold firstF
    rw [if_neg h0, if_neg hz]
  have hsl : (l.drop 1).length = n - 1 := by rw [List.length_drop, hl]
  cases hop : (decide (n < 11) && onB (l.drop 1))
  · obtain ⟨x, t, bd, hr⟩ : ∃ x t bd, rdN (l.drop 1) false 18446744073709551615 = (x, t, bd) := ⟨_, _, _, rfl⟩
    have hn1 : 1 < n := by
      rcases Nat.lt_or_ge 1 n with h | h
      · exact h
      · have e : l.drop 1 = [] := List.drop_of_length_le (by omega)
        rw [e, decide_eq_true (show n < 11 by omega)] at hop
        cases hop
    cases bd
    · have hL := lenF_good hr
      obtain ⟨hs1, hs2⟩ := rdN_split hr
      by_cases hx : 65536 < x
      · rw [if_pos hx] at hL
        rw [hL] at hF
        exact (rTake_long b off n cap _ l w hn1 hn hc hcap h p0 (by omega) hop x t hr hx).mono fun e w' hN => hN.taken (by rw [hF]; rfl) (by omega)
      · rw [if_neg hx] at hL
        rw [hL, hsl] at hF
        simp only [not_true, if_false] at hF
        rw [hsl] at hs2
        by_cases ht : t.length < x + 4
        · rw [if_pos (by omega)] at hF
          exact (rTake_torn b off n cap _ l w hn1 hn hc hcap h p0 (by omega) hop x t hr (by omega) ht).mono fun e w' hN => hN.taken (by rw [hF]) (by omega)
        · rw [if_neg (by omega)] at hF
          by_cases hq : four (sumN (l.take (1 + (n - 1 - t.length) + x))) = (l.drop (1 + (n - 1 - t.length) + x)).take 4
          · rw [if_pos hq] at hF
            refine (rTake_ok b off n cap _ l w hn1 hn hc hcap h p0 (by omega) hop x t hr (by omega) (by omega) (1 + (n - 1 - t.length) + x) (by omega) hq).mono fun e w' ⟨A, c, he, hw⟩ => ?_
            have hpB : parB l = t.take x := by
              unfold parB
              rw [hF]
              simp only
              rw [Nat.add_sub_cancel_left, show l.drop (1 + (n - 1 - t.length)) = t by rw [← List.drop_drop]; rw [hsl] at hs1; exact hs1.symm]
            have hpL : (parB l).length = x := by rw [hpB, List.length_take]; omega
            have hpN : parN l = 1 + (n - 1 - t.length) + x + 4 := by unfold parN; rw [hF]; simp
            unfold Taken
            rw [hpL, hpN, hpB, hF]
            exact ⟨A, c, he, hw⟩
          · rw [if_neg hq] at hF
            exact (rTake_sum b off n cap _ l w hn1 hn hc hcap h p0 (by omega) hop x t hr (by omega) (by omega) (1 + (n - 1 - t.length) + x) (by omega) hq).mono fun e w' hN => hN.taken (by rw [hF]) (by omega)
    · have hL := lenF_bad hr
      have hno : ¬ ((l.drop 1).length < 10 ∧ onB (l.drop 1) = true) := by
        rintro ⟨h1, h2⟩
        rw [h2, decide_eq_true (show n < 11 by omega)] at hop
        cases hop
      rw [if_neg hno] at hL
      rw [hL] at hF
      exact (rTake_bad b off n cap _ l w hn1 hn hc hcap h p0 (by omega) hop x t hr).mono fun e w' hN => hN.taken (by rw [hF]; rfl) (by omega)
  · rw [Bool.and_eq_true, decide_eq_true_iff] at hop
    have hL := lenF_bad (rdN_on (bd := false) (most := 18446744073709551615) hop.2)
    rw [if_pos ⟨by omega, hop.2⟩] at hL
    rw [hL] at hF
    exact (rTake_open b off n cap _ l w (by omega) hn hc hcap h p0 (by omega) (by rw [hop.2, decide_eq_true hop.1]; rfl)).mono fun e w' hN => hN.taken (by rw [hF]; rfl) (by omega)
end Go.Proofs.Ytgbbckjbpgojaaa
