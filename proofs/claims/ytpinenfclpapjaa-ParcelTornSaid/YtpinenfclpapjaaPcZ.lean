/- parcel: parcels one behind the other, cut off anywhere: plain. -/
import Derived.Test.YtpinenfclpapjaaPcY
import Derived.Test.YtpinenfclpapjaaPcL
namespace Go.Proofs.Ytpinenfclpapjaa
open Go.RowKit

theorem onB_cons (b : UInt8) (l : List UInt8) : onB (b :: l) = (decide (128 ≤ b.toNat) && onB l) := rfl
theorem onB_natB (n : Nat) : ∀ j, j < (natB n).length → onB ((natB n).take j) = true := by
  induction n using Nat.strongRecOn with
  | ind n ih =>
    intro j hj
    cases j with
    | zero => simp [onB]
    | succ j =>
      by_cases h : n < 128
      · rw [natB_small h] at hj
        simp at hj
      · have hb : 128 ≤ n := by omega
        rw [natB_big hb] at hj ⊢
        rw [List.length_cons] at hj
        rw [List.take_succ_cons, onB_cons, ih (n / 128) (by omega) j (by omega), Bool.and_true, decide_eq_true_eq]
        rw [ofNat_toNat (by omega)]
        omega
theorem lenF_cut (n : Nat) (hn : n ≤ 65536) (j : Nat) (hj : j < (natB n).length) : (lenF ((natB n).take j)).2.2 = 31 := by
  have h10 : (natB n).length ≤ 10 := natB_len10 (by omega)
  have hl : ((natB n).take j).length = j := by rw [List.length_take]; omega
  have ht : ((natB n).take j).take 10 = (natB n).take j := List.take_of_length_le (by omega)
  unfold lenF
  rw [ht, rdN_on (onB_natB n j hj), if_pos rfl, if_pos ⟨by omega, onB_natB n j hj⟩]

/-- A parcel cut off is torn. -/
theorem firstF_torn (kd : Nat) (h0 : 0 < kd) (h1 : kd < 256) (l : List UInt8) (hl : l.length ≤ 65536) (k : Nat) (hk : k < (wrapB kd l).length) : (firstF ((wrapB kd l).take k)).er = 31 := by
  have e0 : wrapB kd l = UInt8.ofNat kd :: (natB l.length ++ (l ++ four (sumN (headB kd l)))) := by
    unfold wrapB headB; simp
  have hlen : (wrapB kd l).length = 1 + (natB l.length).length + l.length + 4 := by
    rw [e0]; simp [four_len]; omega
  cases k with
  | zero => rfl
  | succ k =>
    have hL : ((wrapB kd l).take (k + 1)).length = k + 1 := by rw [List.length_take]; omega
    have ec : (wrapB kd l).take (k + 1) = UInt8.ofNat kd :: (natB l.length ++ (l ++ four (sumN (headB kd l)))).take k := by rw [e0, List.take_succ_cons]
    have hk1 : (((wrapB kd l).take (k + 1)).getD 0 0).toNat = kd := by
      rw [ec]; show (UInt8.ofNat kd).toNat = kd; exact ofNat_toNat h1
    have hd : ((wrapB kd l).take (k + 1)).drop 1 = (natB l.length ++ (l ++ four (sumN (headB kd l)))).take k := by rw [ec]; rfl
    unfold firstF
    rw [hd, hk1, hL, if_neg (by omega), if_neg (by omega)]
    by_cases hj : k < (natB l.length).length
    · rw [List.take_append_of_le_length (by omega)]
      have := lenF_cut l.length hl k hj
      rw [if_pos (by rw [this]; decide)]
      exact this
    · rw [List.take_append, List.take_of_length_le (by omega), lenF_natB _ hl]
      simp only
      rw [if_neg (by simp), if_pos (by omega)]

/-- What has no end to be told of before its own: a parcel. -/
structure Whole (p : List UInt8) : Prop where
  pos : 0 < p.length
  ok : ∀ t, (firstF (p ++ t)).er = 0 ∧ parN (p ++ t) = p.length
  torn : ∀ k, k < p.length → (firstF (p.take k)).er = 31
theorem whole_wrap (kd : Nat) (h0 : 0 < kd) (h1 : kd < 256) (l : List UInt8) (hl : l.length ≤ 65536) : Whole (wrapB kd l) := by
  refine ⟨by unfold wrapB; rw [List.length_append, four_len]; omega, fun t => ?_, fun k hk => firstF_torn kd h0 h1 l hl k hk⟩
  have hf := firstF_wrap kd h0 h1 l hl t
  exact ⟨by rw [hf], (parB_wrap kd h0 h1 l hl t).2⟩

theorem endN_whole {p : List UInt8} (h : Whole p) (t : List UInt8) : endN (p ++ t) = p.length + endN t := by
  unfold endN
  rw [sizes_yes (h.ok t).1, (h.ok t).2, List.sum_cons, List.drop_left]
theorem endN_torn {p : List UInt8} (h : Whole p) (k : Nat) (hk : k < p.length) : endN (p.take k) = 0 := by
  unfold endN
  rw [sizes_no (by rw [h.torn k hk]; decide)]
  rfl
theorem endEr_whole {p : List UInt8} (h : Whole p) (t : List UInt8) : endEr (p ++ t) = endEr t := by
  unfold endEr
  rw [endN_whole h, List.length_append, ← List.drop_drop, List.drop_left]
  by_cases e : endN t = t.length
  · rw [if_pos (by omega), if_pos e]
  · rw [if_neg (by omega), if_neg e]

/-- Where the whole ones end of those that are cut off at 'tt'. -/
def wantN : List (List UInt8) → Nat → Nat
  | [], _ => 0
  | p :: ps, tt => if p.length ≤ tt then p.length + wantN ps (tt - p.length) else 0
theorem end_cut : ∀ (ps : List (List UInt8)) (tt : Nat), (∀ p ∈ ps, Whole p) → tt ≤ ps.flatten.length →
    endN (ps.flatten.take tt) = wantN ps tt ∧ (endEr (ps.flatten.take tt) = if wantN ps tt = tt then 0 else 31)
  | [], tt, _, h => by
    have : tt = 0 := by simpa using h
    subst this
    exact ⟨rfl, rfl⟩
  | p :: ps, tt, hw, h => by
    have hp := hw p (by simp)
    rw [List.flatten_cons, List.length_append] at h
    unfold wantN
    by_cases hl : p.length ≤ tt
    · have ih := end_cut ps (tt - p.length) (fun q hq => hw q (by simp [hq])) (by omega)
      rw [if_pos hl, List.flatten_cons, List.take_append, List.take_of_length_le hl, endN_whole hp, endEr_whole hp, ih.1, ih.2]
      refine ⟨rfl, ?_⟩
      by_cases e : wantN ps (tt - p.length) = tt - p.length
      · rw [if_pos e, if_pos (by omega)]
      · rw [if_neg e, if_neg (by omega)]
    · rw [if_neg hl, List.flatten_cons, List.take_append_of_le_length (by omega)]
      refine ⟨endN_torn hp tt (by omega), ?_⟩
      unfold endEr
      rw [endN_torn hp tt (by omega), List.length_take]
      by_cases e : 0 = tt
      · rw [if_pos (by omega), if_pos e]
      · rw [if_neg (by omega), if_neg e, List.drop_zero, hp.torn tt (by omega)]

/-- The ends, as the law keeps them. -/
def endsF : Nat → List (List UInt8) → List Nat
  | _, [] => []
  | at0, p :: ps => (at0 + p.length) :: endsF (at0 + p.length) ps
theorem endsF_snoc : ∀ (ps : List (List UInt8)) (a : Nat) (p : List UInt8), endsF a (ps ++ [p]) = endsF a ps ++ [a + ps.flatten.length + p.length]
  | [], a, p => by simp [endsF]
  | q :: ps, a, p => by
    rw [List.cons_append]
    simp only [endsF]
    rw [endsF_snoc ps, List.cons_append, List.flatten_cons, List.length_append]
    congr 3
    omega
theorem endsF_far : ∀ (ps : List (List UInt8)) (a tt want : Nat), tt < a → (endsF a ps).foldl (fun w x => if x ≤ tt then x else w) want = want
  | [], _, _, _, _ => rfl
  | p :: ps, a, tt, want, h => by
    unfold endsF
    rw [List.foldl_cons, if_neg (by omega)]
    exact endsF_far ps _ _ _ (by omega)
theorem wantN_ends : ∀ (ps : List (List UInt8)) (a tt : Nat), a ≤ tt → (endsF a ps).foldl (fun w x => if x ≤ tt then x else w) a = a + wantN ps (tt - a)
  | [], a, tt, _ => rfl
  | p :: ps, a, tt, h => by
    unfold endsF wantN
    rw [List.foldl_cons]
    by_cases hl : a + p.length ≤ tt
    · rw [if_pos hl, if_pos (by omega), wantN_ends ps _ tt hl, Nat.add_assoc, ← Nat.sub_sub]
    · rw [if_neg hl, if_neg (by omega), endsF_far ps _ _ _ (by omega)]
      rfl
end Go.Proofs.Ytpinenfclpapjaa
