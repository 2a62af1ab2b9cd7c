/- acks, in plain words: tables (cell 0: how many replicas, cell i + 1: the i-th one's set), lists of acks, and that both tell the same. -/
import Derived.Test.YthbocddkomhpoaaMem
namespace Go.Proofs.Ythbocddkomhpoaa
open Go.RowKit

abbrev Ta := Nat → Nat
def zA : Ta := fun _ => 0
def updA (z : Ta) (k v : Nat) : Ta := fun i => if i = k then v else z i
theorem updA_same (z : Ta) (k v : Nat) : updA z k v k = v := by unfold updA; rw [if_pos rfl]
theorem updA_other (z : Ta) (k v i : Nat) (h : i ≠ k) : updA z k v i = z i := by unfold updA; rw [if_neg h]
/-- A version's bit. -/
def bitN (v : Int) : Nat := if 1 ≤ v ∧ v ≤ 32 then 2 ^ (v.toNat - 1) else 0
theorem bitN_no {v : Int} (h : ¬ (1 ≤ v ∧ v ≤ 32)) : bitN v = 0 := by unfold bitN; rw [if_neg h]
theorem bitN_at {m : Nat} (h : m < 32) : bitN ((m : Int) + 1) = 2 ^ m := by
  unfold bitN
  rw [if_pos (by omega), show (((m : Int) + 1).toNat - 1) = m by omega]
theorem bitN_lt (v : Int) : bitN v < 4294967296 := by
  unfold bitN
  split
  · have : v.toNat - 1 ≤ 31 := by omega
    exact Nat.lt_of_le_of_lt (Nat.pow_le_pow_right (by omega) this) (by decide)
  · decide
theorem bitN_pos {v : Int} : bitN v ≠ 0 ↔ 1 ≤ v ∧ v ≤ 32 := by
  unfold bitN
  split
  · rename_i h
    have : 0 < 2 ^ (v.toNat - 1) := Nat.pow_pos (by omega)
    constructor
    · intro _; exact h
    · intro _; omega
  · rename_i h
    constructor
    · intro e; exact absurd rfl e
    · intro e; exact absurd e h
theorem bitN_test (v : Int) (k : Nat) : (bitN v).testBit k = decide (1 ≤ v ∧ v ≤ 32 ∧ (k : Int) + 1 = v) := by
  unfold bitN
  split
  · rename_i h
    rw [Nat.testBit_two_pow]
    rw [decide_eq_decide]
    omega
  · rename_i h
    rw [Nat.zero_testBit]
    symm
    rw [decide_eq_false_iff_not]
    rintro ⟨h1, h2, _⟩
    exact h ⟨h1, h2⟩
theorem test_none {x k : Nat} (hx : x < 4294967296) (hk : ¬ k < 32) : x.testBit k = false := by
  apply Nat.testBit_lt_two_pow
  refine Nat.lt_of_lt_of_le hx ?_
  rw [show 4294967296 = 2 ^ 32 by decide]
  exact Nat.pow_le_pow_right (by omega) (by omega)
def thereA (z : Ta) (r : Int) : Bool := decide (0 ≤ r ∧ r < (z 0 : Int))
def ofA (z : Ta) (r : Int) : Nat := if 0 ≤ r ∧ r < (z 0 : Int) then z (r.toNat + 1) else 0
def hasA (z : Ta) (r v : Int) : Bool := decide (ofA z r &&& bitN v ≠ 0)
def newA (n : Nat) : Ta := updA zA 0 n
def addA (z : Ta) (r v : Int) : Ta := updA z (r.toNat + 1) (z (r.toNat + 1) ||| bitN v)
def allA (z : Ta) (v : Int) : Bool := decide (0 < z 0 ∧ ∀ i : Nat, i < 7 → hasA z (i : Int) v = thereA z (i : Int))
def dropA (z : Ta) (v : Int) : Ta := fun k => if k = 0 then z 0 else z k &&& (18446744073709551615 - bitN v)
/-- A table that may be: at most seven, sets of at most 32 bits, behind the last one's none. -/
structure Tb (z : Ta) : Prop where
  n : z 0 ≤ 7
  lt : ∀ k, 1 ≤ k → z k < 4294967296
  none : ∀ k, z 0 < k → z k = 0
theorem Tb.zero : Tb zA := ⟨by decide, fun _ _ => by unfold zA; decide, fun _ _ => rfl⟩
theorem Tb.made {n : Nat} (h : n ≤ 7) : Tb (newA n) := by
  refine ⟨by unfold newA; rw [updA_same]; exact h, fun k hk => ?_, fun k hk => ?_⟩
  · unfold newA; rw [updA_other _ _ _ _ (by omega)]; unfold zA; decide
  · unfold newA at *; rw [updA_same] at hk; rw [updA_other _ _ _ _ (by omega)]; rfl
theorem Tb.put {z : Ta} (h : Tb z) {i x : Nat} (hi : i < z 0) (hx : x < 4294967296) : Tb (updA z (i + 1) x) := by
  refine ⟨by rw [updA_other _ _ _ _ (by omega)]; exact h.n, fun k hk => ?_, fun k hk => ?_⟩
  · by_cases e : k = i + 1
    · rw [e, updA_same]; exact hx
    · rw [updA_other _ _ _ _ e]; exact h.lt k hk
  · rw [updA_other _ _ _ _ (by omega)] at hk
    rw [updA_other _ _ _ _ (by omega)]; exact h.none k hk
theorem Tb.add {z : Ta} (h : Tb z) {r v : Int} (hr : 0 ≤ r ∧ r < (z 0 : Int)) : Tb (addA z r v) :=
  h.put (by omega) (Nat.or_lt_two_pow (n := 32) (h.lt _ (by omega)) (bitN_lt v))
theorem Tb.drop {z : Ta} (h : Tb z) (v : Int) : Tb (dropA z v) := by
  refine ⟨by unfold dropA; rw [if_pos rfl]; exact h.n, fun k hk => ?_, fun k hk => ?_⟩
  · unfold dropA; rw [if_neg (by omega)]; exact Nat.lt_of_le_of_lt Nat.and_le_left (h.lt k hk)
  · unfold dropA at *; rw [if_pos rfl] at hk; rw [if_neg (by omega), h.none k hk, Nat.zero_and]
theorem Tb.of_lt {z : Ta} (h : Tb z) (r : Int) : ofA z r < 4294967296 := by
  unfold ofA; split
  · exact h.lt _ (by omega)
  · decide

/-- The reference's: what was said. -/
abbrev Al := List (Int × Int)
def hasL (L : Al) (r v : Int) : Bool := decide ((r, v) ∈ L)
def sumL (L : Al) (r : Int) : Nat → Nat
  | 0 => 0
  | m + 1 => sumL L r m + (if hasL L r ((m : Int) + 1) then 2 ^ m else 0)
def ofL (L : Al) (r : Int) : Nat := sumL L r 32
theorem sumL_lt (L : Al) (r : Int) : ∀ m, sumL L r m < 2 ^ m
  | 0 => Nat.one_pos
  | m + 1 => by
    have := sumL_lt L r m
    unfold sumL
    rw [Nat.pow_succ]
    split <;> omega
theorem sumL_test (L : Al) (r : Int) : ∀ m k, (sumL L r m).testBit k = (decide (k < m) && hasL L r ((k : Int) + 1))
  | 0, k => by simp [sumL]
  | m + 1, k => by
    have ih := sumL_test L r m k
    have hlt := sumL_lt L r m
    unfold sumL
    split
    · rename_i hm
      rw [show sumL L r m + 2 ^ m = 2 ^ m * 1 + sumL L r m by omega, Nat.testBit_two_pow_mul_add 1 hlt k]
      split
      · rename_i hk
        rw [ih]
        simp [hk, Nat.lt_succ_of_lt hk]
      · rename_i hk
        by_cases e : k = m
        · subst e; simp [hm]
        · have : (1 : Nat).testBit (k - m) = false := by
            rw [show (1 : Nat) = 2 ^ 0 from rfl, Nat.testBit_two_pow]; simp; omega
          rw [this]
          simp; intro h; omega
    · rename_i hm
      rw [Nat.add_zero, ih]
      by_cases e : k = m
      · subst e; simp [hm]
      · have : (k < m + 1) = (k < m) := by rw [eq_iff_iff]; omega
        simp only [this]
theorem ofL_test (L : Al) (r : Int) (k : Nat) : (ofL L r).testBit k = (decide (k < 32) && hasL L r ((k : Int) + 1)) := sumL_test L r 32 k
theorem ofL_lt (L : Al) (r : Int) : ofL L r < 4294967296 := sumL_lt L r 32
/-- Acks of replicas below n, of versions. -/
def Alk (n : Nat) (L : Al) : Prop := ∀ x ∈ L, 0 ≤ x.1 ∧ x.1 < (n : Int) ∧ 1 ≤ x.2 ∧ x.2 ≤ 32
def allL (n : Nat) (L : Al) (v : Int) : Bool := decide (0 < n ∧ ∀ i : Nat, i < n → hasL L (i : Int) v = true)
def addL (L : Al) (r v : Int) : Al := L ++ [(r, v)]
def dropL (L : Al) (v : Int) : Al := L.filter fun x => decide (x.2 ≠ v)
theorem ofL_none {n : Nat} {L : Al} (h : Alk n L) {r : Int} (hr : ¬ (0 ≤ r ∧ r < (n : Int))) : ofL L r = 0 := by
  apply Nat.eq_of_testBit_eq
  intro k
  rw [ofL_test, Nat.zero_testBit]
  have : hasL L r ((k : Int) + 1) = false := by
    unfold hasL
    rw [decide_eq_false_iff_not]
    intro hm
    exact hr ⟨(h _ hm).1, (h _ hm).2.1⟩
  rw [this, Bool.and_false]
/-- A table and a list of acks tell the same. -/
structure Sm (z : Ta) (L : Al) : Prop where
  tb : Tb z
  al : Alk (z 0) L
  eq : ∀ i, i < z 0 → z (i + 1) = ofL L (i : Int)
theorem Sm.of {z : Ta} {L : Al} (h : Sm z L) (r : Int) : ofA z r = ofL L r := by
  unfold ofA
  split
  · rename_i hr
    have := h.eq r.toNat (by omega)
    rw [this]
    congr 1
    omega
  · rename_i hr
    exact (ofL_none h.al hr).symm
theorem and_bit {x : Nat} {m : Nat} : (x &&& 2 ^ m ≠ 0) ↔ x.testBit m = true := by
  constructor
  · intro h
    rcases Bool.eq_false_or_eq_true (x.testBit m) with e | e
    · exact e
    · exfalso
      apply h
      apply Nat.eq_of_testBit_eq
      intro k
      rw [Nat.testBit_and, Nat.testBit_two_pow, Nat.zero_testBit]
      by_cases hk : m = k
      · subst hk; rw [e, Bool.false_and]
      · rw [decide_eq_false hk, Bool.and_false]
  · intro h e
    have : (x &&& 2 ^ m).testBit m = true := by rw [Nat.testBit_and, h, Nat.testBit_two_pow_self]; rfl
    rw [e, Nat.zero_testBit] at this
    cases this
theorem Sm.has {z : Ta} {L : Al} (h : Sm z L) (r v : Int) : hasA z r v = hasL L r v := by
  unfold hasA
  rw [h.of]
  by_cases hv : 1 ≤ v ∧ v ≤ 32
  · obtain ⟨m, hm⟩ : ∃ m : Nat, v = (m : Int) + 1 := ⟨(v - 1).toNat, by omega⟩
    subst hm
    rw [bitN_at (by omega)]
    rw [show decide (ofL L r &&& 2 ^ m ≠ 0) = decide ((ofL L r).testBit m = true) from decide_eq_decide.2 and_bit]
    rw [ofL_test]
    simp
    intro hh; omega
  · rw [bitN_no hv, Nat.and_zero]
    have : hasL L r v = false := by
      unfold hasL
      rw [decide_eq_false_iff_not]
      intro hm
      exact hv (h.al _ hm).2.2
    rw [this]; rfl
theorem Sm.all {z : Ta} {L : Al} (h : Sm z L) (v : Int) : allA z v = allL (z 0) L v := by
  unfold allA allL
  rw [decide_eq_decide]
  constructor
  · rintro ⟨h0, h1⟩
    refine ⟨h0, fun i hi => ?_⟩
    rw [← h.has, h1 i (by have := h.tb.n; omega)]
    unfold thereA
    rw [decide_eq_true_iff]; omega
  · rintro ⟨h0, h1⟩
    refine ⟨h0, fun i hi => ?_⟩
    rw [h.has]
    unfold thereA
    by_cases hi2 : i < z 0
    · rw [h1 i hi2]; symm; rw [decide_eq_true_iff]; omega
    · have : hasL L (i : Int) v = false := by
        unfold hasL
        rw [decide_eq_false_iff_not]
        intro hm
        have := (h.al _ hm).2.1
        simp at this; omega
      rw [this]; symm; rw [decide_eq_false_iff_not]; omega
theorem Sm.made {n : Nat} (h : n ≤ 7) : Sm (newA n) [] := by
  refine ⟨Tb.made h, (fun x hx => by cases hx), fun i _ => ?_⟩
  unfold newA
  rw [updA_other _ _ _ _ (by omega)]
  apply Nat.eq_of_testBit_eq
  intro k
  rw [ofL_test]
  simp [hasL, zA]
theorem Sm.zero : Sm zA [] := ⟨Tb.zero, (fun x hx => by cases hx), fun i h => by simp [zA] at h⟩
theorem hasL_add (L : Al) (r v q u : Int) : hasL (addL L r v) q u = (hasL L q u || decide (q = r ∧ u = v)) := by
  unfold hasL addL
  simp [Bool.decide_or]
theorem Sm.add {z : Ta} {L : Al} (h : Sm z L) {r v : Int} (hr : 0 ≤ r ∧ r < (z 0 : Int)) (hv : 1 ≤ v ∧ v ≤ 32) : Sm (addA z r v) (addL L r v) := by
  have h0 : addA z r v 0 = z 0 := by unfold addA; rw [updA_other _ _ _ _ (by omega)]
  refine ⟨h.tb.add hr, ?_, ?_⟩
  · intro x hx
    rw [h0]
    unfold addL at hx
    rcases List.mem_append.1 hx with h1 | h1
    · exact h.al x h1
    · rw [List.mem_singleton.1 h1]; exact ⟨hr.1, hr.2, hv.1, hv.2⟩
  · intro i hi
    rw [h0] at hi
    apply Nat.eq_of_testBit_eq
    intro k
    rw [ofL_test, hasL_add]
    unfold addA
    by_cases e : i = r.toNat
    · subst e
      rw [updA_same, Nat.testBit_or, h.eq _ hi, ofL_test, bitN_test]
      rw [show ((r.toNat : Nat) : Int) = r by omega]
      by_cases ek : (k : Int) + 1 = v
      · rw [decide_eq_true (show 1 ≤ v ∧ v ≤ 32 ∧ (k : Int) + 1 = v from ⟨hv.1, hv.2, ek⟩), decide_eq_true (show k < 32 by omega), decide_eq_true (show r = r ∧ (k : Int) + 1 = v from ⟨rfl, ek⟩)]; simp
      · rw [decide_eq_false (show ¬ (1 ≤ v ∧ v ≤ 32 ∧ (k : Int) + 1 = v) from fun h => ek h.2.2), decide_eq_false (show ¬ (r = r ∧ (k : Int) + 1 = v) from fun h => ek h.2)]; simp
    · rw [updA_other _ _ _ _ (by omega), h.eq _ hi, ofL_test]
      have : decide ((i : Int) = r ∧ (k : Int) + 1 = v) = false := by rw [decide_eq_false_iff_not]; omega
      rw [this, Bool.or_false]
theorem hasL_drop (L : Al) (v q u : Int) : hasL (dropL L v) q u = (hasL L q u && decide (u ≠ v)) := by
  unfold hasL dropL
  simp [List.mem_filter, Bool.decide_and]
theorem andNot_test (x b k : Nat) (hx : x < 4294967296) (hb : b < 4294967296) : (x &&& (18446744073709551615 - b)).testBit k = (x.testBit k && !b.testBit k) := by
  rw [Nat.testBit_and]
  have : (18446744073709551615 - b) = 2 ^ 64 - (b + 1) := by omega
  rw [this, Nat.testBit_two_pow_sub_succ (by omega)]
  by_cases hk : k < 64
  · simp [hk]
  · simp [test_none hx (show ¬ k < 32 by omega)]
theorem Sm.drop {z : Ta} {L : Al} (h : Sm z L) (v : Int) : Sm (dropA z v) (dropL L v) := by
  have h0 : dropA z v 0 = z 0 := by unfold dropA; rw [if_pos rfl]
  refine ⟨h.tb.drop v, ?_, ?_⟩
  · intro x hx
    rw [h0]
    unfold dropL at hx
    exact h.al x (List.mem_filter.1 hx).1
  · intro i hi
    rw [h0] at hi
    apply Nat.eq_of_testBit_eq
    intro k
    rw [ofL_test, hasL_drop]
    unfold dropA
    rw [if_neg (by omega), andNot_test _ _ _ (h.tb.lt _ (by omega)) (bitN_lt v), h.eq _ hi, ofL_test, bitN_test]
    rcases Bool.eq_false_or_eq_true (hasL L (i : Int) ((k : Int) + 1)) with e1 | e1
    · simp only [e1, Bool.and_true, Bool.true_and]
      by_cases hk : k < 32
      · simp only [hk, decide_true, Bool.true_and]
        by_cases e : (k : Int) + 1 = v
        · simp [e]; omega
        · simp [e]
      · simp [hk]
    · simp [e1]

/-- The acks that a set's bits say, up to a version. -/
def bitsL (i : Int) (x : Nat) : Nat → Al
  | 0 => []
  | m + 1 => bitsL i x m ++ (if x / 2 ^ m % 2 = 1 then [(i, (m : Int) + 1)] else [])
theorem bitsL_mem (i : Int) (x : Nat) : ∀ m (y : Int × Int), y ∈ bitsL i x m ↔ ∃ k, k < m ∧ x.testBit k = true ∧ y = (i, (k : Int) + 1)
  | 0, y => by simp [bitsL]
  | m + 1, y => by
    have ih := bitsL_mem i x m y
    unfold bitsL
    rw [List.mem_append, ih]
    have ht : x.testBit m = decide (x / 2 ^ m % 2 = 1) := by rw [Nat.testBit_eq_decide_div_mod_eq]
    constructor
    · rintro (⟨k, h1, h2, h3⟩ | h)
      · exact ⟨k, by omega, h2, h3⟩
      · split at h
        · rename_i hb
          exact ⟨m, by omega, by rw [ht, decide_eq_true hb], List.mem_singleton.1 h⟩
        · cases h
    · rintro ⟨k, h1, h2, h3⟩
      by_cases e : k = m
      · subst e
        right
        rw [ht, decide_eq_true_iff] at h2
        rw [if_pos h2]
        exact List.mem_singleton.2 h3
      · exact .inl ⟨k, by omega, h2, h3⟩
/-- A table whose first i sets are read, and the list. -/
structure Sp (z : Ta) (i : Nat) (L : Al) : Prop where
  tb : Tb z
  le : i ≤ z 0
  al : Alk i L
  eq : ∀ j, j < i → z (j + 1) = ofL L (j : Int)
  rest : ∀ j, i ≤ j → z (j + 1) = 0
theorem Sp.next {z : Ta} {i : Nat} {L : Al} (h : Sp z i L) (hi : i < z 0) {x : Nat} (hx : x < 4294967296) : Sp (updA z (i + 1) x) (i + 1) (L ++ bitsL (i : Int) x 32) := by
  refine ⟨h.tb.put hi hx, by rw [updA_other _ _ _ _ (by omega)]; omega, ?_, ?_, ?_⟩
  · intro y hy
    rcases List.mem_append.1 hy with h1 | h1
    · have := h.al y h1; omega
    · obtain ⟨k, hk, _, rfl⟩ := (bitsL_mem _ _ _ _).1 h1
      simp; omega
  · intro j hj
    apply Nat.eq_of_testBit_eq
    intro k
    rw [ofL_test]
    by_cases e : j = i
    · subst e
      rw [updA_same]
      by_cases hk : k < 32
      · simp only [hk, decide_true, Bool.true_and]
        unfold hasL
        rw [Bool.eq_iff_iff, decide_eq_true_iff, List.mem_append]
        constructor
        · intro ht
          exact .inr ((bitsL_mem _ _ _ _).2 ⟨k, hk, ht, rfl⟩)
        · rintro (h1 | h1)
          · have := (h.al _ h1).2.1; simp at this
          · obtain ⟨k', _, ht, e⟩ := (bitsL_mem _ _ _ _).1 h1
            have e2 : (k : Int) + 1 = (k' : Int) + 1 := (Prod.mk.inj e).2
            obtain rfl : k = k' := by omega
            exact ht
      · simp only [hk, decide_false, Bool.false_and]
        exact test_none hx hk
    · rw [updA_other _ _ _ _ (by omega), h.eq j (by omega), ofL_test]
      congr 1
      unfold hasL
      rw [decide_eq_decide, List.mem_append]
      constructor
      · exact .inl
      · rintro (h1 | h1)
        · exact h1
        · obtain ⟨k', _, _, e'⟩ := (bitsL_mem _ _ _ _).1 h1
          have e2 : (j : Int) = (i : Int) := (Prod.mk.inj e').1
          omega
  · intro j hj
    rw [updA_other _ _ _ _ (by omega)]
    exact h.rest j (by omega)
theorem Sp.made {n : Nat} (h : n ≤ 7) : Sp (newA n) 0 [] :=
  ⟨Tb.made h, by omega, (fun x hx => by cases hx), fun j hj => by omega, fun j _ => by unfold newA; rw [updA_other _ _ _ _ (by omega)]; rfl⟩
theorem Sp.done {z : Ta} {L : Al} (h : Sp z (z 0) L) : Sm z L := ⟨h.tb, h.al, h.eq⟩
end Go.Proofs.Ythbocddkomhpoaa
