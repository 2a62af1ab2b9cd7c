/- Rows of 136 bits and a sign, as cells; what their bits are; plain arithmetic of bits. No program. -/
import Derived.Test.YthpgbghcmfjjoaaRows
import Derived.WalkKit
import Derived.Lib.Hide
namespace Go.Proofs.Ythpgbghcmfjjoaa
open Go.RowKit

def NCf (f : Nat → Bool) (s : Bool) : Array Value := ((List.range 136).map (fun i => Value.bool (f i)) ++ [Value.bool s]).toArray
theorem NCf_size (f : Nat → Bool) (s : Bool) : (NCf f s).size = 137 := by simp [NCf]
theorem NCf_get (f : Nat → Bool) (s : Bool) (i : Nat) (h : i < 136) : (NCf f s)[i]? = some (.bool (f i)) := by
  unfold NCf
  rw [List.getElem?_toArray, List.getElem?_append_left (by simpa using h)]
  simp [h]
theorem NCf_sign (f : Nat → Bool) (s : Bool) : (NCf f s)[136]? = some (.bool s) := by
  unfold NCf
  rw [List.getElem?_toArray, List.getElem?_append_right (by simp)]
  simp
theorem NCf_ext {x y : Array Value} (hx : x.size = 137) (hy : y.size = 137) (h : ∀ i, i < 136 → x[i]? = y[i]?) (hs : x[136]? = y[136]?) : x = y := by
  apply Array.ext_getElem?
  intro j
  by_cases h1 : j < 136
  · exact h j h1
  · by_cases h2 : j = 136
    · subst h2; exact hs
    · rw [Array.getElem?_eq_none (by omega), Array.getElem?_eq_none (by omega)]
theorem NCf_set (f : Nat → Bool) (s : Bool) (i : Nat) (v : Bool) (h : i < 136) : (NCf f s).setIfInBounds i (.bool v) = NCf (fun j => if j = i then v else f j) s := by
  apply NCf_ext (by simp [NCf_size]) (NCf_size _ _)
  · intro j hj
    rw [Array.getElem?_setIfInBounds, NCf_size, NCf_get _ _ _ hj, NCf_get _ _ _ hj]
    by_cases e : i = j
    · subst e; rw [if_pos rfl, if_pos (by omega), if_pos rfl]
    · rw [if_neg e, if_neg (fun e' => e e'.symm)]
  · rw [Array.getElem?_setIfInBounds, NCf_size, NCf_sign, NCf_sign, if_neg (by omega)]
theorem NCf_setSign (f : Nat → Bool) (s t : Bool) : (NCf f s).setIfInBounds 136 (.bool t) = NCf f t := by
  apply NCf_ext (by simp [NCf_size]) (NCf_size _ _)
  · intro j hj
    rw [Array.getElem?_setIfInBounds, NCf_get _ _ _ hj, NCf_get _ _ _ hj, if_neg (by omega)]
  · rw [Array.getElem?_setIfInBounds, NCf_size, NCf_sign, if_pos rfl, if_pos (by omega), NCf_sign]
theorem NCf_one (f : Nat → Bool) (s : Bool) : (NCf f s).all (·.oneCell') = true := by
  rw [Array.all_eq_true_iff_forall_mem]
  intro v hv
  simp [NCf] at hv
  rcases hv with ⟨i, _, rfl⟩ | rfl <;> rfl
theorem NCf_congr (f g : Nat → Bool) (s : Bool) (h : ∀ i, i < 136 → f i = g i) : NCf f s = NCf g s := by
  unfold NCf; congr 2; apply List.map_congr_left; intro i hi; rw [h i (by simpa using hi)]

/-- The bits of m, and a sign. -/
def NC (m : Nat) (s : Bool) : Array Value := NCf m.testBit s
theorem NC_get (m : Nat) (s : Bool) (i : Nat) (h : i < 136) : (NC m s)[i]? = some (.bool (m.testBit i)) := NCf_get _ _ _ h
theorem NC_sign (m : Nat) (s : Bool) : (NC m s)[136]? = some (.bool s) := NCf_sign _ _
theorem NC_size (m : Nat) (s : Bool) : (NC m s).size = 137 := NCf_size _ _
theorem NC_one (m : Nat) (s : Bool) : (NC m s).all (·.oneCell') = true := NCf_one _ _
theorem NC_setSign (m : Nat) (s t : Bool) : (NC m s).setIfInBounds 136 (.bool t) = NC m t := NCf_setSign _ _ _
/-! ### Bits -/
theorem bit_eq (m i : Nat) : m.testBit i = decide (m / 2 ^ i % 2 = 1) := by rw [Nat.testBit_eq_decide_div_mod_eq]
/-- The bits below the place i. -/
theorem low_succ (m i : Nat) : m % 2 ^ (i + 1) = m % 2 ^ i + 2 ^ i * (if m.testBit i then 1 else 0) := by
  rw [Nat.pow_succ, Nat.mod_mul, bit_eq]
  have : m / 2 ^ i % 2 = 0 ∨ m / 2 ^ i % 2 = 1 := by omega
  rcases this with h | h <;> simp [h]
theorem zero_of_bits (m : Nat) (hm : m < 2 ^ 136) : m = 0 ↔ ∀ i, i < 136 → m.testBit i = false := by
  constructor
  · rintro rfl i _; simp
  · intro h
    apply Nat.eq_of_testBit_eq
    intro i
    by_cases hi : i < 136
    · rw [h i hi]; simp
    · rw [Nat.testBit_lt_two_pow (Nat.lt_of_lt_of_le hm (Nat.pow_le_pow_right (by omega) (by omega)))]; simp
/-- The carry into the place k. -/
def carry (a b k : Nat) : Bool := decide (2 ^ k ≤ a % 2 ^ k + b % 2 ^ k)
theorem carry_zero (a b : Nat) : carry a b 0 = false := by simp [carry, Nat.mod_one]
theorem add_step (a b k : Nat) : (a + b).testBit k = (a.testBit k ^^ b.testBit k ^^ carry a b k) ∧
    carry a b (k + 1) = (a.testBit k && b.testBit k || a.testBit k && carry a b k || b.testBit k && carry a b k) := by
  have hp : 0 < 2 ^ k := Nat.two_pow_pos k
  have ha := Nat.mod_lt a hp
  have hb := Nat.mod_lt b hp
  have e : (a + b) / 2 ^ k = a / 2 ^ k + b / 2 ^ k + if 2 ^ k ≤ a % 2 ^ k + b % 2 ^ k then 1 else 0 := Nat.add_div hp
  constructor
  · rw [bit_eq, bit_eq a, bit_eq b, e, carry]
    generalize a / 2 ^ k = x
    generalize b / 2 ^ k = y
    have hx : x % 2 = 0 ∨ x % 2 = 1 := by omega
    have hy : y % 2 = 0 ∨ y % 2 = 1 := by omega
    by_cases hc : 2 ^ k ≤ a % 2 ^ k + b % 2 ^ k <;> rcases hx with hx | hx <;> rcases hy with hy | hy <;> simp [hc, hx, hy] <;> omega
  · unfold carry
    rw [low_succ a k, low_succ b k, Nat.pow_succ]
    generalize a % 2 ^ k = x at *
    generalize b % 2 ^ k = y at *
    generalize 2 ^ k = p at *
    cases a.testBit k <;> cases b.testBit k <;> simp <;> omega
/-- The bits below k alone. -/
def below (f : Nat → Bool) (k : Nat) : Nat → Bool := fun j => decide (j < k) && f j
theorem NCf_below_set (f : Nat → Bool) (s : Bool) (k : Nat) (v : Bool) (h : k < 136) (hv : v = f k) :
    (NCf (below f k) s).setIfInBounds k (.bool v) = NCf (below f (k + 1)) s := by
  subst hv
  rw [NCf_set _ _ _ _ h]
  apply NCf_congr
  intro j _
  unfold below
  by_cases e : j = k
  · subst e; simp
  · rw [if_neg e]
    by_cases h1 : j < k
    · simp [h1, show j < k + 1 by omega]
    · simp [h1, show ¬ j < k + 1 by omega]
theorem NCf_below_zero (f : Nat → Bool) (s : Bool) : NCf (below f 0) s = NC 0 s := by
  apply NCf_congr; intro j _; simp [below]
theorem NCf_below_all (m : Nat) (s : Bool) : NCf (below m.testBit 136) s = NC m s := by
  apply NCf_congr; intro j hj; simp [below, hj]
/-- The borrow from the place k. -/
theorem sub_step (a b k : Nat) (h : b ≤ a) : (a - b).testBit k = (a.testBit k ^^ b.testBit k ^^ carry b (a - b) k) ∧
    carry b (a - b) (k + 1) = (!a.testBit k && b.testBit k || !a.testBit k && carry b (a - b) k || b.testBit k && carry b (a - b) k) := by
  have ⟨h1, h2⟩ := add_step b (a - b) k
  rw [show b + (a - b) = a by omega] at h1
  rw [h2, h1]
  cases b.testBit k <;> cases (a - b).testBit k <;> cases carry b (a - b) k <;> simp
def b2i : Bool → Int | true => 1 | false => 0

/-! From the top down. -/
theorem div_succ (a j : Nat) : a / 2 ^ (j + 1) = a / 2 ^ j / 2 := by rw [Nat.pow_succ, Nat.div_div_eq_div_mul]
theorem top_step (a b j : Nat) (h : a / 2 ^ (j + 1) = b / 2 ^ (j + 1)) :
    (a.testBit j = b.testBit j → a / 2 ^ j = b / 2 ^ j) ∧ (a.testBit j ≠ b.testBit j → (a < b ↔ b.testBit j = true)) := by
  rw [div_succ, div_succ] at h
  rw [bit_eq, bit_eq]
  have hp : 0 < 2 ^ j := Nat.two_pow_pos j
  constructor
  · intro e
    simp only [decide_eq_decide] at e
    omega
  · intro e
    simp only [ne_eq, decide_eq_decide, decide_eq_true_eq] at e ⊢
    constructor
    · intro hl
      have := Nat.div_le_div_right (c := 2 ^ j) (Nat.le_of_lt hl)
      omega
    · intro hb
      have h1 : a / 2 ^ j < b / 2 ^ j := by omega
      rcases Nat.lt_or_ge a b with h2 | h2
      · exact h2
      · have := Nat.div_le_div_right (c := 2 ^ j) h2; omega
theorem top_start (a b : Nat) (ha : a < 2 ^ 136) (hb : b < 2 ^ 136) : a / 2 ^ 136 = b / 2 ^ 136 := by
  rw [Nat.div_eq_of_lt ha, Nat.div_eq_of_lt hb]
/-! One place up. -/
def up (f : Nat → Bool) (k : Nat) : Nat → Bool := fun j => if k < j then f (j - 1) else f j
theorem up_set (f : Nat → Bool) (s : Bool) (k : Nat) (hk : k + 1 < 136) (v : Bool) (hv : v = f k) : (NCf (up f (k + 1)) s).setIfInBounds (k + 1) (.bool v) = NCf (up f k) s := by
  subst hv
  rw [NCf_set _ _ _ _ hk]
  apply NCf_congr
  intro j _
  unfold up
  by_cases e : j = k + 1
  · subst e; simp
  · rw [if_neg e]
    by_cases h1 : k + 1 < j
    · rw [if_pos h1, if_pos (by omega)]
    · rw [if_neg h1, if_neg (by omega)]
theorem up_start (m : Nat) (s : Bool) : NCf (up m.testBit 135) s = NC m s := by
  apply NCf_congr; intro j hj; simp [up, show ¬ 135 < j by omega]
theorem two_bit (m j : Nat) : (2 * m).testBit j = if j = 0 then false else m.testBit (j - 1) := by
  cases j with
  | zero => simp
  | succ j => simp [bit_eq, div_succ, show 2 * m / 2 ^ j / 2 = m / 2 ^ j by rw [← div_succ, Nat.pow_succ, Nat.mul_comm (2 ^ j) 2, Nat.mul_div_mul_left _ _ (by omega)]]
theorem up_end (m : Nat) (s : Bool) : (NCf (up m.testBit 0) s).setIfInBounds 0 (.bool false) = NC (2 * m) s := by
  rw [NCf_set _ _ _ _ (by omega)]
  apply NCf_congr
  intro j _
  rw [two_bit]
  by_cases e : j = 0
  · simp [e]
  · rw [if_neg e, if_neg e]; simp [up, show 0 < j by omega]
theorem setBit0 (m : Nat) (s v : Bool) : (NC (2 * m) s).setIfInBounds 0 (.bool v) = NC (2 * m + if v then 1 else 0) s := by
  unfold NC
  rw [NCf_set _ _ _ _ (by omega)]
  apply NCf_congr
  intro j _
  by_cases e : j = 0
  · subst e; cases v <;> simp [bit_eq] <;> omega
  · rw [if_neg e, bit_eq, bit_eq]
    obtain ⟨i, rfl⟩ : ∃ i, j = i + 1 := ⟨j - 1, by omega⟩
    have hp : 2 ^ (i + 1) = 2 * 2 ^ i := by rw [Nat.pow_succ, Nat.mul_comm]
    rw [hp, ← Nat.div_div_eq_div_mul, ← Nat.div_div_eq_div_mul]
    have : 2 * m / 2 = (2 * m + if v = true then 1 else 0) / 2 := by cases v <;> simp <;> omega
    rw [this]
theorem of_all (m : Nat) (s : Bool) (h : m < 2 ^ 64) : NCf (below m.testBit 64) s = NC m s := by
  apply NCf_congr
  intro j _
  unfold below
  by_cases e : j < 64
  · simp [e]
  · rw [Nat.testBit_lt_two_pow (Nat.lt_of_lt_of_le h (Nat.pow_le_pow_right (by omega) (by omega)))]; simp
attribute [irreducible] NCf NC
/-- A number of 64 bits, with its sign. -/
def InR (x : Int) : Prop := -9223372036854775808 ≤ x ∧ x ≤ 9223372036854775807
/-- What is told of a whole number: it, or ErrBig. -/
def tv (x : Int) : Int := if -9223372036854775808 ≤ x ∧ x ≤ 9223372036854775807 then x else 0
def te (x : Int) : Int := if -9223372036854775808 ≤ x ∧ x ≤ 9223372036854775807 then 0 else 10
theorem tv_in {x : Int} (h : InR x) : tv x = x := if_pos h
theorem te_in {x : Int} (h : InR x) : te x = 0 := if_pos h
theorem tv_out {x : Int} (h : ¬ InR x) : tv x = 0 := if_neg h
theorem te_out {x : Int} (h : ¬ InR x) : te x = 10 := if_neg h
theorem ret_bool {a b : Bool} (h : a = b) : Ending.returned (.bool a) = .returned (.bool b) := by rw [h]
theorem heap_last {w : World} {o : Obj} {n : Nat} (h : n = w.heap.size) : (w.alloc o).heap[n]? = some o := by subst h; exact heap_alloc_new w o
theorem heap_prev {w : World} {o p : Obj} {n : Nat} (h : n < w.heap.size) (hp : w.heap[n]? = some p) : (w.alloc o).heap[n]? = some p := (heap_alloc_old (w := w) (o := o) h).trans hp
theorem drew_heap {w : World} {g : Nat} {p : Obj} (h : w.heap[g]? = some p) : w.drew.heap[g]? = some p := h
theorem cell_heap {w : World} {g j : Nat} {cs : Array Value} {t : TypeId} {v : Value} (h : w.heap[g]? = some (.cells cs t (0, 0))) (hv : cs[j]? = some v) : w.cell? ⟨g, j, none⟩ = some v := by
  rw [cell_of_row w g j cs t (0, 0) h]; exact hv
end Go.Proofs.Ythpgbghcmfjjoaa
