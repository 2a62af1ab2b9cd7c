/- grid, in plain numbers: a tick table; a price's row; the next prices; how many lie between. -/
import Derived.Test.YtpibkjldmmecpaaOrS
import Derived.Lib.Hide
namespace Go.Proofs.Ytpibkjldmmecpaa

/-- A row of a tick table. -/
structure Tk where
  f : Int
  s : Int
instance : Inhabited Tk := ⟨⟨0, 0⟩⟩
def F (t : List Tk) (i : Nat) : Int := (t.getD i ⟨0, 0⟩).f
def S (t : List Tk) (i : Nat) : Int := (t.getD i ⟨0, 0⟩).s
def lastI (t : List Tk) (i : Nat) : Int := if i = 0 then -1 else F t (i - 1)
def okI (t : List Tk) (i : Nat) : Prop := lastI t i < F t i ∧ F t i ≤ 1099511627776 ∧ 1 ≤ S t i ∧ S t i ≤ 1099511627776
instance (t : List Tk) (i : Nat) : Decidable (okI t i) := by unfold okI; exact inferInstance
/-- A table that may be. -/
def Good (t : List Tk) : Prop := 1 ≤ t.length ∧ t.length ≤ 8 ∧ F t 0 = 0 ∧ ∀ i, i < t.length → okI t i
instance (t : List Tk) : Decidable (Good t) := by unfold Good; exact inferInstance
def checkN (t : List Tk) : Int := if Good t then 0 else 43

theorem Good.sz {t : List Tk} (h : Good t) {i : Nat} (hi : i < t.length) : 1 ≤ S t i ∧ S t i ≤ 1099511627776 := (h.2.2.2 i hi).2.2
theorem Good.hi {t : List Tk} (h : Good t) {i : Nat} (hi : i < t.length) : F t i ≤ 1099511627776 := (h.2.2.2 i hi).2.1
theorem Good.inc {t : List Tk} (h : Good t) {i : Nat} (hi : i + 1 < t.length) : F t i < F t (i + 1) := by
  have := (h.2.2.2 (i + 1) hi).1
  simpa [lastI] using this
theorem Good.mono {t : List Tk} (h : Good t) : ∀ (d i : Nat), i + d + 1 < t.length → F t i < F t (i + d + 1)
  | 0, i, hi => h.inc hi
  | d + 1, i, hi => Int.lt_trans (h.mono d i (by omega)) (by have := h.inc (i := i + d + 1) (by omega); simpa [Nat.add_assoc] using this)
theorem Good.lt {t : List Tk} (h : Good t) {i j : Nat} (hij : i < j) (hj : j < t.length) : F t i < F t j := by
  obtain ⟨d, rfl⟩ : ∃ d, j = i + d + 1 := ⟨j - i - 1, by omega⟩
  exact h.mono d i hj
theorem Good.lo {t : List Tk} (h : Good t) {i : Nat} (hi : i < t.length) : (i : Int) ≤ F t i := by
  induction i with
  | zero => rw [h.2.2.1]; exact Int.le_refl _
  | succ i ih => have := ih (by omega); have := h.inc hi; omega

/-- May it be asked? -/
def May (t : List Tk) (p : Int) : Prop := Good t ∧ 1 ≤ p ∧ p ≤ 1099511627776
instance (t : List Tk) (p : Int) : Decidable (May t p) := by unfold May; exact inferInstance
/-- The first row, from i on, that begins above p; else the number of rows. -/
def behind (t : List Tk) (p : Int) (i : Nat) : Nat := if h : i < t.length then (if p < F t i then i else behind t p (i + 1)) else t.length
termination_by t.length - i
theorem behind_yes {t : List Tk} {p : Int} {i : Nat} (h : i < t.length) (hp : p < F t i) : behind t p i = i := by rw [behind, dif_pos h, if_pos hp]
theorem behind_no {t : List Tk} {p : Int} {i : Nat} (h : i < t.length) (hp : ¬ p < F t i) : behind t p i = behind t p (i + 1) := by rw [behind, dif_pos h, if_neg hp]
theorem behind_end {t : List Tk} {p : Int} {i : Nat} (h : ¬ i < t.length) : behind t p i = t.length := by rw [behind, dif_neg h]
theorem behind_spec {t : List Tk} {p : Int} : ∀ (d i : Nat), t.length - i = d → i ≤ t.length → (∀ j, j < i → F t j ≤ p) →
    i ≤ behind t p i ∧ behind t p i ≤ t.length ∧ (∀ j, j < behind t p i → F t j ≤ p) ∧ (behind t p i < t.length → p < F t (behind t p i))
  | 0, i, hd, hi, h => by
    rw [behind_end (by omega)]
    exact ⟨by omega, Nat.le_refl _, fun j hj => h j (by omega), fun h => absurd h (Nat.lt_irrefl _)⟩
  | d + 1, i, hd, hi, h => by
    by_cases hp : p < F t i
    · rw [behind_yes (by omega) hp]
      exact ⟨Nat.le_refl _, by omega, h, fun _ => hp⟩
    · rw [behind_no (by omega) hp]
      have := behind_spec (t := t) (p := p) d (i + 1) (by omega) (by omega) (fun j hj => by
        by_cases e : j = i
        · rw [e]; omega
        · exact h j (by omega))
      exact ⟨by omega, this.2⟩
/-- A price's row. -/
def ri (t : List Tk) (p : Int) : Nat := behind t p 0 - 1
theorem May.row {t : List Tk} {p : Int} (h : May t p) : behind t p 0 = ri t p + 1 ∧ ri t p < t.length ∧ F t (ri t p) ≤ p ∧ (ri t p + 1 < t.length → p < F t (ri t p + 1)) := by
  obtain ⟨hg, h1, h2⟩ := h
  obtain ⟨_, b, c, d⟩ := behind_spec (t := t) (p := p) _ 0 rfl (Nat.zero_le _) (fun j hj => absurd hj (Nat.not_lt_zero _))
  have h0 : 0 < behind t p 0 := by
    rcases Nat.eq_zero_or_pos (behind t p 0) with e | e
    · rw [e] at d
      have := d hg.1
      rw [hg.2.2.1] at this
      omega
    · exact e
  unfold ri
  have e : behind t p 0 - 1 + 1 = behind t p 0 := by omega
  rw [e]
  exact ⟨rfl, by omega, c _ (by omega), d⟩
/-- A row that has a price is its row. -/
theorem ri_eq {t : List Tk} {p : Int} {i : Nat} (h : May t p) (hi : i < t.length) (h1 : F t i ≤ p) (h2 : i + 1 < t.length → p < F t (i + 1)) : ri t p = i := by
  obtain ⟨_, b, c, d⟩ := h.row
  rcases Nat.lt_trichotomy (ri t p) i with e | e | e
  · exfalso
    have h3 := d (by omega)
    by_cases e2 : ri t p + 1 = i
    · rw [e2] at h3; omega
    · have := h.1.lt (i := ri t p + 1) (j := i) (by omega) hi
      omega
  · exact e
  · exfalso
    have h3 := h2 (by omega)
    by_cases e2 : i + 1 = ri t p
    · rw [← e2] at c; omega
    · have := h.1.lt (i := i + 1) (j := ri t p) (by omega) b
      omega

def sizeN (t : List Tk) (p : Int) : Int := if May t p then S t (ri t p) else 0
def onN (t : List Tk) (p : Int) : Bool := if May t p then decide ((p - F t (ri t p)) % S t (ri t p) = 0) else false
def dn (t : List Tk) (p : Int) : Int := p - (p - F t (ri t p)) % S t (ri t p)
def downN (t : List Tk) (p : Int) : Int := if May t p then dn t p else 0
def downB (t : List Tk) (p : Int) : Bool := if May t p then decide (0 < dn t p) else false
/-- The first number behind a row. -/
def endN (t : List Tk) (i : Nat) : Int := if i + 1 < t.length then F t (i + 1) else 1099511627777
def up (t : List Tk) (p : Int) : Int := min (if 0 < (p - F t (ri t p)) % S t (ri t p) then p + (S t (ri t p) - (p - F t (ri t p)) % S t (ri t p)) else p) (endN t (ri t p))
def upB (t : List Tk) (p : Int) : Bool := if May t p then decide (up t p ≤ 1099511627776) else false
def upN (t : List Tk) (p : Int) : Int := if May t p then (if up t p ≤ 1099511627776 then up t p else 0) else 0

/-- How many prices of a row are not above top. -/
def cN (t : List Tk) (top : Int) (i : Nat) : Int := if F t i ≤ min top (endN t i - 1) then (min top (endN t i - 1) - F t i) / S t i + 1 else 0
def upS (t : List Tk) (top : Int) : Nat → Int
  | 0 => -1
  | k + 1 => upS t top k + cN t top k
def countN (t : List Tk) (low high : Int) : Int := if May t low ∧ May t high ∧ low ≤ high then upS t high t.length - upS t (low - 1) t.length else 0

theorem Good.row {t : List Tk} (h : Good t) {i : Nat} (hi : i < t.length) : 0 ≤ F t i ∧ F t i < endN t i ∧ endN t i ≤ 1099511627777 := by
  have h1 := h.lo hi
  have h2 := h.hi hi
  unfold endN
  split
  · have := h.inc (i := i) (by assumption)
    have := h.hi (i := i + 1) (by assumption)
    omega
  · omega
theorem cN_bound {t : List Tk} (h : Good t) {i : Nat} (hi : i < t.length) (top : Int) : 0 ≤ cN t top i ∧ cN t top i ≤ 1099511627777 := by
  have hr := h.row hi
  have hs := h.sz hi
  unfold cN
  split
  · have h0 : 0 ≤ min top (endN t i - 1) - F t i := by omega
    have h1 := Int.ediv_nonneg (b := S t i) h0 (by omega)
    have h2 : (min top (endN t i - 1) - F t i) / S t i ≤ min top (endN t i - 1) - F t i := Int.ediv_le_self _ h0
    omega
  · omega
theorem upS_bound {t : List Tk} (h : Good t) (top : Int) : ∀ k, k ≤ t.length → -1 ≤ upS t top k ∧ upS t top k ≤ 1099511627777 * k
  | 0, _ => by simp [upS]
  | k + 1, hk => by
    have h1 := upS_bound h top k (by omega)
    have h2 := cN_bound h (i := k) (by omega) top
    simp only [upS]
    omega
theorem upS_same {t : List Tk} {x y : Int} : ∀ k, (∀ i, i < k → endN t i - 1 ≤ x ∧ endN t i - 1 ≤ y) → upS t x k = upS t y k
  | 0, _ => rfl
  | k + 1, h => by
    have h1 := h k (by omega)
    simp only [upS]
    rw [upS_same k (fun i hi => h i (by omega))]
    unfold cN
    rw [Int.min_eq_right h1.1, Int.min_eq_right h1.2]
theorem upS_above {t : List Tk} {x : Int} {k : Nat} : ∀ d, (∀ i, k ≤ i → i < k + d → x < F t i) → upS t x (k + d) = upS t x k
  | 0, _ => rfl
  | d + 1, h => by
    rw [← Nat.add_assoc, upS, upS_above d (fun i h1 h2 => h i h1 (by omega))]
    have := h (k + d) (by omega) (by omega)
    unfold cN
    rw [if_neg (by omega)]
    omega
/-- Within a row, and right ahead of it. -/
theorem upS_row {t : List Tk} (h : Good t) {r : Nat} (hr : r < t.length) {x : Int} (h0 : F t r - 1 ≤ x) (h1 : x < endN t r) :
    upS t x t.length = upS t (F t r - 1) r + if F t r ≤ x then (x - F t r) / S t r + 1 else 0 := by
  obtain ⟨d, hd⟩ : ∃ d, t.length = r + 1 + d := ⟨t.length - r - 1, by omega⟩
  rw [hd, upS_above d, upS, upS_same (y := F t r - 1) r]
  · congr 1
    unfold cN
    rw [Int.min_eq_left (by omega)]
  · intro i hi
    have e : endN t i ≤ F t r := by
      unfold endN
      rw [if_pos (by omega)]
      by_cases e : i + 1 = r
      · rw [e]; exact Int.le_refl _
      · exact Int.le_of_lt (h.lt (by omega) hr)
    omega
  · intro i h2 h3
    have e : endN t r ≤ F t i := by
      unfold endN
      rw [if_pos (by omega)]
      by_cases e : r + 1 = i
      · rw [e]; exact Int.le_refl _
      · exact Int.le_of_lt (h.lt (by omega) (by omega))
    omega
theorem endN_row {t : List Tk} {p : Int} (h : May t p) : p < endN t (ri t p) := by
  obtain ⟨_, _, _, d⟩ := h.row
  unfold endN
  split
  · exact d (by assumption)
  · have := h.2.2; omega

theorem mod_bd {a b : Int} (hb : 1 ≤ b) : 0 ≤ a % b ∧ a % b < b := ⟨Int.emod_nonneg _ (by omega), Int.emod_lt_of_pos _ (by omega)⟩
theorem mod_le {a b : Int} (hb : 1 ≤ b) (ha : 0 ≤ a) : a % b ≤ a := by
  have h1 := Int.mul_ediv_add_emod a b
  have h2 := Int.mul_nonneg (a := b) (b := a / b) (by omega) (Int.ediv_nonneg ha (by omega))
  omega
theorem div_step {x s : Int} (hs : 1 ≤ s) : x / s = (x - 1) / s + if x % s = 0 then 1 else 0 := by
  have h1 := Int.mul_ediv_add_emod x s
  have h2 := Int.mul_ediv_add_emod (x - 1) s
  have b1 := mod_bd (a := x) hs
  have b2 := mod_bd (a := x - 1) hs
  obtain ⟨q, hq⟩ : ∃ q, q = x / s := ⟨_, rfl⟩
  obtain ⟨m, hm⟩ : ∃ m, m = x % s := ⟨_, rfl⟩
  rw [← hq, ← hm] at h1 ⊢
  rw [← hm] at b1
  split
  · rename_i h0
    have e : x - 1 = (s - 1) + s * (q - 1) := by rw [Int.mul_sub, Int.mul_one]; omega
    rw [e, Int.add_mul_ediv_left _ _ (by omega), Int.ediv_eq_zero_of_lt (by omega) (by omega)]
    omega
  · have e : x - 1 = (m - 1) + s * q := by omega
    rw [e, Int.add_mul_ediv_left _ _ (by omega), Int.ediv_eq_zero_of_lt (by omega) (by omega)]
    omega
theorem div_flat {a d s : Int} (hs : 1 ≤ s) (ha : a % s = 0) (h0 : 0 ≤ d) (h1 : d < s) : (a + d) / s = a / s := by
  have h2 := Int.mul_ediv_add_emod a s
  have e : a + d = d + s * (a / s) := by omega
  rw [e, Int.add_mul_ediv_left _ _ (by omega), Int.ediv_eq_zero_of_lt h0 h1]
  omega
/-- A price more, on the grid or not. -/
theorem upS_step {t : List Tk} {p : Int} (h : May t p) : upS t p t.length = upS t (p - 1) t.length + if onN t p = true then 1 else 0 := by
  obtain ⟨a, b, c, d⟩ := h.row
  have he := endN_row h
  have hs := h.1.sz b
  rw [upS_row h.1 b (x := p) (by omega) he, upS_row h.1 b (x := p - 1) (by omega) (by omega), if_pos c]
  unfold onN
  rw [if_pos h]
  by_cases e : F t (ri t p) ≤ p - 1
  · rw [if_pos e]
    have := div_step (x := p - F t (ri t p)) hs.1
    rw [show p - 1 - F t (ri t p) = p - F t (ri t p) - 1 by omega]
    rw [this]
    by_cases e2 : (p - F t (ri t p)) % S t (ri t p) = 0
    · simp only [e2, if_true, decide_true]; omega
    · simp only [e2, if_false, decide_false]; simp
  · rw [if_neg e]
    have e3 : p - F t (ri t p) = 0 := by omega
    rw [e3]
    simp

/-- The reference's count of a row's prices. -/
def rC (t : List Tk) (lo hi : Int) (i : Nat) : Int :=
  if min hi (endN t i - 1) < max lo (F t i) then 0
  else if (max lo (F t i) - F t i + S t i - 1) / S t i ≤ (min hi (endN t i - 1) - F t i) / S t i then (min hi (endN t i - 1) - F t i) / S t i - (max lo (F t i) - F t i + S t i - 1) / S t i + 1 else 0
def rS (t : List Tk) (lo hi : Int) : Nat → Int
  | 0 => 0
  | k + 1 => rS t lo hi k + rC t lo hi k
theorem div_up {x s : Int} (hs : 1 ≤ s) : (x + s - 1) / s = (x - 1) / s + 1 := by
  rw [show x + s - 1 = (x - 1) + s * 1 by omega, Int.add_mul_ediv_left _ _ (by omega)]
theorem rC_eq {t : List Tk} (h : Good t) {i : Nat} (hi : i < t.length) {lo high : Int} (hl : lo ≤ high) : rC t lo high i = cN t high i - cN t (lo - 1) i := by
  have hr := h.row hi
  have hs := (h.sz hi).1
  unfold rC cN
  clear h hi
  generalize F t i = f at *
  generalize S t i = s at *
  generalize endN t i = e0 at *
  generalize e0 - 1 = e at *
  by_cases h1 : min high e < max lo f
  · rw [if_pos h1]
    by_cases h2 : f ≤ min high e
    · rw [if_pos h2]
      have h3 : min (lo - 1) e = min high e := by omega
      rw [h3, if_pos h2]; omega
    · rw [if_neg h2, if_neg (by omega)]; rfl
  · rw [if_neg h1]
    have h2 : f ≤ min high e := by omega
    rw [if_pos h2]
    by_cases h4 : lo ≤ f
    · rw [if_neg (show ¬ f ≤ min (lo - 1) e by omega), show max lo f = f by omega, show f - f + s - 1 = s - 1 by omega, Int.ediv_eq_zero_of_lt (by omega) (by omega)]
      have := Int.ediv_nonneg (a := min high e - f) (b := s) (by omega) (by omega)
      rw [if_pos this]; omega
    · rw [show max lo f = lo by omega, if_pos (show f ≤ min (lo - 1) e by omega), show min (lo - 1) e = lo - 1 by omega, div_up hs, show lo - f - 1 = lo - 1 - f by omega]
      have : (lo - 1 - f) / s ≤ (min high e - f) / s := Int.ediv_le_ediv (by omega) (by omega)
      split <;> omega
theorem rC_zero {t : List Tk} {i : Nat} {lo high : Int} (hl : high < lo) : rC t lo high i = 0 := by
  unfold rC; rw [if_pos (by omega)]
theorem rS_eq {t : List Tk} (h : Good t) {lo high : Int} (hl : lo ≤ high) : ∀ k, k ≤ t.length → rS t lo high k = upS t high k - upS t (lo - 1) k
  | 0, _ => by simp [rS, upS]
  | k + 1, hk => by simp only [rS, upS]; rw [rS_eq h hl k (by omega), rC_eq h (by omega) hl]; omega
theorem rS_zero {t : List Tk} {lo high : Int} (hl : high < lo) : ∀ k, rS t lo high k = 0
  | 0 => rfl
  | k + 1 => by simp only [rS]; rw [rS_zero hl k, rC_zero hl]; rfl
theorem count_ref (t : List Tk) (lo high : Int) : countN t lo high = if May t lo ∧ May t high then rS t lo high t.length else 0 := by
  unfold countN
  by_cases h : May t lo ∧ May t high
  · rw [if_pos h]
    by_cases hl : lo ≤ high
    · rw [if_pos ⟨h.1, h.2, hl⟩, rS_eq h.1.1 hl _ (Nat.le_refl _)]
    · rw [if_neg (fun x => hl x.2.2), rS_zero (by omega)]
  · rw [if_neg h, if_neg (fun x => h ⟨x.1, x.2.1⟩)]
theorem count_bound {t : List Tk} {lo high : Int} : -10995116277780 ≤ countN t lo high ∧ countN t lo high ≤ 10995116277780 := by
  unfold countN
  split
  · rename_i h
    have h1 := upS_bound h.1.1 high _ (Nat.le_refl _)
    have h2 := upS_bound h.1.1 (lo - 1) _ (Nat.le_refl _)
    have := h.1.1.2.1
    omega
  · omega
theorem count_side (t : List Tk) {lo mid high : Int} (h0 : 1 ≤ lo) (h1 : lo ≤ mid) (h2 : mid < high) (h3 : high ≤ 1099511627776) : countN t lo mid + countN t (mid + 1) high = countN t lo high := by
  unfold countN
  by_cases hg : Good t
  · have m1 : May t lo := ⟨hg, by omega, by omega⟩
    have m2 : May t mid := ⟨hg, by omega, by omega⟩
    have m3 : May t (mid + 1) := ⟨hg, by omega, by omega⟩
    have m4 : May t high := ⟨hg, by omega, by omega⟩
    rw [if_pos ⟨m1, m2, h1⟩, if_pos ⟨m3, m4, by omega⟩, if_pos ⟨m1, m4, by omega⟩, show mid + 1 - 1 = mid by omega]
    omega
  · rw [if_neg (fun x => hg x.1.1), if_neg (fun x => hg x.1.1), if_neg (fun x => hg x.1.1)]; rfl

theorem near_on {t : List Tk} {p : Int} (h : onN t p = true) : May t p ∧ dn t p = p ∧ up t p = p ∧ countN t p p = 1 := by
  have hm : May t p := by
    unfold onN at h
    by_cases hm : May t p
    · exact hm
    · rw [if_neg hm] at h; cases h
  have h2 := h
  unfold onN at h2
  rw [if_pos hm] at h2
  have h3 : (p - F t (ri t p)) % S t (ri t p) = 0 := of_decide_eq_true h2
  have he := endN_row hm
  refine ⟨hm, ?_, ?_, ?_⟩
  · unfold dn; rw [h3]; omega
  · unfold up; rw [h3, if_neg (by omega)]; omega
  · unfold countN
    rw [if_pos ⟨hm, hm, Int.le_refl _⟩, upS_step hm, h]
    simp; omega
theorem near_dn {t : List Tk} {p : Int} (hm : May t p) (h : onN t p = false) (h0 : 0 < dn t p) : dn t p < p ∧ onN t (dn t p) = true ∧ ri t (dn t p) = ri t p ∧ May t (dn t p) := by
  obtain ⟨a, b, c, d⟩ := hm.row
  have hs := hm.1.sz b
  unfold onN at h
  rw [if_pos hm] at h
  have h3 := of_decide_eq_false h
  have hb := mod_bd (a := p - F t (ri t p)) hs.1
  have hlt : dn t p < p := by unfold dn; omega
  have hge : F t (ri t p) ≤ dn t p := by
    have : (p - F t (ri t p)) % S t (ri t p) ≤ p - F t (ri t p) := mod_le hs.1 (by omega)
    unfold dn; omega
  have hm2 : May t (dn t p) := ⟨hm.1, by omega, by have := hm.2.2; omega⟩
  have hri := ri_eq hm2 b hge (fun h => by have := d h; omega)
  refine ⟨hlt, ?_, hri, hm2⟩
  unfold onN
  rw [if_pos hm2, hri]
  unfold dn
  rw [show p - (p - F t (ri t p)) % S t (ri t p) - F t (ri t p) = (p - F t (ri t p)) - (p - F t (ri t p)) % S t (ri t p) by omega]
  simp
theorem near_up {t : List Tk} {p : Int} (hm : May t p) (h : onN t p = false) (h0 : up t p ≤ 1099511627776) : p < up t p ∧ onN t (up t p) = true ∧ May t (up t p) := by
  obtain ⟨a, b, c, d⟩ := hm.row
  have hs := hm.1.sz b
  unfold onN at h
  rw [if_pos hm] at h
  have h3 := of_decide_eq_false h
  have hb := mod_bd (a := p - F t (ri t p)) hs.1
  have he := endN_row hm
  obtain ⟨m, hmm⟩ : ∃ m, m = (p - F t (ri t p)) % S t (ri t p) := ⟨_, rfl⟩
  have hu : up t p = min (p + (S t (ri t p) - m)) (endN t (ri t p)) := by unfold up; rw [← hmm, if_pos (by omega)]
  have hlt : p < up t p := by omega
  have hm2 : May t (up t p) := ⟨hm.1, by have := hm.2.1; omega, h0⟩
  refine ⟨hlt, ?_, hm2⟩
  by_cases e : p + (S t (ri t p) - m) < endN t (ri t p)
  · have e1 : up t p = p + (S t (ri t p) - m) := by omega
    have hri : ri t (up t p) = ri t p := ri_eq hm2 b (by omega) (fun h => by rw [e1]; unfold endN at e; rw [if_pos h] at e; exact e)
    unfold onN
    rw [if_pos hm2, hri, e1, show p + (S t (ri t p) - m) - F t (ri t p) = (p - F t (ri t p)) - m + S t (ri t p) by omega, hmm]
    simp
  · have e1 : up t p = endN t (ri t p) := by omega
    have hlen : ri t p + 1 < t.length := by
      rcases Nat.lt_or_ge (ri t p + 1) t.length with h | h
      · exact h
      · unfold endN at e1; rw [if_neg (by omega)] at e1; omega
    have e2 : up t p = F t (ri t p + 1) := by rw [e1]; unfold endN; rw [if_pos hlen]
    have hri : ri t (up t p) = ri t p + 1 := ri_eq hm2 hlen (by omega) (fun h => by rw [e2]; exact hm.1.inc h)
    unfold onN
    rw [if_pos hm2, hri, e2, Int.sub_self]
    simp
theorem near_off {t : List Tk} {p : Int} (hm : May t p) (h : onN t p = false) (h0 : 0 < dn t p) (h1 : up t p ≤ 1099511627776) : countN t (dn t p) (up t p) = 2 := by
  obtain ⟨d1, d2, d3, d4⟩ := near_dn hm h h0
  obtain ⟨u1, u2, u3⟩ := near_up hm h h1
  obtain ⟨a, b, c, d⟩ := hm.row
  have hs := hm.1.sz b
  have he := endN_row hm
  unfold countN
  rw [if_pos ⟨d4, u3, by omega⟩, upS_step u3, u2]
  have hd := upS_step d4
  rw [d2] at hd
  have hge : F t (ri t p) ≤ dn t p := by have := d4.row.2.2.1; rw [d3] at this; exact this
  have hu : up t p ≤ endN t (ri t p) := by unfold up; omega
  have hb := mod_bd (a := p - F t (ri t p)) hs.1
  have hu2 : up t p ≤ dn t p + S t (ri t p) := by
    unfold up dn
    split <;> omega
  have hdon : (dn t p - F t (ri t p)) % S t (ri t p) = 0 := by
    unfold onN at d2; rw [if_pos d4, d3] at d2; exact of_decide_eq_true d2
  have hflat : upS t (up t p - 1) t.length = upS t (dn t p) t.length := by
    rw [upS_row hm.1 b (by omega) (show up t p - 1 < endN t (ri t p) by omega), upS_row hm.1 b (by omega) (show dn t p < endN t (ri t p) by omega), if_pos (by omega), if_pos hge]
    have := div_flat (d := up t p - 1 - dn t p) hs.1 hdon (by omega) (by omega)
    rw [show dn t p - F t (ri t p) + (up t p - 1 - dn t p) = up t p - 1 - F t (ri t p) by omega] at this
    rw [this]
  rw [hflat, hd]
  simp; omega
end Go.Proofs.Ytpibkjldmmecpaa
