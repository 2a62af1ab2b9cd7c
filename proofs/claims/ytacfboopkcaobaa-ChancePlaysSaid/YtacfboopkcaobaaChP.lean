/- chance, in plain numbers: bytes from the front, a number of some bytes, one below another, one between two, a place by weights. -/
import Derived.Lib.Hide
import Derived.Lib.BitFns
namespace Go.Proofs.Ytacfboopkcaobaa

/-- Behind k bytes: the number that they are, the first the highest, and what is left. -/
def takeN (l : List UInt8) : Nat → Nat × List UInt8
  | 0 => (0, l)
  | k + 1 => ((takeN l k).1 * 256 + ((takeN l k).2.headD 0).toNat, (takeN l k).2.tail)
theorem takeN_lt (l : List UInt8) : ∀ k, (takeN l k).1 < 256 ^ k
  | 0 => by simp [takeN]
  | k + 1 => by
    have h := takeN_lt l k
    have h1 := ((takeN l k).2.headD 0).toNat_lt
    simp only [takeN, Nat.pow_succ]
    omega
theorem takeN_left (l : List UInt8) : ∀ k, (takeN l k).2 = l.drop k
  | 0 => rfl
  | k + 1 => by simp only [takeN]; rw [takeN_left l k]; simp
theorem takeN_64 (l : List UInt8) {k : Nat} (h : k ≤ 8) : (takeN l k).1 < 18446744073709551616 :=
  Nat.lt_of_lt_of_le (takeN_lt l k) (Nat.le_trans (Nat.pow_le_pow_right (by omega) h) (by decide))

/-- How many bytes a number has. -/
def digs : Nat → Nat
  | 0 => 0
  | n + 1 => digs ((n + 1) / 256) + 1
decreasing_by omega
theorem digs_zero : digs 0 = 0 := by rw [digs]
theorem digs_pos {n : Nat} (h : 0 < n) : digs n = digs (n / 256) + 1 := by
  cases n with
  | zero => omega
  | succ n => rw [digs]
theorem digs_le : ∀ (k n : Nat), n < 256 ^ k → digs n ≤ k
  | 0, n, h => by have : n = 0 := by simpa using h
                  rw [this, digs_zero]; exact Nat.le_refl _
  | k + 1, n, h => by
    by_cases h0 : n = 0
    · rw [h0, digs_zero]; omega
    · rw [digs_pos (by omega)]
      have := digs_le k (n / 256) (by rw [Nat.div_lt_iff_lt_mul (by omega)]; rw [Nat.pow_succ] at h; exact h)
      omega
theorem digs_8 {n : Nat} (h : n < 18446744073709551616) : digs n ≤ 8 := digs_le 8 n (by simpa using h)

theorem aux_fuel : ∀ (f x : Nat), x < 2 ^ f → Lib.bitLenAux (f + 1) x = Lib.bitLenAux f x
  | 0, x, h => by have : x = 0 := by simpa using h
                  subst this; rfl
  | f + 1, x, h => by
    rw [Lib.bitLenAux]
    by_cases h0 : x = 0
    · subst h0; simp [Lib.bitLenAux]
    · rw [if_neg h0, aux_fuel f (x / 2) (by rw [Nat.div_lt_iff_lt_mul (by omega)]; rw [Nat.pow_succ] at h; exact h)]
      rw [Lib.bitLenAux, if_neg h0]
theorem aux_more : ∀ (d f x : Nat), x < 2 ^ f → Lib.bitLenAux (f + d) x = Lib.bitLenAux f x
  | 0, _, _, _ => rfl
  | d + 1, f, x, h => by
    rw [← Nat.add_assoc, aux_fuel _ _ (Nat.lt_of_lt_of_le h (Nat.pow_le_pow_right (by omega) (by omega)))]
    exact aux_more d f x h
theorem aux_step {f x : Nat} (h : 0 < x) : Lib.bitLenAux (f + 1) x = 1 + Lib.bitLenAux f (x / 2) := by
  rw [Lib.bitLenAux, if_neg (by omega)]
theorem aux_eight {f x : Nat} (h : 256 ≤ x) : Lib.bitLenAux (f + 8) x = 8 + Lib.bitLenAux f (x / 256) := by
  rw [aux_step (f := f + 7) (by omega), aux_step (f := f + 6) (by omega), aux_step (f := f + 5) (by omega), aux_step (f := f + 4) (by omega), aux_step (f := f + 3) (by omega), aux_step (f := f + 2) (by omega),
    aux_step (f := f + 1) (by omega), aux_step (f := f) (by omega)]
  simp only [Nat.div_div_eq_div_mul, Nat.reduceMul]
  omega
theorem aux_small : ∀ (f x : Nat), 0 < x → x < 256 → 1 ≤ Lib.bitLenAux (f + 8) x ∧ Lib.bitLenAux (f + 8) x ≤ 8 := by
  intro f x h0 h1
  rw [Nat.add_comm, aux_more f 8 x (by omega)] <;> try rfl
  have key : ∀ y : Fin 256, 0 < y.val → 1 ≤ Lib.bitLenAux 8 y.val ∧ Lib.bitLenAux 8 y.val ≤ 8 := by decide +kernel
  exact key ⟨x, h1⟩ h0
theorem digs_aux : ∀ (k x : Nat), x < 256 ^ k → (Lib.bitLenAux (8 * k) x + 7) / 8 = digs x
  | 0, x, h => by have : x = 0 := by simpa using h
                  subst this; rw [digs_zero]; rfl
  | k + 1, x, h => by
    by_cases h0 : x = 0
    · subst h0
      rw [digs_zero]
      have : Lib.bitLenAux (8 * (k + 1)) 0 = 0 := by
        rw [show 8 * (k + 1) = (8 * k + 7) + 1 by omega, Lib.bitLenAux]; rfl
      rw [this]
    · rw [digs_pos (by omega), show 8 * (k + 1) = 8 * k + 8 by omega]
      by_cases h1 : x < 256
      · have := aux_small (8 * k) x (by omega) h1
        rw [Nat.div_eq_of_lt h1, digs_zero]
        omega
      · rw [aux_eight (by omega)]
        have := digs_aux k (x / 256) (by rw [Nat.div_lt_iff_lt_mul (by omega)]; rw [Nat.pow_succ] at h; exact h)
        omega
theorem digs_bits {x : Nat} (h : x < 18446744073709551616) : (Lib.bitLen x + 7) / 8 = digs x := digs_aux 8 x (by simpa using h)
theorem bitLen_le {x : Nat} (h : x < 18446744073709551616) : Lib.bitLen x ≤ 64 := by
  have h1 := digs_bits h
  have h2 := digs_8 h
  omega

/-- A number below another one, and what is left. -/
def belowN (l : List UInt8) (n : Nat) : Nat × List UInt8 := if n < 2 then (0, l) else ((takeN l (digs (n - 1))).1 % n, (takeN l (digs (n - 1))).2)
theorem belowN_lt (l : List UInt8) (n : Nat) : (belowN l n).1 < n ∨ (belowN l n).1 = 0 := by
  unfold belowN
  split
  · exact .inr rfl
  · exact .inl (Nat.mod_lt _ (by omega))

/-- A number between two others, and what is left. -/
def betweenN (l : List UInt8) (low high : Int) : Int × List UInt8 :=
  if high ≤ low then (low, l)
  else if high - low = 18446744073709551615 then (low + ((takeN l 8).1 : Int), (takeN l 8).2)
  else (low + ((belowN l ((high - low).toNat + 1)).1 : Int), (belowN l ((high - low).toNat + 1)).2)
theorem betweenN_in (l : List UInt8) {low high : Int} (h : low < high) (hw : high - low ≤ 18446744073709551615) : low ≤ (betweenN l low high).1 ∧ (betweenN l low high).1 ≤ high := by
  unfold betweenN
  rw [if_neg (by omega)]
  split
  · have := takeN_64 l (k := 8) (by omega)
    simp only
    omega
  · have := belowN_lt l ((high - low).toNat + 1)
    simp only
    omega
theorem betweenN_low (l : List UInt8) {low high : Int} (h : high ≤ low) : betweenN l low high = (low, l) := by unfold betweenN; rw [if_pos h]

/-- A weight that counts. -/
def wgt (x : Int) : Nat := min x.toNat 1000
/-- All weights together. -/
def sumW : List Int → Nat
  | [] => 0
  | x :: xs => wgt x + sumW xs
theorem sumW_append (a b : List Int) : sumW (a ++ b) = sumW a + sumW b := by
  induction a with
  | nil => simp [sumW]
  | cons x xs ih => simp only [List.cons_append, sumW, ih]; omega
theorem sumW_le (ws : List Int) : sumW ws ≤ 1000 * ws.length := by
  induction ws with
  | nil => simp [sumW]
  | cons x xs ih => simp only [sumW, List.length_cons]; unfold wgt; omega
theorem sumW_take {ws : List Int} {k : Nat} (h : k < ws.length) : sumW (ws.take (k + 1)) = sumW (ws.take k) + wgt (ws.getD k 0) := by
  rw [List.take_succ_eq_append_getElem h, sumW_append, List.getD_eq_getElem?_getD, List.getElem?_eq_getElem h]
  simp [sumW]
theorem sumW_take_le (ws : List Int) (k : Nat) : sumW (ws.take k) ≤ sumW ws := by
  have h := sumW_append (ws.take k) (ws.drop k)
  rw [List.take_append_drop] at h
  omega
/-- The first place, from k on, up to which the weights are more than x; else 0. -/
def pickAt (ws : List Int) (x : Nat) (k : Nat) : Nat :=
  if h : k < ws.length then (if x < sumW (ws.take (k + 1)) then k else pickAt ws x (k + 1)) else 0
termination_by ws.length - k
theorem pickAt_yes {ws : List Int} {x k : Nat} (h : k < ws.length) (hx : x < sumW (ws.take (k + 1))) : pickAt ws x k = k := by rw [pickAt, dif_pos h, if_pos hx]
theorem pickAt_no {ws : List Int} {x k : Nat} (h : k < ws.length) (hx : ¬ x < sumW (ws.take (k + 1))) : pickAt ws x k = pickAt ws x (k + 1) := by rw [pickAt, dif_pos h, if_neg hx]
theorem pickAt_end {ws : List Int} {x k : Nat} (h : ¬ k < ws.length) : pickAt ws x k = 0 := by rw [pickAt, dif_neg h]
/-- A place by weights, and what is left. -/
def pickN (l : List UInt8) (ws : List Int) : Nat × List UInt8 := (pickAt ws (belowN l (sumW ws)).1 0, (belowN l (sumW ws)).2)
theorem pickAt_zero {ws : List Int} (h : sumW ws = 0) (x : Nat) : ∀ (d k : Nat), ws.length - k = d → pickAt ws x k = 0 := by
  intro d
  induction d with
  | zero => intro k hk; exact pickAt_end (by omega)
  | succ d ih =>
    intro k hk
    rw [pickAt_no (by omega) (by have := sumW_take_le ws (k + 1); omega)]
    exact ih (k + 1) (by omega)
theorem pickN_zero {l : List UInt8} {ws : List Int} (h : sumW ws = 0) : pickN l ws = (0, l) := by
  unfold pickN
  rw [pickAt_zero h _ _ 0 rfl, h]
  rfl
theorem pickAt_in {ws : List Int} {x : Nat} (hx : x < sumW ws) : ∀ (d k : Nat), ws.length - k = d → sumW (ws.take k) ≤ x → pickAt ws x k < ws.length ∧ 0 < ws.getD (pickAt ws x k) 0 := by
  intro d
  induction d with
  | zero =>
    intro k hk hs
    rw [List.take_of_length_le (by omega)] at hs
    omega
  | succ d ih =>
    intro k hk hs
    by_cases h : x < sumW (ws.take (k + 1))
    · rw [pickAt_yes (by omega) h]
      refine ⟨by omega, ?_⟩
      rw [sumW_take (by omega)] at h
      have : 0 < wgt (ws.getD k 0) := by omega
      unfold wgt at this
      omega
    · rw [pickAt_no (by omega) h]
      exact ih (k + 1) (by omega) (by omega)
theorem sumW_any {ws : List Int} (h : ∃ x ∈ ws, 0 < x) : 0 < sumW ws := by
  induction ws with
  | nil => simp at h
  | cons y ys ih =>
    simp only [sumW]
    obtain ⟨x, hx, h0⟩ := h
    rcases List.mem_cons.1 hx with rfl | hx
    · unfold wgt; omega
    · have := ih ⟨x, hx, h0⟩; omega
theorem sumW_none {ws : List Int} (h : ∀ x ∈ ws, ¬ 0 < x) : sumW ws = 0 := by
  induction ws with
  | nil => rfl
  | cons y ys ih =>
    have := h y (by simp)
    simp only [sumW, ih (fun x hx => h x (by simp [hx]))]
    unfold wgt; omega
theorem pickN_in {l : List UInt8} {ws : List Int} (h : 0 < sumW ws) : (pickN l ws).1 < ws.length ∧ 0 < ws.getD (pickN l ws).1 0 := by
  unfold pickN
  refine pickAt_in ?_ _ 0 rfl (by simp [sumW])
  have := belowN_lt l (sumW ws)
  omega
end Go.Proofs.Ytacfboopkcaobaa
