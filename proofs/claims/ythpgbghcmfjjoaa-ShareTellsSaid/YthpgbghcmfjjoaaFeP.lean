/- limits and fees, in plain numbers: bands, lots; a fee table; what is rounded. -/
import Derived.Lib.Hide
namespace Go.Proofs.Ythpgbghcmfjjoaa

/-- A number by a million, rounded. -/
def milN (p : Nat) (round : Int) : Nat :=
  p / 1000000 + (if p % 1000000 = 0 then 0 else if round = 2 then 1 else if round = 1 then 0 else if 1000000 < 2 * (p % 1000000) ∨ (2 * (p % 1000000) = 1000000 ∧ p / 1000000 % 2 = 1) then 1 else 0)
theorem milN_lo (p : Nat) (round : Int) : p / 1000000 ≤ milN p round ∧ milN p round ≤ (p + 999999) / 1000000 := by
  unfold milN
  split
  · omega
  · split
    · omega
    · split
      · omega
      · split <;> omega
theorem milN_mono {p q : Nat} (h : p ≤ q) (round : Int) : milN p round ≤ milN q round := by
  have h1 := milN_lo p round
  have h2 := milN_lo q round
  by_cases hq : p / 1000000 < q / 1000000
  · omega
  · have he : p / 1000000 = q / 1000000 := by omega
    have hr : p % 1000000 ≤ q % 1000000 := by omega
    unfold milN
    rw [he]
    generalize q / 1000000 = k at *
    generalize p % 1000000 = a at *
    generalize q % 1000000 = b at *
    by_cases ha : a = 0
    · rw [if_pos ha]; omega
    · rw [if_neg ha, if_neg (show ¬ b = 0 by omega)]
      by_cases c2 : round = 2
      · rw [if_pos c2, if_pos c2]; omega
      · rw [if_neg c2, if_neg c2]
        by_cases c1 : round = 1
        · rw [if_pos c1, if_pos c1]; omega
        · rw [if_neg c1, if_neg c1]
          split <;> split <;> omega

/-- May a band not be asked, of any price? -/
def WrongL (last band : Int) : Prop := last < 0 ∨ 1099511627776 < last ∨ band < 0 ∨ 1000000 < band
instance (last band : Int) : Decidable (WrongL last band) := by unfold WrongL; exact inferInstance
def lotN (lot qty : Int) : Int := if lot < 1 ∨ 1099511627776 < lot then 2 else if qty < 1 ∨ 1099511627776 < qty ∨ ¬ qty % lot = 0 then 41 else 0
def trimN (lot qty : Int) : Int := if lot < 1 ∨ qty < 1 then 0 else qty / lot * lot
def bandN (last price band : Int) : Int := if WrongL last band ∨ price < 1 ∨ 1099511627776 < price then 2 else if last = 0 ∨ band = 0 then 0 else if last * band < (price - last) * 1000000 ∨ last * band < (last - price) * 1000000 then 42 else 0
def wayN (last band : Int) : Int := last * band / 1000000
def lowN (last band : Int) : Int := if WrongL last band then 0 else if last = 0 ∨ band = 0 then 1 else max (last - wayN last band) 1
def highN (last band : Int) : Int := if WrongL last band then 0 else if last = 0 ∨ band = 0 then 1099511627776 else min (last + wayN last band) 1099511627776

theorem way_bd {last band : Int} (h : ¬ WrongL last band) : 0 ≤ wayN last band ∧ wayN last band ≤ last ∧ 0 ≤ last * band ∧ last * band ≤ 1099511627776000000 := by
  unfold WrongL at h
  have h0 : 0 ≤ last * band := Int.mul_nonneg (by omega) (by omega)
  have h1 : last * band ≤ last * 1000000 := Int.mul_le_mul_of_nonneg_left (by omega) (by omega)
  unfold wayN
  generalize last * band = p at *
  omega
theorem way_iff {last band : Int} (d : Int) : last * band < d * 1000000 ↔ wayN last band < d := by
  unfold wayN
  generalize last * band = p at *
  omega
theorem high_zero {last band : Int} : highN last band = 0 ↔ WrongL last band := by
  unfold highN
  by_cases h : WrongL last band
  · simp [h]
  · rw [if_neg h]
    simp only [h, iff_false]
    have := way_bd h
    split
    · omega
    · unfold WrongL at h; omega
/-- A price is within the band just if it is not beyond one of its edges. -/
theorem band_edges {last price band : Int} (h : ¬ WrongL last band) (h1 : 1 ≤ price) (h2 : price ≤ 1099511627776) : (bandN last price band = 0 ↔ lowN last band ≤ price ∧ price ≤ highN last band) := by
  have hw := way_bd h
  unfold bandN lowN highN
  rw [if_neg (fun hx : WrongL last band ∨ price < 1 ∨ 1099511627776 < price => hx.elim h (by omega)), if_neg h, if_neg h]
  by_cases h0 : last = 0 ∨ band = 0
  · rw [if_pos h0, if_pos h0, if_pos h0]; omega
  · rw [if_neg h0, if_neg h0, if_neg h0]
    have e1 := way_iff (last := last) (band := band) (price - last)
    have e2 := way_iff (last := last) (band := band) (last - price)
    split <;> omega

theorem trim_bd {lot qty : Int} (h1 : 1 ≤ lot) (h2 : 1 ≤ qty) : 0 ≤ trimN lot qty ∧ trimN lot qty ≤ qty ∧ trimN lot qty % lot = 0 ∧ qty - trimN lot qty < lot ∧ trimN lot qty = qty - qty % lot := by
  unfold trimN
  rw [if_neg (by omega)]
  have e := Int.mul_ediv_add_emod qty lot
  have e1 := Int.emod_nonneg qty (show lot ≠ 0 by omega)
  have e2 := Int.emod_lt_of_pos qty (show 0 < lot by omega)
  have e3 : 0 ≤ qty / lot * lot := Int.mul_nonneg (Int.ediv_nonneg (by omega) (by omega)) (by omega)
  have e4 : qty / lot * lot % lot = 0 := Int.mul_emod_left _ _
  rw [Int.mul_comm] at e
  generalize qty / lot * lot = x at *
  generalize qty % lot = y at *
  omega

/-- A row of a fee table. -/
structure Ti where
  f : Int
  m : Int
  k : Int
instance : Inhabited Ti := ⟨⟨0, 0, 0⟩⟩
def TF (t : List Ti) (i : Nat) : Int := (t.getD i ⟨0, 0, 0⟩).f
def TM (t : List Ti) (i : Nat) : Int := (t.getD i ⟨0, 0, 0⟩).m
def TK (t : List Ti) (i : Nat) : Int := (t.getD i ⟨0, 0, 0⟩).k
def lastT (t : List Ti) (i : Nat) : Int := if i = 0 then -1 else TF t (i - 1)
def okT (t : List Ti) (i : Nat) : Prop := lastT t i < TF t i ∧ TF t i ≤ 4611686018427387904 ∧ 0 ≤ TM t i ∧ TM t i ≤ 100000 ∧ 0 ≤ TK t i ∧ TK t i ≤ 100000
instance (t : List Ti) (i : Nat) : Decidable (okT t i) := by unfold okT; exact inferInstance
def GoodT (t : List Ti) : Prop := 1 ≤ t.length ∧ t.length ≤ 8 ∧ TF t 0 = 0 ∧ ∀ i, i < t.length → okT t i
instance (t : List Ti) : Decidable (GoodT t) := by unfold GoodT; exact inferInstance
def checkT (t : List Ti) : Int := if GoodT t then 0 else 43
theorem GoodT.inc {t : List Ti} (h : GoodT t) {i : Nat} (hi : i + 1 < t.length) : TF t i < TF t (i + 1) := by
  have := (h.2.2.2 (i + 1) hi).1
  simpa [lastT] using this
theorem GoodT.mono {t : List Ti} (h : GoodT t) : ∀ (d i : Nat), i + d + 1 < t.length → TF t i < TF t (i + d + 1)
  | 0, i, hi => h.inc hi
  | d + 1, i, hi => Int.lt_trans (h.mono d i (by omega)) (by have := h.inc (i := i + d + 1) (by omega); simpa [Nat.add_assoc] using this)
theorem GoodT.lt {t : List Ti} (h : GoodT t) {i j : Nat} (hij : i < j) (hj : j < t.length) : TF t i < TF t j := by
  obtain ⟨d, rfl⟩ : ∃ d, j = i + d + 1 := ⟨j - i - 1, by omega⟩
  exact h.mono d i hj
theorem GoodT.nn {t : List Ti} (h : GoodT t) {i : Nat} (hi : i < t.length) : 0 ≤ TF t i := by
  rcases Nat.eq_zero_or_pos i with rfl | h0
  · rw [h.2.2.1]; exact Int.le_refl _
  · have := h.lt h0 hi; rw [h.2.2.1] at this; omega

/-- How many rows, of the first n, stand ahead of a volume's last one, this one among them: the last row from which on volumes go that are not more; 0: none. -/
def upto (t : List Ti) (v : Int) : Nat → Nat
  | 0 => 0
  | n + 1 => if TF t n ≤ v then n + 1 else upto t v n
theorem upto_le (t : List Ti) (v : Int) : ∀ n, upto t v n ≤ n
  | 0 => Nat.le_refl _
  | n + 1 => by
    unfold upto
    split
    · exact Nat.le_refl _
    · exact Nat.le_trans (upto_le t v n) (Nat.le_succ n)
theorem upto_yes {t : List Ti} {v : Int} {n : Nat} (h : TF t n ≤ v) : upto t v (n + 1) = n + 1 := by rw [upto, if_pos h]
theorem upto_no {t : List Ti} {v : Int} {n : Nat} (h : ¬ TF t n ≤ v) : upto t v (n + 1) = upto t v n := by rw [upto, if_neg h]
theorem upto_neg {t : List Ti} (h : GoodT t) {v : Int} (hv : v < 0) : ∀ n, n ≤ t.length → upto t v n = 0
  | 0, _ => rfl
  | n + 1, hn => by
    have := h.nn (i := n) (by omega)
    rw [upto_no (by omega)]
    exact upto_neg h hv n (by omega)
/-- A volume's row. -/
def rowT (t : List Ti) (v : Int) : Ti := if GoodT t then (match upto t v t.length with | 0 => ⟨0, 0, 0⟩ | n + 1 => t.getD n ⟨0, 0, 0⟩) else ⟨0, 0, 0⟩
/-- The greatest part of the first n rows. -/
def topS (t : List Ti) : Nat → Int
  | 0 => 0
  | n + 1 => max (max (topS t n) (TM t n)) (TK t n)
def topT (t : List Ti) : Int := if GoodT t then topS t t.length else 0
theorem topS_bd {t : List Ti} (h : GoodT t) : ∀ n, n ≤ t.length → 0 ≤ topS t n ∧ topS t n ≤ 100000
  | 0, _ => by unfold topS; omega
  | n + 1, hn => by
    have := topS_bd h n (by omega)
    obtain ⟨_, _, a, b, c, d⟩ := h.2.2.2 n (by omega)
    unfold topS
    omega
theorem topS_le {t : List Ti} : ∀ (n i : Nat), i < n → TM t i ≤ topS t n ∧ TK t i ≤ topS t n
  | 0, i, h => by omega
  | n + 1, i, h => by
    unfold topS
    by_cases e : i = n
    · subst e; omega
    · have := topS_le (t := t) n i (by omega); omega
/-- What a role pays of a volume's row. -/
def partT (t : List Ti) (v role : Int) : Int := if role = 1 then (rowT t v).k else (rowT t v).m
theorem partT_bd {t : List Ti} (h : GoodT t) (v role : Int) : 0 ≤ partT t v role ∧ partT t v role ≤ topT t ∧ topT t ≤ 100000 := by
  have ht := topS_bd h t.length (Nat.le_refl _)
  unfold partT rowT topT
  rw [if_pos h, if_pos h]
  have hu := upto_le t v t.length
  generalize upto t v t.length = n at *
  match n, hu with
  | 0, _ => split <;> simp <;> omega
  | n + 1, hu =>
    have hl := topS_le (t := t) t.length n (by omega)
    obtain ⟨_, _, a, b, c, d⟩ := h.2.2.2 n (by omega)
    unfold TM TK at *
    simp only
    split <;> omega

/-- A fee: its number .. -/
def feeOk (notional parts round : Int) : Prop := 0 ≤ notional ∧ notional ≤ 4611686018427387904 ∧ 0 ≤ parts ∧ parts ≤ 100000 ∧ (round = 1 ∨ round = 2 ∨ round = 3)
instance (a b c : Int) : Decidable (feeOk a b c) := by unfold feeOk; exact inferInstance
def feeN (notional parts round : Int) : Int := if feeOk notional parts round then (milN (notional * parts).toNat round : Int) else 0
/-- .. and its error. -/
def feeE (notional parts round : Int) : Int := if feeOk notional parts round then 0 else 2
def ofOk (_t : List Ti) (v role : Int) : Prop := 0 ≤ v ∧ (role = 1 ∨ role = 2)
instance (t : List Ti) (v role : Int) : Decidable (ofOk t v role) := by unfold ofOk; exact inferInstance
def ofN (t : List Ti) (v n role round : Int) : Int := if GoodT t then (if ofOk t v role then feeN n (partT t v role) round else 0) else 0
def ofE (t : List Ti) (v n role round : Int) : Int := if GoodT t then (if ofOk t v role then feeE n (partT t v role) round else 2) else 43

theorem fee_bd {n p round : Int} (h : feeOk n p round) : 0 ≤ feeN n p round ∧ feeN n p round ≤ n := by
  obtain ⟨h1, h2, h3, h4, _⟩ := h
  unfold feeN
  split
  · have hb := milN_lo (n * p).toNat round
    have hp : n * p ≤ n * 100000 := Int.mul_le_mul_of_nonneg_left h4 h1
    have hp0 : 0 ≤ n * p := Int.mul_nonneg h1 h3
    generalize n * p = x at *
    omega
  · omega
theorem fee_mono {n m p q round : Int} (hn : 0 ≤ n) (hnm : n ≤ m) (hp : 0 ≤ p) (hpq : p ≤ q) : milN (n * p).toNat round ≤ milN (m * q).toNat round := by
  apply milN_mono
  have h1 : n * p ≤ m * p := Int.mul_le_mul_of_nonneg_right hnm hp
  have h2 : m * p ≤ m * q := Int.mul_le_mul_of_nonneg_left hpq (by omega)
  omega
/-- What FeesBounds says. -/
theorem of_bounds {t : List Ti} {v n more role round : Int} (h : ofE t v n role round = 0) : 0 ≤ ofN t v n role round ∧ ofN t v n role round ≤ n ∧ feeE n (topT t) round = 0 ∧ ofN t v n role round ≤ feeN n (topT t) round ∧
    (n ≤ more → more ≤ 4611686018427387904 → ofE t v more role round = 0 ∧ ofN t v n role round ≤ ofN t v more role round) := by
  unfold ofE at h
  by_cases hg : GoodT t
  · rw [if_pos hg] at h
    by_cases ho : ofOk t v role
    · rw [if_pos ho] at h
      have hf : feeOk n (partT t v role) round := by
        unfold feeE at h
        split at h
        · assumption
        · omega
      obtain ⟨p0, p1, p2⟩ := partT_bd hg v role
      have hb := fee_bd hf
      obtain ⟨h1, h2, h3, h4, h5⟩ := hf
      have hT : feeOk n (topT t) round := ⟨h1, h2, by omega, by omega, h5⟩
      have e1 : feeN n (topT t) round = (milN (n * topT t).toNat round : Int) := if_pos hT
      have e2 : feeN n (partT t v role) round = (milN (n * partT t v role).toNat round : Int) := if_pos ⟨h1, h2, h3, h4, h5⟩
      have m1 := fee_mono (round := round) h1 (Int.le_refl n) p0 p1
      unfold ofN ofE
      rw [if_pos hg, if_pos ho, if_pos hg, if_pos ho, if_pos hg, if_pos ho]
      refine ⟨hb.1, hb.2, if_pos hT, by rw [e1, e2]; omega, fun hm hm2 => ?_⟩
      have m2 := fee_mono (round := round) h1 hm p0 (Int.le_refl (partT t v role))
      have hM : feeOk more (partT t v role) round := ⟨by omega, hm2, h3, h4, h5⟩
      have e3 : feeN more (partT t v role) round = (milN (more * partT t v role).toNat round : Int) := if_pos hM
      exact ⟨if_pos hM, by rw [e2, e3]; omega⟩
    · rw [if_neg ho] at h; omega
  · rw [if_neg hg] at h; omega
theorem of_zero {t : List Ti} {v n role round : Int} (h : ¬ ofE t v n role round = 0) : ofN t v n role round = 0 := by
  unfold ofE at h
  unfold ofN
  by_cases hg : GoodT t
  · rw [if_pos hg] at h ⊢
    by_cases ho : ofOk t v role
    · rw [if_pos ho] at h ⊢
      unfold feeE at h
      unfold feeN
      split at h
      · omega
      · rename_i hf; rw [if_neg hf]
    · rw [if_neg ho]
  · rw [if_neg hg]

theorem takeT9 (t : List Ti) : t.take 9 = t ∨ (¬ GoodT t ∧ ¬ GoodT (t.take 9)) := by
  by_cases h : t.length ≤ 9
  · exact .inl (List.take_of_length_le h)
  · right
    refine ⟨fun hg => by have := hg.2.1; omega, fun hg => ?_⟩
    have := hg.2.1
    rw [List.length_take] at this
    omega
theorem rowT9 (t : List Ti) (v : Int) : rowT (t.take 9) v = rowT t v := by
  rcases takeT9 t with h | ⟨h1, h2⟩
  · rw [h]
  · unfold rowT; rw [if_neg h1, if_neg h2]
theorem topT9 (t : List Ti) : topT (t.take 9) = topT t := by
  rcases takeT9 t with h | ⟨h1, h2⟩
  · rw [h]
  · unfold topT; rw [if_neg h1, if_neg h2]
theorem checkT9 (t : List Ti) : checkT (t.take 9) = checkT t := by
  rcases takeT9 t with h | ⟨h1, h2⟩
  · rw [h]
  · unfold checkT; rw [if_neg h1, if_neg h2]
theorem of9 (t : List Ti) (v n role round : Int) : ofN (t.take 9) v n role round = ofN t v n role round ∧ ofE (t.take 9) v n role round = ofE t v n role round := by
  rcases takeT9 t with h | ⟨h1, h2⟩
  · rw [h]; exact ⟨rfl, rfl⟩
  · unfold ofN ofE; rw [if_neg h1, if_neg h2, if_neg h1, if_neg h2]; exact ⟨rfl, rfl⟩
end Go.Proofs.Ythpgbghcmfjjoaa
