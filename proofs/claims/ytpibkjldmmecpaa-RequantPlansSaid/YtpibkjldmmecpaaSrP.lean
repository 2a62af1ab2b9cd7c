/- A stable sort, in plain words: elements with their first places beside them; what insertion, exchange, turning and merging do. No program here. -/
import Derived.Sort.LotA
namespace Go.Proofs.Ytpibkjldmmecpaa
open Go.Sort

section
variable {β : Type} [Inhabited β] (lt : β → β → Bool)
/-- By the order alone. -/
def ltS (x y : β × Nat) : Bool := lt x.1 y.1
/-- By the order, and among equal ones by the first place. -/
def ltR (x y : β × Nat) : Bool := lt x.1 y.1 || (!lt y.1 x.1 && decide (x.2 < y.2))
variable {lt}
omit [Inhabited β] in
/-- What stood behind is less just if it is less by the order alone. -/
theorem ltS_R {x y : β × Nat} (h : y.2 ≤ x.2) : ltS lt x y = ltR lt x y := by
  unfold ltS ltR
  have : decide (x.2 < y.2) = false := decide_eq_false (by omega)
  rw [this, Bool.and_false, Bool.or_false]
omit [Inhabited β] in
theorem ltR_iff {x y : β × Nat} : ltR lt x y = true ↔ lt x.1 y.1 = true ∨ (lt y.1 x.1 = false ∧ x.2 < y.2) := by
  unfold ltR
  simp
omit [Inhabited β] in
theorem ltR_no {x y : β × Nat} : ltR lt x y = false ↔ lt x.1 y.1 = false ∧ (lt y.1 x.1 = true ∨ y.2 ≤ x.2) := by
  unfold ltR
  by_cases h : lt y.1 x.1 = true
  · simp [h]
  · simp at h; simp [h]
omit [Inhabited β] in
theorem swo_ltR (h : SWO lt) : SWO (ltR lt) := by
  refine ⟨fun x => ?_, fun x y z a b => ?_, fun x y z a b => ?_⟩
  · rw [ltR_no]; exact ⟨h.irrefl _, .inr (Nat.le_refl _)⟩
  · rw [ltR_iff] at a b ⊢
    rcases a with a | ⟨a, a'⟩
    · rcases b with b | ⟨b, b'⟩
      · exact .inl (h.trans _ _ _ a b)
      · left
        cases e : lt x.1 z.1 with
        | true => rfl
        | false => have := h.ntrans _ _ _ e b; rw [a] at this; cases this
    · rcases b with b | ⟨b, b'⟩
      · left
        cases e : lt x.1 z.1 with
        | true => rfl
        | false => have := h.ntrans _ _ _ a e; rw [b] at this; cases this
      · exact .inr ⟨h.ntrans _ _ _ b a, by omega⟩
  · rw [ltR_no] at a b ⊢
    refine ⟨h.ntrans _ _ _ a.1 b.1, ?_⟩
    rcases a.2 with a2 | a2
    · left
      cases e : lt z.1 x.1 with
      | true => rfl
      | false => have := h.ntrans _ _ _ b.1 e; rw [a2] at this; cases this
    · rcases b.2 with b2 | b2
      · left
        cases e : lt z.1 x.1 with
        | true => rfl
        | false => have := h.ntrans _ _ _ e a.1; rw [b2] at this; cases this
      · right; omega

/-! Insertion is stable. -/
theorem insInner_perm {α : Type} [Inhabited α] (l : α → α → Bool) (a b : Nat) : ∀ (j : Nat) (d : Array α), j < b → b ≤ d.size → PermIn a b d (insInner l a j d)
  | 0, d, _, _ => permIn_refl d a b
  | j + 1, d, hj, hb => by
    unfold insInner
    split
    · rename_i hc
      have haj : j + 1 > a := by simp at hc; omega
      exact permIn_trans _ _ _ a b (swp_permIn d a b (j + 1) j (by omega) hj (by omega) (by omega) hb) (insInner_perm l a b j _ (by omega) (by rw [size_swp]; exact hb))
    · exact permIn_refl d a b
theorem insInner_R (a : Nat) : ∀ (j : Nat) (d : Array (β × Nat)), j < d.size → (∀ p, a ≤ p → p < j → (d[p]!).2 < (d[j]!).2) → insInner (ltS lt) a j d = insInner (ltR lt) a j d
  | 0, _, _, _ => rfl
  | j + 1, d, hj, h => by
    unfold insInner
    by_cases haj : j + 1 > a
    · have e : ltS lt d[j + 1]! d[j]! = ltR lt d[j + 1]! d[j]! := ltS_R (Nat.le_of_lt (h j (by omega) (by omega)))
      rw [e]
      have IH := insInner_R a j (swp d (j + 1) j) (by rw [size_swp]; omega) (fun p hp hpj => by
        rw [swp_right _ _ _ (by omega), swp_other _ _ _ _ (by omega) (by omega)]
        exact h p hp (by omega))
      rw [IH]
    · have : decide (j + 1 > a) = false := decide_eq_false haj
      rw [this, Bool.false_and, Bool.false_and]
      rfl
theorem outer_go {α : Type} [Inhabited α] (l : α → α → Bool) (a b i : Nat) (d : Array α) (h : i < b) : insOuter l a b i d = insOuter l a b (i + 1) (insInner l a i d) := by
  rw [insOuter, if_pos h]
theorem outer_stop {α : Type} [Inhabited α] (l : α → α → Bool) (a b i : Nat) (d : Array α) (h : ¬ i < b) : insOuter l a b i d = d := by
  rw [insOuter, if_neg h]
theorem insOuter_R (a b : Nat) : ∀ (n i : Nat) (d : Array (β × Nat)), b - i = n → a < i → b ≤ d.size → (∀ p q, a ≤ p → p < q → i ≤ q → q < b → (d[p]!).2 < (d[q]!).2) → insOuter (ltS lt) a b i d = insOuter (ltR lt) a b i d
  | 0, i, d, hn, _, _, _ => by
    rw [outer_stop _ _ _ _ _ (by omega), outer_stop _ _ _ _ _ (by omega)]
  | n + 1, i, d, hn, hai, hb, h => by
    rw [outer_go _ _ _ _ _ (by omega), outer_go (ltR lt) _ _ _ _ (by omega)]
    have e := insInner_R (lt := lt) a i d (by omega) (fun p hp hpi => h p i hp hpi (Nat.le_refl _) (by omega))
    rw [e]
    have P := insInner_perm (ltR lt) a (i + 1) i d (by omega) (by omega)
    refine insOuter_R a b n (i + 1) _ (by omega) (by omega) (by rw [P.1]; exact hb) (fun p q hp hpq hiq hq => ?_)
    rw [P.2.1 q (.inr hiq)]
    by_cases hpi : p < i + 1
    · exact permIn_all d _ a (i + 1) (fun x => x.2 < (d[q]!).2) (by omega) P (fun k hk hki => h k q hk (by omega) (by omega) hq) p hp hpi
    · rw [P.2.1 p (.inr (by omega))]
      exact h p q hp hpq (by omega) hq
theorem ins_stable (h : SWO lt) (d : Array (β × Nat)) (a b : Nat) (hab : a ≤ b) (hb : b ≤ d.size) (hi : ∀ p q, a ≤ p → p < q → q < b → (d[p]!).2 < (d[q]!).2) :
    PermIn a b d (insertionSort (ltS lt) d a b) ∧ SortedIn (ltR lt) a b (insertionSort (ltS lt) d a b) := by
  have e : insertionSort (ltS lt) d a b = insertionSort (ltR lt) d a b := insOuter_R a b _ _ d rfl (by omega) hb (fun p q hp hpq _ hq => hi p q hp hpq hq)
  rw [e]
  exact insertionSort_holds (swo_ltR h) d a b hab hb

/-! Turning two parts that lie side by side. -/
/-- Where what comes to p came from, if [a, m) and [m, b) change places. -/
def rho (a m b p : Nat) : Nat := if a ≤ p ∧ p < a + (b - m) then p + (m - a) else if a + (b - m) ≤ p ∧ p < b then p - (b - m) else p
/-- Where what comes to p came from, if n from a on and n from b on change places. -/
def sig (a b n p : Nat) : Nat := if a ≤ p ∧ p < a + n then p + (b - a) else if b ≤ p ∧ p < b + n then p - (b - a) else p
theorem sig_zero (a b p : Nat) : sig a b 0 p = p := by unfold sig; (repeat' split) <;> omega
theorem rho_big (m i j p : Nat) (hi : i ≤ m) (hj : j < i) : sig (m - i) m j (rho (m - (i - j)) m (m + j) p) = rho (m - i) m (m + j) p := by
  unfold rho sig
  (repeat' split) <;> omega
theorem rho_less (i j m p : Nat) (hi : i ≤ m) (hj : i < j) : sig (m - i) (m + j - i) i (rho (m - i) m (m + (j - i)) p) = rho (m - i) m (m + j) p := by
  unfold rho sig
  (repeat' split) <;> omega
theorem rho_same (i m p : Nat) (hi : i ≤ m) : sig (m - i) m i p = rho (m - i) m (m + i) p := by
  unfold rho sig
  (repeat' split) <;> omega
end

section
variable {β : Type} [Inhabited β] {lt : β → β → Bool}
/-- Two sorted runs side by side; all of the second one stood behind all of the first one. -/
structure Runs (lt : β → β → Bool) (a m b : Nat) (d : Array (β × Nat)) : Prop where
  l : SortedIn (ltR lt) a m d
  r : SortedIn (ltR lt) m b d
  ix : ∀ p q, a ≤ p → p < m → m ≤ q → q < b → (d[p]!).2 < (d[q]!).2
def Merged (lt : β → β → Bool) (a b : Nat) (d d' : Array (β × Nat)) : Prop := PermIn a b d d' ∧ SortedIn (ltR lt) a b d'
/-- A later one against an earlier one. -/
theorem Runs.cmp {a m b : Nat} {d : Array (β × Nat)} (R : Runs lt a m b d) {p q : Nat} (hp : a ≤ p) (hpm : p < m) (hq : m ≤ q) (hqb : q < b) : lt (d[q]!).1 (d[p]!).1 = ltR lt d[q]! d[p]! :=
  ltS_R (Nat.le_of_lt (R.ix p q hp hpm hq hqb))
theorem sorted_le (h : SWO lt) {a b : Nat} {d : Array (β × Nat)} (S : SortedIn (ltR lt) a b d) {p q : Nat} (hp : a ≤ p) (hpq : p ≤ q) (hq : q < b) : ltR lt d[q]! d[p]! = false := by
  rcases Nat.lt_or_ge p q with h1 | h1
  · exact S p q hp h1 hq
  · obtain rfl : p = q := by omega
    exact (swo_ltR h).irrefl _
theorem runs_no (h : SWO lt) {a m b : Nat} {d : Array (β × Nat)} (R : Runs lt a m b d) {p p' q q' : Nat} (hp : a ≤ p) (hpp : p ≤ p') (hpm : p' < m) (hq : m ≤ q) (hqq : q ≤ q') (hqb : q' < b) (hl : lt (d[q]!).1 (d[p']!).1 = false) : lt (d[q']!).1 (d[p]!).1 = false := by
  have hR := swo_ltR h
  rw [R.cmp (by omega) hpm hq (by omega)] at hl
  rw [R.cmp hp (by omega) (by omega) hqb]
  exact hR.ntrans _ _ _ (hR.ntrans _ _ _ (sorted_le h R.r hq hqq hqb) hl) (sorted_le h R.l hp hpp hpm)
theorem runs_yes (h : SWO lt) {a m b : Nat} {d : Array (β × Nat)} (R : Runs lt a m b d) {p p' q q' : Nat} (hp : a ≤ p) (hpp : p ≤ p') (hpm : p' < m) (hq : m ≤ q) (hqq : q ≤ q') (hqb : q' < b) (hl : lt (d[q']!).1 (d[p]!).1 = true) : lt (d[q]!).1 (d[p']!).1 = true := by
  cases e : lt (d[q]!).1 (d[p']!).1 with
  | true => rfl
  | false => rw [runs_no h R hp hpp hpm hq hqq hqb e] at hl; cases hl
/-- The first run is one element: where it goes to. -/
def Shl (a i : Nat) (k : Nat) (d dk : Array (β × Nat)) : Prop :=
  PermIn a i d dk ∧ (∀ p, a ≤ p → p < k → dk[p]! = d[p + 1]!) ∧ dk[k]! = d[a]! ∧ (∀ p, k < p → dk[p]! = d[p]!)
theorem Shl.start (a i : Nat) (d : Array (β × Nat)) : Shl a i a d d := ⟨permIn_refl _ _ _, fun p h1 h2 => by omega, rfl, fun _ _ => rfl⟩
theorem Shl.step {a i k : Nat} {d dk : Array (β × Nat)} (h : Shl a i k d dk) (hk : a ≤ k) (hi : k + 1 < i) (hs : i ≤ d.size) : Shl a i (k + 1) d (swp dk k (k + 1)) := by
  obtain ⟨P, h1, h2, h3⟩ := h
  have hsz : dk.size = d.size := P.1
  refine ⟨permIn_trans _ _ _ _ _ P (swp_permIn dk a i k (k + 1) (by omega) (by omega) (by omega) hi (by omega)), fun p hp hpk => ?_, ?_, fun p hp => ?_⟩
  · by_cases e : p = k
    · subst e
      rw [swp_left _ _ _ (by omega) (by omega)]
      exact h3 _ (by omega)
    · rw [swp_other _ _ _ _ e (by omega)]
      exact h1 p hp (by omega)
  · rw [swp_right _ _ _ (by omega)]; exact h2
  · rw [swp_other _ _ _ _ (by omega) (by omega)]
    exact h3 p (by omega)
/-- The first run is one element, put behind all that are less. -/
theorem shl_merged (h : SWO lt) {a b i k : Nat} {d dk : Array (β × Nat)} (R : Runs lt a (a + 1) b d) (H : Shl a i k d dk) (hi : a + 1 ≤ i) (hib : i ≤ b) (hb : b ≤ d.size) (hk : k + 1 = i)
    (h1 : ∀ q, a + 1 ≤ q → q < i → lt (d[q]!).1 (d[a]!).1 = true) (h2 : ∀ q, i ≤ q → q < b → lt (d[q]!).1 (d[a]!).1 = false) : Merged lt a b d dk := by
  obtain ⟨P, g1, g2, g3⟩ := H
  refine ⟨permIn_mono _ _ _ _ _ _ (Nat.le_refl _) hib hb P, fun p q hp hpq hq => ?_⟩
  have hR := swo_ltR h
  have L1 : ∀ q, a + 1 ≤ q → q < i → ltR lt d[q]! d[a]! = true := fun q hq hqi => by rw [← R.cmp (Nat.le_refl _) (by omega) hq (by omega)]; exact h1 q hq hqi
  have L2 : ∀ q, i ≤ q → q < b → ltR lt d[q]! d[a]! = false := fun q hq hqb => by rw [← R.cmp (Nat.le_refl _) (by omega) (by omega) hqb]; exact h2 q hq hqb
  rcases Nat.lt_trichotomy q k with e | e | e
  · rw [g1 p hp (by omega), g1 q (by omega) e]
    exact R.r _ _ (by omega) (by omega) (by omega)
  · subst e
    rw [g2, g1 p hp hpq]
    exact hR.asymmA (L1 _ (by omega) (by omega))
  · rw [g3 q e]
    rcases Nat.lt_trichotomy p k with e' | e' | e'
    · rw [g1 p hp e']
      exact R.r _ _ (by omega) (by omega) hq
    · subst e'
      rw [g2]
      exact L2 q (by omega) hq
    · rw [g3 p e']
      exact R.r _ _ (by omega) hpq hq
/-- The second run is one element: where it goes to. -/
def Shr (i m : Nat) (k : Nat) (d dk : Array (β × Nat)) : Prop :=
  PermIn i (m + 1) d dk ∧ (∀ p, k < p → p ≤ m → dk[p]! = d[p - 1]!) ∧ dk[k]! = d[m]! ∧ (∀ p, p < k → dk[p]! = d[p]!) ∧ (∀ p, m < p → dk[p]! = d[p]!)
theorem Shr.start (i m : Nat) (d : Array (β × Nat)) : Shr i m m d d := ⟨permIn_refl _ _ _, fun p h1 h2 => by omega, rfl, fun _ _ => rfl, fun _ _ => rfl⟩
theorem Shr.step {i m k : Nat} {d dk : Array (β × Nat)} (h : Shr i m (k + 1) d dk) (hk : i ≤ k) (hm : k + 1 ≤ m) (hs : m < d.size) : Shr i m k d (swp dk (k + 1) k) := by
  obtain ⟨P, h1, h2, h3, h4⟩ := h
  have hsz : dk.size = d.size := P.1
  refine ⟨permIn_trans _ _ _ _ _ P (swp_permIn dk i (m + 1) (k + 1) k (by omega) (by omega) (by omega) (by omega) (by omega)), fun p hp hpm => ?_, ?_, fun p hp => ?_, fun p hp => ?_⟩
  · by_cases e : p = k + 1
    · subst e
      rw [swp_left _ _ _ (by omega) (by omega)]
      exact h3 _ (by omega)
    · rw [swp_other _ _ _ _ e (by omega)]
      exact h1 p (by omega) hpm
  · rw [swp_right _ _ _ (by omega)]; exact h2
  · rw [swp_other _ _ _ _ (by omega) (by omega)]
    exact h3 p (by omega)
  · rw [swp_other _ _ _ _ (by omega) (by omega)]
    exact h4 p hp
theorem shr_merged (h : SWO lt) {a m i : Nat} {d dk : Array (β × Nat)} (R : Runs lt a m (m + 1) d) (H : Shr i m i d dk) (hi : a ≤ i) (him : i ≤ m) (hb : m + 1 ≤ d.size)
    (h1 : ∀ p, a ≤ p → p < i → lt (d[m]!).1 (d[p]!).1 = false) (h2 : ∀ p, i ≤ p → p < m → lt (d[m]!).1 (d[p]!).1 = true) : Merged lt a (m + 1) d dk := by
  obtain ⟨P, g1, g2, g3, _⟩ := H
  refine ⟨permIn_mono _ _ _ _ _ _ hi (Nat.le_refl _) hb P, fun p q hp hpq hq => ?_⟩
  have hR := swo_ltR h
  have L1 : ∀ p, a ≤ p → p < i → ltR lt d[m]! d[p]! = false := fun p hp hpi => by rw [← R.cmp hp (by omega) (Nat.le_refl _) (by omega)]; exact h1 p hp hpi
  have L2 : ∀ p, i ≤ p → p < m → ltR lt d[m]! d[p]! = true := fun p hp hpm => by rw [← R.cmp (by omega) hpm (Nat.le_refl _) (by omega)]; exact h2 p hp hpm
  rcases Nat.lt_trichotomy p i with e | e | e
  · rw [g3 p e]
    rcases Nat.lt_trichotomy q i with e' | e' | e'
    · rw [g3 q e']; exact R.l _ _ hp hpq (by omega)
    · subst e'; rw [g2]; exact L1 p hp e
    · rw [g1 q e' (by omega)]; exact R.l _ _ hp (by omega) (by omega)
  · subst e
    rw [g2, g1 q (by omega) (by omega)]
    exact hR.asymmA (L2 _ (by omega) (by omega))
  · rw [g1 p e (by omega), g1 q (by omega) (by omega)]
    exact R.l _ _ (by omega) (by omega) (by omega)
/-- Behind the search: of both runs the lesser parts, and the greater parts. -/
structure Cut (lt : β → β → Bool) (a m b s e : Nat) (d : Array (β × Nat)) : Prop where
  lo : ∀ p q, a ≤ p → p < s → e ≤ q → q < b → ltR lt d[q]! d[p]! = false
  hi : ∀ p q, s ≤ p → p < m → m ≤ q → q < e → ltR lt d[q]! d[p]! = true
theorem cut_of (h : SWO lt) {a m b s n lo hi : Nat} {d : Array (β × Nat)} (R : Runs lt a m b d) (hmid : n = (a + b) / 2 + m) (ham : a < m) (hmb : m < b)
    (hb : (m > (a + b) / 2 ∧ lo = n - b ∧ hi = (a + b) / 2) ∨ (m ≤ (a + b) / 2 ∧ lo = a ∧ hi = m)) (hs1 : lo ≤ s) (hs2 : s ≤ hi)
    (h1 : ∀ c, lo ≤ c → c < s → lt (d[n - 1 - c]!).1 (d[c]!).1 = false) (h2 : ∀ c, s ≤ c → c < hi → lt (d[n - 1 - c]!).1 (d[c]!).1 = true) :
    a ≤ s ∧ s ≤ m ∧ m ≤ n - s ∧ n - s ≤ b ∧ s + ((n - s) - m) = (a + b) / 2 ∧ Cut lt a m b s (n - s) d := by
  have hR := swo_ltR h
  refine ⟨by omega, by omega, by omega, by omega, by omega, fun p q hp hps hq hqb => ?_, fun p q hp hpm hq hqe => ?_⟩
  · have g := h1 (s - 1) (by omega) (by omega)
    rw [R.cmp (p := s - 1) (q := n - 1 - (s - 1)) (by omega) (by omega) (by omega) (by omega)] at g
    have g1 := sorted_le h R.l (p := p) (q := s - 1) hp (by omega) (by omega)
    have g2 := sorted_le h R.r (p := n - 1 - (s - 1)) (q := q) (by omega) (by omega) hqb
    exact hR.ntrans _ _ _ (hR.ntrans _ _ _ g2 g) g1
  · have g := h2 s (Nat.le_refl _) (by omega)
    rw [R.cmp (p := s) (q := n - 1 - s) (by omega) (by omega) (by omega) (by omega)] at g
    have g1 := sorted_le h R.l (p := s) (q := p) (by omega) hp hpm
    have g2 := sorted_le h R.r (p := q) (q := n - 1 - s) hq (by omega) (by omega)
    cases e : ltR lt d[q]! d[p]! with
    | true => rfl
    | false =>
      have := hR.ntrans _ _ _ (hR.ntrans _ _ _ (show ltR lt d[n - 1 - s]! d[q]! = false by
        exact g2) e) g1
      rw [g] at this; cases this
/-- Behind the turning: two pairs of runs, and all of the first pair below all of the second. -/
structure Turned (lt : β → β → Bool) (a s mid e b : Nat) (d : Array (β × Nat)) : Prop where
  l : Runs lt a s mid d
  r : Runs lt mid e b d
  x : ∀ p q, a ≤ p → p < mid → mid ≤ q → q < b → ltR lt d[q]! d[p]! = false
theorem rho_lo {s m e p : Nat} (h : p < s) : rho s m e p = p := by unfold rho; (repeat' split) <;> omega
theorem rho_hi {s m e p : Nat} (h : e ≤ p) (hs : s ≤ m) (hm : m ≤ e) : rho s m e p = p := by unfold rho; (repeat' split) <;> omega
theorem rho_1 {s m e p : Nat} (h : s ≤ p) (h2 : p < s + (e - m)) : rho s m e p = p + (m - s) := by unfold rho; rw [if_pos ⟨h, h2⟩]
theorem rho_2 {s m e p : Nat} (h : s + (e - m) ≤ p) (h2 : p < e) : rho s m e p = p - (e - m) := by unfold rho; rw [if_neg (by omega), if_pos ⟨h, h2⟩]
theorem rho_none {s m e p : Nat} (h : ¬ (s < m ∧ m < e)) (hs : s ≤ m) (hm : m ≤ e) : rho s m e p = p := by unfold rho; (repeat' split) <;> omega
theorem after_rot (h : SWO lt) {a m b s e mid : Nat} {d d1 : Array (β × Nat)} (R : Runs lt a m b d) (C : Cut lt a m b s e d) (has : a ≤ s) (hsm : s ≤ m) (hme : m ≤ e) (heb : e ≤ b) (hmid : s + (e - m) = mid)
    (hd : ∀ p, d1[p]! = d[rho s m e p]!) : Turned lt a s mid e b d1 := by
  have hR := swo_ltR h
  have L : ∀ p, p < s → d1[p]! = d[p]! := fun p hp => by rw [hd, rho_lo hp]
  have H : ∀ p, e ≤ p → d1[p]! = d[p]! := fun p hp => by rw [hd, rho_hi hp hsm hme]
  have A : ∀ p, s ≤ p → p < mid → d1[p]! = d[p + (m - s)]! := fun p hp hq => by rw [hd, rho_1 hp (by omega)]
  have B : ∀ p, mid ≤ p → p < e → d1[p]! = d[p - (e - m)]! := fun p hp hq => by rw [hd, rho_2 (by omega) hq]
  refine ⟨⟨fun p q hp hpq hq => ?_, fun p q hp hpq hq => ?_, fun p q hp hps hq hqm => ?_⟩, ⟨fun p q hp hpq hq => ?_, fun p q hp hpq hq => ?_, fun p q hp hps hq hqm => ?_⟩, fun p q hp hpm hq hqb => ?_⟩
  · rw [L p (by omega), L q (by omega)]; exact R.l _ _ hp hpq (by omega)
  · rw [A p hp (by omega), A q (by omega) hq]; exact R.r _ _ (by omega) (by omega) (by omega)
  · rw [L p hps, A q hq hqm]; exact R.ix _ _ hp (by omega) (by omega) (by omega)
  · rw [B p hp (by omega), B q (by omega) hq]; exact R.l _ _ (by omega) (by omega) (by omega)
  · rw [H p hp, H q (by omega)]; exact R.r _ _ (by omega) hpq hq
  · rw [B p hp hps, H q hq]; exact R.ix _ _ (by omega) (by omega) (by omega) hqm
  · by_cases h1 : p < s
    · rw [L p h1]
      by_cases h2 : q < e
      · rw [B q hq h2]; exact R.l _ _ hp (by omega) (by omega)
      · rw [H q (by omega)]; exact C.lo p q hp h1 (by omega) hqb
    · rw [A p (by omega) hpm]
      by_cases h2 : q < e
      · rw [B q hq h2]; exact hR.asymmA (C.hi (q - (e - m)) (p + (m - s)) (by omega) (by omega) (by omega) (by omega))
      · rw [H q (by omega)]; exact R.r _ _ (by omega) (by omega) hqb
theorem runs_one {a s b : Nat} {d : Array (β × Nat)} (R : Runs lt a s b d) (h : ¬ (a < s ∧ s < b)) (ha : a ≤ s) (hb : s ≤ b) : Merged lt a b d d := by
  refine ⟨permIn_refl _ _ _, ?_⟩
  by_cases e : a = s
  · subst e; exact R.r
  · obtain rfl : s = b := by omega
    exact R.l
theorem Runs.next {a s b : Nat} {d d' : Array (β × Nat)} (R : Runs lt a s b d) {c : Nat} (P : PermIn c a d d') (hs : a ≤ s) : Runs lt a s b d' := by
  have e : ∀ p, a ≤ p → d'[p]! = d[p]! := fun p hp => P.2.1 p (.inr hp)
  refine ⟨fun p q hp hpq hq => ?_, fun p q hp hpq hq => ?_, fun p q hp hps hq hqb => ?_⟩
  · rw [e p hp, e q (by omega)]; exact R.l _ _ hp hpq hq
  · rw [e p (by omega), e q (by omega)]; exact R.r _ _ hp hpq hq
  · rw [e p hp, e q (by omega)]; exact R.ix _ _ hp hps hq hqb
theorem merge_all {a mid b s e : Nat} {d d1 d2 d3 : Array (β × Nat)} (T : Turned lt a s mid e b d1) (P : PermIn a b d d1) (M1 : Merged lt a mid d1 d2) (M2 : Merged lt mid b d2 d3) (ham : a ≤ mid) (hmb : mid ≤ b) (hb : b ≤ d.size) : Merged lt a b d d3 := by
  have s1 : d1.size = d.size := P.1
  have s2 : d2.size = d1.size := M1.1.1
  have s3 : d3.size = d2.size := M2.1.1
  refine ⟨permIn_trans _ _ _ _ _ P (permIn_trans _ _ _ _ _ (permIn_mono _ _ _ _ _ _ (Nat.le_refl _) hmb (by omega) M1.1) (permIn_mono _ _ _ _ _ _ ham (Nat.le_refl _) (by omega) M2.1)), fun p q hp hpq hq => ?_⟩
  by_cases h1 : q < mid
  · rw [M2.1.2.1 p (.inl (by omega)), M2.1.2.1 q (.inl h1)]
    exact M1.2 p q hp hpq h1
  · by_cases h2 : mid ≤ p
    · exact M2.2 p q h2 hpq hq
    · rw [M2.1.2.1 p (.inl (by omega))]
      refine permIn_all d1 d2 a mid (fun x => ltR lt d3[q]! x = false) (by omega) M1.1 (fun p' hp' hpm' => ?_) p hp (by omega)
      refine permIn_all d2 d3 mid b (fun x => ltR lt x d1[p']! = false) (by omega) M2.1 (fun q' hq' hqb' => ?_) q (by omega) hq
      rw [M1.1.2.1 q' (.inr hq')]
      exact T.x p' q' hp' hpm' hq' hqb'
end
end Go.Proofs.Ytpibkjldmmecpaa
