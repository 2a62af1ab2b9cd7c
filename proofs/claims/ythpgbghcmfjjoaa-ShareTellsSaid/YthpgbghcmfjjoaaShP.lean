/- share, in plain numbers: what all have, what each one gets. -/
import Derived.Test.YthpgbghcmfjjoaaFeD
namespace Go.Proofs.Ythpgbghcmfjjoaa

theorem trim_no {lot q : Int} (h : lot < 1 ∨ q < 1) : trimN lot q = 0 := if_pos h
theorem trim_rng {lot q : Int} (h : 1 ≤ lot) (hq : 0 ≤ q) : 0 ≤ trimN lot q ∧ trimN lot q ≤ q ∧ q - trimN lot q < lot := by
  by_cases h1 : q < 1
  · rw [trim_no (.inr h1)]; omega
  · have := trim_bd (lot := lot) (qty := q) h (by omega); omega
theorem trim_mod {lot q : Int} : trimN lot q % lot = 0 := by
  unfold trimN
  split
  · exact Int.zero_emod _
  · exact Int.mul_emod_left _ _

/-- May these quantities be? -/
def OkQ (Q : List Int) : Prop := ∀ q ∈ Q, 0 ≤ q ∧ q ≤ 1099511627776
instance (Q : List Int) : Decidable (OkQ Q) := by unfold OkQ; infer_instance
/-- What some have, in whole lots. -/
def sumT (lot : Int) : List Int → Int
  | [] => 0
  | q :: Q => trimN lot q + sumT lot Q
theorem sumT_app (lot : Int) (A B : List Int) : sumT lot (A ++ B) = sumT lot A + sumT lot B := by
  induction A with
  | nil => simp [sumT]
  | cons a A ih => simp only [List.cons_append, sumT, ih]; omega
theorem sumT_bd {lot : Int} (h : 1 ≤ lot) {Q : List Int} (hQ : OkQ Q) : 0 ≤ sumT lot Q ∧ sumT lot Q ≤ 1099511627776 * Q.length := by
  induction Q with
  | nil => simp [sumT]
  | cons q Q ih =>
    have h1 := ih (fun x hx => hQ x (List.mem_cons_of_mem _ hx))
    have h2 := hQ q List.mem_cons_self
    have h3 := trim_rng (lot := lot) h h2.1
    simp only [sumT, List.length_cons]
    omega
/-- P16.1. -/
def totN (Q : List Int) (lot : Int) : Int := if lot < 1 ∨ 1099511627776 < lot ∨ 64 < Q.length ∨ ¬ OkQ Q then 0 else sumT lot Q
theorem totN_bd (Q : List Int) (lot : Int) : 0 ≤ totN Q lot ∧ totN Q lot ≤ 70368744177664 := by
  unfold totN
  split
  · omega
  · rename_i h
    have := sumT_bd (lot := lot) (by omega) (Q := Q) (Classical.byContradiction fun hh => h (.inr (.inr (.inr hh))))
    omega

theorem dv_part {a t T : Int} (h1 : 0 ≤ a) (h2 : 0 ≤ t) (h3 : 0 < T) (h4 : t ≤ T) (h5 : a ≤ 4611686018427387904) : dv a t T 1 = a * t / T ∧ de a t T 1 = 0 ∧ 0 ≤ a * t / T ∧ a * t / T ≤ a := by
  have hp : 0 ≤ a * t := Int.mul_nonneg h1 h2
  have hq : a * t / T ≤ a := by
    apply Int.ediv_le_of_le_mul h3
    exact Int.mul_le_mul_of_nonneg_left h4 h1
  have hq0 : 0 ≤ a * t / T := Int.ediv_nonneg hp (by omega)
  have e : divR a t T 1 = a * t / T := by
    rw [divR_eq a t T 1 false _ (by rw [decide_eq_false (by omega), decide_eq_false (by omega)]; rfl) rfl]
    have e1 : (a * t).natAbs = (a * t).toNat := by omega
    have e2 : T.natAbs = T.toNat := by omega
    rw [if_neg (show ¬ (false = true) by decide), e1, e2]
    unfold awayB
    have e3 : ∀ (x : Nat) (b : Bool), (if (if x = 0 then false else if (1 : Int) = 2 then !false else if (1 : Int) = 1 then false else b) = true then 1 else 0) = (0 : Nat) := by intro x b; simp
    rw [e3, Nat.add_zero, Int.natCast_ediv, Int.toNat_of_nonneg hp, Int.toNat_of_nonneg (by omega)]
  have hi : InR (divR a t T 1) := by rw [e]; unfold InR; omega
  rw [dv, de, if_neg (not_not_intro (.inl rfl)), if_neg (not_not_intro (.inl rfl)), if_neg (by omega), if_neg (by omega), tv_in hi, te_in hi, e]
  exact ⟨rfl, rfl, hq0, hq⟩

/-- What one gets first. -/
def p1 (mode all T lot q : Int) : Int := if mode = 2 then trimN lot (all * trimN lot q / T) else 0
/-- What there is to be got. -/
def allN (lot qty T : Int) : Int := min (trimN lot qty) T
/-- What is left behind the first k. -/
def lef1 (mode all T lot : Int) (Q : List Int) : Nat → Int
  | 0 => all
  | k + 1 => lef1 mode all T lot Q k - p1 mode all T lot (Q.getD k 0)
/-- Whom, and how much more: what is left by all, then one after the other. -/
def lef2 (mode all T lot : Int) (Q : List Int) : Nat → Int
  | 0 => lef1 mode all T lot Q Q.length
  | k + 1 => lef2 mode all T lot Q k - min (lef2 mode all T lot Q k) (trimN lot (Q.getD k 0) - p1 mode all T lot (Q.getD k 0))
def outN (mode all T lot : Int) (Q : List Int) (k : Nat) : Int :=
  p1 mode all T lot (Q.getD k 0) + min (lef2 mode all T lot Q k) (trimN lot (Q.getD k 0) - p1 mode all T lot (Q.getD k 0))

theorem sumT_take (lot : Int) (Q : List Int) (k : Nat) (h : k < Q.length) : sumT lot (Q.take (k + 1)) = sumT lot (Q.take k) + trimN lot (Q.getD k 0) := by
  rw [List.take_succ_eq_append_getElem h, sumT_app, List.getD_eq_getElem?_getD, List.getElem?_eq_getElem h]; simp [sumT]
theorem sumT_take_le {lot : Int} (h : 1 ≤ lot) {Q : List Int} (hQ : OkQ Q) (k : Nat) : sumT lot (Q.take k) ≤ sumT lot Q := by
  have e := sumT_app lot (Q.take k) (Q.drop k)
  rw [List.take_append_drop] at e
  have := (sumT_bd (lot := lot) h (Q := Q.drop k) (fun x hx => hQ x (List.mem_of_mem_drop hx))).1
  omega
theorem getD_ok {Q : List Int} (hQ : OkQ Q) (k : Nat) : 0 ≤ Q.getD k 0 ∧ Q.getD k 0 ≤ 1099511627776 := by
  by_cases hk : k < Q.length
  · rw [List.getD_eq_getElem?_getD, List.getElem?_eq_getElem hk]; exact hQ _ (List.getElem_mem hk)
  · rw [List.getD_eq_getElem?_getD, List.getElem?_eq_none (by omega)]; simp
theorem trim_le_sum {lot : Int} (h : 1 ≤ lot) {Q : List Int} (hQ : OkQ Q) (k : Nat) (hk : k < Q.length) : trimN lot (Q.getD k 0) ≤ sumT lot Q := by
  have h1 := sumT_take lot Q k hk
  have h2 := sumT_take_le h hQ (k + 1)
  have h3 := (sumT_bd (lot := lot) h (Q := Q.take k) (fun x hx => hQ x (List.mem_of_mem_take hx))).1
  omega

/-- The first parts: none is more than what is left, nor than what one has. -/
theorem p1_fits {mode all lot : Int} {Q : List Int} (hl : 1 ≤ lot) (hQ : OkQ Q) (ha : 0 ≤ all) (haT : all ≤ sumT lot Q) (hT : 0 < sumT lot Q) :
    ∀ k, k ≤ Q.length → (0 ≤ lef1 mode all (sumT lot Q) lot Q k ∧ lef1 mode all (sumT lot Q) lot Q k ≤ all ∧ (all - lef1 mode all (sumT lot Q) lot Q k) * sumT lot Q ≤ all * sumT lot (Q.take k)) ∧
      (k < Q.length → 0 ≤ p1 mode all (sumT lot Q) lot (Q.getD k 0) ∧ p1 mode all (sumT lot Q) lot (Q.getD k 0) ≤ lef1 mode all (sumT lot Q) lot Q k ∧ p1 mode all (sumT lot Q) lot (Q.getD k 0) ≤ trimN lot (Q.getD k 0) ∧ p1 mode all (sumT lot Q) lot (Q.getD k 0) * sumT lot Q ≤ all * trimN lot (Q.getD k 0)) := by
  have hp : ∀ k, k < Q.length → 0 ≤ p1 mode all (sumT lot Q) lot (Q.getD k 0) ∧ p1 mode all (sumT lot Q) lot (Q.getD k 0) ≤ trimN lot (Q.getD k 0) ∧ p1 mode all (sumT lot Q) lot (Q.getD k 0) * sumT lot Q ≤ all * trimN lot (Q.getD k 0) := by
    intro k hk
    have hq := getD_ok hQ k
    have ht := trim_rng hl hq.1
    have hts := trim_le_sum hl hQ k hk
    unfold p1
    by_cases hm : mode = 2
    · rw [if_pos hm]
      have hnn : 0 ≤ all * trimN lot (Q.getD k 0) / sumT lot Q := Int.ediv_nonneg (Int.mul_nonneg ha ht.1) (by omega)
      have h1 := trim_rng hl hnn
      have h2 : all * trimN lot (Q.getD k 0) / sumT lot Q * sumT lot Q ≤ all * trimN lot (Q.getD k 0) := Int.ediv_mul_le _ (by omega)
      have h3 : all * trimN lot (Q.getD k 0) / sumT lot Q ≤ trimN lot (Q.getD k 0) := by
        apply Int.ediv_le_of_le_mul hT
        rw [Int.mul_comm]
        exact Int.mul_le_mul_of_nonneg_left haT ht.1
      have h4 := Int.mul_le_mul_of_nonneg_right h1.2.1 (Int.le_of_lt hT)
      exact ⟨h1.1, by omega, by omega⟩
    · rw [if_neg hm]
      have := Int.mul_nonneg ha ht.1
      exact ⟨Int.le_refl _, ht.1, by rw [Int.zero_mul]; exact this⟩
  intro k
  have main : k ≤ Q.length → 0 ≤ lef1 mode all (sumT lot Q) lot Q k ∧ lef1 mode all (sumT lot Q) lot Q k ≤ all ∧ (all - lef1 mode all (sumT lot Q) lot Q k) * sumT lot Q ≤ all * sumT lot (Q.take k) := by
    induction k with
    | zero => intro _; simp [lef1, sumT, ha]
    | succ k ih =>
      intro hk
      obtain ⟨i1, i2, i3⟩ := ih (by omega)
      obtain ⟨j1, j2, j3⟩ := hp k (by omega)
      have e := sumT_take lot Q k (by omega)
      have hle := sumT_take_le hl hQ (k + 1)
      rw [e] at hle ⊢
      show 0 ≤ lef1 mode all (sumT lot Q) lot Q k - p1 mode all (sumT lot Q) lot (Q.getD k 0) ∧ lef1 mode all (sumT lot Q) lot Q k - p1 mode all (sumT lot Q) lot (Q.getD k 0) ≤ all ∧ (all - (lef1 mode all (sumT lot Q) lot Q k - p1 mode all (sumT lot Q) lot (Q.getD k 0))) * sumT lot Q ≤ all * (sumT lot (Q.take k) + trimN lot (Q.getD k 0))
      have key : (all - (lef1 mode all (sumT lot Q) lot Q k - p1 mode all (sumT lot Q) lot (Q.getD k 0))) * sumT lot Q ≤ all * (sumT lot (Q.take k) + trimN lot (Q.getD k 0)) := by
        rw [show all - (lef1 mode all (sumT lot Q) lot Q k - p1 mode all (sumT lot Q) lot (Q.getD k 0)) = (all - lef1 mode all (sumT lot Q) lot Q k) + p1 mode all (sumT lot Q) lot (Q.getD k 0) by omega, Int.add_mul, Int.mul_add]
        omega
      have top : all * (sumT lot (Q.take k) + trimN lot (Q.getD k 0)) ≤ all * sumT lot Q := Int.mul_le_mul_of_nonneg_left hle ha
      have hd : all - (lef1 mode all (sumT lot Q) lot Q k - p1 mode all (sumT lot Q) lot (Q.getD k 0)) ≤ all := Int.le_of_mul_le_mul_right (Int.le_trans key top) hT
      exact ⟨by omega, by omega, key⟩
  intro hk
  refine ⟨main hk, fun hlt => ?_⟩
  obtain ⟨m1, m2, m3⟩ := main hk
  obtain ⟨j1, j2, j3⟩ := hp k hlt
  refine ⟨j1, ?_, j2, j3⟩
  have e := sumT_take lot Q k hlt
  have hle := sumT_take_le hl hQ (k + 1)
  rw [e] at hle
  have key : (all - (lef1 mode all (sumT lot Q) lot Q k - p1 mode all (sumT lot Q) lot (Q.getD k 0))) * sumT lot Q ≤ all * (sumT lot (Q.take k) + trimN lot (Q.getD k 0)) := by
    rw [show all - (lef1 mode all (sumT lot Q) lot Q k - p1 mode all (sumT lot Q) lot (Q.getD k 0)) = (all - lef1 mode all (sumT lot Q) lot Q k) + p1 mode all (sumT lot Q) lot (Q.getD k 0) by omega, Int.add_mul, Int.mul_add]
    omega
  have top : all * (sumT lot (Q.take k) + trimN lot (Q.getD k 0)) ≤ all * sumT lot Q := Int.mul_le_mul_of_nonneg_left hle ha
  have hd : all - (lef1 mode all (sumT lot Q) lot Q k - p1 mode all (sumT lot Q) lot (Q.getD k 0)) ≤ all := Int.le_of_mul_le_mul_right (Int.le_trans key top) hT
  omega
end Go.Proofs.Ythpgbghcmfjjoaa
