/-
  Texts of numbers, one behind the other: how long they are. No program.
-/
import Derived.Lib.ItoaNum
import Derived.Lib.Join
namespace Go.Proofs.YtpinenfclpapjaaDoor

theorem nDigits_le : ∀ (k u : Nat), u < 10 ^ (k + 1) → Lib.nDigits u ≤ k + 1
  | 0, u, h => by rw [Lib.nDigits_small (by simpa using h)]; exact Nat.le_refl _
  | k + 1, u, h => by
    by_cases hu : u < 10
    · rw [Lib.nDigits_small hu]; omega
    · rw [Lib.nDigits_big hu]
      have := nDigits_le k (u / 10) (by rw [Nat.div_lt_iff_lt_mul (by omega)]; rw [← Nat.pow_succ]; exact h)
      omega
theorem itoa_len {n : Int} (h0 : -9223372036854775808 ≤ n) (h1 : n ≤ 9223372036854775807) : (Lib.itoa n).length ≤ 20 := by
  unfold Lib.itoa
  have hb : ∀ u : Nat, u ≤ 9223372036854775808 → (Lib.decDigits u).length ≤ 19 := by
    intro u hu
    rw [Lib.decDigits_length]
    exact nDigits_le 18 u (by omega)
  split
  · have := hb n.natAbs (by omega)
    simp; omega
  · have := hb n.toNat (by omega)
    omega
/-- The layers' numbers, each as its digits. -/
def txs (ls : List Int) : List (List UInt8) := ls.map Lib.itoa
def txt (ls : List Int) (c : Int) : List UInt8 := Lib.join (txs ls) [62] ++ ([32] ++ Lib.itoa c)
/-- All numbers of 64 bits. -/
def In64 (ls : List Int) : Prop := ∀ n ∈ ls, -9223372036854775808 ≤ n ∧ n ≤ 9223372036854775807
theorem lens_le (xs : List (List UInt8)) (h : ∀ x ∈ xs, x.length ≤ 20) : Lib.lens xs ≤ 20 * xs.length := by
  induction xs with
  | nil => simp [Lib.lens]
  | cons x r ih =>
    have h1 := h x (by simp)
    have h2 := ih (fun y hy => h y (by simp [hy]))
    simp [Lib.lens] at h2 ⊢
    omega
theorem txs_join_len (ls : List Int) (h : In64 ls) : (Lib.join (txs ls) [62]).length ≤ 21 * ls.length := by
  cases ls with
  | nil => simp [txs, Lib.join_nil]
  | cons l r =>
    show (Lib.join (Lib.itoa l :: r.map Lib.itoa) [62]).length ≤ _
    rw [Lib.join_length]
    have := lens_le (Lib.itoa l :: r.map Lib.itoa) (by
      intro x hx
      rw [← List.map_cons] at hx
      obtain ⟨n, hn, rfl⟩ := List.mem_map.1 hx
      obtain ⟨a, b⟩ := h n hn
      exact itoa_len a b)
    simp at this ⊢
    omega
end Go.Proofs.YtpinenfclpapjaaDoor
