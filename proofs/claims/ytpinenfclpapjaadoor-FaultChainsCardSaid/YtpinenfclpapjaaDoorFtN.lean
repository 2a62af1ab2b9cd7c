/-
  A slice of numbers that came in.
-/
import Derived.Test.YtpinenfclpapjaaDoorFtK
import Derived.Test.YtpinenfclpapjaaDoorMem
namespace Go.Proofs.YtpinenfclpapjaaDoor
open Go.RowKit
set_option linter.unusedVariables false

/-- A slice reads as these numbers. -/
def SlN (w : World) (A : Option Addr) (n : Nat) (l : List Int) : Prop :=
  l.length = n ∧ In64 l ∧ (n = 0 ∨ ∃ b off, A = some ⟨b, off, none⟩ ∧ b < w.heap.size ∧ ∀ i, i < n → w.cell? ⟨b, off + i, none⟩ = some (.int .i64 (l.getD i 0)))
theorem SlN.below {w w' : World} {A : Option Addr} {n : Nat} {l : List Int} (h : SlN w A n l) (hb : Below w.heap.size w w') : SlN w' A n l := by
  obtain ⟨h1, h2, h3⟩ := h
  refine ⟨h1, h2, ?_⟩
  rcases h3 with h0 | ⟨b, off, rfl, hb', hc⟩
  · exact .inl h0
  · exact .inr ⟨b, off, rfl, Nat.lt_of_lt_of_le hb' hb.size, fun i hi => (hb.cell (p := ⟨b, off + i, none⟩) hb').trans (hc i hi)⟩
theorem SlN.take {w : World} {A : Option Addr} {n : Nat} {l : List Int} (h : SlN w A n l) (k : Nat) (hk : k ≤ n) : SlN w A k (l.take k) := by
  obtain ⟨hl, hi, h2⟩ := h
  refine ⟨by simp; omega, fun x hx => hi x (List.mem_of_mem_take hx), ?_⟩
  rcases h2 with h0 | ⟨b, off, rfl, hb, hc⟩
  · exact .inl (by omega)
  · refine .inr ⟨b, off, rfl, hb, fun i hi => ?_⟩
    rw [hc i (by omega)]
    simp [List.getD_eq_getElem?_getD, hi]
theorem slN_of {w : World} {a : Option Addr} {len cap : Nat} {zs : List Int} (h : (a = none ∧ len = 0 ∧ cap = 0 ∧ zs = []) ∨
    ∃ x, a = some x ∧ len ≤ cap ∧ cap ≤ maxLen ∧ zs.length = cap ∧ (∀ i, i < zs.length → w.cell? (x.add i) = some (.int .i64 (zs.getD i 0))) ∧ ∀ n ∈ zs, (Lit.int .i64 n).wf = true) : ∃ l, SlN w a len l ∧ len ≤ cap ∧ cap ≤ maxLen := by
  rcases h with ⟨rfl, rfl, rfl, _⟩ | ⟨x, rfl, hl, hm, hz, hc, hwf⟩
  · exact ⟨[], ⟨rfl, fun _ h => (by cases h), .inl rfl⟩, Nat.le_refl _, Nat.zero_le _⟩
  · by_cases h0 : len = 0
    · subst h0; exact ⟨[], ⟨rfl, fun _ h => (by cases h), .inl rfl⟩, hl, hm⟩
    · obtain ⟨b, off, rfl, hc'⟩ := ints_at hc (by omega)
      have hin : In64 zs := fun n hn => by have := bounds_i64 (hwf n hn); omega
      have h2 : SlN w (some ⟨b, off, none⟩) zs.length zs := ⟨rfl, hin, .inr ⟨b, off, rfl, World.block_lt_of_cell? w ⟨b, off + 0, none⟩ (hc' 0 (by omega)), fun i hi => hc' i hi⟩⟩
      exact ⟨zs.take len, h2.take len (by omega), hl, hm⟩
/-- The chain that a loop of Wrap makes of a list of layers: they stand the other way round. -/
def rv (l : List Int) (inner : Int) : List Int := l.reverse ++ [inner]
theorem rv_snoc (l : List Int) (k : Nat) (n inner : Int) (h : l[k]? = some n) : rv (l.take (k + 1)) inner = n :: rv (l.take k) inner := by
  obtain ⟨hk, he⟩ := List.getElem?_eq_some_iff.1 h
  unfold rv
  rw [List.take_succ_eq_append_getElem hk, he]
  simp
theorem rv_len (l : List Int) (inner : Int) : (rv l inner).length = l.length + 1 := by simp [rv]
theorem rv_in (l : List Int) (inner : Int) (h : In64 l) (hi : -9223372036854775808 ≤ inner ∧ inner ≤ 9223372036854775807) : In64 (rv l inner) := by
  intro n hn
  simp [rv] at hn
  rcases hn with hn | rfl
  · exact h n hn
  · exact hi
/-- The outermost fault wrapped once more. -/
theorem Chn.wrap {w : World} {c l : Int} {ls : List Int} {b : Nat} (h : Chn w c ls b) : Chn (w.alloc (.cells (fcs l 0 (fvl b)) 40)) c (l :: ls) w.heap.size := by
  have hb : Below w.heap.size w (w.alloc (.cells (fcs l 0 (fvl b)) 40)) := (Below.refl _ _).alloc (Nat.le_refl _) _
  have h2 := h.below hb
  cases ls with
  | nil => exact h.elim
  | cons m r => exact ⟨b, ft_last rfl, h2⟩
end Go.Proofs.YtpinenfclpapjaaDoor
