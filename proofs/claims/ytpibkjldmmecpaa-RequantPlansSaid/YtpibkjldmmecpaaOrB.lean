/- order: Ahead. -/
import Derived.Test.YtpibkjldmmecpaaOrA
import Derived.Sort.Grow
namespace Go.Proofs.Ytpibkjldmmecpaa
open Go.RowKit

/-- What a call leaves that only makes memory, and draws. -/
structure Gw (w w' : World) : Prop where
  b : Below w.heap.size w w'
  d : w.drawn ≤ w'.drawn
theorem Gw.refl (w : World) : Gw w w := ⟨Below.refl _ _, Nat.le_refl _⟩
theorem Gw.trans {a b c : World} (h : Gw a b) (k : Gw b c) : Gw a c := ⟨h.b.trans (k.b.mono h.b.size), Nat.le_trans h.d k.d⟩
theorem Gw.alloc {a b : World} (h : Gw a b) (o : Obj) : Gw a (b.alloc o) := ⟨h.b.alloc h.b.size o, h.d⟩
theorem Gw.grow {w w' : World} (h : Gw w w') : ∃ q os, w' = Go.Sort.grow (w.drewN q) os := by
  refine ⟨w'.drawn - w.drawn, w'.heap.extract w.heap.size w'.heap.size, ?_⟩
  have e : w'.heap = w.heap ++ w'.heap.extract w.heap.size w'.heap.size := by
    apply Array.ext_getElem?
    intro i
    rw [Array.getElem?_append]
    by_cases hi : i < w.heap.size
    · rw [if_pos hi]; exact h.b.block i hi
    · rw [if_neg hi, Array.getElem?_extract]
      by_cases hj : i < w'.heap.size
      · rw [if_pos (by omega)]; congr 1; omega
      · rw [if_neg (by omega), Array.getElem?_eq_none (by omega)]
  have hd := h.d
  have h1 := h.b.tape; have h2 := h.b.os; have h3 := h.b.output
  cases w'; cases w
  simp only at e hd h1 h2 h3 ⊢
  subst h1 h2 h3
  unfold Go.Sort.grow World.drewN
  simp only [World.mk.injEq, true_and, and_true]
  exact ⟨e, by omega⟩
theorem hd_last {w : World} {o : Obj} {n : Nat} (h : n = w.heap.size) : (w.alloc o).heap[n]? = some o := by subst h; exact heap_alloc_new w o
theorem hd_prev {w : World} {o p : Obj} {n : Nat} (h : n < w.heap.size) (hp : w.heap[n]? = some p) : (w.alloc o).heap[n]? = some p := (heap_alloc_old (w := w) (o := o) h).trans hp
theorem hd_drew {w : World} {g : Nat} {p : Obj} (h : w.heap[g]? = some p) : w.drew.heap[g]? = some p := h
/-- Is the first order (ID, side, price, Seq) ahead of the second one? -/
def ahdN (i1 s1 p1 q1 i2 s2 p2 q2 : Int) : Bool :=
  if s1 ≠ s2 ∨ (s1 ≠ 1 ∧ s1 ≠ 2) then false else if p1 ≠ p2 then betN s1 p1 p2 else decide ((if cmpN q1 q2 = 0 then cmpN i1 i2 else cmpN q1 q2) < 0)
theorem rk_2 (s : Int) : (rkN s == 2) = decide (s ≠ 1 ∧ s ≠ 2) := by
  unfold rkN
  by_cases h1 : s = 1
  · simp [h1]
  · by_cases h2 : s = 2
    · simp [h2]
    · simp [h1, h2]
end Go.Proofs.Ytpibkjldmmecpaa
