/- slices.Equal at orders. -/
import Derived.Test.YtpibkjldmmecpaaOrE
import Derived.Deep.LoopGhost
namespace Go.Proofs.Ytpibkjldmmecpaa
open Go.RowKit Go.Sort Go.Lib Go.Shelf

def eqL : List Od → List Od → Bool
  | [], [] => true
  | x :: l, y :: m => eqO x y && eqL l m
  | _, _ => false
theorem eqL_iff : ∀ (l m : List Od), eqL l m = true ↔ l = m
  | [], [] => by simp [eqL]
  | x :: l, y :: m => by simp [eqL, eqO_iff, eqL_iff l m]
  | [], y :: m => by simp [eqL]
  | x :: l, [] => by simp [eqL]
theorem eqL_no {l m : List Od} {i : Nat} (_hi : i < l.length) (_hl : l.length = m.length) (h : eqO l[i]! m[i]! = false) : eqL l m = false := by
  cases e : eqL l m with
  | false => rfl
  | true =>
    rw [eqL_iff] at e
    subst e
    have := (eqO_iff l[i]! l[i]!).2 rfl
    rw [h] at this; cases this
theorem eqL_yes {l m : List Od} (hl : l.length = m.length) (h : ∀ i, i < l.length → l[i]! = m[i]!) : eqL l m = true := by
  rw [eqL_iff]
  apply List.ext_getElem hl
  intro i h1 h2
  have := h i h1
  rwa [getElem!_pos l i h1, getElem!_pos m i h2] at this
def EqIs (w : World) (b : Bool) (e : Ending) (w' : World) : Prop := e = .returned (.bool b) ∧ Gw w w'
end Go.Proofs.Ytpibkjldmmecpaa
