/- A region within a round of a range over a function: its operations, if none of them defers, do as they do outside. -/
import Derived.Test.YtgbbckjbpgojaaaRgT
import Derived.OwnWalkIn
import Derived.OrdersIn
namespace Go.Proofs.Ytgbbckjbpgojaaa
open Go.RowKit

theorem opIn_round {F : Fence} {n : Nat} {P : Program} {o : Oper} {l : Nat} (h : ∀ c, o.op ≠ .defer c) (a : Act) (w : World) (K : Act → World → Prop) (Q : Exit → Act → World → Prop) :
    o.wpIn (F.inRound l) n P a w K Q = o.wpIn F n P a w K Q := by
  unfold Oper.wpIn
  rw [Oper.semAt_plain F a.eval o h, Oper.semAt_plain (F.inRound l) a.eval o h]
  rfl
theorem wpOpIn_round {F : Fence} {n : Nat} {P : Program} {ops : Array Oper} {l : Nat} (h : ∀ (i : Nat) (o : Oper), ops[i]? = some o → ∀ c, o.op ≠ .defer c) (Q : Exit → Act → World → Prop) (i : Nat) (K : Act → World → Prop) (a : Act) (w : World) :
    wpOpIn (F.inRound l) n P ops Q i K a w = wpOpIn F n P ops Q i K a w := by
  unfold wpOpIn
  cases e : ops[i]? with
  | none => rfl
  | some o =>
    simp only
    rw [opIn_round (h i o e)]
    rfl
theorem wpAnyIn_round {F : Fence} {n : Nat} {P : Program} {md : Region.Mode} {ops : Array Oper} {l : Nat} (h : ∀ (i : Nat) (o : Oper), ops[i]? = some o → ∀ c, o.op ≠ .defer c) (Q : Exit → Act → World → Prop) :
    ∀ (fuel : Nat) (listed : Array Bool) (a : Act) (w : World), wpAnyIn F n P md ops Q fuel listed a w → wpAnyIn (F.inRound l) n P md ops Q fuel listed a w
  | 0, _, _, _, hw => hw
  | fuel + 1, listed, a, w, hw => by
    refine ⟨hw.1, fun i hi => ?_⟩
    rw [wpOpIn_round h]
    exact wpOpIn_mono (fun a' w' hk => wpAnyIn_round h Q fuel _ a' w' hk) (hw.2 i hi)
end Go.Proofs.Ytgbbckjbpgojaaa
