/- For EventWrites: both ways of Bytes, and what is read behind. -/
import Derived.Test.YtfglncbgifiigaaEvU
namespace Go.Proofs.Ytfglncbgifiigaa
open Go.RowKit Go.Sort Go.Lib
set_option linter.unusedVariables false

theorem bytesE_ways {w : World} {L : List Ev} (h : ∀ x ∈ L, Ev.ok w x) (_hl : L.length ≤ 300) (m : List UInt8) : (bytesE L).2 ≠ 0 ∨ ((bytesE L).2 = 0 ∧ (bytesE L).1 = evsB L ∧ rdAllE ((bytesE L).1 ++ m) false = (true, L, m, false)) := by
  unfold bytesE
  by_cases h1 : 256 < L.length
  · rw [if_pos h1]; left; show (21 : Int) ≠ 0; decide
  rw [if_neg h1]
  cases hk : kdsOk L with
  | false => left; show (2 : Int) ≠ 0; decide
  | true => exact .inr ⟨rfl, rfl, rdAll_back w L h (by omega) hk m⟩
end Go.Proofs.Ytfglncbgifiigaa
