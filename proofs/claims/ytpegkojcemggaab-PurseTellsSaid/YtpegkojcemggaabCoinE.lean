/- coin: whether a quotient is rounded away from 0. -/
import Derived.Test.YtpegkojcemggaabCoinD
import Derived.Deep.RegionHeld3
namespace Go.Proofs.Ytpegkojcemggaab
open Go.RowKit

/-- Is a quotient that leaves the rest r, of d, rounded away from 0? -/
def awayB (round : Int) (neg odd : Bool) (r d : Nat) : Bool :=
  if r = 0 then false else if round = 2 then !neg else if round = 1 then neg else decide (d < 2 * r) || (decide (2 * r = d) && odd)

theorem pv_ne {x : Int} (h : x ≠ 0) : (hiOf x == hiOf 0 && loOf x == loOf 0) = false := by
  rw [Bool.eq_false_iff]
  intro e
  simp only [Bool.and_eq_true, beq_iff_eq] at e
  exact h (pv_eq.1 e)

end Go.Proofs.Ytpegkojcemggaab
