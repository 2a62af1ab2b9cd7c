/-
  What the rows' condition gives the walks: errors.errorType's handle, and the powers of ten; and a world that meets it: the door's own heap.
-/
import Derived.Test.YtpinenfclpapjaaDoorFtG
import Derived.Test.YtpinenfclpapjaaDoorRows
import Derived.ProofKit
import Derived.LaidMore
import Derived.LaidLaws
import Derived.LaidHandle
import Derived.LaidSub
import Derived.OpenShut
import Derived.Stop.LaidErr
import Derived.Stop.Joined
namespace Go.Proofs.YtpinenfclpapjaaDoor
open Go.RowKit Go.ChangeShapes Go.WideShapes Go.ChangeAt
set_option linter.unusedVariables false

theorem ft_et : Tryd.prog.globalNamed "errors.errorType" = some 0 := by kernel_rfl
theorem ft_rt : (Tryd.prog.cutTypes.find? (·.1 == "internal/reflectlite.rtype")).map (·.2) = some 72 := by kernel_rfl
theorem ft_oneRow : ((List.range 131).filter fun t => Tryd.prog.rowNamed t [101, 114, 114, 111, 114]) = [24] := by kernel_rfl
theorem ft_size : Tryd.prog.types.size = 131 := by kernel_rfl
def laidL : List (String × DataW Unit) := [("math/bits.deBruijn32tab", Rows.laid_math_bits_deBruijn32tab), ("math/bits.deBruijn64tab", Rows.laid_math_bits_deBruijn64tab), ("internal/strconv.uint64pow10", Rows.laid_internal_strconv_uint64pow10), ("errors.errorType", Rows.laid_errors_errorType)]
theorem door_met (os : Os) (args : Array Value) : laidMetH Tryd.prog laidL ((World.doorLaid Tryd.prog 31 os).forCall (fun _ _ => 0) ⟨#[], args, []⟩).memory :=
  laidMetH_of_parts3 (fuel := 8) (laidMet_of_run' 8 (by kernel_rfl) (by kernel_rfl)) (by kernel_rfl) (by kernel_rfl)
theorem laid4_of {W : World} (h : laidMetH Tryd.prog laidL W) : Laid4 W := by
  obtain ⟨hd, hh⟩ := laidMetH_iff.1 h
  refine ⟨?_, ?_⟩
  · obtain ⟨name, u, ty, e1, e2, e3, e4, e5⟩ := hh ("errors.errorType", Rows.laid_errors_errorType) (List.mem_singleton.2 rfl)
    have en : name = [101, 114, 114, 111, 114] := (Option.some.inj e1).symm
    subst en
    obtain rfl := Option.some.inj (ft_rt.symm.trans e2)
    have hm : ty ∈ (List.range 131).filter fun t => Tryd.prog.rowNamed t [101, 114, 114, 111, 114] := List.mem_filter.2 ⟨List.mem_range.2 (by rw [← ft_size]; exact e3), e4⟩
    rw [ft_oneRow] at hm
    obtain rfl := List.mem_singleton.1 hm
    have ht : typeHandle Tryd.prog 24 = .pointer (some ⟨5, 24, none⟩) := by kernel_rfl
    rw [ht] at e5
    simpa using World.var?_cell ft_et e5 0
  · have hd' : laidMet Tryd.prog [("math/bits.deBruijn32tab", Rows.laid_math_bits_deBruijn32tab), ("math/bits.deBruijn64tab", Rows.laid_math_bits_deBruijn64tab), ("internal/strconv.uint64pow10", Lib.tabData .u64 Lib.pow10Tab)] W := hd
    exact Lib.tabIs_of_head (rest := []) powAt (by kernel_rfl) Tryd.underlying96 Tryd.underlying87 (by kernel_rfl) (by kernel_rfl) hd'.tail.tail
end Go.Proofs.YtpinenfclpapjaaDoor
