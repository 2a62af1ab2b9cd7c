/-
  fault.Has of a chain: just the innermost one's number.
-/
import Derived.Test.YtpinenfclpapjaaDoorFtJ
namespace Go.Proofs.YtpinenfclpapjaaDoor
open Go.RowKit Go.Extern.Stop Go.Stop Go.Extern
set_option linter.unusedVariables false

set_option maxHeartbeats 8000000 in
set_option maxRecDepth 100000 in
theorem is_c (c code : Int) (hc : (c != 0) = true) (ls : List Int) (b tb : Nat) (w0 w : World) (hB : Below w0.heap.size w0 w) (hle : w0.heap.size ≤ tb) (hg : w0.cell? ⟨0, 0, none⟩ = some (.iface 72 (.agg #[.pointer (some ⟨5, 24, none⟩)]))) (h : Chn w0 c ls b) (ht : FtB w tb 0 code .nilIface) :
    Calls Tryd.prog 22 #[fvl b, fvl tb] w fun e w' => e = .returned (.bool (c == code)) ∧ Below w.heap.size w w' := by
  have h1 := @run_callFunc_extern Tryd.prog 29 _ ReflectliteType.typeOf Tryd.func29 (by kernel_rfl) (by kernel_rfl) (by kernel_rfl) (by kernel_rfl)
  have h2 := @run_callFunc_extern Tryd.prog 78 _ (ReflectliteType.method (fun t => do Rtype.noPackHeld "Comparable" t; pure (.bool (← typeInfo t).comparable))) Tryd.func78 (by kernel_rfl) (by kernel_rfl) (by kernel_rfl) (by kernel_rfl)
  have tO := typeOfP
  have mC := methodComparable
  have cP := comparableP
  have H := Lib.hid (is_in c code hc ls b tb w0 w hB hle hg h ht)
  clear h hB hg
  go_enter Tryd.func22, Tryd.ntmps22
  go_wp2_with fail
  (with_reducible refine H.out.mono ?_); rintro e w1 ⟨rfl, hb1⟩
  go_wp2_with fail
  go_ret
  exact ⟨rfl, hb1⟩

set_option maxHeartbeats 8000000 in
set_option maxRecDepth 100000 in
theorem has_c (c code : Int) (hc : (c != 0) = true) (ls : List Int) (b : Nat) (w : World) (hg : w.cell? ⟨0, 0, none⟩ = some (.iface 72 (.agg #[.pointer (some ⟨5, 24, none⟩)]))) (h : Chn w c ls b) :
    Calls Tryd.prog 13 #[fvl b, .int .i64 code] w fun e w' => e = .returned (.bool (c == code)) ∧ Below w.heap.size w w' := by
  have hmf : ∀ (fn : Fn) (first cap : Array Value) (w : World), (Instr.makeFunc fn first cap).run Tryd.prog w = .ok (.func fn first cap) w := fun _ _ _ _ => rfl
  have hbA : Below w.heap.size w ((w.alloc (.cells #[.bool false] 4)).alloc (.cells (fcs 0 code .nilIface) 40)) := (((Below.refl _ _).alloc (Nat.le_refl _) _).alloc (by simp) _)
  have H := Lib.hid (is_c c code hc ls b (w.heap.size + 1) w ((w.alloc (.cells #[.bool false] 4)).alloc (.cells (fcs 0 code .nilIface) 40)) hbA (by omega) hg h (ft_last (by simp)))
  have HA := Lib.hid hbA
  clear h hg hbA
  go_enter_defers Tryd.func13, Tryd.ntmps13
  go_wp2_with fail
  (with_reducible refine H.out.mono ?_); rintro e w1 ⟨rfl, hb1⟩
  have hc0 : w1.heap[w.heap.size]? = some (.cells #[.bool false] 4 (0, 0)) := (hb1.block _ (by simp; omega)).trans (ft_prev (by simp) (ft_last rfl))
  have k0 : w1.cell? ⟨w.heap.size, 0, none⟩ = some (.bool false) := by rw [cell_of_row _ _ _ _ _ _ hc0]; rfl
  have k1 : w1.frozen? ⟨w.heap.size, 0, none⟩ = false := frozen_of_row _ _ _ _ _ hc0
  have HB1 : Hid (Below w.heap.size w w1) := HA.out.trans (hb1.mono HA.out.size)
  clear hb1
  go_wp2_with fail
  refine leaves_cons (f := 21) (args := #[.pointer (some ⟨w.heap.size, 0, none⟩)]) (by simp) (by simp [go_sem]) ?_
  refine (has_catch _ _).mono ?_
  rintro e u' w'' ⟨rfl, rfl, rfl⟩
  simp [Leaves, settle, results, Tryd.results13, go_sem, k0]
  exact HB1.out.setCell (Nat.le_refl _) _
end Go.Proofs.YtpinenfclpapjaaDoor
