/-
  errors.Is at a fault, and fault.Has: an error has just the number that is innermost in it.
-/
import Derived.Test.YtpinenfclpapjaaDoorFtH
import Derived.Deep.QuietTactic
import Derived.BigQuiet
namespace Go.Proofs.YtpinenfclpapjaaDoor
open Go.RowKit Go.Extern.Stop Go.Stop Go.Extern
set_option linter.unusedVariables false

theorem methodIs (e : Option Addr) (w : World) : (Go.method 231 35 (.pointer e) "Is").run Tryd.prog w = .ok (71, .pointer e) w := by kernel_rfl
theorem methodUnwrap (e : Option Addr) (w : World) : (Go.method 231 35 (.pointer e) "Unwrap").run Tryd.prog w = .ok (15, .pointer e) w := by kernel_rfl
theorem methodComparable (h : Value) (w : World) : (Go.method 231 72 (.agg #[h]) "Comparable").run Tryd.prog w = .ok (78, .agg #[h]) w := by kernel_rfl
theorem comparableP (w : World) : (ReflectliteType.method (fun t => do Rtype.noPackHeld "Comparable" t; (fun a => Value.bool a.comparable) <$> typeInfo t) #[.agg #[.pointer (some ⟨5, 35, none⟩)]]).run Tryd.prog w = .ok (.bool true) w := by kernel_rfl
theorem ft_comp : (Tryd.prog.info? 35).map (·.comparable) = some true := by kernel_rfl
theorem ft_size3 : (Tryd.prog.info? 40).map (·.size) = some 3 := by kernel_rfl
theorem eq_same (b : Nat) (w : World) : (binOp .eql 24 (fvl b) (fvl b)).run Tryd.prog w = .ok (.bool true) w := by
  obtain ⟨i, hi, hc⟩ := Option.map_eq_some_iff.1 ft_comp
  obtain ⟨j, hj, hs⟩ := Option.map_eq_some_iff.1 ft_size3
  exact run_eql_iface_ptr_same (w := w) ⟨b, 0, none⟩ Tryd.underlying24 Tryd.underlying35 hi hc hj
theorem eq_other {w : World} {a b : Nat} {l c l' c' : Int} {v v' : Value} (hne : a ≠ b) (ha : FtB w a l c v) (hb : FtB w b l' c' v') : (binOp .eql 24 (fvl a) (fvl b)).run Tryd.prog w = .ok (.bool false) w := by
  obtain ⟨i, hi, hc⟩ := Option.map_eq_some_iff.1 ft_comp
  obtain ⟨j, hj, hs⟩ := Option.map_eq_some_iff.1 ft_size3
  exact run_eql_iface_ptr_other (w := w) Tryd.underlying24 Tryd.underlying35 hi hc hj (by rw [hs]; decide) (by intro h; injection h with h; exact hne h) ha hb

theorem inner_yes_q (b : Nat) (l c : Int) (hc' : (c != 0) = true) (w : World) (n : Nat) (h : FtB w b l c .nilIface) : Calls Tryd.prog 18 #[fpt b] (w.drewN n) fun e w' => e = .returned (.bool true) ∧ w' = w.drewN n :=
  (inner_yes b l c hc' (w.drewN n) h).mono fun e w' ⟨he, hw⟩ => ⟨he, hw.symm⟩
theorem inner_no_q (b : Nat) (l : Int) (v : Value) (w : World) (n : Nat) (h : FtB w b l 0 v) : Calls Tryd.prog 18 #[fpt b] (w.drewN n) fun e w' => e = .returned (.bool false) ∧ w' = w.drewN n :=
  (inner_no b l v (w.drewN n) h).mono fun e w' ⟨he, hw⟩ => ⟨he, hw.symm⟩
set_option maxHeartbeats 4000000 in
theorem fis_out (b tb : Nat) (l code : Int) (v : Value) (w : World) (hg : w.cell? ⟨0, 0, none⟩ = some (.iface 72 (.agg #[.pointer (some ⟨5, 24, none⟩)]))) (hf : FtB w b l 0 v) :
    Calls Tryd.prog 71 #[fpt b, fvl tb] w fun e w' => e = .returned (.bool false) ∧ Below w.heap.size w w' := by
  have hq := eq_same tb
  go_enter Tryd.func71, Tryd.ntmps71
  go_wp2_with (first | (go_at_call 16; refine (first_hit _ _ hg).mono ?_; rintro e w1 ⟨rfl, hb1⟩))
  have hf1 := hf.below hb1
  go_quiet ((go_at_call 18; with_reducible exact Calls.quiet_of_same (inner_no_q b l v _ _ hf1)))
  go_wp2
  go_ret
  exact ⟨rfl, below_dn hb1 _⟩
set_option maxHeartbeats 4000000 in
theorem fis_in0 (b tb : Nat) (l c : Int) (hc : (c != 0) = true) (w : World) (hg : w.cell? ⟨0, 0, none⟩ = some (.iface 72 (.agg #[.pointer (some ⟨5, 24, none⟩)]))) (hf : FtB w b l c .nilIface) (ht : FtB w tb 0 0 .nilIface) :
    Calls Tryd.prog 71 #[fpt b, fvl tb] w fun e w' => e = .returned (.bool false) ∧ Below w.heap.size w w' := by
  have hq := eq_same tb
  have hne : b ≠ tb := by
    rintro rfl
    rw [FtB, ht] at hf
    injection hf with hf; injection hf with hf
    have : (0 : Int) = c := by
      have h2 := congrArg (fun x : Array Value => x[1]?) hf
      simp at h2
      exact h2
    subst this; simp at hc
  clear hne
  go_enter Tryd.func71, Tryd.ntmps71
  go_wp2_with (first | (go_at_call 16; refine (first_hit _ _ hg).mono ?_; rintro e w1 ⟨rfl, hb1⟩))
  have hf1 := hf.below hb1
  have ht1 := ht.below hb1
  go_quiet ((first | (go_at_call 18; with_reducible exact Calls.quiet_of_same (inner_yes_q b l c hc _ _ hf1)) | (go_at_call 18; with_reducible exact Calls.quiet_of_same (inner_no_q tb 0 .nilIface _ _ ht1))))
  go_wp2
  go_ret
  exact ⟨rfl, below_dn hb1 _⟩
set_option maxHeartbeats 4000000 in
theorem fis_in (b tb : Nat) (l c code : Int) (hc : (c != 0) = true) (hd : (code != 0) = true) (w : World) (hg : w.cell? ⟨0, 0, none⟩ = some (.iface 72 (.agg #[.pointer (some ⟨5, 24, none⟩)]))) (hf : FtB w b l c .nilIface) (ht : FtB w tb 0 code .nilIface) :
    Calls Tryd.prog 71 #[fpt b, fvl tb] w fun e w' => e = .returned (.bool (c == code)) ∧ Below w.heap.size w w' := by
  have hq := eq_same tb
  go_enter Tryd.func71, Tryd.ntmps71
  go_wp2_with (first | (go_at_call 16; refine (first_hit _ _ hg).mono ?_; rintro e w1 ⟨rfl, hb1⟩))
  have hf1 := hf.below hb1
  have ht1 := ht.below hb1
  have h1 := hf1.c1
  have h2 := ht1.c1
  go_quiet ((first | (go_at_call 18; with_reducible exact Calls.quiet_of_same (inner_yes_q b l c hc _ _ hf1)) | (go_at_call 18; with_reducible exact Calls.quiet_of_same (inner_yes_q tb 0 code hd _ _ ht1))))
  go_wp2
  go_ret
  exact ⟨rfl, below_dn hb1 _⟩
end Go.Proofs.YtpinenfclpapjaaDoor
