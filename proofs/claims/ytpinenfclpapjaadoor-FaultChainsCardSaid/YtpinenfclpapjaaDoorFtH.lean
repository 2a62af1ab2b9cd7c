/-
  fault: what a fault that is nil tells; Has of nil.
-/
import Derived.Test.YtpinenfclpapjaaDoorFtG
namespace Go.Proofs.YtpinenfclpapjaaDoor
open Go.RowKit Go.Extern.Stop Go.Stop Go.Extern
set_option linter.unusedVariables false

theorem inner_none (w : World) : Calls Tryd.prog 18 #[.pointer none] w fun e w' => e = .returned (.bool false) ∧ w = w' := by
  go_enter Tryd.func18, Tryd.ntmps18
  go_wp2
  go_ret
  exact ⟨rfl, rfl⟩
theorem made_none (w : World) : Calls Tryd.prog 17 #[.pointer none] w fun e w' => e = .returned (.bool false) ∧ w = w' := by
  go_enter Tryd.func17, Tryd.ntmps17
  go_wp2_with (first | (go_at_call 18; refine (inner_none _).mono ?_; rintro e w' ⟨rfl, rfl⟩) | (go_at_call 15; refine (unwrap_none _).mono ?_; rintro e w' ⟨rfl, rfl⟩))
  go_ret
  exact ⟨rfl, rfl⟩
theorem layers_tn (w : World) (hg : w.cell? ⟨0, 0, none⟩ = some (.iface 72 (.agg #[.pointer (some ⟨5, 24, none⟩)]))) : Calls Tryd.prog 9 #[.iface 35 (.pointer none)] w fun e w' => e = .returned (.slice none 0 0) ∧ Below w.heap.size w w' := by
  go_enter Tryd.func9, Tryd.ntmps9
  go_wp2_with (first | (go_at_call 16; refine (first_hit none _ hg).mono ?_; rintro e w1 ⟨rfl, hb1⟩))
  go_loopg [3, 4, 5] 1 (fun _ l f ok wr => l = .slice none 0 0 ∧ f = .pointer none ∧ ok = .bool true ∧ Below w.heap.size w wr)
  case atStart => exact ⟨rfl, rfl, rfl, hb1⟩
  case round =>
    obtain ⟨rfl, rfl, rfl, bel⟩ := hrel
    go_wp2_with (first | (go_at_call 17; refine (made_none _).mono ?_; rintro e w' ⟨rfl, rfl⟩))
    go_ret
    exact ⟨rfl, bel⟩
theorem code_tn (w : World) (hg : w.cell? ⟨0, 0, none⟩ = some (.iface 72 (.agg #[.pointer (some ⟨5, 24, none⟩)]))) : Calls Tryd.prog 10 #[.iface 35 (.pointer none)] w fun e w' => e = .returned (.int .i64 0) ∧ Below w.heap.size w w' := by
  go_enter Tryd.func10, Tryd.ntmps10
  go_wp2
  go_loopg [0] 2 (fun k p wr => ((k = 2 ∧ p = .iface 35 (.pointer none)) ∨ (k = 1 ∧ p = .nilIface)) ∧ Below w.heap.size w wr)
  case atStart => exact ⟨.inl ⟨rfl, rfl⟩, Below.refl _ _⟩
  case round =>
    obtain ⟨⟨rfl, rfl⟩ | ⟨rfl, rfl⟩, bel⟩ := hrel
    · have hgr : wr.cell? ⟨0, 0, none⟩ = some (.iface 72 (.agg #[.pointer (some ⟨5, 24, none⟩)])) := (bel.cell (p := ⟨0, 0, none⟩) (World.block_lt_of_cell? w _ hg)).trans hg
      have hsz := bel.size
      go_wp2_with (first | (go_at_call 16; refine (first_hit none _ hgr).mono ?_; rintro e w1 ⟨rfl, hb1⟩) | (go_at_call 18; refine (inner_none _).mono ?_; rintro e w' ⟨rfl, rfl⟩) | (go_at_call 15; refine (unwrap_none _).mono ?_; rintro e w' ⟨rfl, rfl⟩))
      go_roundg 1
      case measure => decide
      case rel => exact ⟨.inr ⟨rfl, rfl⟩, bel.trans (hb1.mono hsz)⟩
    · go_wp2
      go_ret
      exact ⟨rfl, bel⟩
theorem text_tn (w : World) (hg : w.cell? ⟨0, 0, none⟩ = some (.iface 72 (.agg #[.pointer (some ⟨5, 24, none⟩)]))) : Calls Tryd.prog 11 #[.iface 35 (.pointer none)] w fun e w' => e = .returned (Str []) ∧ Below w.heap.size w w' := by
  go_enter Tryd.func11, Tryd.ntmps11
  go_wp2_with fail
  (with_reducible refine (layers_tn _ hg).mono ?_); rintro e w1 ⟨rfl, hb1⟩
  have hg1 : w1.cell? ⟨0, 0, none⟩ = some (.iface 72 (.agg #[.pointer (some ⟨5, 24, none⟩)])) := (hb1.cell (p := ⟨0, 0, none⟩) (World.block_lt_of_cell? w _ hg)).trans hg
  go_wp2_with fail
  (with_reducible refine (code_tn _ hg1).mono ?_); rintro e w2 ⟨rfl, hb2⟩
  go_wp2_with fail
  go_ret
  exact ⟨rfl, below_tr hb1 hb2 hb1.size⟩
theorem error_tn (w : World) (hg : w.cell? ⟨0, 0, none⟩ = some (.iface 72 (.agg #[.pointer (some ⟨5, 24, none⟩)]))) : Calls Tryd.prog 14 #[.pointer none] w fun e w' => e = .returned (Str []) ∧ Below w.heap.size w w' := by
  go_enter Tryd.func14, Tryd.ntmps14
  go_wp2_with (first | (go_at_call 11; refine (text_tn _ hg).mono ?_; rintro e w1 ⟨rfl, hb1⟩))
  go_ret
  exact ⟨rfl, hb1⟩

theorem has_catch (p : Value) (w : World) :
    CallsD Tryd.prog 21 #[p] .returning w fun e u' w' => e = .returned (.tuple #[]) ∧ u' = .returning ∧ w' = w := by
  refine callsD_of_wpS Tryd.func21 rfl fun c₀ cs hu => ?_
  apply wpS_seq
  apply wpS_region
  simp [wpOpsS, go_sem, recoverD, hu, Tryd.ntmps21, Exit.thenS]
  refine wpS_cond (t := false) (by simp [Act.eval, Array.replicate]) ?_
  simp only [Bool.false_eq_true, if_false]
  refine wpS_of_wp (wp_skip ?_)
  cases c₀
  simp_all [bodyPostS, results, Tryd.results21]
set_option maxRecDepth 100000 in
theorem is_nil (e : Option Addr) (w : World) : Calls Tryd.prog 22 #[.nilIface, .iface 35 (.pointer e)] w fun ev w' => ev = .returned (.bool false) ∧ w = w' := by
  have hq : ∀ z : World, (binOp .eql 24 .nilIface (.iface 35 (.pointer e))).run Tryd.prog z = .ok (.bool false) z := fun z => run_eql_iface_nil_left (w := z) _ _ Tryd.underlying24
  go_enter Tryd.func22, Tryd.ntmps22
  go_wp2
  go_ret
  exact ⟨rfl, rfl⟩
set_option maxHeartbeats 4000000 in
theorem has_nil (c : Int) (w : World) : Calls Tryd.prog 13 #[.nilIface, .int .i64 c] w fun e w' => e = .returned (.bool false) ∧ Below w.heap.size w w' := by
  have hmf : ∀ (fn : Fn) (first cap : Array Value) (w : World), (Instr.makeFunc fn first cap).run Tryd.prog w = .ok (.func fn first cap) w := fun _ _ _ _ => rfl
  go_enter_defers Tryd.func13, Tryd.ntmps13
  go_wp2_with (first | (go_at_call 22; refine (is_nil _ _).mono ?_; rintro e w' ⟨rfl, rfl⟩))
  refine leaves_cons (f := 21) (args := #[.pointer (some ⟨w.heap.size, 0, none⟩)]) (by simp) (by simp [go_sem]) ?_
  refine (has_catch _ _).mono ?_
  rintro e u' w'' ⟨rfl, rfl, rfl⟩
  simp [Leaves, settle, results, Tryd.results13, go_sem]
  exact ((Below.refl _ _).alloc (Nat.le_refl _) _).alloc (by simp) _
end Go.Proofs.YtpinenfclpapjaaDoor
