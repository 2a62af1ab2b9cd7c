/-
  fault.Code of a chain: the innermost one's number.
-/
import Derived.Test.YtpinenfclpapjaaDoorFtC
import Derived.Deep.LoopGhost
namespace Go.Proofs.YtpinenfclpapjaaDoor
open Go.RowKit Go.Extern.Stop Go.Stop Go.Extern
set_option linter.unusedVariables false

theorem below_tr {B : Nat} {a b c : World} (h : Below B a b) (k : Below b.heap.size b c) (hB : B ≤ b.heap.size) : Below B a c := h.trans (k.mono hB)

theorem code_nil (w : World) : Calls Tryd.prog 10 #[.nilIface] w fun e w' => e = .returned (.int .i64 0) ∧ Below w.heap.size w w' := by
  go_enter Tryd.func10, Tryd.ntmps10
  go_wp2
  go_loopg [0] 1 (fun _ p wr => p = .nilIface ∧ Below w.heap.size w wr)
  case atStart => exact ⟨rfl, Below.refl _ _⟩
  case round =>
    obtain ⟨rfl, bel⟩ := hrel
    go_wp2
    go_ret
    exact ⟨rfl, bel⟩

set_option maxHeartbeats 4000000 in
theorem code_c (c : Int) (hc' : (c != 0) = true) (ls : List Int) (b : Nat) (w : World) (hg : w.cell? ⟨0, 0, none⟩ = some (.iface 72 (.agg #[.pointer (some ⟨5, 24, none⟩)]))) (h : Chn w c ls b) :
    Calls Tryd.prog 10 #[fvl b] w fun e w' => e = .returned (.int .i64 c) ∧ Below w.heap.size w w' := by
  go_enter Tryd.func10, Tryd.ntmps10
  go_wp2
  go_loopg [0] ls.length (fun k p wr => ∃ (ms : List Int) (d : Nat), p = fvl d ∧ ms.length = k ∧ Chn wr c ms d ∧ Below w.heap.size w wr)
  case atStart => exact ⟨ls, b, rfl, rfl, h, Below.refl _ _⟩
  case round =>
    obtain ⟨ms, d, rfl, hk, hch, bel⟩ := hrel
    have HK := Lib.hid hk
    clear hk
    have hsz := bel.size
    have hgr : wr.cell? ⟨0, 0, none⟩ = some (.iface 72 (.agg #[.pointer (some ⟨5, 24, none⟩)])) := (bel.cell (p := ⟨0, 0, none⟩) (World.block_lt_of_cell? w _ hg)).trans hg
    rcases hch.split with ⟨l, hms, hf⟩ | ⟨l, ns, d', hms, hf, hch'⟩
    · have HM := Lib.hid hms
      clear hms
      go_wp2_with (first | (go_at_call 16; refine (first_hit _ _ hgr).mono ?_; rintro e w1 ⟨rfl, hb1⟩))
      have hf1 := hf.below hb1
      have h1 := hf1.c1
      go_wp2_with (first | (go_at_call 18; refine (inner_yes d l c hc' _ hf1).mono ?_; rintro e w' ⟨rfl, rfl⟩))
      go_ret
      exact ⟨rfl, below_tr bel hb1 hsz⟩
    · have HM := Lib.hid hms
      clear hms
      go_wp2_with (first | (go_at_call 16; refine (first_hit _ _ hgr).mono ?_; rintro e w1 ⟨rfl, hb1⟩))
      have hf1 := hf.below hb1
      have h1 := hf1.c1
      go_wp2_with (first | (go_at_call 18; refine (inner_no d l _ _ hf1).mono ?_; rintro e w' ⟨rfl, rfl⟩) | (go_at_call 15; refine (unwrap_c d l 0 _ _ hf1).mono ?_; rintro e w' ⟨rfl, rfl⟩))
      go_roundg ns.length
      case measure => rw [← HK.out, HM.out]; simp
      case rel => exact ⟨ns, d', rfl, rfl, hch'.below hb1, below_tr bel hb1 hsz⟩
end Go.Proofs.YtpinenfclpapjaaDoor
