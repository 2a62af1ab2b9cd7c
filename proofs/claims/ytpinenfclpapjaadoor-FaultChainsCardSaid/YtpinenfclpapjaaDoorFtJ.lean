/-
  errors.is over a chain of faults, and fault.Has.
-/
import Derived.Test.YtpinenfclpapjaaDoorFtI
import Derived.Deep.LoopGhost
namespace Go.Proofs.YtpinenfclpapjaaDoor
open Go.RowKit Go.Extern.Stop Go.Stop Go.Extern
set_option linter.unusedVariables false

theorem ta_is (v : Value) (x : TypeId) (w : World) : (Instr.typeAssert (.iface 35 v) x 74 true).run Tryd.prog w = .ok (.tuple #[.iface 35 v, .bool true]) w :=
  run_typeAssert_hasB Tryd.underlying74 (by kernel_rfl) v x w
theorem ta_un (v : Value) (x : TypeId) (w : World) : (Instr.typeAssert (.iface 35 v) x 77 true).run Tryd.prog w = .ok (.tuple #[.iface 35 v, .bool true]) w :=
  run_typeAssert_hasB Tryd.underlying77 (by kernel_rfl) v x w
theorem Chn.get {w : World} {c : Int} : ∀ {ls : List Int} {b : Nat}, Chn w c ls b → ∃ l c' v, FtB w b l c' v
  | [], _, h => h.elim
  | [l], b, h => ⟨_, _, _, h⟩
  | l :: m :: r, b, ⟨b', h1, h2⟩ => ⟨_, _, _, h1⟩

theorem fis_no (b tb : Nat) (l c code : Int) (hc : (c != 0) = true) (hcc : ¬ c = code) (w : World) (hg : w.cell? ⟨0, 0, none⟩ = some (.iface 72 (.agg #[.pointer (some ⟨5, 24, none⟩)]))) (hf : FtB w b l c .nilIface) (ht : FtB w tb 0 code .nilIface) :
    Calls Tryd.prog 71 #[fpt b, fvl tb] w fun e w' => e = .returned (.bool false) ∧ Below w.heap.size w w' := by
  by_cases hd : code = 0
  · subst hd; exact fis_in0 b tb l c hc w hg hf ht
  · have h := fis_in b tb l c code hc (by simpa using hd) w hg hf ht
    rw [show (c == code) = false by simpa using hcc] at h
    exact h
theorem fis_yes (b tb : Nat) (l c code : Int) (hc : (c != 0) = true) (hcc : c = code) (w : World) (hg : w.cell? ⟨0, 0, none⟩ = some (.iface 72 (.agg #[.pointer (some ⟨5, 24, none⟩)]))) (hf : FtB w b l c .nilIface) (ht : FtB w tb 0 code .nilIface) :
    Calls Tryd.prog 71 #[fpt b, fvl tb] w fun e w' => e = .returned (.bool true) ∧ Below w.heap.size w w' := by
  have h := fis_in b tb l c code hc (hcc ▸ hc) w hg hf ht
  rw [show (c == code) = true by simpa using hcc] at h
  exact h
theorem ret_bool {a b : Bool} (h : a = b) : Ending.returned (.bool a) = .returned (.bool b) := by rw [h]
set_option maxHeartbeats 8000000 in
set_option maxRecDepth 100000 in
theorem is_in (c code : Int) (hc : (c != 0) = true) (ls : List Int) (b tb : Nat) (w0 w : World) (hB : Below w0.heap.size w0 w) (hle : w0.heap.size ≤ tb) (hg : w0.cell? ⟨0, 0, none⟩ = some (.iface 72 (.agg #[.pointer (some ⟨5, 24, none⟩)]))) (h : Chn w0 c ls b) (ht : FtB w tb 0 code .nilIface) :
    Calls Tryd.prog 30 #[fvl b, fvl tb, .bool true] w fun e w' => e = .returned (.bool (c == code)) ∧ Below w.heap.size w w' := by
  have t1 := ta_is
  have t2 := ta_un
  have m1 := methodIs
  have m2 := methodUnwrap
  have hsw := hB.size
  go_enter Tryd.func30, Tryd.ntmps30
  go_wp2
  go_loopg [0] ls.length (fun k p wr => ∃ (ms : List Int) (d : Nat), p = fvl d ∧ ms.length = k ∧ Chn w0 c ms d ∧ Below w.heap.size w wr)
  case atStart => exact ⟨ls, b, rfl, rfl, h, Below.refl _ _⟩
  case round =>
    obtain ⟨ms, d, rfl, hk, hch, bel⟩ := hrel
    have HK := Lib.hid hk
    clear hk
    have hsz := bel.size
    have hB2 : Below w0.heap.size w0 wr := hB.trans (bel.mono hsw)
    have hgr : wr.cell? ⟨0, 0, none⟩ = some (.iface 72 (.agg #[.pointer (some ⟨5, 24, none⟩)])) := (hB2.cell (p := ⟨0, 0, none⟩) (World.block_lt_of_cell? w0 _ hg)).trans hg
    have hdl : d < w0.heap.size := hch.lt
    have htr := ht.below bel
    obtain ⟨l1, c1, v1, hf1⟩ := hch.get
    have hq := eq_other (by omega : d ≠ tb) (hf1.below hB2) htr
    clear hf1
    rcases hch.split with ⟨l, hms, hf0⟩ | ⟨l, ns, d', hms, hf0, hch'⟩
    · have HM := Lib.hid hms
      have hf := hf0.below hB2
      clear hms
      by_cases hcc : c = code
      · have HE : Hid (true = (c == code)) := by show _ = _; simp [hcc]
        have H1 := Lib.hid (fis_yes d tb l c code hc hcc _ hgr hf htr)
        clear hcc hf0 hch hc
        go_wp2_with fail
        (with_reducible refine H1.out.mono ?_); rintro e w1 ⟨rfl, hb1⟩
        go_wp2_with fail
        go_ret
        exact ⟨ret_bool HE.out, bel.trans (hb1.mono hsz)⟩
      · have HE : Hid (false = (c == code)) := by show _ = _; simp [hcc]
        have H1 := Lib.hid (fis_no d tb l c code hc hcc _ hgr hf htr)
        clear hcc hf0 hch hc
        go_wp2_with fail
        (with_reducible refine H1.out.mono ?_); rintro e w1 ⟨rfl, hb1⟩
        have hf1 := hf.below hb1
        go_wp2_with (first | (go_at_call 15; refine (unwrap_c d l c _ _ hf1).mono ?_; rintro e w' ⟨rfl, rfl⟩))
        go_ret
        exact ⟨ret_bool HE.out, bel.trans (hb1.mono hsz)⟩
    · have HM := Lib.hid hms
      have hf := hf0.below hB2
      clear hms
      have H1 := Lib.hid (fis_out d tb l code _ _ hgr hf)
      clear hf0 hch
      go_wp2_with fail
      (with_reducible refine H1.out.mono ?_); rintro e w1 ⟨rfl, hb1⟩
      have hf1 := hf.below hb1
      go_wp2_with (first | (go_at_call 15; refine (unwrap_c d l 0 _ _ hf1).mono ?_; rintro e w' ⟨rfl, rfl⟩))
      go_roundg ns.length
      case measure => rw [← HK.out, HM.out]; simp
      case rel => exact ⟨ns, d', rfl, rfl, hch', bel.trans (hb1.mono hsz)⟩
end Go.Proofs.YtpinenfclpapjaaDoor
