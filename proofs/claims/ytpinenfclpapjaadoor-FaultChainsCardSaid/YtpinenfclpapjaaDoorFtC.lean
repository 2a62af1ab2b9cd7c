/-
  fault: New, Wrap, and what a fault tells of itself; a chain of faults in memory.
-/
import Derived.Test.YtpinenfclpapjaaDoorFtB
import Derived.Test.YtpinenfclpapjaaDoorMem
namespace Go.Proofs.YtpinenfclpapjaaDoor
open Go.RowKit Go.Extern.Stop Go.Stop Go.Extern
set_option linter.unusedVariables false

/-- A fault's cells. -/
abbrev fcs (l c : Int) (v : Value) : Array Value := #[.int .i64 l, .int .i64 c, v]
/-- A pointer to a fault, as an error. -/
abbrev fvl (b : Nat) : Value := .iface 35 (.pointer (some ⟨b, 0, none⟩))
abbrev fpt (b : Nat) : Value := .pointer (some ⟨b, 0, none⟩)
def FtB (w : World) (b : Nat) (l c : Int) (v : Value) : Prop := w.heap[b]? = some (.cells (fcs l c v) 40 (0, 0))
theorem ft_last {w : World} {o : Obj} {n : Nat} (h : n = w.heap.size) : (w.alloc o).heap[n]? = some o := by subst h; exact heap_alloc_new w o
theorem ft_prev {w : World} {o p : Obj} {n : Nat} (h : n < w.heap.size) (hp : w.heap[n]? = some p) : (w.alloc o).heap[n]? = some p := (Below.heap_alloc w o n h).trans hp
theorem FtB.c0 {w : World} {b : Nat} {l c : Int} {v : Value} (h : FtB w b l c v) : w.cell? ⟨b, 0, none⟩ = some (.int .i64 l) := by rw [cell_of_row _ _ _ _ _ _ h]; rfl
theorem FtB.c1 {w : World} {b : Nat} {l c : Int} {v : Value} (h : FtB w b l c v) : w.cell? ⟨b, 1, none⟩ = some (.int .i64 c) := by rw [cell_of_row _ _ _ _ _ _ h]; rfl
theorem FtB.c2 {w : World} {b : Nat} {l c : Int} {v : Value} (h : FtB w b l c v) : w.cell? ⟨b, 2, none⟩ = some v := by rw [cell_of_row _ _ _ _ _ _ h]; rfl
theorem FtB.below {w w' : World} {b : Nat} {l c : Int} {v : Value} (h : FtB w b l c v) (hb : Below w.heap.size w w') : FtB w' b l c v := (hb.block b (blk_lt h)).trans h
theorem FtB.drew {w : World} {b : Nat} {l c : Int} {v : Value} (h : FtB w b l c v) : FtB w.drew b l c v := h

theorem new_zero (l : Int) (w : World) : Calls Tryd.prog 6 #[.int .i64 l, .int .i64 0] w fun e w' => e = .returned .nilIface ∧ w = w' := by
  go_enter Tryd.func6, Tryd.ntmps6
  go_wp2
  go_ret
  exact ⟨rfl, rfl⟩
theorem new_c (l c : Int) (hc : (c == 0) = false) (w : World) : Calls Tryd.prog 6 #[.int .i64 l, .int .i64 c] w fun e w' => e = .returned (fvl w.heap.size) ∧ w' = w.alloc (.cells (fcs l c .nilIface) 40) := by
  go_enter Tryd.func6, Tryd.ntmps6
  go_wp2
  go_ret
  exact ⟨rfl, rfl⟩
theorem wrap_nil (l : Int) (w : World) : Calls Tryd.prog 8 #[.int .i64 l, .nilIface] w fun e w' => e = .returned .nilIface ∧ w = w' := by
  go_enter Tryd.func8, Tryd.ntmps8
  go_wp2
  go_ret
  exact ⟨rfl, rfl⟩
theorem wrap_c (l : Int) (b : Nat) (w : World) : Calls Tryd.prog 8 #[.int .i64 l, fvl b] w fun e w' => e = .returned (fvl w.heap.size) ∧ w' = w.alloc (.cells (fcs l 0 (fvl b)) 40) := by
  go_enter Tryd.func8, Tryd.ntmps8
  go_wp2
  go_ret
  exact ⟨rfl, rfl⟩
theorem inner_yes (b : Nat) (l c : Int) (hc' : (c != 0) = true) (w : World) (h : FtB w b l c .nilIface) : Calls Tryd.prog 18 #[fpt b] w fun e w' => e = .returned (.bool true) ∧ w = w' := by
  have h1 := h.c1
  have h2 := h.c2
  go_enter Tryd.func18, Tryd.ntmps18
  go_wp2
  go_ret
  exact ⟨rfl, rfl⟩
theorem inner_no (b : Nat) (l : Int) (v : Value) (w : World) (h : FtB w b l 0 v) : Calls Tryd.prog 18 #[fpt b] w fun e w' => e = .returned (.bool false) ∧ w = w' := by
  have h1 := h.c1
  have h2 := h.c2
  go_enter Tryd.func18, Tryd.ntmps18
  go_wp2
  go_ret
  exact ⟨rfl, rfl⟩
theorem unwrap_c (b : Nat) (l c : Int) (v : Value) (w : World) (h : FtB w b l c v) : Calls Tryd.prog 15 #[fpt b] w fun e w' => e = .returned v ∧ w = w' := by
  have h2 := h.c2
  go_enter Tryd.func15, Tryd.ntmps15
  go_wp2
  go_ret
  exact ⟨rfl, rfl⟩
theorem unwrap_none (w : World) : Calls Tryd.prog 15 #[.pointer none] w fun e w' => e = .returned .nilIface ∧ w = w' := by
  go_enter Tryd.func15, Tryd.ntmps15
  go_wp2
  go_ret
  exact ⟨rfl, rfl⟩
theorem made_in (b : Nat) (l c : Int) (hc' : (c != 0) = true) (w : World) (h : FtB w b l c .nilIface) : Calls Tryd.prog 17 #[fpt b] w fun e w' => e = .returned (.bool true) ∧ w = w' := by
  go_enter Tryd.func17, Tryd.ntmps17
  go_wp2_with (first | (go_at_call 18; refine (inner_yes b l c hc' _ h).mono ?_; rintro e w' ⟨rfl, rfl⟩))
  go_ret
  exact ⟨rfl, rfl⟩
theorem made_out (b b' : Nat) (l : Int) (w : World) (h : FtB w b l 0 (fvl b')) : Calls Tryd.prog 17 #[fpt b] w fun e w' => e = .returned (.bool true) ∧ w = w' := by
  go_enter Tryd.func17, Tryd.ntmps17
  go_wp2_with (first | (go_at_call 18; refine (inner_no b l _ _ h).mono ?_; rintro e w' ⟨rfl, rfl⟩) | (go_at_call 15; refine (unwrap_c b l 0 _ _ h).mono ?_; rintro e w' ⟨rfl, rfl⟩))
  go_ret
  exact ⟨rfl, rfl⟩

/-- A chain of faults, the outermost at b: its layers, and the innermost one's number. -/
def Chn (w : World) (code : Int) : List Int → Nat → Prop
  | [], _ => False
  | [l], b => FtB w b l code .nilIface
  | l :: m :: r, b => ∃ b', FtB w b l 0 (fvl b') ∧ Chn w code (m :: r) b'
theorem Chn.below {w w' : World} {c : Int} (hb : Below w.heap.size w w') : ∀ {ls : List Int} {b : Nat}, Chn w c ls b → Chn w' c ls b
  | [], _, h => h
  | [l], b, h => FtB.below h hb
  | l :: m :: r, b, ⟨b', h1, h2⟩ => ⟨b', h1.below hb, Chn.below hb h2⟩
theorem Chn.lt {w : World} {c : Int} : ∀ {ls : List Int} {b : Nat}, Chn w c ls b → b < w.heap.size
  | [], _, h => h.elim
  | [l], b, h => blk_lt h
  | l :: m :: r, b, ⟨b', h1, h2⟩ => blk_lt h1
theorem Chn.pos {w : World} {c : Int} {ls : List Int} {b : Nat} (h : Chn w c ls b) : 0 < ls.length := by
  cases ls with
  | nil => exact h.elim
  | cons => simp
theorem Chn.split {w : World} {c : Int} {ls : List Int} {b : Nat} (h : Chn w c ls b) : (∃ l, ls = [l] ∧ FtB w b l c .nilIface) ∨ ∃ l ms b', ls = l :: ms ∧ FtB w b l 0 (fvl b') ∧ Chn w c ms b' := by
  match ls, h with
  | [l], h => exact .inl ⟨l, rfl, h⟩
  | l :: m :: r, ⟨b', h1, h2⟩ => exact .inr ⟨l, m :: r, b', rfl, h1, h2⟩
end Go.Proofs.YtpinenfclpapjaaDoor
