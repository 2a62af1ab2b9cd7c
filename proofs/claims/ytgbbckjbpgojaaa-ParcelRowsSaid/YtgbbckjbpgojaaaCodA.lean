/- codec's reader: its state in memory; the closure that tells the next byte; a number. -/
import Derived.Test.YtgbbckjbpgojaaaCodP
import Derived.Test.YtgbbckjbpgojaaaProg
import Derived.Test.YtgbbckjbpgojaaaChecked
import Derived.WalkSpells
import Derived.WalkLawsBesides
import Derived.Handy
import Derived.BigQuiet
import Derived.Deep.QuietTactic
import Derived.Maps.AppendAt
import Derived.Deep.Draws
import Derived.Lib.IndexBytes
namespace Go.Proofs.Ytgbbckjbpgojaaa
open Go.RowKit

/-- Bytes as a string. -/
abbrev Str (l : List UInt8) : Value := .string ⟨l.toArray⟩
/-- A reader at block g: what is left; whether it is bad. -/
def RB (w : World) (g : Nat) (l : List UInt8) (bd : Bool) : Prop := w.heap[g]? = some (.cells #[Str l, .bool bd] 81 (0, 0))

theorem blk_lt {w : World} {g : Nat} {o : Obj} (h : w.heap[g]? = some o) : g < w.heap.size := by
  rcases Nat.lt_or_ge g w.heap.size with h' | h'
  · exact h'
  · rw [Array.getElem?_eq_none h'] at h; cases h
theorem RB.lt {w : World} {g : Nat} {l : List UInt8} {bd : Bool} (h : RB w g l bd) : g < w.heap.size := blk_lt h
theorem RB.c0 {w : World} {g : Nat} {l : List UInt8} {bd : Bool} (h : RB w g l bd) : w.cell? ⟨g, 0, none⟩ = some (Str l) := by rw [cell_of_row _ _ _ _ _ _ h]; rfl
theorem RB.c1 {w : World} {g : Nat} {l : List UInt8} {bd : Bool} (h : RB w g l bd) : w.cell? ⟨g, 1, none⟩ = some (.bool bd) := by rw [cell_of_row _ _ _ _ _ _ h]; rfl
theorem RB.f0 {w : World} {g : Nat} {l : List UInt8} {bd : Bool} (h : RB w g l bd) : w.frozen? ⟨g, 0, none⟩ = false := frozen_of_row _ _ _ _ _ h
theorem RB.f1 {w : World} {g : Nat} {l : List UInt8} {bd : Bool} (h : RB w g l bd) : w.frozen? ⟨g, 1, none⟩ = false := frozen_of_row _ _ _ _ _ h
theorem heap_set {w : World} {g k : Nat} {v : Value} {cs : Array Value} {t : TypeId} (h : w.heap[g]? = some (.cells cs t (0, 0))) : (w.setCell ⟨g, k, none⟩ v).heap[g]? = some (.cells (cs.setIfInBounds k v) t (0, 0)) :=
  heap_setCell_same _ _ _ _ _ _ h
theorem heap_far {w : World} {a : Addr} {v : Value} {k : Nat} (h : k ≠ a.block) : (w.setCell a v).heap[k]? = w.heap[k]? := Below.heap_setCell w a v k h
theorem RB.set0 {w : World} {g : Nat} {l : List UInt8} {bd : Bool} (h : RB w g l bd) (t : List UInt8) : RB (w.setCell ⟨g, 0, none⟩ (Str t)) g t bd := by
  unfold RB at h ⊢; rw [heap_set h]; rfl
theorem RB.set1 {w : World} {g : Nat} {l : List UInt8} {bd : Bool} (h : RB w g l bd) (b : Bool) : RB (w.setCell ⟨g, 1, none⟩ (.bool b)) g l b := by
  unfold RB at h ⊢; rw [heap_set h]; rfl
theorem RB.drew {w : World} {g : Nat} {l : List UInt8} {bd : Bool} (h : RB w g l bd) : RB w.drew g l bd := h
theorem RB.drewN {w : World} {g : Nat} {l : List UInt8} {bd : Bool} (h : RB w g l bd) (n : Nat) : RB (w.drewN n) g l bd := h
theorem RB.alloc {w : World} {g : Nat} {l : List UInt8} {bd : Bool} (h : RB w g l bd) (o : Obj) : RB (w.alloc o) g l bd := (Below.heap_alloc w o g h.lt).trans h

/-- Only block g, and what is new, has turned. -/
def Tch (g : Nat) (w w' : World) : Prop := w.grownBy w' (some g)
theorem Tch.refl (g : Nat) (w : World) : Tch g w w := World.grownBy.refl _ _
theorem Tch.trans {g : Nat} {a b c : World} (h : Tch g a b) (k : Tch g b c) : Tch g a c := World.grownBy.trans h k
theorem Tch.drew {g : Nat} {a b : World} (h : Tch g a b) : Tch g a b.drew := ⟨h.os, h.tape, h.output, h.size, h.block⟩
theorem Tch.drewN {g : Nat} {a b : World} (h : Tch g a b) (n : Nat) : Tch g a (b.drewN n) := ⟨h.os, h.tape, h.output, h.size, h.block⟩
theorem Tch.alloc {g : Nat} {a b : World} (h : Tch g a b) (o : Obj) : Tch g a (b.alloc o) := h.trans (World.grownBy_alloc b o _)
theorem Tch.set {g : Nat} {a b : World} (h : Tch g a b) (k : Nat) (v : Value) : Tch g a (b.setCell ⟨g, k, none⟩ v) :=
  h.trans ⟨rfl, rfl, rfl, by simp [World.setCell], fun i _ hne => heap_far (a := ⟨g, k, none⟩) (fun e => hne (by rw [e]))⟩
theorem Tch.size {g : Nat} {a b : World} (h : Tch g a b) : a.heap.size ≤ b.heap.size := World.grownBy.size h
theorem Tch.blk {g k : Nat} {a b : World} {o : Obj} (h : Tch g a b) (ho : a.heap[k]? = some o) (hne : k ≠ g) : b.heap[k]? = some o :=
  (World.grownBy.block h k (blk_lt ho) (fun e => hne (by injection e))).trans ho
theorem Tch.below {g B : Nat} {a b : World} (h : Tch g a b) (hB : B ≤ g) (hs : B ≤ a.heap.size) : Below B a b :=
  ⟨World.grownBy.os h, World.grownBy.tape h, World.grownBy.output h, h.size, fun k hk => World.grownBy.block h k (by omega) (fun e => by injection e; omega)⟩
theorem Tch.of_alloc {g : Nat} {a b : World} {o : Obj} (h : Tch g (a.alloc o) b) : Tch g a b := (World.grownBy_alloc a o (some g)).trans h

theorem str_tail (b : UInt8) (t : List UInt8) : (⟨(b :: t).toArray⟩ : ByteArray).extract 1 (t.length + 1) = ⟨t.toArray⟩ := by
  rw [ByteArray.extract_mk]; congr 1; simp

/-- The closure's variable: a block with the reader's address. -/
def Cap (w : World) (c g : Nat) : Prop := w.heap[c]? = some (.cells #[.pointer (some ⟨g, 0, none⟩)] 77 (0, 0))
theorem Cap.c0 {w : World} {c g : Nat} (h : Cap w c g) : w.cell? ⟨c, 0, none⟩ = some (.pointer (some ⟨g, 0, none⟩)) := by rw [cell_of_row _ _ _ _ _ _ h]; rfl

set_option maxHeartbeats 1000000 in
theorem next_nil (c g : Nat) (bd : Bool) (w : World) (hc : Cap w c g) (h : RB w g [] bd) :
    Calls Try.prog 36 #[.pointer (some ⟨c, 0, none⟩)] w fun e w' => e = .returned (.tuple #[.int .u8 0, .bool false]) ∧ w = w' := by
  have k0 := hc.c0
  have k1 := h.c0
  clear hc h
  go_enter Try.func36, Try.ntmps36
  go_wp2
  go_ret2
  exact ⟨rfl, rfl⟩

set_option maxHeartbeats 1000000 in
theorem next_cons (c g : Nat) (b : UInt8) (t : List UInt8) (bd : Bool) (w : World) (hc : Cap w c g) (h : RB w g (b :: t) bd) :
    Calls Try.prog 36 #[.pointer (some ⟨c, 0, none⟩)] w fun e w' => e = .returned (.tuple #[.int .u8 (b.toNat : Int), .bool true]) ∧ Tch g w w' ∧ RB w' g t bd := by
  have k0 := hc.c0
  have k1 := h.c0
  have k2 := h.f0
  have hst := str_tail b t
  go_enter Try.func36, Try.ntmps36
  go_wp2
  go_region
  all_goals
    go_wp2
    go_ret2
    exact ⟨rfl, ((Tch.refl g w).drew).set 0 _, h.set0 t⟩
end Go.Proofs.Ytgbbckjbpgojaaa
