/- What the laws lean on, in one row of texts (by shake.py): part 1 of 5. -/
import Derived.Test.YtgbmgdffgmablaaGreatRows
import Derived.WalkKit
import Derived.Laws.Bits64b
import Derived.Test.YtgbmgdffgmablaaGreatProg
import Derived.Test.YtgbmgdffgmablaaGreatChecked
import Derived.WalkSpells
import Derived.WalkLawsBesides
import Derived.Handy
import Derived.BigQuiet
import Derived.Deep.QuietTactic
import Derived.Maps.AppendAt
import Derived.Deep.Draws
import Derived.Lib.IndexBytes
import Derived.OwnWalk
import Derived.Deep.RegionHeld3
import Derived.Deep.RegionLaw
import Derived.Deep.AppendLies
import Derived.Lib.ConvBytes
import Derived.Lib.Hide
import Derived.Sort.Grow
import Derived.Sort.LotA
import Derived.OpenShut
import Derived.Deep.Slices
import Derived.Deep.Fields
import Derived.ChangeSame
import Derived.Shelf.SlSortCmp.KitK
import Derived.Deep.MidRow
import Derived.Deep.RegionWith
import Derived.BigRegion
import Derived.Deep.LoopGhost
import Derived.Shelf.SlSorted.Search
import Derived.Ground.SlsoProg
import Derived.Shelf.SlSortCmp.QuietGrown
import Derived.Deep.CutRange
import Derived.Deep.DeepCutAuto
import Derived.Shelf.SlGeneric
import Derived.Shelf.SlSortCmp.InsertionK
import Derived.Shelf.SlicesE.Clone
import Derived.Ground.SlsfProg
import Derived.Ground.SlgnProg
import Derived.Maps.OwnSet
import Derived.RangeFuncNested
import Derived.RangeFuncBound
import Derived.RangeFuncCalls
import Derived.RangeFuncLeaves
import Derived.Shelf.Abstract
import Derived.Shelf.RegionOpen
import Derived.OwnWalkIn
import Derived.TacticsInMore
import Derived.LoopNIn
import Derived.LoopIn
import Derived.Laws.StructEq
import Derived.Shelf.SlSortCmp.Kit1
import Derived.Shelf.SlicesE.Compact
import Derived.Shelf.Small.Bits
import Derived.Ground.NamesProg

namespace Go.Proofs.YtgbmgdffgmablaaGreat
open Go.RowKit

theorem blk_lt {w : World} {g : Nat} {o : Obj} (h : w.heap[g]? = some o) : g < w.heap.size := by
  rcases Nat.lt_or_ge g w.heap.size with h' | h'
  · exact h'
  · rw [Array.getElem?_eq_none h'] at h; cases h
theorem heap_set {w : World} {g k : Nat} {v : Value} {cs : Array Value} {t : TypeId} (h : w.heap[g]? = some (.cells cs t (0, 0))) : (w.setCell ⟨g, k, none⟩ v).heap[g]? = some (.cells (cs.setIfInBounds k v) t (0, 0)) :=
  heap_setCell_same _ _ _ _ _ _ h
theorem heap_far {w : World} {a : Addr} {v : Value} {k : Nat} (h : k ≠ a.block) : (w.setCell a v).heap[k]? = w.heap[k]? := Below.heap_setCell w a v k h
/-- Only block g, and what is new, has turned. -/
def Tch (g : Nat) (w w' : World) : Prop := w.grownBy w' (some g)
theorem Tch.refl (g : Nat) (w : World) : Tch g w w := World.grownBy.refl _ _
theorem Tch.trans {g : Nat} {a b c : World} (h : Tch g a b) (k : Tch g b c) : Tch g a c := World.grownBy.trans h k
theorem Tch.drew {g : Nat} {a b : World} (h : Tch g a b) : Tch g a b.drew := ⟨h.os, h.tape, h.output, h.size, h.block⟩
theorem Tch.drewN {g : Nat} {a b : World} (h : Tch g a b) (n : Nat) : Tch g a (b.drewN n) := ⟨h.os, h.tape, h.output, h.size, h.block⟩
theorem Tch.alloc {g : Nat} {a b : World} (h : Tch g a b) (o : Obj) : Tch g a (b.alloc o) := h.trans (World.grownBy_alloc b o _)
theorem Tch.set {g : Nat} {a b : World} (h : Tch g a b) (k : Nat) (v : Value) : Tch g a (b.setCell ⟨g, k, none⟩ v) :=
  h.trans ⟨rfl, rfl, rfl, by simp [World.setCell], fun i _ hne => heap_far (a := ⟨g, k, none⟩) (fun e => hne (by rw [e]))⟩
theorem Tch.size {g : Nat} {a b : World} (h : Tch g a b) : a.heap.size ≤ b.heap.size := World.grownBy.size h
theorem Tch.blk {g k : Nat} {a b : World} {o : Obj} (h : Tch g a b) (ho : a.heap[k]? = some o) (hne : k ≠ g) : b.heap[k]? = some o :=
  (World.grownBy.block h k (blk_lt ho) (fun e => hne (by injection e))).trans ho
theorem Tch.below {g B : Nat} {a b : World} (h : Tch g a b) (hB : B ≤ g) (hs : B ≤ a.heap.size) : Below B a b :=
  ⟨World.grownBy.os h, World.grownBy.tape h, World.grownBy.output h, h.size, fun k hk => World.grownBy.block h k (by omega) (fun e => by injection e; omega)⟩
/-- A byte as a cell. -/
def byt (b : UInt8) : Value := .int .u8 (b.toNat : Int)
/-- Only blocks of S, and what is new, have turned. -/
structure Fr (S : Nat → Prop) (w w' : World) : Prop where
  os : w'.os = w.os
  tape : w'.tape = w.tape
  output : w'.output = w.output
  size : w.heap.size ≤ w'.heap.size
  block : ∀ k, k < w.heap.size → ¬ S k → w'.heap[k]? = w.heap[k]?
theorem Fr.refl (S : Nat → Prop) (w : World) : Fr S w w := ⟨rfl, rfl, rfl, Nat.le_refl _, fun _ _ _ => rfl⟩
theorem Fr.trans {S S' : Nat → Prop} {a b c : World} (h : Fr S a b) (k : Fr S' b c) (hs : ∀ k, S' k → S k ∨ a.heap.size ≤ k) : Fr S a c :=
  ⟨k.os.trans h.os, k.tape.trans h.tape, k.output.trans h.output, Nat.le_trans h.size k.size, fun i hi hn =>
    (k.block i (Nat.lt_of_lt_of_le hi h.size) (fun hS => by rcases hs i hS with h1 | h1; exact hn h1; omega)).trans (h.block i hi hn)⟩
theorem Fr.drew {S : Nat → Prop} {a b : World} (h : Fr S a b) : Fr S a b.drew := ⟨h.os, h.tape, h.output, h.size, h.block⟩
theorem Fr.drewN {S : Nat → Prop} {a b : World} (h : Fr S a b) (n : Nat) : Fr S a (b.drewN n) := ⟨h.os, h.tape, h.output, h.size, h.block⟩
theorem Fr.alloc {S : Nat → Prop} {a b : World} (h : Fr S a b) (o : Obj) : Fr S a (b.alloc o) :=
  ⟨h.os, h.tape, h.output, Nat.le_trans h.size (by simp), fun k hk hn => (Below.heap_alloc b o k (Nat.lt_of_lt_of_le hk h.size)).trans (h.block k hk hn)⟩
theorem Fr.set {S : Nat → Prop} {a b : World} (h : Fr S a b) {p : Addr} (hp : S p.block ∨ a.heap.size ≤ p.block) (v : Value) : Fr S a (b.setCell p v) :=
  ⟨h.os, h.tape, h.output, by simpa [World.setCell] using h.size, fun k hk hn => (heap_far (fun e => by rcases hp with h1 | h1; exact hn (e ▸ h1); omega)).trans (h.block k hk hn)⟩
theorem Fr.grown {S : Nat → Prop} {a b c : World} {row : Option Nat} (h : Fr S a b) (k : b.grownBy c row) (hr : ∀ j, row = some j → S j ∨ a.heap.size ≤ j) : Fr S a c :=
  ⟨k.os.trans h.os, k.tape.trans h.tape, k.output.trans h.output, Nat.le_trans h.size k.size, fun i hi hn =>
    (k.block i (Nat.lt_of_lt_of_le hi h.size) (fun e => by rcases hr i e.symm with h1 | h1; exact hn h1; omega)).trans (h.block i hi hn)⟩
theorem Fr.below {S : Nat → Prop} {B : Nat} {a b : World} (h : Fr S a b) (hS : ∀ k, S k → B ≤ k) (hB : B ≤ a.heap.size) : Below B a b :=
  ⟨h.os, h.tape, h.output, h.size, fun k hk => h.block k (by omega) (fun hk' => by have := hS k hk'; omega)⟩
theorem Fr.of_below {S : Nat → Prop} {a b : World} (h : Below a.heap.size a b) : Fr S a b := ⟨h.os, h.tape, h.output, h.size, fun k hk _ => h.block k hk⟩
theorem Fr.mono {S S' : Nat → Prop} {a b : World} (h : Fr S a b) (hs : ∀ k, S k → S' k ∨ a.heap.size ≤ k) : Fr S' a b := (Fr.refl S' a).trans h hs
theorem Fr.blk {S : Nat → Prop} {a b : World} {k : Nat} {o : Obj} (h : Fr S a b) (ho : a.heap[k]? = some o) (hn : ¬ S k) : b.heap[k]? = some o := (h.block k (blk_lt ho) hn).trans ho
/-- A slice that reads as bytes. -/
def SlB (w : World) (A : Option Addr) (n : Nat) (l : List UInt8) : Prop :=
  l.length = n ∧ (n = 0 ∨ ∃ b off, A = some ⟨b, off, none⟩ ∧ b < w.heap.size ∧ ∀ i, i < n → w.cell? ⟨b, off + i, none⟩ = some (byt (l.getD i 0)))
theorem addr_add (b off j : Nat) : (⟨b, off, none⟩ : Addr).add j = ⟨b, off + j, none⟩ := by unfold Addr.add; split <;> simp_all
theorem SlB.fr {S : Nat → Prop} {w w' : World} {A : Option Addr} {n : Nat} {l : List UInt8} (h : SlB w A n l) (hf : Fr S w w') (hn : ∀ b off, A = some ⟨b, off, none⟩ → ¬ S b) : SlB w' A n l := by
  refine ⟨h.1, ?_⟩
  rcases h.2 with h0 | ⟨b, off, rfl, hb, hc⟩
  · exact .inl h0
  · refine .inr ⟨b, off, rfl, Nat.lt_of_lt_of_le hb hf.size, fun i hi => ?_⟩
    rw [World.cell?_of_block (w := w) (hf.block b hb (hn b off rfl))]
    exact hc i hi
theorem own_ne {w : World} {base g n size : Nat} {e t : TypeId} {v : Value} {xs : List Value} {cs : Array Value} (h : w.ownsRow base e size v n xs) (hg : w.heap[g]? = some (.cells cs t (0, 0))) (hne : e ≠ t) : v.ownBlock ≠ some g := by
  rcases h.2 with ⟨rfl, _⟩ | ⟨k, cap, cur, rfl, _, hk, _⟩
  · simp [Value.ownBlock]
  · intro he
    simp [Value.ownBlock] at he
    subst he
    rw [hk] at hg
    injection hg with hg
    injection hg with _ hg
    exact hne hg
theorem blk_ne {w : World} {g g' : Nat} {e t : TypeId} {cs cs' : Array Value} (h : w.heap[g]? = some (.cells cs e (0, 0))) (h' : w.heap[g']? = some (.cells cs' t (0, 0))) (hne : e ≠ t) : g ≠ g' := by
  rintro rfl
  rw [h] at h'
  injection h' with h'
  injection h' with _ h'
  exact hne h'
theorem SlB.drop {w : World} {A : Option Addr} {n : Nat} {l : List UInt8} (h : SlB w A n l) (k : Nat) (hk : k ≤ n) : SlB w (A.map (·.add k)) (n - k) (l.drop k) := by
  obtain ⟨hl, h2⟩ := h
  refine ⟨by simp; omega, ?_⟩
  rcases h2 with h0 | ⟨b, off, rfl, hb, hc⟩
  · exact .inl (by omega)
  · refine .inr ⟨b, off + k, by simp [addr_add], hb, fun i hi => ?_⟩
    have := hc (k + i) (by omega)
    rw [show off + k + i = off + (k + i) by omega, this]
    simp [List.getD_eq_getElem?_getD, List.getElem?_drop]
theorem SlB.take {w : World} {A : Option Addr} {n : Nat} {l : List UInt8} (h : SlB w A n l) (k : Nat) (hk : k ≤ n) : SlB w A k (l.take k) := by
  obtain ⟨hl, h2⟩ := h
  refine ⟨by simp; omega, ?_⟩
  rcases h2 with h0 | ⟨b, off, rfl, hb, hc⟩
  · exact .inl (by omega)
  · refine .inr ⟨b, off, rfl, hb, fun i hi => ?_⟩
    rw [hc i (by omega)]
    simp [List.getD_eq_getElem?_getD, hi]
theorem own_fr {S : Nat → Prop} {w w' : World} {base n : Nat} {v : Value} {xs : List Value} {e : TypeId} {size : Nat} (h : w.ownsRow base e size v n xs) (hf : Fr S w w') (hv : ∀ k, v.ownBlock = some k → ¬ S k) : w'.ownsRow base e size v n xs := by
  obtain ⟨h1, h2⟩ := h
  refine ⟨h1, ?_⟩
  rcases h2 with hn | ⟨k, cap, cur, rfl, hb, hk, rest⟩
  · exact .inl hn
  · exact .inr ⟨k, cap, cur, rfl, hb, hf.blk hk (hv k rfl), rest⟩
theorem own_lt {w : World} {base n : Nat} {v : Value} {xs : List Value} {e : TypeId} {size : Nat} (h : w.ownsRow base e size v n xs) : ∀ k, v.ownBlock = some k → base ≤ k ∧ k < w.heap.size := h.lt

/-- A box: a cell alone. -/
def Bx (T : TypeId) (w : World) (c : Nat) (v : Value) : Prop := w.heap[c]? = some (.cells #[v] T (0, 0))
theorem Bx.set {T : TypeId} {w : World} {c : Nat} {v : Value} (h : Bx T w c v) (u : Value) : Bx T (w.setCell ⟨c, 0, none⟩ u) c u := by unfold Bx at h ⊢; rw [heap_set h]; rfl
theorem Bx.alloc {T : TypeId} {w : World} {c : Nat} {v : Value} (h : Bx T w c v) (o : Obj) : Bx T (w.alloc o) c v := (Below.heap_alloc w o c (blk_lt h)).trans h
end Go.Proofs.YtgbmgdffgmablaaGreat

namespace Go.Proofs.YtgbmgdffgmablaaGreat
open Go.RowKit

def rkN (s : Int) : Int := if s = 1 then 0 else if s = 2 then 1 else 2
theorem rank_c (s : Int) (w : World) : Calls Tryz.prog 77 #[.int .i64 s] w fun e w' => e = .returned (.int .i64 (rkN s)) ∧ w = w' := by
  unfold rkN
  by_cases h1 : s = 1
  · rw [if_pos h1]
    have e1 : (s == 1) = true := by simp [h1]
    clear h1
    go_enter Tryz.func77, Tryz.ntmps77
    go_wp2_with fail
    go_ret
    exact ⟨rfl, rfl⟩
  rw [if_neg h1]
  have e1 : (s == 1) = false := by simp [h1]
  by_cases h2 : s = 2
  · rw [if_pos h2]
    have e2 : (s == 2) = true := by simp [h2]
    clear h1 h2
    go_enter Tryz.func77, Tryz.ntmps77
    go_wp2_with fail
    go_ret
    exact ⟨rfl, rfl⟩
  rw [if_neg h2]
  have e2 : (s == 2) = false := by simp [h2]
  clear h1 h2
  go_enter Tryz.func77, Tryz.ntmps77
  go_wp2_with fail
  go_ret
  exact ⟨rfl, rfl⟩
/-- Is the price a better than b? -/
def betN (s a b : Int) : Bool := (s == 1 && decide (b < a)) || (s == 2 && decide (a < b))
set_option maxHeartbeats 4000000 in
set_option maxRecDepth 100000 in
theorem asBuyer_c (s a b : Int) (w : World) : Calls Tryz.prog 64 #[.int .i64 s, .int .i64 a, .int .i64 b] w fun e w' => e = .returned (.tuple #[.int .i64 (if s = 1 then a else if s = 2 then b else 0), .int .i64 (if s = 1 then b else if s = 2 then a else 0), .bool (s == 1 || s == 2)]) ∧ w = w' := by
  by_cases h1 : s = 1
  · rw [if_pos h1, if_pos h1]
    have e1 : (s == 1) = true := by simp [h1]
    have e2 : (s == 2) = false := by simp [h1]
    rw [e1, e2]
    clear h1
    go_enter Tryz.func64, Tryz.ntmps64
    go_wp2_with fail
    go_ret3
    exact ⟨rfl, rfl⟩
  rw [if_neg h1, if_neg h1]
  have e1 : (s == 1) = false := by simp [h1]
  by_cases h2 : s = 2
  · rw [if_pos h2, if_pos h2]
    have e2 : (s == 2) = true := by simp [h2]
    rw [e1, e2]
    clear h1 h2
    go_enter Tryz.func64, Tryz.ntmps64
    go_wp2_with fail
    go_ret3
    exact ⟨rfl, rfl⟩
  rw [if_neg h2, if_neg h2]
  have e2 : (s == 2) = false := by simp [h2]
  rw [e1, e2]
  clear h1 h2
  go_enter Tryz.func64, Tryz.ntmps64
  go_wp2_with fail
  go_ret3
  exact ⟨rfl, rfl⟩
set_option maxHeartbeats 4000000 in
set_option maxRecDepth 100000 in
theorem better_c (s a b : Int) (w : World) : Calls Tryz.prog 85 #[.int .i64 s, .int .i64 a, .int .i64 b] w fun e w' => e = .returned (.bool (betN s a b)) ∧ w = w' := by
  have HA0 := fun w => asBuyer_c s a b w
  by_cases h1 : s = 1
  · rw [if_pos h1, if_pos h1] at HA0
    have e : betN s a b = decide (b < a) := by unfold betN; simp [h1]
    have e1 : (s == 1) = true := by simp [h1]
    rw [e1, Bool.true_or] at HA0
    have HA := Lib.hid HA0
    rw [e]
    clear HA0 h1 e e1
    go_enter Tryz.func85, Tryz.ntmps85
    go_wp2_with ((with_reducible refine (HA.out _).mono ?_); rintro e w' ⟨rfl, rfl⟩)
    go_ret
    exact ⟨rfl, rfl⟩
  rw [if_neg h1, if_neg h1] at HA0
  by_cases h2 : s = 2
  · rw [if_pos h2, if_pos h2] at HA0
    have e : betN s a b = decide (a < b) := by unfold betN; simp [h2]
    have e1 : (s == 2) = true := by simp [h2]
    rw [e1, Bool.or_true] at HA0
    have HA := Lib.hid HA0
    rw [e]
    clear HA0 h1 h2 e e1
    go_enter Tryz.func85, Tryz.ntmps85
    go_wp2_with ((with_reducible refine (HA.out _).mono ?_); rintro e w' ⟨rfl, rfl⟩)
    go_ret
    exact ⟨rfl, rfl⟩
  rw [if_neg h2, if_neg h2] at HA0
  have e : betN s a b = false := by unfold betN; simp [h1, h2]
  have e1 : (s == 1) = false := by simp [h1]
  have e2 : (s == 2) = false := by simp [h2]
  rw [e1, e2] at HA0
  have HA := Lib.hid HA0
  rw [e]
  clear HA0 h1 h2 e e1 e2
  go_enter Tryz.func85, Tryz.ntmps85
  go_wp2_with ((with_reducible refine (HA.out _).mono ?_); rintro e w' ⟨rfl, rfl⟩)
  go_ret
  exact ⟨rfl, rfl⟩
def cmpN (a b : Int) : Int := if a < b then -1 else if b < a then 1 else 0
set_option maxHeartbeats 4000000 in
set_option maxRecDepth 100000 in
theorem isNaN_c (a : Int) (w : World) : Calls Tryz.prog 138 #[.int .u64 a] w fun e w' => e = .returned (.bool false) ∧ w = w' := by
  go_enter Tryz.func138, Tryz.ntmps138
  go_wp2_with fail
  go_ret
  exact ⟨rfl, rfl⟩
set_option maxHeartbeats 4000000 in
set_option maxRecDepth 100000 in
theorem compare_c (a b : Int) (w : World) : Calls Tryz.prog 117 #[.int .u64 a, .int .u64 b] w fun e w' => e = .returned (.int .i64 (cmpN a b)) ∧ w = w' := by
  have HN := Lib.hid isNaN_c
  unfold cmpN
  by_cases h1 : a < b
  · rw [if_pos h1]
    go_enter Tryz.func117, Tryz.ntmps117
    go_wp2_with ((with_reducible refine (HN.out _ _).mono ?_); rintro e w' ⟨rfl, rfl⟩)
    go_ret
    exact ⟨rfl, rfl⟩
  rw [if_neg h1]
  have g1 : decide (a < b) = false := decide_eq_false h1
  by_cases h2 : b < a
  · rw [if_pos h2]
    clear h1
    go_enter Tryz.func117, Tryz.ntmps117
    go_wp2_with ((with_reducible refine (HN.out _ _).mono ?_); rintro e w' ⟨rfl, rfl⟩)
    go_ret
    exact ⟨rfl, rfl⟩
  rw [if_neg h2]
  have g2 : decide (b < a) = false := decide_eq_false h2
  clear h1 h2
  go_enter Tryz.func117, Tryz.ntmps117
  go_wp2_with ((with_reducible refine (HN.out _ _).mono ?_); rintro e w' ⟨rfl, rfl⟩)
  go_ret
  exact ⟨rfl, rfl⟩
set_option maxHeartbeats 4000000 in
set_option maxRecDepth 100000 in
theorem or_c (a b : Int) (g : Nat) (w : World) (hg : w.heap[g]? = some (.cells #[.int .i64 a, .int .i64 b] 3 (0, 0))) :
    Calls Tryz.prog 116 #[.slice (some ⟨g, 0, none⟩) 2 2] w fun e w' => e = .returned (.int .i64 (if a = 0 then b else a)) ∧ w = w' := by
  have c0 : w.cell? ⟨g, 0, none⟩ = some (.int .i64 a) := by rw [cell_of_row _ _ _ _ _ _ hg]; rfl
  have c1 : w.cell? ⟨g, 1, none⟩ = some (.int .i64 b) := by rw [cell_of_row _ _ _ _ _ _ hg]; rfl
  clear hg
  by_cases h0 : a = 0
  · rw [if_pos h0]
    have e0 : (a != 0) = false := by simp [h0]
    clear h0
    by_cases h1 : b = 0
    · have e1 : (b != 0) = false := by simp [h1]
      have e2 : Ending.returned (.int .i64 0) = Ending.returned (.int .i64 b) := by rw [h1]
      have E2 := Lib.hid e2
      clear h1 e2
      go_enter Tryz.func116, Tryz.ntmps116
      go_wp2_with fail
      go_loop [8] (fun i => ∃ k : Nat, k ≤ 2 ∧ i = .int .i64 k) (fun i => 2 - (intOf i).toNat)
      case atStart => exact ⟨0, by omega, rfl⟩
      case round =>
        obtain ⟨k, hk, rfl⟩ := hrel
        have e : k = 0 ∨ k = 1 ∨ k = 2 := by omega
        rcases e with rfl | rfl | rfl
        · go_wp2_with fail
          exact ⟨⟨1, by omega, rfl⟩, by simp [intOf]⟩
        · go_wp2_with fail
          exact ⟨⟨2, by omega, rfl⟩, by simp [intOf]⟩
        · go_wp2_with fail
          go_ret
          exact ⟨E2.out, rfl⟩
    · have e1 : (b != 0) = true := by simp [h1]
      clear h1
      go_enter Tryz.func116, Tryz.ntmps116
      go_wp2_with fail
      go_loop [8] (fun i => ∃ k : Nat, k ≤ 1 ∧ i = .int .i64 k) (fun i => 2 - (intOf i).toNat)
      case atStart => exact ⟨0, by omega, rfl⟩
      case round =>
        obtain ⟨k, hk, rfl⟩ := hrel
        have e : k = 0 ∨ k = 1 := by omega
        rcases e with rfl | rfl
        · go_wp2_with fail
          exact ⟨⟨1, by omega, rfl⟩, by simp [intOf]⟩
        · go_wp2_with fail
          go_ret
          exact ⟨rfl, rfl⟩
  · rw [if_neg h0]
    have e0 : (a != 0) = true := by simp [h0]
    clear h0
    go_enter Tryz.func116, Tryz.ntmps116
    go_wp2_with fail
    go_loop [8] (fun i => i = .int .i64 0) (fun i => 2 - (intOf i).toNat)
    case atStart => rfl
    case round =>
      subst hrel
      go_wp2_with fail
      go_ret
      exact ⟨rfl, rfl⟩
end Go.Proofs.YtgbmgdffgmablaaGreat

namespace Go.Proofs.YtgbmgdffgmablaaGreat
open Go.RowKit

/-- What a call leaves that only makes memory, and draws. -/
structure Gw (w w' : World) : Prop where
  b : Below w.heap.size w w'
  d : w.drawn ≤ w'.drawn
theorem Gw.refl (w : World) : Gw w w := ⟨Below.refl _ _, Nat.le_refl _⟩
theorem Gw.trans {a b c : World} (h : Gw a b) (k : Gw b c) : Gw a c := ⟨h.b.trans (k.b.mono h.b.size), Nat.le_trans h.d k.d⟩
theorem Gw.alloc {a b : World} (h : Gw a b) (o : Obj) : Gw a (b.alloc o) := ⟨h.b.alloc h.b.size o, h.d⟩
theorem Gw.grow {w w' : World} (h : Gw w w') : ∃ q os, w' = Go.Sort.grow (w.drewN q) os := by
  refine ⟨w'.drawn - w.drawn, w'.heap.extract w.heap.size w'.heap.size, ?_⟩
  have e : w'.heap = w.heap ++ w'.heap.extract w.heap.size w'.heap.size := by
    apply Array.ext_getElem?
    intro i
    rw [Array.getElem?_append]
    by_cases hi : i < w.heap.size
    · rw [if_pos hi]; exact h.b.block i hi
    · rw [if_neg hi, Array.getElem?_extract]
      by_cases hj : i < w'.heap.size
      · rw [if_pos (by omega)]; congr 1; omega
      · rw [if_neg (by omega), Array.getElem?_eq_none (by omega)]
  have hd := h.d
  have h1 := h.b.tape; have h2 := h.b.os; have h3 := h.b.output
  cases w'; cases w
  simp only at e hd h1 h2 h3 ⊢
  subst h1 h2 h3
  unfold Go.Sort.grow World.drewN
  simp only [World.mk.injEq, true_and, and_true]
  exact ⟨e, by omega⟩
theorem hd_last {w : World} {o : Obj} {n : Nat} (h : n = w.heap.size) : (w.alloc o).heap[n]? = some o := by subst h; exact heap_alloc_new w o
theorem hd_prev {w : World} {o p : Obj} {n : Nat} (h : n < w.heap.size) (hp : w.heap[n]? = some p) : (w.alloc o).heap[n]? = some p := (heap_alloc_old (w := w) (o := o) h).trans hp
theorem hd_drew {w : World} {g : Nat} {p : Obj} (h : w.heap[g]? = some p) : w.drew.heap[g]? = some p := h
/-- Is the first order (ID, side, price, Seq) ahead of the second one? -/
def ahdN (i1 s1 p1 q1 i2 s2 p2 q2 : Int) : Bool :=
  if s1 ≠ s2 ∨ (s1 ≠ 1 ∧ s1 ≠ 2) then false else if p1 ≠ p2 then betN s1 p1 p2 else decide ((if cmpN q1 q2 = 0 then cmpN i1 i2 else cmpN q1 q2) < 0)
theorem rk_2 (s : Int) : (rkN s == 2) = decide (s ≠ 1 ∧ s ≠ 2) := by
  unfold rkN
  by_cases h1 : s = 1
  · simp [h1]
  · by_cases h2 : s = 2
    · simp [h2]
    · simp [h1, h2]
set_option maxHeartbeats 4000000 in
set_option maxRecDepth 100000 in
theorem ahead_c (i1 a1 s1 p1 n1 q1 i2 a2 s2 p2 n2 q2 : Int) (w : World) :
    Calls Tryz.prog 82 #[.agg #[.int .u64 i1, .int .i64 a1, .int .i64 s1, .int .i64 p1, .int .i64 n1, .int .u64 q1], .agg #[.int .u64 i2, .int .i64 a2, .int .i64 s2, .int .i64 p2, .int .i64 n2, .int .u64 q2]] w fun e w' => e = .returned (.bool (ahdN i1 s1 p1 q1 i2 s2 p2 q2)) ∧ Gw w w' := by
  unfold ahdN
  have HK := Lib.hid rank_c
  by_cases h1 : s1 = s2
  rotate_left
  · rw [if_pos (.inl h1)]
    have e1 : (s1 != s2) = true := by simp [h1]
    clear h1
    go_enter Tryz.func82, Tryz.ntmps82
    go_wp2_with fail
    go_ret
    exact ⟨rfl, ⟨by (focus ((repeat' (first | (with_reducible exact Below.refl _ _) | (with_reducible assumption) | (with_reducible refine Below.alloc ?_ ?_ _) | (with_reducible refine Below.setCell ?_ ?_ _) | (with_reducible refine Below.row ?_ ?_ _) | (with_reducible refine Below.drew ?_) | (with_reducible refine below_drewN ?_ _) | (focus (first | (simp; done) | omega | (simp; omega))))); done)), by first | exact Nat.le_refl _ | exact Nat.le_succ _⟩⟩
  have e1 : (s1 != s2) = false := by simp [h1]
  have r2 := rk_2 s1
  by_cases h2 : s1 ≠ 1 ∧ s1 ≠ 2
  · rw [if_pos (.inr h2)]
    rw [decide_eq_true h2] at r2
    clear h1 h2
    go_enter Tryz.func82, Tryz.ntmps82
    go_wp2_with ((with_reducible refine (HK.out _ _).mono ?_); rintro e w' ⟨rfl, rfl⟩)
    go_ret
    exact ⟨rfl, ⟨by (focus ((repeat' (first | (with_reducible exact Below.refl _ _) | (with_reducible assumption) | (with_reducible refine Below.alloc ?_ ?_ _) | (with_reducible refine Below.setCell ?_ ?_ _) | (with_reducible refine Below.row ?_ ?_ _) | (with_reducible refine Below.drew ?_) | (with_reducible refine below_drewN ?_ _) | (focus (first | (simp; done) | omega | (simp; omega))))); done)), by first | exact Nat.le_refl _ | exact Nat.le_succ _⟩⟩
  have hno : ¬ (s1 ≠ s2 ∨ (s1 ≠ 1 ∧ s1 ≠ 2)) := fun h => h.elim (fun h => h h1) h2
  rw [if_neg hno]
  rw [decide_eq_false h2] at r2
  by_cases h3 : p1 = p2
  rotate_left
  · rw [if_pos h3]
    have e3 : (p1 != p2) = true := by simp [h3]
    have HB := Lib.hid (better_c s1 p1 p2)
    generalize betN s1 p1 p2 = r at *
    clear h1 h2 h3 hno
    go_enter Tryz.func82, Tryz.ntmps82
    go_wp2_with (first | ((with_reducible refine (HK.out _ _).mono ?_); rintro e w' ⟨rfl, rfl⟩) | ((with_reducible refine (HB.out _).mono ?_); rintro e w' ⟨rfl, rfl⟩))
    go_ret
    exact ⟨rfl, ⟨by (focus ((repeat' (first | (with_reducible exact Below.refl _ _) | (with_reducible assumption) | (with_reducible refine Below.alloc ?_ ?_ _) | (with_reducible refine Below.setCell ?_ ?_ _) | (with_reducible refine Below.row ?_ ?_ _) | (with_reducible refine Below.drew ?_) | (with_reducible refine below_drewN ?_ _) | (focus (first | (simp; done) | omega | (simp; omega))))); done)), by first | exact Nat.le_refl _ | exact Nat.le_succ _⟩⟩
  rw [if_neg (by simp [h3])]
  have e3 : (p1 != p2) = false := by simp [h3]
  have HC1 := Lib.hid (compare_c q1 q2)
  have HC2 := Lib.hid (compare_c i1 i2)
  have HO := Lib.hid (fun g w hg => or_c (cmpN q1 q2) (cmpN i1 i2) g w hg)
  generalize cmpN q1 q2 = c1 at *
  generalize cmpN i1 i2 = c2 at *
  generalize (if c1 = 0 then c2 else c1) = c at *
  clear h1 h2 h3 hno
  go_enter Tryz.func82, Tryz.ntmps82
  go_wp2_with ((with_reducible refine (HK.out _ _).mono ?_); rintro e w' ⟨rfl, rfl⟩)
  refine wp_region_held_drew (S := (fun w' => w'.heap[w.heap.size]? = some (.cells #[.int .u64 i1, .int .i64 a1, .int .i64 s1, .int .i64 p1, .int .i64 n1, .int .u64 q1] 38 (0, 0)) ∧ w'.heap[w.heap.size + 1]? = some (.cells #[.int .u64 i2, .int .i64 a2, .int .i64 s2, .int .i64 p2, .int .i64 n2, .int .u64 q2] 38 (0, 0)))) (by kernel_rfl) (by first | (dsimp only; exact ⟨by (focus ((repeat' (first | (with_reducible assumption) | ((with_reducible refine hd_last ?_); (focus (first | (simp; done) | omega | (simp; omega)))) | ((with_reducible refine hd_prev ?_ ?_); (focus (first | (simp; done) | omega | (simp; omega)))) | (with_reducible refine hd_drew ?_))); done)), by (focus ((repeat' (first | (with_reducible assumption) | ((with_reducible refine hd_last ?_); (focus (first | (simp; done) | omega | (simp; omega)))) | ((with_reducible refine hd_prev ?_ ?_); (focus (first | (simp; done) | omega | (simp; omega)))) | (with_reducible refine hd_drew ?_))); done))⟩) | exact ⟨by (focus ((repeat' (first | (with_reducible assumption) | ((with_reducible refine hd_last ?_); (focus (first | (simp; done) | omega | (simp; omega)))) | ((with_reducible refine hd_prev ?_ ?_); (focus (first | (simp; done) | omega | (simp; omega)))) | (with_reducible refine hd_drew ?_))); done)), by (focus ((repeat' (first | (with_reducible assumption) | ((with_reducible refine hd_last ?_); (focus (first | (simp; done) | omega | (simp; omega)))) | ((with_reducible refine hd_prev ?_ ?_); (focus (first | (simp; done) | omega | (simp; omega)))) | (with_reducible refine hd_drew ?_))); done))⟩) (fun hHeld => ?_)
  refine wpAnyH_take (i := 0) (oi := ⟨some 28, _, _, _, _, _⟩) (v := ?_) rfl (by kernel_rfl) (by kernel_rfl) (by kernel_rfl) (fun _ _ _ h => h) (Or.inl ⟨by kernel_rfl, ?_⟩) (by assumption) ?_
  rotate_left
  · (intro w hSw; (try dsimp only at hSw); go_simp; try with_reducible rfl)
  (repeat (first | simp only [Act.put] | simp only [List.setIfInBounds_toArray] | simp only [List.set_cons_succ] | simp only [List.set_cons_zero]))
  refine wpAnyH_take (i := 1) (oi := ⟨some 29, _, _, _, _, _⟩) (v := ?_) rfl (by kernel_rfl) (by kernel_rfl) (by kernel_rfl) (fun _ _ _ h => h) (Or.inl ⟨by kernel_rfl, ?_⟩) (by assumption) ?_
  rotate_left
  · (intro w hSw; have cc := cell_of_row _ _ 5 _ _ _ hSw.1; (try dsimp only at hSw); go_simp; try with_reducible rfl)
  (repeat (first | simp only [Act.put] | simp only [List.setIfInBounds_toArray] | simp only [List.set_cons_succ] | simp only [List.set_cons_zero]))
  refine wpAnyH_take (i := 2) (oi := ⟨some 30, _, _, _, _, _⟩) (v := ?_) rfl (by kernel_rfl) (by kernel_rfl) (by kernel_rfl) (fun _ _ _ h => h) (Or.inl ⟨by kernel_rfl, ?_⟩) (by assumption) ?_
  rotate_left
  · (intro w hSw; (try dsimp only at hSw); go_simp; try with_reducible rfl)
  (repeat (first | simp only [Act.put] | simp only [List.setIfInBounds_toArray] | simp only [List.set_cons_succ] | simp only [List.set_cons_zero]))
  refine wpAnyH_take (i := 3) (oi := ⟨some 31, _, _, _, _, _⟩) (v := ?_) rfl (by kernel_rfl) (by kernel_rfl) (by kernel_rfl) (fun _ _ _ h => h) (Or.inl ⟨by kernel_rfl, ?_⟩) (by assumption) ?_
  rotate_left
  · (intro w hSw; have cc := cell_of_row _ _ 5 _ _ _ hSw.2; (try dsimp only at hSw); go_simp; try with_reducible rfl)
  (repeat (first | simp only [Act.put] | simp only [List.setIfInBounds_toArray] | simp only [List.set_cons_succ] | simp only [List.set_cons_zero]))
  refine wpAnyH_take (i := 5) (oi := ⟨some 33, _, _, _, _, _⟩) (v := ?_) rfl (by kernel_rfl) (by kernel_rfl) (by kernel_rfl) (fun _ _ _ h => h) (Or.inl ⟨by kernel_rfl, ?_⟩) (by assumption) ?_
  rotate_left
  · (intro w hSw; (try dsimp only at hSw); go_simp; try with_reducible rfl)
  (repeat (first | simp only [Act.put] | simp only [List.setIfInBounds_toArray] | simp only [List.set_cons_succ] | simp only [List.set_cons_zero]))
  refine wpAnyH_take (i := 6) (oi := ⟨some 34, _, _, _, _, _⟩) (v := ?_) rfl (by kernel_rfl) (by kernel_rfl) (by kernel_rfl) (fun _ _ _ h => h) (Or.inl ⟨by kernel_rfl, ?_⟩) (by assumption) ?_
  rotate_left
  · (intro w hSw; have cc := cell_of_row _ _ 0 _ _ _ hSw.1; (try dsimp only at hSw); go_simp; try with_reducible rfl)
  (repeat (first | simp only [Act.put] | simp only [List.setIfInBounds_toArray] | simp only [List.set_cons_succ] | simp only [List.set_cons_zero]))
  refine wpAnyH_take (i := 7) (oi := ⟨some 35, _, _, _, _, _⟩) (v := ?_) rfl (by kernel_rfl) (by kernel_rfl) (by kernel_rfl) (fun _ _ _ h => h) (Or.inl ⟨by kernel_rfl, ?_⟩) (by assumption) ?_
  rotate_left
  · (intro w hSw; (try dsimp only at hSw); go_simp; try with_reducible rfl)
  (repeat (first | simp only [Act.put] | simp only [List.setIfInBounds_toArray] | simp only [List.set_cons_succ] | simp only [List.set_cons_zero]))
  refine wpAnyH_take (i := 8) (oi := ⟨some 36, _, _, _, _, _⟩) (v := ?_) rfl (by kernel_rfl) (by kernel_rfl) (by kernel_rfl) (fun _ _ _ h => h) (Or.inl ⟨by kernel_rfl, ?_⟩) (by assumption) ?_
  rotate_left
  · (intro w hSw; have cc := cell_of_row _ _ 0 _ _ _ hSw.2; (try dsimp only at hSw); go_simp; try with_reducible rfl)
  (repeat (first | simp only [Act.put] | simp only [List.setIfInBounds_toArray] | simp only [List.set_cons_succ] | simp only [List.set_cons_zero]))
  refine wpAnyH_ready (rs := [4]) (by kernel_rfl) (by simp) ?_
  refine AllReadyH.cons (o := ⟨some 32, _, _, _, _, _⟩) rfl (fun K hK => ?_) AllReadyH.nil
  go_simp
  ((with_reducible refine (HC1.out _).mono ?_); rintro e w' ⟨rfl, rfl⟩)
  refine hK.out _ _ (by first | assumption | exact ⟨by (focus ((repeat' (first | (with_reducible assumption) | ((with_reducible refine hd_last ?_); (focus (first | (simp; done) | omega | (simp; omega)))) | ((with_reducible refine hd_prev ?_ ?_); (focus (first | (simp; done) | omega | (simp; omega)))) | (with_reducible refine hd_drew ?_))); done)), by (focus ((repeat' (first | (with_reducible assumption) | ((with_reducible refine hd_last ?_); (focus (first | (simp; done) | omega | (simp; omega)))) | ((with_reducible refine hd_prev ?_ ?_); (focus (first | (simp; done) | omega | (simp; omega)))) | (with_reducible refine hd_drew ?_))); done))⟩) (fun hHeld => ?_)
  clear hK K
  (repeat (first | simp only [Act.put] | simp only [List.setIfInBounds_toArray] | simp only [List.set_cons_succ] | simp only [List.set_cons_zero]))
  refine wpAnyH_ready (rs := [9]) (by kernel_rfl) (by simp) ?_
  refine AllReadyH.cons (o := ⟨some 37, _, _, _, _, _⟩) rfl (fun K hK => ?_) AllReadyH.nil
  go_simp
  ((with_reducible refine (HC2.out _).mono ?_); rintro e w' ⟨rfl, rfl⟩)
  refine hK.out _ _ (by first | assumption | exact ⟨by (focus ((repeat' (first | (with_reducible assumption) | ((with_reducible refine hd_last ?_); (focus (first | (simp; done) | omega | (simp; omega)))) | ((with_reducible refine hd_prev ?_ ?_); (focus (first | (simp; done) | omega | (simp; omega)))) | (with_reducible refine hd_drew ?_))); done)), by (focus ((repeat' (first | (with_reducible assumption) | ((with_reducible refine hd_last ?_); (focus (first | (simp; done) | omega | (simp; omega)))) | ((with_reducible refine hd_prev ?_ ?_); (focus (first | (simp; done) | omega | (simp; omega)))) | (with_reducible refine hd_drew ?_))); done))⟩) (fun hHeld => ?_)
  clear hK K
  (repeat (first | simp only [Act.put] | simp only [List.setIfInBounds_toArray] | simp only [List.set_cons_succ] | simp only [List.set_cons_zero]))
  refine wpAnyH_ready (rs := [10]) (by kernel_rfl) (by simp) ?_
  refine AllReadyH.cons (o := ⟨some 38, _, _, _, _, _⟩) rfl (fun K hK => ?_) AllReadyH.nil
  go_simp
  refine hK.out _ _ (by first | assumption | exact ⟨by (focus ((repeat' (first | (with_reducible assumption) | ((with_reducible refine hd_last ?_); (focus (first | (simp; done) | omega | (simp; omega)))) | ((with_reducible refine hd_prev ?_ ?_); (focus (first | (simp; done) | omega | (simp; omega)))) | (with_reducible refine hd_drew ?_))); done)), by (focus ((repeat' (first | (with_reducible assumption) | ((with_reducible refine hd_last ?_); (focus (first | (simp; done) | omega | (simp; omega)))) | ((with_reducible refine hd_prev ?_ ?_); (focus (first | (simp; done) | omega | (simp; omega)))) | (with_reducible refine hd_drew ?_))); done))⟩) (fun hHeld => ?_)
  clear hK K
  (repeat (first | simp only [Act.put] | simp only [List.setIfInBounds_toArray] | simp only [List.set_cons_succ] | simp only [List.set_cons_zero]))
  refine wpAnyH_ready (rs := [11]) (by kernel_rfl) (by simp) ?_
  refine AllReadyH.cons (o := ⟨some 39, _, _, _, _, _⟩) rfl (fun K hK => ?_) AllReadyH.nil
  go_simp
  ((with_reducible refine (HO.out _ _ ?_).mono ?_); (focus ((repeat' (first | (with_reducible assumption) | ((with_reducible refine hd_last ?_); (focus (first | (simp; done) | omega | (simp; omega)))) | ((with_reducible refine hd_prev ?_ ?_); (focus (first | (simp; done) | omega | (simp; omega)))) | (with_reducible refine hd_drew ?_))); done)); rintro e w' ⟨rfl, rfl⟩)
  refine hK.out _ _ (by first | assumption | exact ⟨by (focus ((repeat' (first | (with_reducible assumption) | ((with_reducible refine hd_last ?_); (focus (first | (simp; done) | omega | (simp; omega)))) | ((with_reducible refine hd_prev ?_ ?_); (focus (first | (simp; done) | omega | (simp; omega)))) | (with_reducible refine hd_drew ?_))); done)), by (focus ((repeat' (first | (with_reducible assumption) | ((with_reducible refine hd_last ?_); (focus (first | (simp; done) | omega | (simp; omega)))) | ((with_reducible refine hd_prev ?_ ?_); (focus (first | (simp; done) | omega | (simp; omega)))) | (with_reducible refine hd_drew ?_))); done))⟩) (fun hHeld => ?_)
  clear hK K
  (repeat (first | simp only [Act.put] | simp only [List.setIfInBounds_toArray] | simp only [List.set_cons_succ] | simp only [List.set_cons_zero]))
  refine wpAnyH_take (i := 12) (oi := ⟨some 40, _, _, _, _, _⟩) (v := ?_) rfl (by kernel_rfl) (by kernel_rfl) (by kernel_rfl) (fun _ _ _ h => h) (Or.inl ⟨by kernel_rfl, ?_⟩) (by assumption) ?_
  rotate_left
  · (intro w hSw; (try dsimp only at hSw); go_simp; try with_reducible rfl)
  (repeat (first | simp only [Act.put] | simp only [List.setIfInBounds_toArray] | simp only [List.set_cons_succ] | simp only [List.set_cons_zero]))
  refine wpAnyH_take (i := 13) (oi := ⟨some 4, _, _, _, _, _⟩) (v := ?_) rfl (by kernel_rfl) (by kernel_rfl) (by kernel_rfl) (fun _ _ _ h => h) (Or.inl ⟨by kernel_rfl, ?_⟩) (by assumption) ?_
  rotate_left
  · (intro w hSw; (try dsimp only at hSw); go_simp; try with_reducible rfl)
  (repeat (first | simp only [Act.put] | simp only [List.setIfInBounds_toArray] | simp only [List.set_cons_succ] | simp only [List.set_cons_zero]))
  refine wpAnyH_done (by kernel_rfl) ?_ _
  go_wp2_with fail
  go_ret
  exact ⟨rfl, ⟨by (focus ((repeat' (first | (with_reducible exact Below.refl _ _) | (with_reducible assumption) | (with_reducible refine Below.alloc ?_ ?_ _) | (with_reducible refine Below.setCell ?_ ?_ _) | (with_reducible refine Below.row ?_ ?_ _) | (with_reducible refine Below.drew ?_) | (with_reducible refine below_drewN ?_ _) | (focus (first | (simp; done) | omega | (simp; omega))))); done)), by first | exact Nat.le_refl _ | exact Nat.le_succ _⟩⟩
end Go.Proofs.YtgbmgdffgmablaaGreat

namespace Go.Proofs.YtgbmgdffgmablaaGreat
open Go.Sort

section
variable {β : Type} [Inhabited β] (lt : β → β → Bool)
/-- By the order alone. -/
def ltS (x y : β × Nat) : Bool := lt x.1 y.1
/-- By the order, and among equal ones by the first place. -/
def ltR (x y : β × Nat) : Bool := lt x.1 y.1 || (!lt y.1 x.1 && decide (x.2 < y.2))
variable {lt}
omit [Inhabited β] in
/-- What stood behind is less just if it is less by the order alone. -/
theorem ltS_R {x y : β × Nat} (h : y.2 ≤ x.2) : ltS lt x y = ltR lt x y := by
  unfold ltS ltR
  have : decide (x.2 < y.2) = false := decide_eq_false (by omega)
  rw [this, Bool.and_false, Bool.or_false]
omit [Inhabited β] in
theorem ltR_iff {x y : β × Nat} : ltR lt x y = true ↔ lt x.1 y.1 = true ∨ (lt y.1 x.1 = false ∧ x.2 < y.2) := by
  unfold ltR
  simp
omit [Inhabited β] in
theorem ltR_no {x y : β × Nat} : ltR lt x y = false ↔ lt x.1 y.1 = false ∧ (lt y.1 x.1 = true ∨ y.2 ≤ x.2) := by
  unfold ltR
  by_cases h : lt y.1 x.1 = true
  · simp [h]
  · simp at h; simp [h]
omit [Inhabited β] in
theorem swo_ltR (h : SWO lt) : SWO (ltR lt) := by
  refine ⟨fun x => ?_, fun x y z a b => ?_, fun x y z a b => ?_⟩
  · rw [ltR_no]; exact ⟨h.irrefl _, .inr (Nat.le_refl _)⟩
  · rw [ltR_iff] at a b ⊢
    rcases a with a | ⟨a, a'⟩
    · rcases b with b | ⟨b, b'⟩
      · exact .inl (h.trans _ _ _ a b)
      · left
        cases e : lt x.1 z.1 with
        | true => rfl
        | false => have := h.ntrans _ _ _ e b; rw [a] at this; cases this
    · rcases b with b | ⟨b, b'⟩
      · left
        cases e : lt x.1 z.1 with
        | true => rfl
        | false => have := h.ntrans _ _ _ a e; rw [b] at this; cases this
      · exact .inr ⟨h.ntrans _ _ _ b a, by omega⟩
  · rw [ltR_no] at a b ⊢
    refine ⟨h.ntrans _ _ _ a.1 b.1, ?_⟩
    rcases a.2 with a2 | a2
    · left
      cases e : lt z.1 x.1 with
      | true => rfl
      | false => have := h.ntrans _ _ _ b.1 e; rw [a2] at this; cases this
    · rcases b.2 with b2 | b2
      · left
        cases e : lt z.1 x.1 with
        | true => rfl
        | false => have := h.ntrans _ _ _ e a.1; rw [b2] at this; cases this
      · right; omega

theorem insInner_perm {α : Type} [Inhabited α] (l : α → α → Bool) (a b : Nat) : ∀ (j : Nat) (d : Array α), j < b → b ≤ d.size → PermIn a b d (insInner l a j d)
  | 0, d, _, _ => permIn_refl d a b
  | j + 1, d, hj, hb => by
    unfold insInner
    split
    · rename_i hc
      have haj : j + 1 > a := by simp at hc; omega
      exact permIn_trans _ _ _ a b (swp_permIn d a b (j + 1) j (by omega) hj (by omega) (by omega) hb) (insInner_perm l a b j _ (by omega) (by rw [size_swp]; exact hb))
    · exact permIn_refl d a b
theorem insInner_R (a : Nat) : ∀ (j : Nat) (d : Array (β × Nat)), j < d.size → (∀ p, a ≤ p → p < j → (d[p]!).2 < (d[j]!).2) → insInner (ltS lt) a j d = insInner (ltR lt) a j d
  | 0, _, _, _ => rfl
  | j + 1, d, hj, h => by
    unfold insInner
    by_cases haj : j + 1 > a
    · have e : ltS lt d[j + 1]! d[j]! = ltR lt d[j + 1]! d[j]! := ltS_R (Nat.le_of_lt (h j (by omega) (by omega)))
      rw [e]
      have IH := insInner_R a j (swp d (j + 1) j) (by rw [size_swp]; omega) (fun p hp hpj => by
        rw [swp_right _ _ _ (by omega), swp_other _ _ _ _ (by omega) (by omega)]
        exact h p hp (by omega))
      rw [IH]
    · have : decide (j + 1 > a) = false := decide_eq_false haj
      rw [this, Bool.false_and, Bool.false_and]
      rfl
theorem outer_go {α : Type} [Inhabited α] (l : α → α → Bool) (a b i : Nat) (d : Array α) (h : i < b) : insOuter l a b i d = insOuter l a b (i + 1) (insInner l a i d) := by
  rw [insOuter, if_pos h]
theorem outer_stop {α : Type} [Inhabited α] (l : α → α → Bool) (a b i : Nat) (d : Array α) (h : ¬ i < b) : insOuter l a b i d = d := by
  rw [insOuter, if_neg h]
theorem insOuter_R (a b : Nat) : ∀ (n i : Nat) (d : Array (β × Nat)), b - i = n → a < i → b ≤ d.size → (∀ p q, a ≤ p → p < q → i ≤ q → q < b → (d[p]!).2 < (d[q]!).2) → insOuter (ltS lt) a b i d = insOuter (ltR lt) a b i d
  | 0, i, d, hn, _, _, _ => by
    rw [outer_stop _ _ _ _ _ (by omega), outer_stop _ _ _ _ _ (by omega)]
  | n + 1, i, d, hn, hai, hb, h => by
    rw [outer_go _ _ _ _ _ (by omega), outer_go (ltR lt) _ _ _ _ (by omega)]
    have e := insInner_R (lt := lt) a i d (by omega) (fun p hp hpi => h p i hp hpi (Nat.le_refl _) (by omega))
    rw [e]
    have P := insInner_perm (ltR lt) a (i + 1) i d (by omega) (by omega)
    refine insOuter_R a b n (i + 1) _ (by omega) (by omega) (by rw [P.1]; exact hb) (fun p q hp hpq hiq hq => ?_)
    rw [P.2.1 q (.inr hiq)]
    by_cases hpi : p < i + 1
    · exact permIn_all d _ a (i + 1) (fun x => x.2 < (d[q]!).2) (by omega) P (fun k hk hki => h k q hk (by omega) (by omega) hq) p hp hpi
    · rw [P.2.1 p (.inr (by omega))]
      exact h p q hp hpq (by omega) hq
theorem ins_stable (h : SWO lt) (d : Array (β × Nat)) (a b : Nat) (hab : a ≤ b) (hb : b ≤ d.size) (hi : ∀ p q, a ≤ p → p < q → q < b → (d[p]!).2 < (d[q]!).2) :
    PermIn a b d (insertionSort (ltS lt) d a b) ∧ SortedIn (ltR lt) a b (insertionSort (ltS lt) d a b) := by
  have e : insertionSort (ltS lt) d a b = insertionSort (ltR lt) d a b := insOuter_R a b _ _ d rfl (by omega) hb (fun p q hp hpq _ hq => hi p q hp hpq hq)
  rw [e]
  exact insertionSort_holds (swo_ltR h) d a b hab hb

/-- Where what comes to p came from, if [a, m) and [m, b) change places. -/
def rho (a m b p : Nat) : Nat := if a ≤ p ∧ p < a + (b - m) then p + (m - a) else if a + (b - m) ≤ p ∧ p < b then p - (b - m) else p
/-- Where what comes to p came from, if n from a on and n from b on change places. -/
def sig (a b n p : Nat) : Nat := if a ≤ p ∧ p < a + n then p + (b - a) else if b ≤ p ∧ p < b + n then p - (b - a) else p
theorem sig_zero (a b p : Nat) : sig a b 0 p = p := by unfold sig; (repeat' split) <;> omega
theorem rho_big (m i j p : Nat) (hi : i ≤ m) (hj : j < i) : sig (m - i) m j (rho (m - (i - j)) m (m + j) p) = rho (m - i) m (m + j) p := by
  unfold rho sig
  (repeat' split) <;> omega
theorem rho_less (i j m p : Nat) (hi : i ≤ m) (hj : i < j) : sig (m - i) (m + j - i) i (rho (m - i) m (m + (j - i)) p) = rho (m - i) m (m + j) p := by
  unfold rho sig
  (repeat' split) <;> omega
theorem rho_same (i m p : Nat) (hi : i ≤ m) : sig (m - i) m i p = rho (m - i) m (m + i) p := by
  unfold rho sig
  (repeat' split) <;> omega
end

section
variable {β : Type} [Inhabited β] {lt : β → β → Bool}
/-- Two sorted runs side by side; all of the second one stood behind all of the first one. -/
structure Runs (lt : β → β → Bool) (a m b : Nat) (d : Array (β × Nat)) : Prop where
  l : SortedIn (ltR lt) a m d
  r : SortedIn (ltR lt) m b d
  ix : ∀ p q, a ≤ p → p < m → m ≤ q → q < b → (d[p]!).2 < (d[q]!).2
def Merged (lt : β → β → Bool) (a b : Nat) (d d' : Array (β × Nat)) : Prop := PermIn a b d d' ∧ SortedIn (ltR lt) a b d'
/-- A later one against an earlier one. -/
theorem Runs.cmp {a m b : Nat} {d : Array (β × Nat)} (R : Runs lt a m b d) {p q : Nat} (hp : a ≤ p) (hpm : p < m) (hq : m ≤ q) (hqb : q < b) : lt (d[q]!).1 (d[p]!).1 = ltR lt d[q]! d[p]! :=
  ltS_R (Nat.le_of_lt (R.ix p q hp hpm hq hqb))
theorem sorted_le (h : SWO lt) {a b : Nat} {d : Array (β × Nat)} (S : SortedIn (ltR lt) a b d) {p q : Nat} (hp : a ≤ p) (hpq : p ≤ q) (hq : q < b) : ltR lt d[q]! d[p]! = false := by
  rcases Nat.lt_or_ge p q with h1 | h1
  · exact S p q hp h1 hq
  · obtain rfl : p = q := by omega
    exact (swo_ltR h).irrefl _
theorem runs_no (h : SWO lt) {a m b : Nat} {d : Array (β × Nat)} (R : Runs lt a m b d) {p p' q q' : Nat} (hp : a ≤ p) (hpp : p ≤ p') (hpm : p' < m) (hq : m ≤ q) (hqq : q ≤ q') (hqb : q' < b) (hl : lt (d[q]!).1 (d[p']!).1 = false) : lt (d[q']!).1 (d[p]!).1 = false := by
  have hR := swo_ltR h
  rw [R.cmp (by omega) hpm hq (by omega)] at hl
  rw [R.cmp hp (by omega) (by omega) hqb]
  exact hR.ntrans _ _ _ (hR.ntrans _ _ _ (sorted_le h R.r hq hqq hqb) hl) (sorted_le h R.l hp hpp hpm)
theorem runs_yes (h : SWO lt) {a m b : Nat} {d : Array (β × Nat)} (R : Runs lt a m b d) {p p' q q' : Nat} (hp : a ≤ p) (hpp : p ≤ p') (hpm : p' < m) (hq : m ≤ q) (hqq : q ≤ q') (hqb : q' < b) (hl : lt (d[q']!).1 (d[p]!).1 = true) : lt (d[q]!).1 (d[p']!).1 = true := by
  cases e : lt (d[q]!).1 (d[p']!).1 with
  | true => rfl
  | false => rw [runs_no h R hp hpp hpm hq hqq hqb e] at hl; cases hl
/-- The first run is one element: where it goes to. -/
def Shl (a i : Nat) (k : Nat) (d dk : Array (β × Nat)) : Prop :=
  PermIn a i d dk ∧ (∀ p, a ≤ p → p < k → dk[p]! = d[p + 1]!) ∧ dk[k]! = d[a]! ∧ (∀ p, k < p → dk[p]! = d[p]!)
theorem Shl.start (a i : Nat) (d : Array (β × Nat)) : Shl a i a d d := ⟨permIn_refl _ _ _, fun p h1 h2 => by omega, rfl, fun _ _ => rfl⟩
theorem Shl.step {a i k : Nat} {d dk : Array (β × Nat)} (h : Shl a i k d dk) (hk : a ≤ k) (hi : k + 1 < i) (hs : i ≤ d.size) : Shl a i (k + 1) d (swp dk k (k + 1)) := by
  obtain ⟨P, h1, h2, h3⟩ := h
  have hsz : dk.size = d.size := P.1
  refine ⟨permIn_trans _ _ _ _ _ P (swp_permIn dk a i k (k + 1) (by omega) (by omega) (by omega) hi (by omega)), fun p hp hpk => ?_, ?_, fun p hp => ?_⟩
  · by_cases e : p = k
    · subst e
      rw [swp_left _ _ _ (by omega) (by omega)]
      exact h3 _ (by omega)
    · rw [swp_other _ _ _ _ e (by omega)]
      exact h1 p hp (by omega)
  · rw [swp_right _ _ _ (by omega)]; exact h2
  · rw [swp_other _ _ _ _ (by omega) (by omega)]
    exact h3 p (by omega)
/-- The first run is one element, put behind all that are less. -/
theorem shl_merged (h : SWO lt) {a b i k : Nat} {d dk : Array (β × Nat)} (R : Runs lt a (a + 1) b d) (H : Shl a i k d dk) (hi : a + 1 ≤ i) (hib : i ≤ b) (hb : b ≤ d.size) (hk : k + 1 = i)
    (h1 : ∀ q, a + 1 ≤ q → q < i → lt (d[q]!).1 (d[a]!).1 = true) (h2 : ∀ q, i ≤ q → q < b → lt (d[q]!).1 (d[a]!).1 = false) : Merged lt a b d dk := by
  obtain ⟨P, g1, g2, g3⟩ := H
  refine ⟨permIn_mono _ _ _ _ _ _ (Nat.le_refl _) hib hb P, fun p q hp hpq hq => ?_⟩
  have hR := swo_ltR h
  have L1 : ∀ q, a + 1 ≤ q → q < i → ltR lt d[q]! d[a]! = true := fun q hq hqi => by rw [← R.cmp (Nat.le_refl _) (by omega) hq (by omega)]; exact h1 q hq hqi
  have L2 : ∀ q, i ≤ q → q < b → ltR lt d[q]! d[a]! = false := fun q hq hqb => by rw [← R.cmp (Nat.le_refl _) (by omega) (by omega) hqb]; exact h2 q hq hqb
  rcases Nat.lt_trichotomy q k with e | e | e
  · rw [g1 p hp (by omega), g1 q (by omega) e]
    exact R.r _ _ (by omega) (by omega) (by omega)
  · subst e
    rw [g2, g1 p hp hpq]
    exact hR.asymmA (L1 _ (by omega) (by omega))
  · rw [g3 q e]
    rcases Nat.lt_trichotomy p k with e' | e' | e'
    · rw [g1 p hp e']
      exact R.r _ _ (by omega) (by omega) hq
    · subst e'
      rw [g2]
      exact L2 q (by omega) hq
    · rw [g3 p e']
      exact R.r _ _ (by omega) hpq hq
/-- The second run is one element: where it goes to. -/
def Shr (i m : Nat) (k : Nat) (d dk : Array (β × Nat)) : Prop :=
  PermIn i (m + 1) d dk ∧ (∀ p, k < p → p ≤ m → dk[p]! = d[p - 1]!) ∧ dk[k]! = d[m]! ∧ (∀ p, p < k → dk[p]! = d[p]!) ∧ (∀ p, m < p → dk[p]! = d[p]!)
theorem Shr.start (i m : Nat) (d : Array (β × Nat)) : Shr i m m d d := ⟨permIn_refl _ _ _, fun p h1 h2 => by omega, rfl, fun _ _ => rfl, fun _ _ => rfl⟩
theorem Shr.step {i m k : Nat} {d dk : Array (β × Nat)} (h : Shr i m (k + 1) d dk) (hk : i ≤ k) (hm : k + 1 ≤ m) (hs : m < d.size) : Shr i m k d (swp dk (k + 1) k) := by
  obtain ⟨P, h1, h2, h3, h4⟩ := h
  have hsz : dk.size = d.size := P.1
  refine ⟨permIn_trans _ _ _ _ _ P (swp_permIn dk i (m + 1) (k + 1) k (by omega) (by omega) (by omega) (by omega) (by omega)), fun p hp hpm => ?_, ?_, fun p hp => ?_, fun p hp => ?_⟩
  · by_cases e : p = k + 1
    · subst e
      rw [swp_left _ _ _ (by omega) (by omega)]
      exact h3 _ (by omega)
    · rw [swp_other _ _ _ _ e (by omega)]
      exact h1 p (by omega) hpm
  · rw [swp_right _ _ _ (by omega)]; exact h2
  · rw [swp_other _ _ _ _ (by omega) (by omega)]
    exact h3 p (by omega)
  · rw [swp_other _ _ _ _ (by omega) (by omega)]
    exact h4 p hp
theorem shr_merged (h : SWO lt) {a m i : Nat} {d dk : Array (β × Nat)} (R : Runs lt a m (m + 1) d) (H : Shr i m i d dk) (hi : a ≤ i) (him : i ≤ m) (hb : m + 1 ≤ d.size)
    (h1 : ∀ p, a ≤ p → p < i → lt (d[m]!).1 (d[p]!).1 = false) (h2 : ∀ p, i ≤ p → p < m → lt (d[m]!).1 (d[p]!).1 = true) : Merged lt a (m + 1) d dk := by
  obtain ⟨P, g1, g2, g3, _⟩ := H
  refine ⟨permIn_mono _ _ _ _ _ _ hi (Nat.le_refl _) hb P, fun p q hp hpq hq => ?_⟩
  have hR := swo_ltR h
  have L1 : ∀ p, a ≤ p → p < i → ltR lt d[m]! d[p]! = false := fun p hp hpi => by rw [← R.cmp hp (by omega) (Nat.le_refl _) (by omega)]; exact h1 p hp hpi
  have L2 : ∀ p, i ≤ p → p < m → ltR lt d[m]! d[p]! = true := fun p hp hpm => by rw [← R.cmp (by omega) hpm (Nat.le_refl _) (by omega)]; exact h2 p hp hpm
  rcases Nat.lt_trichotomy p i with e | e | e
  · rw [g3 p e]
    rcases Nat.lt_trichotomy q i with e' | e' | e'
    · rw [g3 q e']; exact R.l _ _ hp hpq (by omega)
    · subst e'; rw [g2]; exact L1 p hp e
    · rw [g1 q e' (by omega)]; exact R.l _ _ hp (by omega) (by omega)
  · subst e
    rw [g2, g1 q (by omega) (by omega)]
    exact hR.asymmA (L2 _ (by omega) (by omega))
  · rw [g1 p e (by omega), g1 q (by omega) (by omega)]
    exact R.l _ _ (by omega) (by omega) (by omega)
/-- Behind the search: of both runs the lesser parts, and the greater parts. -/
structure Cut (lt : β → β → Bool) (a m b s e : Nat) (d : Array (β × Nat)) : Prop where
  lo : ∀ p q, a ≤ p → p < s → e ≤ q → q < b → ltR lt d[q]! d[p]! = false
  hi : ∀ p q, s ≤ p → p < m → m ≤ q → q < e → ltR lt d[q]! d[p]! = true
theorem cut_of (h : SWO lt) {a m b s n lo hi : Nat} {d : Array (β × Nat)} (R : Runs lt a m b d) (hmid : n = (a + b) / 2 + m) (ham : a < m) (hmb : m < b)
    (hb : (m > (a + b) / 2 ∧ lo = n - b ∧ hi = (a + b) / 2) ∨ (m ≤ (a + b) / 2 ∧ lo = a ∧ hi = m)) (hs1 : lo ≤ s) (hs2 : s ≤ hi)
    (h1 : ∀ c, lo ≤ c → c < s → lt (d[n - 1 - c]!).1 (d[c]!).1 = false) (h2 : ∀ c, s ≤ c → c < hi → lt (d[n - 1 - c]!).1 (d[c]!).1 = true) :
    a ≤ s ∧ s ≤ m ∧ m ≤ n - s ∧ n - s ≤ b ∧ s + ((n - s) - m) = (a + b) / 2 ∧ Cut lt a m b s (n - s) d := by
  have hR := swo_ltR h
  refine ⟨by omega, by omega, by omega, by omega, by omega, fun p q hp hps hq hqb => ?_, fun p q hp hpm hq hqe => ?_⟩
  · have g := h1 (s - 1) (by omega) (by omega)
    rw [R.cmp (p := s - 1) (q := n - 1 - (s - 1)) (by omega) (by omega) (by omega) (by omega)] at g
    have g1 := sorted_le h R.l (p := p) (q := s - 1) hp (by omega) (by omega)
    have g2 := sorted_le h R.r (p := n - 1 - (s - 1)) (q := q) (by omega) (by omega) hqb
    exact hR.ntrans _ _ _ (hR.ntrans _ _ _ g2 g) g1
  · have g := h2 s (Nat.le_refl _) (by omega)
    rw [R.cmp (p := s) (q := n - 1 - s) (by omega) (by omega) (by omega) (by omega)] at g
    have g1 := sorted_le h R.l (p := s) (q := p) (by omega) hp hpm
    have g2 := sorted_le h R.r (p := q) (q := n - 1 - s) hq (by omega) (by omega)
    cases e : ltR lt d[q]! d[p]! with
    | true => rfl
    | false =>
      have := hR.ntrans _ _ _ (hR.ntrans _ _ _ (show ltR lt d[n - 1 - s]! d[q]! = false by
        exact g2) e) g1
      rw [g] at this; cases this
/-- Behind the turning: two pairs of runs, and all of the first pair below all of the second. -/
structure Turned (lt : β → β → Bool) (a s mid e b : Nat) (d : Array (β × Nat)) : Prop where
  l : Runs lt a s mid d
  r : Runs lt mid e b d
  x : ∀ p q, a ≤ p → p < mid → mid ≤ q → q < b → ltR lt d[q]! d[p]! = false
theorem rho_lo {s m e p : Nat} (h : p < s) : rho s m e p = p := by unfold rho; (repeat' split) <;> omega
theorem rho_hi {s m e p : Nat} (h : e ≤ p) (hs : s ≤ m) (hm : m ≤ e) : rho s m e p = p := by unfold rho; (repeat' split) <;> omega
theorem rho_1 {s m e p : Nat} (h : s ≤ p) (h2 : p < s + (e - m)) : rho s m e p = p + (m - s) := by unfold rho; rw [if_pos ⟨h, h2⟩]
theorem rho_2 {s m e p : Nat} (h : s + (e - m) ≤ p) (h2 : p < e) : rho s m e p = p - (e - m) := by unfold rho; rw [if_neg (by omega), if_pos ⟨h, h2⟩]
theorem rho_none {s m e p : Nat} (h : ¬ (s < m ∧ m < e)) (hs : s ≤ m) (hm : m ≤ e) : rho s m e p = p := by unfold rho; (repeat' split) <;> omega
theorem after_rot (h : SWO lt) {a m b s e mid : Nat} {d d1 : Array (β × Nat)} (R : Runs lt a m b d) (C : Cut lt a m b s e d) (has : a ≤ s) (hsm : s ≤ m) (hme : m ≤ e) (heb : e ≤ b) (hmid : s + (e - m) = mid)
    (hd : ∀ p, d1[p]! = d[rho s m e p]!) : Turned lt a s mid e b d1 := by
  have hR := swo_ltR h
  have L : ∀ p, p < s → d1[p]! = d[p]! := fun p hp => by rw [hd, rho_lo hp]
  have H : ∀ p, e ≤ p → d1[p]! = d[p]! := fun p hp => by rw [hd, rho_hi hp hsm hme]
  have A : ∀ p, s ≤ p → p < mid → d1[p]! = d[p + (m - s)]! := fun p hp hq => by rw [hd, rho_1 hp (by omega)]
  have B : ∀ p, mid ≤ p → p < e → d1[p]! = d[p - (e - m)]! := fun p hp hq => by rw [hd, rho_2 (by omega) hq]
  refine ⟨⟨fun p q hp hpq hq => ?_, fun p q hp hpq hq => ?_, fun p q hp hps hq hqm => ?_⟩, ⟨fun p q hp hpq hq => ?_, fun p q hp hpq hq => ?_, fun p q hp hps hq hqm => ?_⟩, fun p q hp hpm hq hqb => ?_⟩
  · rw [L p (by omega), L q (by omega)]; exact R.l _ _ hp hpq (by omega)
  · rw [A p hp (by omega), A q (by omega) hq]; exact R.r _ _ (by omega) (by omega) (by omega)
  · rw [L p hps, A q hq hqm]; exact R.ix _ _ hp (by omega) (by omega) (by omega)
  · rw [B p hp (by omega), B q (by omega) hq]; exact R.l _ _ (by omega) (by omega) (by omega)
  · rw [H p hp, H q (by omega)]; exact R.r _ _ (by omega) hpq hq
  · rw [B p hp hps, H q hq]; exact R.ix _ _ (by omega) (by omega) (by omega) hqm
  · by_cases h1 : p < s
    · rw [L p h1]
      by_cases h2 : q < e
      · rw [B q hq h2]; exact R.l _ _ hp (by omega) (by omega)
      · rw [H q (by omega)]; exact C.lo p q hp h1 (by omega) hqb
    · rw [A p (by omega) hpm]
      by_cases h2 : q < e
      · rw [B q hq h2]; exact hR.asymmA (C.hi (q - (e - m)) (p + (m - s)) (by omega) (by omega) (by omega) (by omega))
      · rw [H q (by omega)]; exact R.r _ _ (by omega) (by omega) hqb
theorem runs_one {a s b : Nat} {d : Array (β × Nat)} (R : Runs lt a s b d) (h : ¬ (a < s ∧ s < b)) (ha : a ≤ s) (hb : s ≤ b) : Merged lt a b d d := by
  refine ⟨permIn_refl _ _ _, ?_⟩
  by_cases e : a = s
  · subst e; exact R.r
  · obtain rfl : s = b := by omega
    exact R.l
theorem Runs.next {a s b : Nat} {d d' : Array (β × Nat)} (R : Runs lt a s b d) {c : Nat} (P : PermIn c a d d') (hs : a ≤ s) : Runs lt a s b d' := by
  have e : ∀ p, a ≤ p → d'[p]! = d[p]! := fun p hp => P.2.1 p (.inr hp)
  refine ⟨fun p q hp hpq hq => ?_, fun p q hp hpq hq => ?_, fun p q hp hps hq hqb => ?_⟩
  · rw [e p hp, e q (by omega)]; exact R.l _ _ hp hpq hq
  · rw [e p (by omega), e q (by omega)]; exact R.r _ _ hp hpq hq
  · rw [e p hp, e q (by omega)]; exact R.ix _ _ hp hps hq hqb
theorem merge_all {a mid b s e : Nat} {d d1 d2 d3 : Array (β × Nat)} (T : Turned lt a s mid e b d1) (P : PermIn a b d d1) (M1 : Merged lt a mid d1 d2) (M2 : Merged lt mid b d2 d3) (ham : a ≤ mid) (hmb : mid ≤ b) (hb : b ≤ d.size) : Merged lt a b d d3 := by
  have s1 : d1.size = d.size := P.1
  have s2 : d2.size = d1.size := M1.1.1
  have s3 : d3.size = d2.size := M2.1.1
  refine ⟨permIn_trans _ _ _ _ _ P (permIn_trans _ _ _ _ _ (permIn_mono _ _ _ _ _ _ (Nat.le_refl _) hmb (by omega) M1.1) (permIn_mono _ _ _ _ _ _ ham (Nat.le_refl _) (by omega) M2.1)), fun p q hp hpq hq => ?_⟩
  by_cases h1 : q < mid
  · rw [M2.1.2.1 p (.inl (by omega)), M2.1.2.1 q (.inl h1)]
    exact M1.2 p q hp hpq h1
  · by_cases h2 : mid ≤ p
    · exact M2.2 p q h2 hpq hq
    · rw [M2.1.2.1 p (.inl (by omega))]
      refine permIn_all d1 d2 a mid (fun x => ltR lt d3[q]! x = false) (by omega) M1.1 (fun p' hp' hpm' => ?_) p hp (by omega)
      refine permIn_all d2 d3 mid b (fun x => ltR lt x d1[p']! = false) (by omega) M2.1 (fun q' hq' hqb' => ?_) q (by omega) hq
      rw [M1.1.2.1 q' (.inr hq')]
      exact T.x p' q' hp' hpm' hq' hqb'
end
end Go.Proofs.YtgbmgdffgmablaaGreat

namespace Go.Proofs.YtgbmgdffgmablaaGreat
open Go.RowKit Go.ChangeShapes Go.WideShapes Go.Deep
set_option linter.unusedVariables false

structure Od where
  id : Int
  acc : Int
  side : Int
  price : Int
  qty : Int
  seq : Int
instance : Inhabited Od := ⟨⟨0, 0, 0, 0, 0, 0⟩⟩
def Od.ok (w : World) (x : Od) : Prop := (0 ≤ x.id ∧ x.id ≤ 18446744073709551615) ∧ (-9223372036854775808 ≤ x.acc ∧ x.acc ≤ 9223372036854775807) ∧ (-9223372036854775808 ≤ x.side ∧ x.side ≤ 9223372036854775807) ∧ (-9223372036854775808 ≤ x.price ∧ x.price ≤ 9223372036854775807) ∧ (-9223372036854775808 ≤ x.qty ∧ x.qty ≤ 9223372036854775807) ∧ (0 ≤ x.seq ∧ x.seq ≤ 18446744073709551615)
def Od.val (x : Od) : Value := .agg #[(.int .u64 x.id), (.int .i64 x.acc), (.int .i64 x.side), (.int .i64 x.price), (.int .i64 x.qty), (.int .u64 x.seq)]
/-- The cells of one at an address. -/
def Od.at (x : Od) (w : World) (b o : Nat) : Prop := w.cell? ⟨b, o, none⟩ = some (.int .u64 x.id) ∧ w.cell? ⟨b, o + 1, none⟩ = some (.int .i64 x.acc) ∧ w.cell? ⟨b, o + 2, none⟩ = some (.int .i64 x.side) ∧ w.cell? ⟨b, o + 3, none⟩ = some (.int .i64 x.price) ∧ w.cell? ⟨b, o + 4, none⟩ = some (.int .i64 x.qty) ∧ w.cell? ⟨b, o + 5, none⟩ = some (.int .u64 x.seq)
theorem Od.ok_below {w w' : World} {x : Od} (h : x.ok w) (hb : Below w.heap.size w w') : x.ok w' := by
  exact h
theorem Od.at_below {w w' : World} {x : Od} {b o : Nat} (h : x.at w b o) (hl : b < w.heap.size) (hb : Below w.heap.size w w') : x.at w' b o := by
  unfold Od.at at h ⊢
  simpa only [hb.cell (p := ⟨b, o, none⟩) hl, hb.cell (p := ⟨b, o + 1, none⟩) hl, hb.cell (p := ⟨b, o + 2, none⟩) hl, hb.cell (p := ⟨b, o + 3, none⟩) hl, hb.cell (p := ⟨b, o + 4, none⟩) hl, hb.cell (p := ⟨b, o + 5, none⟩) hl] using h
/-- Some of them in a slice. -/
def Ods (w : World) (a : Option Addr) (len : Nat) (its : List Od) : Prop :=
  its.length = len ∧ len ≤ 9223372036854775807 ∧ (∀ x ∈ its, x.ok w) ∧ (len = 0 ∨ ∃ b off, a = some ⟨b, off, none⟩ ∧ b < w.heap.size ∧ ∀ i, i < len → (its[i]!).at w b (off + i * 6))
theorem Ods.below {w w' : World} {a : Option Addr} {len : Nat} {its : List Od} (h : Ods w a len its) (hb : Below w.heap.size w w') : Ods w' a len its := by
  obtain ⟨h1, hle, h2, h3⟩ := h
  refine ⟨h1, hle, fun x hx => Od.ok_below (h2 x hx) hb, ?_⟩
  rcases h3 with h0 | ⟨b, off, rfl, hlt, hc⟩
  · exact .inl h0
  · exact .inr ⟨b, off, rfl, Nat.lt_of_lt_of_le hlt hb.size, fun i hi => Od.at_below (hc i hi) hlt hb⟩
theorem fields_od : oneCellFields Tryz.prog (match Tryz.prog.underlying 38 with | some (.struct fs) => fs | _ => #[]) = true := by kernel_rfl
theorem cells_od : Tryz.prog.cellsOf 38 = 6 := by kernel_rfl

set_option maxRecDepth 100000 in
set_option maxHeartbeats 2000000 in
theorem open_od {H : Type} {enc : TypeId × Value → H} {w : World} {fuel : Nat} {cs : List Value} {y : DataW H × List MemPlace} (hl : cs.length = 6) (h : DataW.trod enc Tryz.prog w 0 (fun _ => true) true fuel 38 cs = some y) :
    ∃ x : Od, x.ok w ∧ cs[0]? = some (.int .u64 x.id) ∧ cs[1]? = some (.int .i64 x.acc) ∧ cs[2]? = some (.int .i64 x.side) ∧ cs[3]? = some (.int .i64 x.price) ∧ cs[4]? = some (.int .i64 x.qty) ∧ cs[5]? = some (.int .u64 x.seq) := by
  obtain ⟨xs, n', _, _, _, hxl, hg⟩ := DataW.trod_struct Tryz.underlying38 h
  have fone := fields_od
  rw [Tryz.underlying38] at fone
  have at_ : ∀ (j : Nat) (f : Field), j < 6 → f.offset = j ∧ Tryz.prog.cellsOf f.type = 1 → DataW.trod enc Tryz.prog w 0 (fun _ => true) true n' f.type ((cs.drop f.offset).take (Tryz.prog.cellsOf f.type)) = xs[j]? →
      ∃ v y, cs[j]? = some v ∧ DataW.trod enc Tryz.prog w 0 (fun _ => true) true n' f.type [v] = some y := by
    intro j f hj ⟨ho, hk⟩ htr
    rw [ho, hk] at htr
    have hjl : j < cs.length := by omega
    have e1 : (cs.drop j).take 1 = [cs[j]] := by
      rw [List.drop_eq_getElem_cons hjl]; rfl
    rw [e1] at htr
    have hxj : j < xs.length := by rw [hxl]; exact hj
    rw [List.getElem?_eq_getElem hxj] at htr
    exact ⟨_, _, List.getElem?_eq_getElem hjl, htr⟩
  obtain ⟨v0, y0, p0, q0⟩ := at_ 0 _ (by omega) (hone_of fone 0 _ rfl) (hg 0 _ rfl)
  obtain ⟨v1, y1, p1, q1⟩ := at_ 1 _ (by omega) (hone_of fone 1 _ rfl) (hg 1 _ rfl)
  obtain ⟨v2, y2, p2, q2⟩ := at_ 2 _ (by omega) (hone_of fone 2 _ rfl) (hg 2 _ rfl)
  obtain ⟨v3, y3, p3, q3⟩ := at_ 3 _ (by omega) (hone_of fone 3 _ rfl) (hg 3 _ rfl)
  obtain ⟨v4, y4, p4, q4⟩ := at_ 4 _ (by omega) (hone_of fone 4 _ rfl) (hg 4 _ rfl)
  obtain ⟨v5, y5, p5, q5⟩ := at_ 5 _ (by omega) (hone_of fone 5 _ rfl) (hg 5 _ rfl)
  obtain ⟨k0, e0, _, w0⟩ := DataW.trod_int Tryz.underlying35 q0
  obtain ⟨k1, e1, _, w1⟩ := DataW.trod_int Tryz.underlying3 q1
  obtain ⟨k2, e2, _, w2⟩ := DataW.trod_int Tryz.underlying3 q2
  obtain ⟨k3, e3, _, w3⟩ := DataW.trod_int Tryz.underlying2 q3
  obtain ⟨k4, e4, _, w4⟩ := DataW.trod_int Tryz.underlying2 q4
  obtain ⟨k5, e5, _, w5⟩ := DataW.trod_int Tryz.underlying35 q5
  injection e0 with e0; injection e1 with e1; injection e2 with e2; injection e3 with e3; injection e4 with e4; injection e5 with e5
  subst e0; subst e1; subst e2; subst e3; subst e4; subst e5
  exact ⟨⟨k0, k1, k2, k3, k4, k5⟩, ⟨bounds_u64 w0, bounds_i64 w1, bounds_i64 w2, bounds_i64 w3, bounds_i64 w4, bounds_u64 w5⟩, p0, p1, p2, p3, p4, p5⟩

set_option maxRecDepth 100000 in
set_option maxHeartbeats 2000000 in
theorem open_ods {H : Type} {enc : TypeId × Value → H} {w : World} {a : Option Addr} {len cap : Nat} {d : DataW H} {p : List MemPlace}
    (h : DataW.Trod enc Tryz.prog w 0 (fun _ => true) true 22 (.slice a len cap) d p) : ∃ its, Ods w a len its ∧ len ≤ cap ∧ cap ≤ maxLen := by
  obtain ⟨fuel, hf⟩ := h
  have hlt := DataW.trod_lt _ _ _ _ hf
  rcases open_slice Tryz.underlying22 hf with ⟨hcs, _⟩ | ⟨x, l, c, m, n, D, Pl, hcs, _, hl, hm, hmm, hx, hi⟩
  · simp [Value.cells] at hcs
    obtain ⟨rfl, rfl, rfl⟩ := hcs
    exact ⟨[], ⟨rfl, by omega, by simp, .inl rfl⟩, Nat.le_refl _, Nat.zero_le _⟩
  · simp [Value.cells] at hcs
    obtain ⟨rfl, rfl, rfl⟩ := hcs
    rw [if_pos rfl] at hmm
    subst hmm
    have one : ∀ i, i < len → ∃ y : Od, y.ok w ∧ w.cell? ((x.add (i * 6)).add 0) = some (.int .u64 y.id) ∧ w.cell? ((x.add (i * 6)).add 1) = some (.int .i64 y.acc) ∧ w.cell? ((x.add (i * 6)).add 2) = some (.int .i64 y.side) ∧ w.cell? ((x.add (i * 6)).add 3) = some (.int .i64 y.price) ∧ w.cell? ((x.add (i * 6)).add 4) = some (.int .i64 y.qty) ∧ w.cell? ((x.add (i * 6)).add 5) = some (.int .u64 y.seq) := by
      intro i hil
      obtain ⟨cs', hc, ht⟩ := hi i (by omega)
      rw [cells_od] at hc
      obtain ⟨_, hlen, hcell⟩ := World.cells?_some hc
      obtain ⟨y, hy, p0, p1, p2, p3, p4, p5⟩ := open_od hlen ht
      exact ⟨y, hy, by rw [hcell 0 (by omega), p0], by rw [hcell 1 (by omega), p1], by rw [hcell 2 (by omega), p2], by rw [hcell 3 (by omega), p3], by rw [hcell 4 (by omega), p4], by rw [hcell 5 (by omega), p5]⟩
    refine ⟨(List.range len).map fun i => if h : i < len then Classical.choose (one i h) else default, ⟨by simp, by unfold maxLen at hm; omega, fun z hz => ?_, ?_⟩, hl, hm⟩
    · obtain ⟨i, hi1, rfl⟩ := List.mem_map.1 hz
      have hil : i < len := by simpa using hi1
      rw [dif_pos hil]
      exact (Classical.choose_spec (one i hil)).1
    · by_cases h0 : len = 0
      · exact .inl h0
      obtain ⟨b, off, spot⟩ := x
      obtain ⟨y, _, hy, _⟩ := one 0 (by omega)
      have hspot : spot = none := by simpa [Addr.add] using World.cell?_spot hy
      subst hspot
      have hb : b < w.heap.size := World.block_lt_of_cell? w ⟨b, off + 0 * 6 + 0, none⟩ (by simpa only [addr_add] using hy)
      refine .inr ⟨b, off, rfl, hb, fun i hil => ?_⟩
      have e : ((List.range len).map fun i => if h : i < len then Classical.choose (one i h) else (default : Od))[i]! = Classical.choose (one i hil) := by
        rw [List.getElem!_eq_getElem?_getD, List.getElem?_map, List.getElem?_range hil]
        simp [hil]
      have hs := (Classical.choose_spec (one i hil)).2
      rw [e]
      unfold Od.at
      simpa only [addr_add, ← Nat.add_assoc, Nat.add_zero] using hs
end Go.Proofs.YtgbmgdffgmablaaGreat

namespace Go.Proofs.YtgbmgdffgmablaaGreat
open Go.RowKit Go.Sort Go.Lib Go.Shelf

/-- An order's cells. -/
def encO (x : Od) : List Value := [.int .u64 x.id, .int .i64 x.acc, .int .i64 x.side, .int .i64 x.price, .int .i64 x.qty, .int .u64 x.seq]
abbrev Dd := Od × Nat
def encD (x : Dd) : List Value := encO x.1
theorem encD_len (x : Dd) : (encD x).length = 6 := rfl
theorem encD_one (x : Dd) : ∀ v ∈ encD x, v.oneCell' = true := by
  intro v hv
  simp only [encD, encO, List.mem_cons, List.not_mem_nil, or_false] at hv
  rcases hv with rfl | rfl | rfl | rfl | rfl | rfl <;> rfl
abbrev SW6 (w0 : World) (blk : Nat) (d : Array Dd) (w : World) : Prop := SWK encD 6 w0 blk 0 d w
abbrev Rw6 (w0 : World) (blk : Nat) (d : Array Dd) : Prop := RowK encD 6 w0 blk 0 d
theorem infoO : (Tryz.prog.info? 38).map (·.size) = some 6 := by kernel_rfl
end Go.Proofs.YtgbmgdffgmablaaGreat

namespace Go.Proofs.YtgbmgdffgmablaaGreat
open Go.RowKit

/-- Is the first order ahead of the second one? -/
def ahdO (x y : Od) : Bool := ahdN x.id x.side x.price x.seq y.id y.side y.price y.seq
def cmpO (x y : Od) : Int := if rkN x.side ≠ rkN y.side then rkN x.side - rkN y.side else if ahdO x y = true then -1 else if ahdO y x = true then 1 else 0
theorem rk_r (s : Int) : 0 ≤ rkN s ∧ rkN s ≤ 2 := by unfold rkN; (repeat' split) <;> omega
theorem ahead_o (x y : Od) (w : World) : Calls Tryz.prog 82 #[x.val, y.val] w fun e w' => e = .returned (.bool (ahdO x y)) ∧ Gw w w' := ahead_c _ _ _ _ _ _ _ _ _ _ _ _ w
section
variable {ops : Array Oper} {rest : List Oper} {o : Oper} {a : Act} {w : World} {Q : Exit → Act → World → Prop}
theorem loadO (hgd : Region.wanted o (yielded ops a.tmps) = true) (x : Operand) (ho : o.op = .load 38 x) (g : Nat) (hx : a.eval x = .pointer (some ⟨g, 0, none⟩)) (z : Od) (t : TypeId)
    (hg : w.heap[g]? = some (.cells (encO z).toArray t (0, 0))) (h : wpList Tryz.prog ops Q rest (a.put o.dst z.val) w) : wpList Tryz.prog ops Q (o :: rest) a w :=
  BigFrame.wpList_want hgd fun _ hK => wp_load_row _ x ho g hx _ _ (0, 0) _ hg Tryz.underlying38 rfl infoO (hK _ _ h)
end
theorem two_box (w : World) (o1 o2 : Obj) (n : Nat) : (((w.alloc o1).alloc o2).drewN n).heap[w.heap.size]? = some o1 ∧ (((w.alloc o1).alloc o2).drewN n).heap[w.heap.size + 1]? = some o2 ∧ Gw w (((w.alloc o1).alloc o2).drewN n) ∧ (((w.alloc o1).alloc o2).drewN n).heap.size = w.heap.size + 2 := by
  refine ⟨?_, ?_, ⟨?_, ?_⟩, ?_⟩
  · show ((w.alloc o1).alloc o2).heap[w.heap.size]? = some o1
    exact hd_prev (by simp) (hd_last rfl)
  · show ((w.alloc o1).alloc o2).heap[w.heap.size + 1]? = some o2
    exact hd_last (by simp)
  · exact below_drewN (((Below.refl _ _).alloc (Nat.le_refl _) _).alloc (by simp) _) n
  · exact Nat.le_add_right _ _
  · show ((w.alloc o1).alloc o2).heap.size = _
    simp
theorem rank_q (s : Int) (W : World) : Calls Tryz.prog 77 #[.int .i64 s] W fun e w' => e = .returned (.int .i64 (rkN s)) ∧ w' = W := (rank_c s W).mono fun _ _ ⟨h1, h2⟩ => ⟨h1, h2.symm⟩
set_option maxHeartbeats 4000000 in
set_option maxRecDepth 100000 in
theorem clo_rank (x y : Od) (w : World) (h1 : rkN x.side ≠ rkN y.side) :
    Calls Tryz.prog 81 #[.agg #[.int .u64 x.id, .int .i64 x.acc, .int .i64 x.side, .int .i64 x.price, .int .i64 x.qty, .int .u64 x.seq], .agg #[.int .u64 y.id, .int .i64 y.acc, .int .i64 y.side, .int .i64 y.price, .int .i64 y.qty, .int .u64 y.seq]] w fun e w' => e = .returned (.int .i64 (rkN x.side - rkN y.side)) ∧ Gw w w' := by
  have mixed : Tryz.prog.follows .mixedOrders = true := by kernel_rfl
  have HR := Lib.hid rank_q
  have r1 := rk_r x.side
  have r2 := rk_r y.side
  have e1 : (rkN x.side != rkN y.side) = true := by simp [h1]
  have ew : IntKind.i64.wrap (rkN x.side - rkN y.side) = rkN x.side - rkN y.side := by rw [IntKind.wrap_i64]; omega
  clear h1 r1 r2
  go_enter Tryz.func81, Tryz.ntmps81
  go_wp2_with fail
  go_quiet ((go_at_call 77; with_reducible exact Calls.quiet_of_same (HR.out _ _)))
  have TB := two_box w (Obj.cells #[.int .u64 x.id, .int .i64 x.acc, .int .i64 x.side, .int .i64 x.price, .int .i64 x.qty, .int .u64 x.seq] 38) (Obj.cells #[.int .u64 y.id, .int .i64 y.acc, .int .i64 y.side, .int .i64 y.price, .int .i64 y.qty, .int .u64 y.seq] 38) nq
  generalize ((w.alloc (Obj.cells #[.int .u64 x.id, .int .i64 x.acc, .int .i64 x.side, .int .i64 x.price, .int .i64 x.qty, .int .u64 x.seq] 38)).alloc (Obj.cells #[.int .u64 y.id, .int .i64 y.acc, .int .i64 y.side, .int .i64 y.price, .int .i64 y.qty, .int .u64 y.seq] 38)).drewN nq = w1 at TB ⊢
  obtain ⟨f1, f2, G1, z1⟩ := TB
  have c1 : w1.cell? ⟨w.heap.size, 2, none⟩ = some (.int .i64 x.side) := by rw [cell_of_row _ _ _ _ _ _ f1]; rfl
  have c2 : w1.cell? ⟨w.heap.size + 1, 2, none⟩ = some (.int .i64 y.side) := by rw [cell_of_row _ _ _ _ _ _ f2]; rfl
  clear f1 f2
  go_wp2_with fail
  go_quiet ((go_at_call 77; with_reducible exact Calls.quiet_of_same (HR.out _ _)))
  go_wp2_with fail
  go_ret
  exact ⟨rfl, G1.trans ⟨below_drewN (Below.refl _ _) _, Nat.le_add_right _ _⟩⟩
set_option maxHeartbeats 4000000 in
set_option maxRecDepth 100000 in
theorem clo_ahead (x y : Od) (w : World) (h1 : rkN x.side = rkN y.side) (h2 : ahdO x y = true) :
    Calls Tryz.prog 81 #[.agg #[.int .u64 x.id, .int .i64 x.acc, .int .i64 x.side, .int .i64 x.price, .int .i64 x.qty, .int .u64 x.seq], .agg #[.int .u64 y.id, .int .i64 y.acc, .int .i64 y.side, .int .i64 y.price, .int .i64 y.qty, .int .u64 y.seq]] w fun e w' => e = .returned (.int .i64 (-1)) ∧ Gw w w' := by
  have mixed : Tryz.prog.follows .mixedOrders = true := by kernel_rfl
  have HR := Lib.hid rank_q
  have e1 : (rkN x.side != rkN y.side) = false := by simp [h1]
  have HA : ∀ w, Calls Tryz.prog 82 #[x.val, y.val] w fun e w' => e = .returned (.bool true) ∧ Gw w w' := fun w => by rw [← h2]; exact ahead_o x y w
  have HA' := Lib.hid HA
  clear h1 HA h2
  go_enter Tryz.func81, Tryz.ntmps81
  go_wp2_with fail
  go_quiet ((go_at_call 77; with_reducible exact Calls.quiet_of_same (HR.out _ _)))
  have TB := two_box w (Obj.cells #[.int .u64 x.id, .int .i64 x.acc, .int .i64 x.side, .int .i64 x.price, .int .i64 x.qty, .int .u64 x.seq] 38) (Obj.cells #[.int .u64 y.id, .int .i64 y.acc, .int .i64 y.side, .int .i64 y.price, .int .i64 y.qty, .int .u64 y.seq] 38) nq
  generalize ((w.alloc (Obj.cells #[.int .u64 x.id, .int .i64 x.acc, .int .i64 x.side, .int .i64 x.price, .int .i64 x.qty, .int .u64 x.seq] 38)).alloc (Obj.cells #[.int .u64 y.id, .int .i64 y.acc, .int .i64 y.side, .int .i64 y.price, .int .i64 y.qty, .int .u64 y.seq] 38)).drewN nq = w1 at TB ⊢
  obtain ⟨f1, f2, G1, z1⟩ := TB
  go_wp2_with (first | ((with_reducible apply loadO (z := x)); rfl; rfl; rfl; exact f1; skip) | ((with_reducible apply loadO (z := y)); rfl; rfl; rfl; exact f2; skip))
  ((with_reducible refine (HA'.out _).mono ?_); rintro e w2 ⟨rfl, k2⟩)
  have F2 : w2.heap[w.heap.size]? = some (.cells (encO x).toArray 38 (0, 0)) := by rw [k2.b.block _ (by omega)]; exact f1
  have F2' : w2.heap[w.heap.size + 1]? = some (.cells (encO y).toArray 38 (0, 0)) := by rw [k2.b.block _ (by omega)]; exact f2
  have G2 := G1.trans k2
  have z2 : w.heap.size + 2 ≤ w2.heap.size := by have := k2.b.size; omega
  clear k2 f1 f2 G1 z1
  go_wp2_with fail
  go_ret
  exact ⟨rfl, G2⟩
set_option maxHeartbeats 4000000 in
set_option maxRecDepth 100000 in
theorem clo_behind (x y : Od) (w : World) (h1 : rkN x.side = rkN y.side) (h2 : ahdO x y = false) (h3 : ahdO y x = true) :
    Calls Tryz.prog 81 #[.agg #[.int .u64 x.id, .int .i64 x.acc, .int .i64 x.side, .int .i64 x.price, .int .i64 x.qty, .int .u64 x.seq], .agg #[.int .u64 y.id, .int .i64 y.acc, .int .i64 y.side, .int .i64 y.price, .int .i64 y.qty, .int .u64 y.seq]] w fun e w' => e = .returned (.int .i64 1) ∧ Gw w w' := by
  have mixed : Tryz.prog.follows .mixedOrders = true := by kernel_rfl
  have HR := Lib.hid rank_q
  have e1 : (rkN x.side != rkN y.side) = false := by simp [h1]
  have HA : ∀ w, Calls Tryz.prog 82 #[x.val, y.val] w fun e w' => e = .returned (.bool false) ∧ Gw w w' := fun w => by rw [← h2]; exact ahead_o x y w
  have HA' := Lib.hid HA
  have HB : ∀ w, Calls Tryz.prog 82 #[y.val, x.val] w fun e w' => e = .returned (.bool true) ∧ Gw w w' := fun w => by rw [← h3]; exact ahead_o y x w
  have HB' := Lib.hid HB
  clear HB h3
  clear h1 HA h2
  go_enter Tryz.func81, Tryz.ntmps81
  go_wp2_with fail
  go_quiet ((go_at_call 77; with_reducible exact Calls.quiet_of_same (HR.out _ _)))
  have TB := two_box w (Obj.cells #[.int .u64 x.id, .int .i64 x.acc, .int .i64 x.side, .int .i64 x.price, .int .i64 x.qty, .int .u64 x.seq] 38) (Obj.cells #[.int .u64 y.id, .int .i64 y.acc, .int .i64 y.side, .int .i64 y.price, .int .i64 y.qty, .int .u64 y.seq] 38) nq
  generalize ((w.alloc (Obj.cells #[.int .u64 x.id, .int .i64 x.acc, .int .i64 x.side, .int .i64 x.price, .int .i64 x.qty, .int .u64 x.seq] 38)).alloc (Obj.cells #[.int .u64 y.id, .int .i64 y.acc, .int .i64 y.side, .int .i64 y.price, .int .i64 y.qty, .int .u64 y.seq] 38)).drewN nq = w1 at TB ⊢
  obtain ⟨f1, f2, G1, z1⟩ := TB
  go_wp2_with (first | ((with_reducible apply loadO (z := x)); rfl; rfl; rfl; exact f1; skip) | ((with_reducible apply loadO (z := y)); rfl; rfl; rfl; exact f2; skip))
  ((with_reducible refine (HA'.out _).mono ?_); rintro e w2 ⟨rfl, k2⟩)
  have F2 : w2.heap[w.heap.size]? = some (.cells (encO x).toArray 38 (0, 0)) := by rw [k2.b.block _ (by omega)]; exact f1
  have F2' : w2.heap[w.heap.size + 1]? = some (.cells (encO y).toArray 38 (0, 0)) := by rw [k2.b.block _ (by omega)]; exact f2
  have G2 := G1.trans k2
  have z2 : w.heap.size + 2 ≤ w2.heap.size := by have := k2.b.size; omega
  clear k2 f1 f2 G1 z1
  go_wp2_with (first | ((with_reducible apply loadO (z := x)); rfl; rfl; rfl; exact F2; skip) | ((with_reducible apply loadO (z := y)); rfl; rfl; rfl; exact F2'; skip))
  ((with_reducible refine (HB'.out _).mono ?_); rintro e w3 ⟨rfl, k3⟩)
  have G3 := G2.trans k3
  clear k3
  go_wp2_with fail
  go_ret
  exact ⟨rfl, G3⟩
set_option maxHeartbeats 4000000 in
set_option maxRecDepth 100000 in
theorem clo_none (x y : Od) (w : World) (h1 : rkN x.side = rkN y.side) (h2 : ahdO x y = false) (h3 : ahdO y x = false) :
    Calls Tryz.prog 81 #[.agg #[.int .u64 x.id, .int .i64 x.acc, .int .i64 x.side, .int .i64 x.price, .int .i64 x.qty, .int .u64 x.seq], .agg #[.int .u64 y.id, .int .i64 y.acc, .int .i64 y.side, .int .i64 y.price, .int .i64 y.qty, .int .u64 y.seq]] w fun e w' => e = .returned (.int .i64 0) ∧ Gw w w' := by
  have mixed : Tryz.prog.follows .mixedOrders = true := by kernel_rfl
  have HR := Lib.hid rank_q
  have e1 : (rkN x.side != rkN y.side) = false := by simp [h1]
  have HA : ∀ w, Calls Tryz.prog 82 #[x.val, y.val] w fun e w' => e = .returned (.bool false) ∧ Gw w w' := fun w => by rw [← h2]; exact ahead_o x y w
  have HA' := Lib.hid HA
  have HB : ∀ w, Calls Tryz.prog 82 #[y.val, x.val] w fun e w' => e = .returned (.bool false) ∧ Gw w w' := fun w => by rw [← h3]; exact ahead_o y x w
  have HB' := Lib.hid HB
  clear HB h3
  clear h1 HA h2
  go_enter Tryz.func81, Tryz.ntmps81
  go_wp2_with fail
  go_quiet ((go_at_call 77; with_reducible exact Calls.quiet_of_same (HR.out _ _)))
  have TB := two_box w (Obj.cells #[.int .u64 x.id, .int .i64 x.acc, .int .i64 x.side, .int .i64 x.price, .int .i64 x.qty, .int .u64 x.seq] 38) (Obj.cells #[.int .u64 y.id, .int .i64 y.acc, .int .i64 y.side, .int .i64 y.price, .int .i64 y.qty, .int .u64 y.seq] 38) nq
  generalize ((w.alloc (Obj.cells #[.int .u64 x.id, .int .i64 x.acc, .int .i64 x.side, .int .i64 x.price, .int .i64 x.qty, .int .u64 x.seq] 38)).alloc (Obj.cells #[.int .u64 y.id, .int .i64 y.acc, .int .i64 y.side, .int .i64 y.price, .int .i64 y.qty, .int .u64 y.seq] 38)).drewN nq = w1 at TB ⊢
  obtain ⟨f1, f2, G1, z1⟩ := TB
  go_wp2_with (first | ((with_reducible apply loadO (z := x)); rfl; rfl; rfl; exact f1; skip) | ((with_reducible apply loadO (z := y)); rfl; rfl; rfl; exact f2; skip))
  ((with_reducible refine (HA'.out _).mono ?_); rintro e w2 ⟨rfl, k2⟩)
  have F2 : w2.heap[w.heap.size]? = some (.cells (encO x).toArray 38 (0, 0)) := by rw [k2.b.block _ (by omega)]; exact f1
  have F2' : w2.heap[w.heap.size + 1]? = some (.cells (encO y).toArray 38 (0, 0)) := by rw [k2.b.block _ (by omega)]; exact f2
  have G2 := G1.trans k2
  have z2 : w.heap.size + 2 ≤ w2.heap.size := by have := k2.b.size; omega
  clear k2 f1 f2 G1 z1
  go_wp2_with (first | ((with_reducible apply loadO (z := x)); rfl; rfl; rfl; exact F2; skip) | ((with_reducible apply loadO (z := y)); rfl; rfl; rfl; exact F2'; skip))
  ((with_reducible refine (HB'.out _).mono ?_); rintro e w3 ⟨rfl, k3⟩)
  have G3 := G2.trans k3
  clear k3
  go_wp2_with fail
  go_ret
  exact ⟨rfl, G3⟩

theorem closure_c (x y : Od) (w : World) : Calls Tryz.prog 81 #[x.val, y.val] w fun e w' => e = .returned (.int .i64 (cmpO x y)) ∧ Gw w w' := by
  unfold cmpO
  by_cases h1 : rkN x.side = rkN y.side
  · rw [if_neg (by simp [h1])]
    cases h2 : ahdO x y with
    | true => rw [if_pos rfl]; exact clo_ahead x y w h1 h2
    | false =>
      rw [if_neg (by simp)]
      cases h3 : ahdO y x with
      | true => rw [if_pos rfl]; exact clo_behind x y w h1 h2 h3
      | false => rw [if_neg (by simp)]; exact clo_none x y w h1 h2 h3
  · rw [if_pos h1]; exact clo_rank x y w h1
end Go.Proofs.YtgbmgdffgmablaaGreat

namespace Go.Proofs
open Go.Shelf
def Tryz.searchL_ren : Go.Shelf.Ren := ⟨fun | 16 => 188 | n => n, fun | 3 => 3 | 35 => 120 | 4 => 4 | 38 => 148 | n => n, fun | n => n⟩
theorem Tryz.searchL : Go.Proofs.SlLaysO.n16 Tryz.prog Tryz.searchL_ren := {
  mixed := by kernel_rfl
  f16 := Tryz.func188.trans (congrArg some (by kernel_rfl))
  t3 := Tryz.underlying3
  a3 := Tryz.isAgg3
  z3 := Tryz.sizeOf3
  v3 := Tryz.zeroValue3
  t4 := Tryz.underlying4
  a4 := Tryz.isAgg4
  z4 := Tryz.sizeOf4
  v4 := Tryz.zeroValue4
  t35 := Tryz.underlying120
  a35 := Tryz.isAgg120
  z35 := Tryz.sizeOf120
  v35 := Tryz.zeroValue120
  t38 := Tryz.underlying148
  a38 := Tryz.isAgg148
  z38 := Tryz.sizeOf148
  v38 := Tryz.zeroValue148 }
end Go.Proofs

namespace Go.Proofs.YtgbmgdffgmablaaGreat
open Go.RowKit Go.Sort

/-- A price's row: the price, the queue's slice, its orders. -/
structure Rw where
  pr : Int
  v : Value
  q : List Od
instance : Inhabited Rw := ⟨⟨0, .slice none 0 0, []⟩⟩
def Rw.cs (r : Rw) : List Value := [.int .i64 r.pr, r.v]
def rl (R : List Rw) : List Value := R.flatMap Rw.cs
theorem rl_len (R : List Rw) : (rl R).length = R.length * 2 := by
  induction R with
  | nil => rfl
  | cons r R ih => unfold rl at *; rw [List.flatMap_cons, List.length_append, ih, List.length_cons]; simp [Rw.cs]; omega
theorem rl_get : ∀ (R : List Rw) (i c : Nat), i < R.length → c < 2 → (rl R)[i * 2 + c]? = (R[i]!).cs[c]?
  | [], i, _, h, _ => absurd h (Nat.not_lt_zero _)
  | r :: R, 0, c, _, hc => by
    show (r.cs ++ rl R)[0 * 2 + c]? = _
    rw [List.getElem?_append_left (by simp [Rw.cs]; omega), Nat.zero_mul, Nat.zero_add]
    rfl
  | r :: R, i + 1, c, h, hc => by
    show (r.cs ++ rl R)[(i + 1) * 2 + c]? = _
    rw [List.getElem?_append_right (by simp [Rw.cs]; omega), show (i + 1) * 2 + c - r.cs.length = i * 2 + c by simp [Rw.cs]; omega]
    rw [rl_get R i c (by simpa using h) hc]
    rfl
/-- Rows in a slice. -/
def RowsAt (w : World) (a : Option Addr) (n : Nat) (R : List Rw) : Prop :=
  R.length = n ∧ (n = 0 ∨ ∃ g, a = some ⟨g, 0, none⟩ ∧ g < w.heap.size ∧ ∀ i, i < n → w.cell? ⟨g, i * 2, none⟩ = some (.int .i64 (R[i]!).pr) ∧ w.cell? ⟨g, i * 2 + 1, none⟩ = some (R[i]!).v)
theorem own_rows {w : World} {base n : Nat} {T : TypeId} {v : Value} {R : List Rw} (h : w.ownsRow base T 2 v n (rl R)) : ∃ A c, v = .slice A n c ∧ RowsAt w A n R := by
  obtain ⟨h1, h2⟩ := h
  rw [rl_len] at h1
  have hl : R.length = n := by omega
  rcases h2 with ⟨hv, h0⟩ | ⟨k, cap, cur, hv, _, hk, hc, hm, hs, ht⟩
  · subst h0; exact ⟨none, 0, hv, hl, .inl rfl⟩
  · refine ⟨_, _, hv, hl, .inr ⟨k, rfl, blk_lt hk, fun i hi => ?_⟩⟩
    have hcell : ∀ j v, (rl R)[j]? = some v → w.cell? ⟨k, j, none⟩ = some v := by
      intro j v hj
      rw [← ht, List.getElem?_take] at hj
      split at hj
      · rw [Array.getElem?_toList] at hj
        rw [cell_of_row _ _ _ _ _ _ hk, hj]
      · cases hj
    exact ⟨hcell (i * 2 + 0) _ ((rl_get R i 0 (by omega) (by omega)).trans rfl), hcell (i * 2 + 1) _ ((rl_get R i 1 (by omega) (by omega)).trans rfl)⟩
theorem better_q (s a b : Int) (w : World) : Calls Tryz.prog 85 #[.int .i64 s, .int .i64 a, .int .i64 b] w fun e w' => e = .returned (.bool (betN s a b)) ∧ w' = w := (better_c s a b w).mono fun _ _ ⟨h1, h2⟩ => ⟨h1, h2.symm⟩
set_option maxHeartbeats 4000000 in
set_option maxRecDepth 100000 in
theorem fnd_c (W : World) (rb sb pb g n c i : Nat) (s p pr : Int) (hi : i < n) (h1 : W.cell? ⟨sb, 0, none⟩ = some (.int .i64 s)) (h2 : W.cell? ⟨rb, 0, none⟩ = some (.slice (some ⟨g, 0, none⟩) n c)) (h3 : W.cell? ⟨pb, 0, none⟩ = some (.int .i64 p)) (h4 : W.cell? ⟨g, i * 2, none⟩ = some (.int .i64 pr)) :
    Calls Tryz.prog 189 #[.int .i64 i, .pointer (some ⟨sb, 0, none⟩), .pointer (some ⟨rb, 0, none⟩), .pointer (some ⟨pb, 0, none⟩)] W fun e w' => e = .returned (.bool (!betN s pr p)) ∧ Gw W w' := by
  have mixed : Tryz.prog.follows .mixedOrders = true := by kernel_rfl
  have HB := Lib.hid better_q
  have q1 : (i : Int) < (n : Int) := by omega
  go_enter Tryz.func189, Tryz.ntmps189
  go_wp2_with fail
  go_quiet ((go_at_call 85; with_reducible exact Calls.quiet_of_same (HB.out _ _ _ _)))
  go_wp2_with fail
  go_ret
  exact ⟨rfl, ⟨below_drewN (Below.refl _ _) _, Nat.le_add_right _ _⟩⟩
set_option maxHeartbeats 4000000 in
set_option maxRecDepth 100000 in
theorem plc_c (W : World) (qb ob g n c i : Nat) (o x : Od) (hi : i < n) (h1 : W.heap[qb]? = some (.cells #[.slice (some ⟨g, 0, none⟩) n c] 22 (0, 0))) (h2 : W.heap[ob]? = some (.cells (encO o).toArray 38 (0, 0))) (hg : g < W.heap.size) (h3 : x.at W g (i * 6)) :
    Calls Tryz.prog 190 #[.int .i64 i, .pointer (some ⟨qb, 0, none⟩), .pointer (some ⟨ob, 0, none⟩)] W fun e w' => e = .returned (.bool (!ahdO x o)) ∧ Gw W w' := by
  have mixed : Tryz.prog.follows .mixedOrders = true := by kernel_rfl
  have HA := Lib.hid (ahead_o x o)
  have q1 : (i : Int) < (n : Int) := by omega
  have hcg : ∀ W', Calls Tryz.prog 82 #[(.agg #[.int .u64 x.id, .int .i64 x.acc, .int .i64 x.side, .int .i64 x.price, .int .i64 x.qty, .int .u64 x.seq]), (.agg #[.int .u64 o.id, .int .i64 o.acc, .int .i64 o.side, .int .i64 o.price, .int .i64 o.qty, .int .u64 o.seq])] W' fun e w' => e = .returned (.bool (ahdO x o)) ∧ ∃ q os', w' = grow (W'.drewN q) os' := fun W' => (ahead_o x o W').mono fun e w' ⟨h1, h2⟩ => ⟨h1, h2.grow⟩
  obtain ⟨x0, x1, x2, x3, x4, x5⟩ := h3
  have X0 := fun n os => cell_grown (a := ⟨g, _, none⟩) hg x0 n os
  have X1 := fun n os => cell_grown (a := ⟨g, _, none⟩) hg x1 n os
  have X2 := fun n os => cell_grown (a := ⟨g, _, none⟩) hg x2 n os
  have X3 := fun n os => cell_grown (a := ⟨g, _, none⟩) hg x3 n os
  have X4 := fun n os => cell_grown (a := ⟨g, _, none⟩) hg x4 n os
  have X5 := fun n os => cell_grown (a := ⟨g, _, none⟩) hg x5 n os
  have Q0 := fun n os => cell_grown (a := ⟨qb, 0, none⟩) (blk_lt h1) (by rw [cell_of_row _ _ _ _ _ _ h1]; rfl) n os
  have c0 : W.cell? ⟨ob, 0, none⟩ = some (.int .u64 o.id) := by rw [cell_of_row _ _ _ _ _ _ h2]; rfl
  have c1 : W.cell? ⟨ob, 1, none⟩ = some (.int .i64 o.acc) := by rw [cell_of_row _ _ _ _ _ _ h2]; rfl
  have c2 : W.cell? ⟨ob, 2, none⟩ = some (.int .i64 o.side) := by rw [cell_of_row _ _ _ _ _ _ h2]; rfl
  have c3 : W.cell? ⟨ob, 3, none⟩ = some (.int .i64 o.price) := by rw [cell_of_row _ _ _ _ _ _ h2]; rfl
  have c4 : W.cell? ⟨ob, 4, none⟩ = some (.int .i64 o.qty) := by rw [cell_of_row _ _ _ _ _ _ h2]; rfl
  have c5 : W.cell? ⟨ob, 5, none⟩ = some (.int .u64 o.seq) := by rw [cell_of_row _ _ _ _ _ _ h2]; rfl
  have O0 := fun n os => cell_grown (a := ⟨ob, 0, none⟩) (blk_lt h2) c0 n os
  have O1 := fun n os => cell_grown (a := ⟨ob, 1, none⟩) (blk_lt h2) c1 n os
  have O2 := fun n os => cell_grown (a := ⟨ob, 2, none⟩) (blk_lt h2) c2 n os
  have O3 := fun n os => cell_grown (a := ⟨ob, 3, none⟩) (blk_lt h2) c3 n os
  have O4 := fun n os => cell_grown (a := ⟨ob, 4, none⟩) (blk_lt h2) c4 n os
  have O5 := fun n os => cell_grown (a := ⟨ob, 5, none⟩) (blk_lt h2) c5 n os
  clear x0 x1 x2 x3 x4 x5 c0 c1 c2 c3 c4 c5 h1 h2
  go_enter Tryz.func190, Tryz.ntmps190
  go_wp2_with fail
  go_quiet_grown ((go_at_call 82; with_reducible refine Calls.grown_of (hcg _)))
  go_wp2_with fail
  go_ret
  exact ⟨rfl, ⟨below_grown_sl _ _ _ _ (Nat.le_refl _), Nat.le_add_right _ _⟩⟩
end Go.Proofs.YtgbmgdffgmablaaGreat

namespace Go.Proofs.YtgbmgdffgmablaaGreat
open Go.Sort

section
variable {β : Type} [Inhabited β] {lt : β → β → Bool}
def Blk (lt : β → β → Bool) (bs lo hi : Nat) (d : Array (β × Nat)) : Prop := ∀ p q, lo ≤ p → p < q → q < hi → p / bs = q / bs → ltR lt d[q]! d[p]! = false
def Ixs (bs lo hi : Nat) (d : Array (β × Nat)) : Prop := ∀ p, lo ≤ p → p < hi → (d[p]!).2 / bs = p / bs
/-- Blocks of 20 ahead of a are sorted, the others are as they were. -/
structure IInv (lt : β → β → Bool) (a n : Nat) (d dk : Array (β × Nat)) : Prop where
  perm : PermIn 0 n d dk
  lo : Blk lt 20 0 a dk
  ix : Ixs 20 0 a dk
  rest : ∀ p, a ≤ p → p < n → (dk[p]!).2 = p
  al : a % 20 = 0
theorem IInv.start (d : Array (β × Nat)) (n : Nat) (h : ∀ p, p < n → (d[p]!).2 = p) : IInv lt 0 n d d :=
  ⟨permIn_refl _ _ _, fun p q _ h1 h2 _ => by omega, fun p _ h1 => by omega, fun p _ hp => h p hp, rfl⟩
theorem IInv.up {a n : Nat} {d dk : Array (β × Nat)} (I : IInv lt a n d dk) {b : Nat} (hb : b ≤ n) : ∀ p q, a ≤ p → p < q → q < b → (dk[p]!).2 < (dk[q]!).2 := fun p q hp hpq hq => by
  rw [I.rest p hp (by omega), I.rest q (by omega) (by omega)]; exact hpq
theorem IInv.step {a n b : Nat} {d dk dk' : Array (β × Nat)} (I : IInv lt a n d dk) (M : Merged lt a b dk dk') (hab : a ≤ b) (hb : b ≤ n) (hb2 : b ≤ a + 20) (hn : n ≤ d.size) :
    PermIn 0 n d dk' ∧ Blk lt 20 0 b dk' ∧ Ixs 20 0 b dk' ∧ (∀ p, b ≤ p → p < n → (dk'[p]!).2 = p) := by
  have hs : dk.size = d.size := I.perm.1
  refine ⟨permIn_trans _ _ _ _ _ I.perm (permIn_mono _ _ _ _ _ _ (Nat.zero_le _) hb (by omega) M.1), fun p q hp hpq hq he => ?_, fun p hp hpb => ?_, fun p hp hpn => ?_⟩
  · have al := I.al
    by_cases h1 : q < a
    · rw [M.1.2.1 p (.inl (by omega)), M.1.2.1 q (.inl h1)]; exact I.lo p q hp hpq h1 he
    · exact M.2 p q (by omega) hpq hq
  · by_cases h1 : p < a
    · rw [M.1.2.1 p (.inl h1)]; exact I.ix p hp h1
    · have al := I.al
      have : (dk'[p]!).2 / 20 = a / 20 := permIn_all dk dk' a b (fun x => x.2 / 20 = a / 20) (by omega) M.1 (fun i hi hib => by
        show (dk[i]!).2 / 20 = a / 20
        rw [I.rest i hi (by omega)]; omega) p (by omega) hpb
      omega
  · rw [M.1.2.1 p (.inr hp)]; exact I.rest p (by omega) hpn
/-- Ahead of a blocks of 2 bs are sorted, from a on blocks of bs. -/
structure MInv (lt : β → β → Bool) (bs a n : Nat) (d dk : Array (β × Nat)) : Prop where
  perm : PermIn 0 n d dk
  lo : Blk lt (2 * bs) 0 a dk
  ixl : Ixs (2 * bs) 0 a dk
  hi : Blk lt bs a n dk
  ixh : Ixs bs a n dk
  al : a % (2 * bs) = 0
theorem MInv.start {bs n : Nat} {d dk : Array (β × Nat)} (P : PermIn 0 n d dk) (hi : Blk lt bs 0 n dk) (ix : Ixs bs 0 n dk) : MInv lt bs 0 n d dk :=
  ⟨P, fun p q _ h1 h2 _ => by omega, fun p _ h1 => by omega, hi, ix, Nat.zero_mod _⟩
theorem MInv.runs {bs a n b : Nat} {d dk : Array (β × Nat)} (I : MInv lt bs a n d dk) (hbs : bs = 20 ∨ bs = 40 ∨ bs = 80) (h1 : a + bs < b) (h2 : b ≤ a + 2 * bs) (hb : b ≤ n) : Runs lt a (a + bs) b dk := by
  have al := I.al
  refine ⟨fun p q hp hpq hq => I.hi p q hp hpq (by omega) ?_, fun p q hp hpq hq => I.hi p q (by omega) hpq (by omega) ?_, fun p q hp hpm hq hqb => ?_⟩
  · rcases hbs with rfl | rfl | rfl <;> omega
  · rcases hbs with rfl | rfl | rfl <;> omega
  · have e1 := I.ixh p hp (by omega)
    have e2 := I.ixh q (by omega) (by omega)
    rcases hbs with rfl | rfl | rfl <;> omega
theorem MInv.step {bs a n b : Nat} {d dk dk' : Array (β × Nat)} (I : MInv lt bs a n d dk) (hbs : bs = 20 ∨ bs = 40 ∨ bs = 80) (M : Merged lt a b dk dk') (hab : a ≤ b) (h2 : b ≤ a + 2 * bs) (hb : b ≤ n) (hn : n ≤ d.size) :
    PermIn 0 n d dk' ∧ Blk lt (2 * bs) 0 b dk' ∧ Ixs (2 * bs) 0 b dk' ∧ Blk lt bs b n dk' ∧ Ixs bs b n dk' := by
  have al := I.al
  have hs : dk.size = d.size := I.perm.1
  have L : ∀ p, p < a → dk'[p]! = dk[p]! := fun p hp => M.1.2.1 p (.inl hp)
  have H : ∀ p, b ≤ p → dk'[p]! = dk[p]! := fun p hp => M.1.2.1 p (.inr hp)
  refine ⟨permIn_trans _ _ _ _ _ I.perm (permIn_mono _ _ _ _ _ _ (Nat.zero_le _) hb (by omega) M.1), fun p q hp hpq hq he => ?_, fun p hp hpb => ?_, fun p q hp hpq hq he => ?_, fun p hp hpn => ?_⟩
  · by_cases h1 : q < a
    · rw [L p (by omega), L q h1]; exact I.lo p q hp hpq h1 he
    · refine M.2 p q ?_ hpq hq
      rcases hbs with rfl | rfl | rfl <;> omega
  · by_cases h1 : p < a
    · rw [L p h1]; exact I.ixl p hp h1
    · have : (dk'[p]!).2 / (2 * bs) = a / (2 * bs) := permIn_all dk dk' a b (fun x => x.2 / (2 * bs) = a / (2 * bs)) (by omega) M.1 (fun i hi hib => by
        have e := I.ixh i hi (by omega)
        show (dk[i]!).2 / (2 * bs) = a / (2 * bs)
        rcases hbs with rfl | rfl | rfl <;> omega) p (by omega) hpb
      rcases hbs with rfl | rfl | rfl <;> omega
  · rw [H p hp, H q (by omega)]; exact I.hi p q (by omega) hpq hq he
  · rw [H p hp]; exact I.ixh p (by omega) hpn
theorem MInv.one {bs a n : Nat} {d dk : Array (β × Nat)} (I : MInv lt bs a n d dk) (hbs : bs = 20 ∨ bs = 40 ∨ bs = 80) (h : n ≤ a + bs) : Merged lt a n dk dk := by
  have al := I.al
  refine ⟨permIn_refl _ _ _, fun p q hp hpq hq => I.hi p q hp hpq hq ?_⟩
  rcases hbs with rfl | rfl | rfl <;> omega
theorem blk_all {bs n : Nat} {dk : Array (β × Nat)} (h : Blk lt bs 0 n dk) (hn : n ≤ bs) : SortedIn (ltR lt) 0 n dk := fun p q hp hpq hq => h p q hp hpq hq (by
  rw [Nat.div_eq_of_lt (by omega), Nat.div_eq_of_lt (by omega)])
/-- What stands in the loop over the sizes of blocks. -/
structure SInv (lt : β → β → Bool) (bs n : Nat) (d dk : Array (β × Nat)) : Prop where
  sz : bs = 20 ∨ bs = 40 ∨ bs = 80 ∨ bs = 160
  perm : PermIn 0 n d dk
  blk : Blk lt bs 0 n dk
  ix : Ixs bs 0 n dk
theorem SInv.less {bs n : Nat} {d dk : Array (β × Nat)} (I : SInv lt bs n d dk) (h : bs < n) (hn : n ≤ 160) : bs = 20 ∨ bs = 40 ∨ bs = 80 := by
  have := I.sz; omega
theorem SInv.next {bs n : Nat} {d dk : Array (β × Nat)} (hbs : bs = 20 ∨ bs = 40 ∨ bs = 80) (h : PermIn 0 n d dk ∧ Blk lt (2 * bs) 0 n dk ∧ Ixs (2 * bs) 0 n dk ∧ Blk lt bs n n dk ∧ Ixs bs n n dk) : SInv lt (2 * bs) n d dk :=
  ⟨by omega, h.1, h.2.1, h.2.2.1⟩
end
end Go.Proofs.YtgbmgdffgmablaaGreat

namespace Go.Proofs.YtgbmgdffgmablaaGreat
open Go.Sort

def ltO (x y : Od) : Bool := decide (rkN x.side < rkN y.side) || (decide (rkN x.side = rkN y.side) && ahdO x y)
def kpO (x : Od) : Int := if x.side = 1 then -x.price else if x.side = 2 then x.price else 0
def kqO (x : Od) : Int := if x.side = 1 ∨ x.side = 2 then x.seq else 0
def kiO (x : Od) : Int := if x.side = 1 ∨ x.side = 2 then x.id else 0
/-- By four numbers, the first one first. -/
def Lex (a b c d a' b' c' d' : Int) : Prop := a < a' ∨ (a = a' ∧ (b < b' ∨ (b = b' ∧ (c < c' ∨ (c = c' ∧ d < d')))))
theorem cmpN_lt (a b : Int) : cmpN a b < 0 ↔ a < b := by unfold cmpN; (repeat' split) <;> omega
theorem cmpN_0 (a b : Int) : cmpN a b = 0 ↔ a = b := by unfold cmpN; (repeat' split) <;> omega
theorem ahd_iff (x y : Od) : ahdO x y = true ↔ x.side = y.side ∧ ((x.side = 1 ∧ (y.price < x.price ∨ (x.price = y.price ∧ (x.seq < y.seq ∨ (x.seq = y.seq ∧ x.id < y.id))))) ∨ (x.side = 2 ∧ (x.price < y.price ∨ (x.price = y.price ∧ (x.seq < y.seq ∨ (x.seq = y.seq ∧ x.id < y.id)))))) := by
  unfold ahdO ahdN
  by_cases h1 : x.side ≠ y.side ∨ (x.side ≠ 1 ∧ x.side ≠ 2)
  · rw [if_pos h1]; simp; omega
  · rw [if_neg h1]
    by_cases h2 : x.price = y.price
    · rw [if_neg (by simp [h2])]
      rw [decide_eq_true_iff]
      by_cases h3 : cmpN x.seq y.seq = 0
      · rw [if_pos h3, cmpN_lt]; rw [cmpN_0] at h3; omega
      · rw [if_neg h3, cmpN_lt]; rw [cmpN_0] at h3; omega
    · rw [if_pos h2]
      unfold betN
      have e1 : (x.side == 1) = decide (x.side = 1) := rfl
      have e2 : (x.side == 2) = decide (x.side = 2) := rfl
      rw [e1, e2]
      simp only [Bool.or_eq_true, Bool.and_eq_true, decide_eq_true_iff]
      omega
theorem ltO_iff (x y : Od) : ltO x y = true ↔ Lex (rkN x.side) (kpO x) (kqO x) (kiO x) (rkN y.side) (kpO y) (kqO y) (kiO y) := by
  unfold ltO Lex
  simp only [Bool.or_eq_true, Bool.and_eq_true, decide_eq_true_iff, ahd_iff]
  unfold rkN kpO kqO kiO
  by_cases a1 : x.side = 1 <;> by_cases b1 : y.side = 1 <;> by_cases a2 : x.side = 2 <;> by_cases b2 : y.side = 2 <;> simp [a1, b1, a2, b2] <;> omega
theorem lex_irr (a b c d : Int) : ¬ Lex a b c d a b c d := by unfold Lex; omega
theorem lex_tr {a b c d a' b' c' d' x y z u : Int} (h : Lex a b c d a' b' c' d') (k : Lex a' b' c' d' x y z u) : Lex a b c d x y z u := by unfold Lex at *; omega
theorem lex_nt {a b c d a' b' c' d' x y z u : Int} (h : ¬ Lex a b c d a' b' c' d') (k : ¬ Lex a' b' c' d' x y z u) : ¬ Lex a b c d x y z u := by unfold Lex at *; omega
theorem ltO_no (x y : Od) : ltO x y = false ↔ ¬ Lex (rkN x.side) (kpO x) (kqO x) (kiO x) (rkN y.side) (kpO y) (kqO y) (kiO y) := by
  rw [← ltO_iff]; simp
theorem swo_ltO : SWO ltO := by
  refine ⟨fun x => ?_, fun x y z h k => ?_, fun x y z h k => ?_⟩
  · rw [ltO_no]; exact lex_irr _ _ _ _
  · rw [ltO_iff] at *; exact lex_tr h k
  · rw [ltO_no] at *; exact lex_nt h k
theorem cmpO_lt (x y : Od) : decide (cmpO x y < 0) = ltO x y := by
  unfold cmpO ltO
  by_cases h : rkN x.side = rkN y.side
  · rw [if_neg (by simp [h]), h]
    cases ahdO x y with
    | true => simp
    | false => cases ahdO y x <;> simp
  · rw [if_pos h]
    have : decide (rkN x.side = rkN y.side) = false := decide_eq_false h
    rw [this, Bool.false_and, Bool.or_false]
    by_cases h2 : rkN x.side < rkN y.side
    · rw [decide_eq_true h2, decide_eq_true (by omega)]
    · rw [decide_eq_false h2, decide_eq_false (by omega)]
/-- The orders, sorted: as they trade, equal ones as they stood. -/
def sortO (L : List Od) : List Od := (L.zipIdx.mergeSort (fun x y => !ltR ltO y x)).map Prod.fst
theorem zip_inj {L : List Od} {x y : Od × Nat} (hx : x ∈ L.zipIdx) (hy : y ∈ L.zipIdx) (h : x.2 = y.2) : x = y := by
  have h1 := List.mem_zipIdx' hx
  have h2 := List.mem_zipIdx' hy
  obtain ⟨x1, x2⟩ := x
  obtain ⟨y1, y2⟩ := y
  simp only at h h1 h2
  subst h
  rw [h1.2, h2.2]
theorem sortO_eq {L : List Od} {D : List (Od × Nat)} (hp : D.Perm L.zipIdx) (hs : D.Pairwise (fun x y => ltR ltO y x = false)) : sortO L = D.map Prod.fst := by
  have hR := swo_ltR swo_ltO
  unfold sortO
  congr 1
  have hm : (L.zipIdx.mergeSort (fun x y => !ltR ltO y x)).Pairwise (fun x y => ltR ltO y x = false) := by
    have := List.pairwise_mergeSort (le := fun x y => !ltR ltO y x) (fun a b c h1 h2 => by
      simp only [Bool.not_eq_true'] at *; exact hR.ntrans _ _ _ h2 h1) (fun a b => by
      cases h : ltR ltO b a with
      | true => have := hR.asymmA h; simp [this]
      | false => simp) L.zipIdx
    exact this.imp (fun h => by simpa using h)
  refine List.Perm.eq_of_pairwise (le := fun x y => ltR ltO y x = false) (fun a b ha hb h1 h2 => ?_) hm hs ((List.mergeSort_perm _ _).trans hp.symm)
  have ha' := (List.mergeSort_perm _ _).mem_iff.1 ha
  have hb' := hp.mem_iff.1 hb
  rw [ltR_no] at h1 h2
  refine zip_inj ha' hb' ?_
  rcases h1.2 with h | h
  · rw [h2.1] at h; cases h
  · rcases h2.2 with h' | h'
    · rw [h1.1] at h'; cases h'
    · omega
theorem sortO_len (L : List Od) : (sortO L).length = L.length := by
  unfold sortO; rw [List.length_map, (List.mergeSort_perm _ _).length_eq, List.length_zipIdx]
/-- Behind the program's sort. -/
theorem sortO_merged {d d' : Array (Od × Nat)} {L : List Od} (hd : d.toList = L.zipIdx) (h : Merged ltO 0 d.size d d') : d'.toList.map Prod.fst = sortO L := by
  obtain ⟨P, S⟩ := h
  have hs : d'.size = d.size := P.1
  refine (sortO_eq (D := d'.toList) ?_ ?_).symm
  · have := P.2.2
    rw [← hd]
    have e1 : d'.extract 0 d.size = d' := by rw [← hs]; exact Array.extract_size
    have e2 : d.extract 0 d.size = d := Array.extract_size
    rw [e1, e2] at this
    exact this
  · rw [List.pairwise_iff_getElem]
    intro i j hi hj hij
    have := S i j (Nat.zero_le _) hij (by simpa [hs] using hj)
    rw [getElem!_pos d' j (by simpa using hj), getElem!_pos d' i (by simpa using hi)] at this
    simpa using this
end Go.Proofs.YtgbmgdffgmablaaGreat

namespace Go.Proofs.YtgbmgdffgmablaaGreat
open Go.Sort Go.RowKit

def flatR (R : List Rw) : List Od := R.flatMap (·.q)
/-- A side's rows, as they must be. -/
structure SideOk (s : Int) (R : List Rw) : Prop where
  rows : R.Pairwise (fun a b => betN s a.pr b.pr = true)
  some : ∀ r ∈ R, r.q ≠ []
  mem : ∀ r ∈ R, ∀ x ∈ r.q, x.side = s ∧ x.price = r.pr
  que : ∀ r ∈ R, r.q.Pairwise (fun x y => ahdO x y = true)
theorem bet_iff (s a b : Int) : betN s a b = true ↔ (s = 1 ∧ b < a) ∨ (s = 2 ∧ a < b) := by
  unfold betN
  simp only [Bool.or_eq_true, Bool.and_eq_true, beq_iff_eq, decide_eq_true_iff]
theorem bet_tr {s a b c : Int} (h : betN s a b = true) (k : betN s b c = true) : betN s a c = true := by
  rw [bet_iff] at *; omega
theorem bet_tot {s a b : Int} (hs : s = 1 ∨ s = 2) (h : ¬ a = b) (k : betN s a b = false) : betN s b a = true := by
  have k' : ¬ betN s a b = true := by simp [k]
  rw [bet_iff] at *; omega
theorem ahd_tr {x y z : Od} (h : ahdO x y = true) (k : ahdO y z = true) : ahdO x z = true := by
  rw [ahd_iff] at *; omega
theorem ahd_tot {x y : Od} (h : x.side = y.side) (hs : x.side = 1 ∨ x.side = 2) (hp : x.price = y.price) (hi : ¬ x.id = y.id) (k : ahdO x y = false) : ahdO y x = true := by
  have k' : ¬ ahdO x y = true := by simp [k]
  rw [ahd_iff] at *; omega
theorem lt_of_ahd {x y : Od} (h : ahdO x y = true) : ltO x y = true := by
  unfold ltO
  have := (ahd_iff x y).1 h
  rw [h, this.1]; simp
theorem lt_bet {x y : Od} (h : x.side = y.side) (k : betN x.side x.price y.price = true) : ltO x y = true := by
  refine lt_of_ahd ?_
  rw [bet_iff] at k
  rw [ahd_iff]; omega
/-- What the first places of a row have that is one to one with its place. -/
theorem split_pw {α : Type} (f : α → Bool) : ∀ (l : List α), l.Pairwise (fun a b => f b = true → f a = true) →
    (∀ x ∈ l.take (l.countP f), f x = true) ∧ (∀ x ∈ l.drop (l.countP f), f x = false)
  | [], _ => by simp
  | x :: l, h => by
    rw [List.pairwise_cons] at h
    obtain ⟨i1, i2⟩ := split_pw f l h.2
    cases hf : f x with
    | true =>
      rw [List.countP_cons_of_pos hf]
      simp only [List.take_succ_cons, List.drop_succ_cons, List.mem_cons]
      exact ⟨fun y hy => by rcases hy with rfl | hy; exact hf; exact i1 y hy, i2⟩
    | false =>
      have h0 : l.countP f = 0 := by
        rw [List.countP_eq_zero]
        intro y hy hfy
        have := h.1 y hy hfy
        rw [hf] at this; cases this
      rw [List.countP_cons_of_neg (by simp [hf]), h0]
      refine ⟨by simp, fun y hy => ?_⟩
      rw [List.drop_zero] at hy
      rcases List.mem_cons.1 hy with rfl | hy
      · exact hf
      · cases hy' : f y with
        | false => rfl
        | true => have := h.1 y hy hy'; rw [hf] at this; cases this
/-- How many places below n hold it. -/
theorem countP_places {α : Type} (l : List α) (d : α) (f : α → Bool) : (List.range l.length).countP (fun i => f (l.getD i d)) = l.countP f := by
  have h : (List.range l.length).map (fun i => l.getD i d) = l := by
    apply List.ext_getElem
    · simp
    · intro i h1 h2
      simp [List.getD_eq_getElem?_getD, h2]
  conv => rhs; rw [← h, List.countP_map]
  rfl
theorem flat_pw {s : Int} {R : List Rw} (h : SideOk s R) : (flatR R).Pairwise (fun x y => ltO x y = true) := by
  unfold flatR
  rw [List.pairwise_flatMap]
  refine ⟨fun r hr => (h.que r hr).imp lt_of_ahd, ?_⟩
  have := h.rows
  rw [List.pairwise_iff_forall_sublist] at this ⊢
  intro a b hab x hx y hy
  have ha : a ∈ R := hab.subset (by simp)
  have hb : b ∈ R := hab.subset (by simp)
  have h1 := h.mem a ha x hx
  have h2 := h.mem b hb y hy
  have h3 := this hab
  refine lt_bet (by rw [h1.1, h2.1]) ?_
  rw [h1.1, h1.2, h2.2]; exact h3
theorem flat_side {s : Int} {R : List Rw} (h : SideOk s R) : ∀ x ∈ flatR R, x.side = s := by
  intro x hx
  obtain ⟨r, hr, hx⟩ := List.mem_flatMap.1 hx
  exact (h.mem r hr x hx).1
/-- Both sides' orders, as they trade. -/
def bookL (R1 R2 : List Rw) : List Od := flatR R1 ++ flatR R2
theorem book_pw {R1 R2 : List Rw} (h1 : SideOk 1 R1) (h2 : SideOk 2 R2) : (bookL R1 R2).Pairwise (fun x y => ltO x y = true) := by
  unfold bookL
  rw [List.pairwise_append]
  refine ⟨flat_pw h1, flat_pw h2, fun x hx y hy => ?_⟩
  have e1 := flat_side h1 x hx
  have e2 := flat_side h2 y hy
  unfold ltO rkN
  rw [e1, e2]
  rfl
theorem lt_irr (x : Od) : ltO x x = false := swo_ltO.irrefl x
theorem lt_asym {x y : Od} (h : ltO x y = true) : ltO y x = false := by
  cases k : ltO y x with
  | false => rfl
  | true =>
    have := swo_ltO.trans x y x h k
    rw [lt_irr] at this; cases this
/-- Two rows of the same orders, each as they trade, are one. -/
theorem uniq {A B : List Od} (h : A.Perm B) (ha : A.Pairwise (fun x y => ltO x y = true)) (hb : B.Pairwise (fun x y => ltO x y = true)) : A = B :=
  h.eq_of_pairwise (le := fun x y => ltO x y = true) (fun x y _ _ h1 h2 => by rw [lt_asym h1] at h2; cases h2) ha hb
theorem sortP_perm (L : List Od) : (sortO L).Perm L := by
  have h := (List.mergeSort_perm L.zipIdx (fun x y => !ltR ltO y x)).map Prod.fst
  rw [List.zipIdx_map_fst] at h
  exact h
theorem sortO_weak (L : List Od) : (sortO L).Pairwise (fun x y => ltO y x = false) := by
  have hR := swo_ltR swo_ltO
  have hm : (L.zipIdx.mergeSort (fun x y => !ltR ltO y x)).Pairwise (fun x y => ltR ltO y x = false) := by
    have := List.pairwise_mergeSort (le := fun x y => !ltR ltO y x) (fun a b c h1 h2 => by
      simp only [Bool.not_eq_true'] at *; exact hR.ntrans _ _ _ h2 h1) (fun a b => by
      cases h : ltR ltO b a with
      | true => have := hR.asymmA h; simp [this]
      | false => simp) L.zipIdx
    exact this.imp (fun h => by simpa using h)
  unfold sortO
  rw [List.pairwise_map]
  exact hm.imp (fun h => (ltR_no.1 h).1)
/-- What stands as it trades is what Sorted makes of the same orders. -/
theorem sortO_uniq {A L : List Od} (h : A.Perm L) (ha : A.Pairwise (fun x y => ltO x y = true)) : sortO L = A := by
  have hp := (sortP_perm L).trans h.symm
  have hn : A.Nodup := ha.imp (fun h e => by subst e; rw [lt_irr] at h; cases h)
  have ht : ∀ x ∈ A, ∀ y ∈ A, x ≠ y → ltO x y = true ∨ ltO y x = true := by
    intro x hx y hy hne
    obtain ⟨i, hi, rfl⟩ := List.mem_iff_getElem.1 hx
    obtain ⟨j, hj, rfl⟩ := List.mem_iff_getElem.1 hy
    rw [List.pairwise_iff_getElem] at ha
    rcases Nat.lt_trichotomy i j with h | h | h
    · exact .inl (ha i j hi hj h)
    · subst h; exact absurd rfl hne
    · exact .inr (ha j i hj hi h)
  refine uniq hp ?_ ha
  have hn' := hp.nodup_iff.2 hn
  have hw := sortO_weak L
  rw [List.pairwise_iff_forall_sublist] at hw ⊢
  intro x y hxy
  have hx := hp.mem_iff.1 (hxy.subset (by simp) : x ∈ sortO L)
  have hy := hp.mem_iff.1 (hxy.subset (by simp) : y ∈ sortO L)
  have hne : x ≠ y := by
    have := List.pairwise_iff_forall_sublist.1 hn' hxy
    exact this
  rcases ht x hx y hy hne with h | h
  · exact h
  · rw [hw hxy] at h; cases h

/-- How many rows are better than a price. -/
def atN (s p : Int) (R : List Rw) : Nat := R.countP (fun r => betN s r.pr p)
/-- How many orders of a queue are ahead of one. -/
def plN (o : Od) (q : List Od) : Nat := q.countP (fun x => ahdO x o)
theorem at_le (s p : Int) (R : List Rw) : atN s p R ≤ R.length := List.countP_le_length
theorem pl_le (o : Od) (q : List Od) : plN o q ≤ q.length := List.countP_le_length
theorem rows_mono {s p : Int} {R : List Rw} (h : R.Pairwise (fun a b => betN s a.pr b.pr = true)) : R.Pairwise (fun a b => betN s b.pr p = true → betN s a.pr p = true) :=
  h.imp (fun h k => bet_tr h k)
theorem que_mono {o : Od} {q : List Od} (h : q.Pairwise (fun x y => ahdO x y = true)) : q.Pairwise (fun x y => ahdO y o = true → ahdO x o = true) :=
  h.imp (fun h k => ahd_tr h k)
/-- An order's queue, with it. -/
def putQ (o : Od) (q : List Od) : List Od := q.take (plN o q) ++ o :: q.drop (plN o q)
theorem putQ_perm (o : Od) (q : List Od) : (putQ o q).Perm (o :: q) := by
  unfold putQ
  refine List.perm_middle.trans ?_
  rw [List.take_append_drop]
theorem putQ_ok {s : Int} (hs : s = 1 ∨ s = 2) {o : Od} {q : List Od} {p : Int} (ho : o.side = s ∧ o.price = p) (hm : ∀ x ∈ q, x.side = s ∧ x.price = p) (hq : q.Pairwise (fun x y => ahdO x y = true)) (hi : ∀ x ∈ q, ¬ x.id = o.id) :
    (putQ o q).Pairwise (fun x y => ahdO x y = true) := by
  obtain ⟨h1, h2⟩ := split_pw (fun x => ahdO x o) q (que_mono hq)
  have hq' := hq
  rw [← List.take_append_drop (plN o q) q, List.pairwise_append] at hq'
  obtain ⟨q1, q2, q3⟩ := hq'
  unfold putQ
  rw [List.pairwise_append, List.pairwise_cons]
  refine ⟨q1, ⟨fun y hy => ?_, q2⟩, fun x hx y hy => ?_⟩
  · have hy' := List.mem_of_mem_drop hy
    have := hm y hy'
    exact ahd_tot (by rw [this.1, ho.1]) (by rw [this.1]; exact hs) (by rw [this.2, ho.2]) (hi y hy') (h2 y hy)
  · rcases List.mem_cons.1 hy with rfl | hy
    · exact h1 x hx
    · exact q3 x hx y hy
/-- There is a row of that price just where the first one that is not better has it. -/
theorem row_split {s p : Int} (hs : s = 1 ∨ s = 2) {R : List Rw} (h : R.Pairwise (fun a b => betN s a.pr b.pr = true)) :
    (∀ r ∈ R.take (atN s p R), betN s r.pr p = true) ∧ (∀ r ∈ R.drop (atN s p R), betN s r.pr p = false) ∧
    (∀ r R', R.drop (atN s p R) = r :: R' → ¬ r.pr = p → ∀ y ∈ r :: R', betN s p y.pr = true) ∧
    (∀ r R', R.drop (atN s p R) = r :: R' → r.pr = p → ∀ y ∈ R', betN s p y.pr = true) := by
  obtain ⟨h1, h2⟩ := split_pw (fun r : Rw => betN s r.pr p) R (rows_mono h)
  refine ⟨h1, h2, fun r R' e hr y hy => ?_, fun r R' e hr y hy => ?_⟩
  · have hd : (R.drop (atN s p R)).Pairwise (fun a b => betN s a.pr b.pr = true) := List.Pairwise.sublist (List.drop_sublist _ _) h
    have hr' : betN s p r.pr = true := bet_tot hs hr (h2 r (by unfold atN at e; rw [e]; simp))
    rw [e, List.pairwise_cons] at hd
    rcases List.mem_cons.1 hy with rfl | hy
    · exact hr'
    · exact bet_tr hr' (hd.1 y hy)
  · have hd : (R.drop (atN s p R)).Pairwise (fun a b => betN s a.pr b.pr = true) := List.Pairwise.sublist (List.drop_sublist _ _) h
    rw [e, List.pairwise_cons] at hd
    rw [← hr]
    exact hd.1 y hy
/-- A side whose row at a price is put in the place of what stood there (A ++ M ++ B: M nothing, or the row of that price). -/
theorem side_set {s p : Int} {A B : List Rw} {r : Rw} (hA : ∀ a ∈ A, betN s a.pr p = true) (hB : ∀ b ∈ B, betN s p b.pr = true) {M : List Rw} (h : SideOk s (A ++ M ++ B)) (hr : r.pr = p) (hq : r.q ≠ []) (hm : ∀ x ∈ r.q, x.side = s ∧ x.price = p) (hp : r.q.Pairwise (fun x y => ahdO x y = true)) :
    SideOk s (A ++ r :: B) := by
  have hmem : ∀ y, y ∈ A ++ r :: B → y = r ∨ y ∈ A ++ M ++ B := by
    intro y hy
    simp only [List.mem_append, List.mem_cons] at hy ⊢
    rcases hy with h | rfl | h
    · exact .inr (.inl (.inl h))
    · exact .inl rfl
    · exact .inr (.inr h)
  refine ⟨?_, fun y hy => ?_, fun y hy => ?_, fun y hy => ?_⟩
  · have := h.rows
    rw [List.append_assoc, List.pairwise_append] at this
    obtain ⟨a1, a2, a3⟩ := this
    rw [List.pairwise_append] at a2
    rw [List.pairwise_append, List.pairwise_cons]
    refine ⟨a1, ⟨fun b hb => by rw [hr]; exact hB b hb, a2.2.1⟩, fun a ha b hb => ?_⟩
    rcases List.mem_cons.1 hb with rfl | hb
    · rw [hr]; exact hA a ha
    · exact a3 a ha b (by simp [hb])
  · rcases hmem y hy with rfl | h'; exact hq; exact h.some y h'
  · rcases hmem y hy with rfl | h'
    · rw [hr]; exact hm
    · exact h.mem y h'
  · rcases hmem y hy with rfl | h'; exact hp; exact h.que y h'
theorem side_drop {s : Int} {A M B : List Rw} (h : SideOk s (A ++ M ++ B)) : SideOk s (A ++ B) := by
  have hmem : ∀ y, y ∈ A ++ B → y ∈ A ++ M ++ B := by
    intro y hy
    simp only [List.mem_append] at hy ⊢
    rcases hy with h | h
    · exact .inl (.inl h)
    · exact .inr h
  refine ⟨List.Pairwise.sublist ?_ h.rows, fun y hy => h.some y (hmem y hy), fun y hy => h.mem y (hmem y hy), fun y hy => h.que y (hmem y hy)⟩
  rw [List.append_assoc]
  exact (List.sublist_append_right M B).append_left A
end Go.Proofs.YtgbmgdffgmablaaGreat

namespace Go.Proofs.YtgbmgdffgmablaaGreat
open Go.RowKit Go.Sort Go.Lib Go.Shelf

set_option maxHeartbeats 4000000 in
set_option maxRecDepth 1000000 in
theorem swapRange_c (k : Nat) (aE : ∀ w, (isAgg 38).run Tryz.prog w = .ok true w) (zE : ∀ w, (Go.sizeOf 38).run Tryz.prog w = .ok k w) (enc : Dd → List Value) (f : Value) (blk off cap a b n : Nat) (d0 d : Array Dd) (w0 w : World)
    (R : RowK enc k w0 blk off d0) (hs : d0.size = d.size) (S : SWK enc k w0 blk off d w) (hab : a + n ≤ b) (hb : b + n ≤ d.size) (hsz : d.size < 4611686018427387904) :
    Calls Tryz.prog 149 #[.slice (some ⟨blk, off, none⟩) d.size cap, .int .i64 a, .int .i64 b, .int .i64 n, f] w fun e w' => e = .returned (.tuple #[]) ∧
      ∃ d', SWK enc k w0 blk off d' w' ∧ PermIn a (b + n) d d' ∧ ∀ p, d'[p]! = d[sig a b n p]! := by
  have mixed : Tryz.prog.follows .mixedOrders = true := by kernel_rfl
  have S0 : Aside (SWK enc k w0 blk off d w) := S
  clear S
  go_enter Tryz.func149, Tryz.ntmps149
  go_wp2
  go_loopg [10] n (fun kx s10 wr => ∃ (i : Nat) (dk : Array Dd), s10 = .int .i64 i ∧ i ≤ n ∧ n - i ≤ kx ∧ dk.size = d.size ∧ Aside (SWK enc k w0 blk off dk wr) ∧ PermIn a (b + n) d dk ∧ Hid (∀ p, dk[p]! = d[sig a b i p]!))
  case atStart => exact ⟨0, d, rfl, by omega, by omega, rfl, S0, permIn_refl _ _ _, Lib.hid (fun p => by rw [sig_zero])⟩
  case round =>
    clear S0
    obtain ⟨i, dk, rfl, hin, hkx, hds, S1, HPm, HP⟩ := hrel
    by_cases hlt : i < n
    · have hltz : (i : Int) < (n : Int) := by omega
      go_wp2_with fail
      have ra : IntKind.i64.wrap ((a : Int) + (i : Int)) = ((a + i : Nat) : Int) := by rw [IntKind.wrap_i64]; omega
      have rb : IntKind.i64.wrap ((b : Int) + (i : Int)) = ((b + i : Nat) : Int) := by rw [IntKind.wrap_i64]; omega
      have S2 : Aside (SWK enc k w0 blk off (swp dk (a + i) (b + i)) ((wr.drew.setCells blk (off + (a + i) * k) (enc dk[b + i]!)).setCells blk (off + (b + i) * k) (enc dk[a + i]!))) := S1.out.swapped R (a + i) (b + i) (by omega) (by omega)
      have l44a := S1.out.ld1 R (by omega) Tryz.prog (a + i) (by omega)
      have l44b := S1.out.ld1 R (by omega) Tryz.prog (b + i) (by omega)
      have s44a := S1.out.st1 R (by omega) Tryz.prog (a + i) (by omega) dk[b + i]!
      have s44b := S1.out.st2 R (by omega) Tryz.prog (a + i) (b + i) (by omega) (by omega) dk[b + i]! dk[a + i]!
      have n44a : (enc dk[a + i]!).length = k := R.hk _
      have n44b : (enc dk[b + i]!).length = k := R.hk _
      have HPn : PermIn a (b + n) d (swp dk (a + i) (b + i)) := permIn_trans _ _ _ _ _ HPm (swp_permIn dk a (b + n) (a + i) (b + i) (by omega) (by omega) (by omega) (by omega) (by omega))
      have HQ : Hid (∀ p, (swp dk (a + i) (b + i))[p]! = d[sig a b (i + 1) p]!) := Lib.hid (fun p => by
        rw [swp_get dk (by omega) (by omega), HP.out, HP.out, HP.out]
        unfold sig
        (repeat' split) <;> first | omega | (congr 1; done) | (congr 1; omega))
      generalize enc dk[a + i]! = cI44 at S2 l44a s44b n44a
      generalize enc dk[b + i]! = cJ44 at S2 l44b s44a s44b n44b
      clear S1 HP HPm
      go_wp2_with fail
      go_big_region
      clear l44a l44b s44a s44b
      generalize (wr.drew.setCells blk (off + (a + i) * k) cJ44).setCells blk (off + (b + i) * k) cI44 = w2 at S2 ⊢
      go_wp2
      go_roundg (n - (i + 1))
      case measure => omega
      case rel => exact ⟨i + 1, swp dk (a + i) (b + i), by go_num, by omega, Nat.le_refl _, by rw [size_swp]; exact hds, S2, HPn, HQ⟩
    · have hltz : ¬ (i : Int) < (n : Int) := by omega
      go_wp2
      go_end0
      obtain rfl : i = n := by omega
      exact ⟨rfl, dk, S1.out, HPm, HP.out⟩

theorem swapRange_z (k : Nat) (aE : ∀ w, (isAgg 38).run Tryz.prog w = .ok true w) (zE : ∀ w, (Go.sizeOf 38).run Tryz.prog w = .ok k w) (enc : Dd → List Value) (f : Value) (blk off cap : Nat) (d0 : Array Dd) (w0 : World) (R : RowK enc k w0 blk off d0)
    (a b n : Nat) (za zb zn : Int) (ha : za = a) (hzb : zb = b) (hn : zn = n) (d : Array Dd) (w : World) (N : Nat) (hN : N = d.size) (hs : d0.size = d.size) (S : SWK enc k w0 blk off d w) (hab : a + n ≤ b) (hb : b + n ≤ d.size) (hsz : d.size < 4611686018427387904) :
    Calls Tryz.prog 149 #[.slice (some ⟨blk, off, none⟩) N cap, .int .i64 za, .int .i64 zb, .int .i64 zn, f] w fun e w' => e = .returned (.tuple #[]) ∧
      ∃ d', SWK enc k w0 blk off d' w' ∧ PermIn a (b + n) d d' ∧ ∀ p, d'[p]! = d[sig a b n p]! := by
  subst ha hzb hn hN
  exact swapRange_c k aE zE enc f blk off cap a b n d0 d w0 w R hs S hab hb hsz

set_option maxHeartbeats 4000000 in
set_option maxRecDepth 1000000 in
theorem rotate_c (k : Nat) (aE : ∀ w, (isAgg 38).run Tryz.prog w = .ok true w) (zE : ∀ w, (Go.sizeOf 38).run Tryz.prog w = .ok k w) (enc : Dd → List Value) (f : Value) (blk off cap a m b : Nat) (d0 d : Array Dd) (w0 w : World)
    (R : RowK enc k w0 blk off d0) (hs : d0.size = d.size) (S : SWK enc k w0 blk off d w) (ham : a < m) (hmb : m < b) (hb : b ≤ d.size) (hsz : d.size < 4611686018427387904) :
    Calls Tryz.prog 148 #[.slice (some ⟨blk, off, none⟩) d.size cap, .int .i64 a, .int .i64 m, .int .i64 b, f] w fun e w' => e = .returned (.tuple #[]) ∧
      ∃ d', SWK enc k w0 blk off d' w' ∧ PermIn a b d d' ∧ ∀ p, d'[p]! = d[rho a m b p]! := by
  have mixed : Tryz.prog.follows .mixedOrders = true := by kernel_rfl
  have S0 : Aside (SWK enc k w0 blk off d w) := S
  have HZ := Lib.hid (swapRange_z k aE zE enc f blk off cap d0 w0 R)
  clear S aE zE
  go_enter Tryz.func148, Tryz.ntmps148
  go_wp2
  go_loopg [10, 11] b (fun kx s10 s11 wr => ∃ (i j : Nat) (dk : Array Dd), s10 = .int .i64 i ∧ s11 = .int .i64 j ∧ 0 < i ∧ 0 < j ∧ i + a ≤ m ∧ m + j ≤ b ∧ i + j ≤ kx ∧ Aside (SWK enc k w0 blk off dk wr) ∧ PermIn a b d dk ∧ Hid (∀ p, dk[rho (m - i) m (m + j) p]! = d[rho a m b p]!))
  case atStart => exact ⟨m - a, b - m, d, by rw [Int.ofNat_sub (by omega)], by rw [Int.ofNat_sub (by omega)], by omega, by omega, by omega, by omega, by omega, S0, permIn_refl _ _ _, Lib.hid (fun p => by rw [show m - (m - a) = a by omega, show m + (b - m) = b by omega])⟩
  case round =>
    clear S0
    obtain ⟨i, j, dk, rfl, rfl, hi0, hj0, him, hjm, hkx, S1, HPm, HP⟩ := hrel
    have hds : dk.size = d.size := HPm.1
    have E : Hid (dk.size = d.size) := hds
    clear hds
    rcases Nat.lt_trichotomy i j with hlt | heq | hlt
    · have e1 : ((i : Int) != (j : Int)) = true := by simp; omega
      have e2 : ¬ (j : Int) < (i : Int) := by omega
      go_wp2_with (((with_reducible refine (HZ.out (m - i) (m + j - i) i _ _ _ ?_ ?_ ?_ dk _ d.size ?_ ?_ ?_ ?_ ?_ ?_).mono ?_); omega; omega; rfl; exact E.out.symm; (rw [E.out]; exact hs); exact S1.out; omega; (rw [E.out]; omega); (rw [E.out]; omega)); rintro e w2 ⟨rfl, d2, S2, P2, Q2⟩)
      have P3 : PermIn a b d d2 := permIn_trans _ _ _ _ _ HPm (permIn_mono _ _ _ _ _ _ (by omega) (by omega) (by rw [E.out]; exact hb) P2)
      have Q3 : Hid (∀ p, d2[rho (m - i) m (m + (j - i)) p]! = d[rho a m b p]!) := Lib.hid (fun p => by rw [Q2, rho_less i j m p (by omega) hlt, HP.out])
      have S3 : Aside (SWK enc k w0 blk off d2 w2) := S2
      clear S2 P2 Q2 S1 HP HPm
      go_roundg (j)
      case measure => omega
      case rel => exact ⟨i, j - i, d2, rfl, by rw [Int.ofNat_sub (by omega)], by omega, by omega, by omega, by omega, by omega, S3, P3, Q3⟩
    · subst heq
      have e1 : ((i : Int) != (i : Int)) = false := by simp
      go_wp2_with (((with_reducible refine (HZ.out (m - i) m i _ _ _ ?_ ?_ ?_ dk _ d.size ?_ ?_ ?_ ?_ ?_ ?_).mono ?_); omega; rfl; rfl; exact E.out.symm; (rw [E.out]; exact hs); exact S1.out; omega; (rw [E.out]; omega); (rw [E.out]; omega)); rintro e w2 ⟨rfl, d2, S2, P2, Q2⟩)
      have P3 : PermIn a b d d2 := permIn_trans _ _ _ _ _ HPm (permIn_mono _ _ _ _ _ _ (by omega) (by omega) (by rw [E.out]; exact hb) P2)
      have Q3 : ∀ p, d2[p]! = d[rho a m b p]! := fun p => by rw [Q2, rho_same i m p (by omega), HP.out]
      go_end0
      exact ⟨rfl, d2, S2, P3, Q3⟩
    · have e1 : ((i : Int) != (j : Int)) = true := by simp; omega
      have e2 : (j : Int) < (i : Int) := by omega
      go_wp2_with (((with_reducible refine (HZ.out (m - i) m j _ _ _ ?_ ?_ ?_ dk _ d.size ?_ ?_ ?_ ?_ ?_ ?_).mono ?_); omega; rfl; rfl; exact E.out.symm; (rw [E.out]; exact hs); exact S1.out; omega; (rw [E.out]; omega); (rw [E.out]; omega)); rintro e w2 ⟨rfl, d2, S2, P2, Q2⟩)
      have P3 : PermIn a b d d2 := permIn_trans _ _ _ _ _ HPm (permIn_mono _ _ _ _ _ _ (by omega) (by omega) (by rw [E.out]; exact hb) P2)
      have Q3 : Hid (∀ p, d2[rho (m - (i - j)) m (m + j) p]! = d[rho a m b p]!) := Lib.hid (fun p => by rw [Q2, rho_big m i j p (by omega) hlt, HP.out])
      have S3 : Aside (SWK enc k w0 blk off d2 w2) := S2
      clear S2 P2 Q2 S1 HP HPm
      go_roundg (i)
      case measure => omega
      case rel => exact ⟨i - j, j, d2, by rw [Int.ofNat_sub (by omega)], rfl, by omega, by omega, by omega, by omega, by omega, S3, P3, Q3⟩
end Go.Proofs.YtgbmgdffgmablaaGreat

namespace Go.Proofs.YtgbmgdffgmablaaGreat
open Go.RowKit Go.Sort Go.Lib Go.Shelf

theorem runs_w {α : Type} {r : α → α → Bool} {x y : α} {c : Int} (h : decide (c < 0) = r x y) (hc : c < 0) : r x y = true := by rw [← h]; exact decide_eq_true hc
theorem runs_n {α : Type} {r : α → α → Bool} {x y : α} {c : Int} (h : decide (c < 0) = r x y) (hc : ¬ c < 0) : r x y = false := by rw [← h]; exact decide_eq_false hc
variable (k : Nat) (aE : ∀ w, (isAgg 38).run Tryz.prog w = .ok true w) (zE : ∀ w, (Go.sizeOf 38).run Tryz.prog w = .ok k w) (enc : Dd → List Value) (lt : Od → Od → Bool) (cf : Dd → Dd → Int) (hcf : ∀ x y, decide (cf x y < 0) = lt x.1 y.1) (hO : SWO lt)
  (g : Nat) (cb : Array Value) (blk off cap : Nat) (d0 : Array Dd) (w0 : World) (eg : ∀ args w, (callFunc g args).run Tryz.prog w = .ok (.enter g args) w) (R : RowK enc k w0 blk off d0) (hC : CmpLays Tryz.prog g cb enc k cf blk off d0.size w0)
set_option maxHeartbeats 4000000 in
set_option maxRecDepth 1000000 in
include aE zE hcf hO eg R hC in
/-- The first run is one element. -/
theorem sym_first (a b : Nat) (d : Array Dd) (w : World) (hs : d0.size = d.size) (S : SWK enc k w0 blk off d w) (U : Runs lt a (a + 1) b d) (hab : a + 1 < b) (hb : b ≤ d.size) (hsz : d.size < 4611686018427387904) :
    Calls Tryz.prog 140 #[.slice (some ⟨blk, off, none⟩) d.size cap, .int .i64 a, .int .i64 ((a : Int) + 1), .int .i64 b, .func (.func g) #[] cb] w fun e w' => e = .returned (.tuple #[]) ∧
      ∃ d', SWK enc k w0 blk off d' w' ∧ Merged lt a b d d' := by
  have mixed : Tryz.prog.follows .mixedOrders = true := by kernel_rfl
  have S0 : Aside (SWK enc k w0 blk off d w) := S
  have HU := Lib.hid U
  have HC : Aside (CmpLays Tryz.prog g cb enc k cf blk off d0.size w0) := hC
  have HF := Lib.hid hcf
  have HS := Lib.hid hs
  have e1 : ((a : Int) + 1 - (a : Int) == 1) = true := by rw [beq_iff_eq]; omega
  clear S hC hcf hs U
  go_enter Tryz.func140, Tryz.ntmps140
  go_wp2
  go_loopg [10, 11] b (fun kx s10 s11 wr => ∃ (i j : Nat), s10 = .int .i64 i ∧ s11 = .int .i64 j ∧ a + 1 ≤ i ∧ i ≤ j ∧ j ≤ b ∧ j - i ≤ kx ∧ Aside (SWK enc k w0 blk off d wr) ∧ Hid ((∀ q, a + 1 ≤ q → q < i → lt (d[q]!).1 (d[a]!).1 = true) ∧ ∀ q, j ≤ q → q < b → lt (d[q]!).1 (d[a]!).1 = false))
  case atStart => exact ⟨a + 1, b, by go_num, rfl, by omega, by omega, by omega, by omega, S0, Lib.hid ⟨fun q h1 h2 => by omega, fun q h1 h2 => by omega⟩⟩
  case round =>
    clear S0
    obtain ⟨i, j, rfl, rfl, hi, hij, hjb, hkx, S1, HI⟩ := hrel
    by_cases hlt : i < j
    · have hltz : (i : Int) < (j : Int) := by omega
      obtain ⟨h, hh⟩ : ∃ h, h = (i + j) / 2 := ⟨_, rfl⟩
      have hz : ((i : Int) + (j : Int)) / 2 = (h : Int) := by omega
      have h1 : i ≤ h := by omega
      have h2 : h < j := by omega
      clear hh
      obtain ⟨x, hx⟩ : ∃ x, d[h]! = x := ⟨_, rfl⟩
      obtain ⟨y, hy⟩ : ∃ y, d[a]! = y := ⟨_, rfl⟩
      have lx := fun n' os' => S1.out.ld R (by first | exact HS.out.symm | rw [HS.out]) Tryz.prog (h) (by omega) n' os'
      have ly := fun n' os' => S1.out.ld R (by first | exact HS.out.symm | rw [HS.out]) Tryz.prog (a) (by omega) n' os'
      rw [hx] at lx
      rw [hy] at ly
      have hcg := fun n' os' => S1.out.cmp HC.out (by first | exact HS.out.symm | rw [HS.out]) x y n' os'
      have XY : Hid (d[h]! = x ∧ d[a]! = y) := ⟨hx, hy⟩
      clear hx hy
      have bp : ((h : Nat) : Int) < (d.size : Int) := by omega
      have bq : ((a : Nat) : Int) < (d.size : Int) := by omega
      by_cases hlv : cf x y < 0
      · have HN : Hid (∀ q, a + 1 ≤ q → q < h + 1 → lt (d[q]!).1 (d[a]!).1 = true) := Lib.hid (fun q hq hqh => runs_yes hO HU.out (Nat.le_refl _) (Nat.le_refl _) (by omega) hq (by omega) (by omega : h < b) (by rw [XY.out.1, XY.out.2]; exact runs_w (r := fun x y : Dd => lt x.1 y.1) (HF.out x y) hlv))
        go_wp2_with fail
        go_quiet_grown (first | (go_at_fn g; refine Calls.grown_of (hcg _ _)))
        have S2 : Aside (SWK enc k w0 blk off d (grow (wr.drewN nq) osq)) := S1.out.grown nq osq
        clear lx ly hcg S1
        generalize grow (wr.drewN nq) osq = w2 at S2 ⊢
        go_wp2
        go_roundg (j - (h + 1))
        case measure => omega
        case rel => exact ⟨h + 1, j, by go_num, rfl, by omega, by omega, by omega, by omega, S2, Lib.hid ⟨HN.out, HI.out.2⟩⟩
      · have HN : Hid (∀ q, h ≤ q → q < b → lt (d[q]!).1 (d[a]!).1 = false) := Lib.hid (fun q hq hqb => runs_no hO HU.out (Nat.le_refl _) (Nat.le_refl _) (by omega) (by omega : a + 1 ≤ h) hq hqb (by rw [XY.out.1, XY.out.2]; exact runs_n (r := fun x y : Dd => lt x.1 y.1) (HF.out x y) hlv))
        go_wp2_with fail
        go_quiet_grown (first | (go_at_fn g; refine Calls.grown_of (hcg _ _)))
        have S2 : Aside (SWK enc k w0 blk off d (grow (wr.drewN nq) osq)) := S1.out.grown nq osq
        clear lx ly hcg S1
        generalize grow (wr.drewN nq) osq = w2 at S2 ⊢
        go_wp2
        go_roundg (h - i)
        case measure => omega
        case rel => exact ⟨i, h, rfl, rfl, by omega, by omega, by omega, by omega, S2, Lib.hid ⟨HI.out.1, HN.out⟩⟩
    · have hltz : ¬ (i : Int) < (j : Int) := by omega
      obtain rfl : i = j := by omega
      clear hij
      go_wp2
      go_loopg [13] b (fun kx s13 wr => ∃ (c : Nat) (dk : Array Dd), s13 = .int .i64 c ∧ a ≤ c ∧ c + 1 ≤ i ∧ i - c ≤ kx ∧ dk.size = d.size ∧ Aside (SWK enc k w0 blk off dk wr) ∧ Hid (Shl a i c d dk))
      case atStart => exact ⟨a, d, rfl, by omega, by omega, by omega, rfl, S1, Lib.hid (Shl.start a i d)⟩
      case round =>
        clear S1
        obtain ⟨c, dk, rfl, hac, hci, hkx', hds, S1, HSh⟩ := hrel
        by_cases hlt2 : c + 1 < i
        · have hltz2 : (c : Int) < (i : Int) - 1 := by omega
          have HQ : Hid (Shl a i (c + 1) d (swp dk c (c + 1))) := Lib.hid (HSh.out.step hac hlt2 (by omega))
          have HD := Lib.hid hds
          have S2 : Aside (SWK enc k w0 blk off (swp dk (c) (c + 1)) ((wr.drew.setCells blk (off + (c) * k) (enc dk[c + 1]!)).setCells blk (off + (c + 1) * k) (enc dk[c]!))) := S1.out.swapped R (c) (c + 1) (by omega) (by omega)
          have l44a := S1.out.ld1 R (by rw [HD.out]; exact HS.out.symm) Tryz.prog (c) (by omega)
          have l44b := S1.out.ld1 R (by rw [HD.out]; exact HS.out.symm) Tryz.prog (c + 1) (by omega)
          have s44a := S1.out.st1 R (by rw [HD.out]; exact HS.out.symm) Tryz.prog (c) (by omega) dk[c + 1]!
          have s44b := S1.out.st2 R (by rw [HD.out]; exact HS.out.symm) Tryz.prog (c) (c + 1) (by omega) (by omega) dk[c + 1]! dk[c]!
          have n44a : (enc dk[c]!).length = k := R.hk _
          have n44b : (enc dk[c + 1]!).length = k := R.hk _
          generalize enc dk[c]! = cI44 at S2 l44a s44b n44a
          generalize enc dk[c + 1]! = cJ44 at S2 l44b s44a s44b n44b
          clear S1
          go_wp2_with fail
          go_big_region
          clear l44a l44b s44a s44b
          generalize (wr.drew.setCells blk (off + (c) * k) cJ44).setCells blk (off + (c + 1) * k) cI44 = w2 at S2 ⊢
          go_wp2
          go_roundg (i - (c + 1))
          case measure => omega
          case rel => exact ⟨c + 1, swp dk c (c + 1), by go_num, by omega, by omega, by omega, by rw [size_swp]; exact HD.out, S2, HQ⟩
        · have hltz2 : ¬ (c : Int) < (i : Int) - 1 := by omega
          have HM : Hid (Merged lt a b d dk) := Lib.hid (shl_merged hO HU.out HSh.out (by omega) hjb hb (by omega) HI.out.1 HI.out.2)
          clear hds
          go_wp2
          (try simp only [Exit.inBlock, Exit.then])
          refine bodyPost_ret (results_none rfl _ _ _) rfl ?_
          exact ⟨rfl, dk, S1.out, HM.out⟩
set_option maxHeartbeats 4000000 in
set_option maxRecDepth 1000000 in
include aE zE hcf hO eg R hC in
/-- The second run is one element. -/
theorem sym_last (a m : Nat) (d : Array Dd) (w : World) (hs : d0.size = d.size) (S : SWK enc k w0 blk off d w) (U : Runs lt a m (m + 1) d) (ham : a + 1 < m) (hb : m + 1 ≤ d.size) (hsz : d.size < 4611686018427387904) :
    Calls Tryz.prog 140 #[.slice (some ⟨blk, off, none⟩) d.size cap, .int .i64 a, .int .i64 m, .int .i64 ((m : Int) + 1), .func (.func g) #[] cb] w fun e w' => e = .returned (.tuple #[]) ∧
      ∃ d', SWK enc k w0 blk off d' w' ∧ Merged lt a (m + 1) d d' := by
  have mixed : Tryz.prog.follows .mixedOrders = true := by kernel_rfl
  have S0 : Aside (SWK enc k w0 blk off d w) := S
  have HU := Lib.hid U
  have HC : Aside (CmpLays Tryz.prog g cb enc k cf blk off d0.size w0) := hC
  have HF := Lib.hid hcf
  have HS := Lib.hid hs
  have e0 : ((m : Int) - (a : Int) == 1) = false := by rw [beq_eq_false_iff_ne]; omega
  have e1' : ((m : Int) + 1 - (m : Int) == 1) = true := by rw [beq_iff_eq]; omega
  clear S hC hcf hs U
  go_enter Tryz.func140, Tryz.ntmps140
  go_wp2
  go_loopg [14, 15] m (fun kx s14 s15 wr => ∃ (i j : Nat), s14 = .int .i64 i ∧ s15 = .int .i64 j ∧ a ≤ i ∧ i ≤ j ∧ j ≤ m ∧ j - i ≤ kx ∧ Aside (SWK enc k w0 blk off d wr) ∧ Hid ((∀ p, a ≤ p → p < i → lt (d[m]!).1 (d[p]!).1 = false) ∧ ∀ p, j ≤ p → p < m → lt (d[m]!).1 (d[p]!).1 = true))
  case atStart => exact ⟨a, m, rfl, rfl, by omega, by omega, by omega, by omega, S0, Lib.hid ⟨fun q h1 h2 => by omega, fun q h1 h2 => by omega⟩⟩
  case round =>
    clear S0
    obtain ⟨i, j, rfl, rfl, hi, hij, hjb, hkx, S1, HI⟩ := hrel
    by_cases hlt : i < j
    · have hltz : (i : Int) < (j : Int) := by omega
      obtain ⟨h, hh⟩ : ∃ h, h = (i + j) / 2 := ⟨_, rfl⟩
      have hz : ((i : Int) + (j : Int)) / 2 = (h : Int) := by omega
      have h1 : i ≤ h := by omega
      have h2 : h < j := by omega
      clear hh
      obtain ⟨x, hx⟩ : ∃ x, d[m]! = x := ⟨_, rfl⟩
      obtain ⟨y, hy⟩ : ∃ y, d[h]! = y := ⟨_, rfl⟩
      have lx := fun n' os' => S1.out.ld R (by first | exact HS.out.symm | rw [HS.out]) Tryz.prog (m) (by omega) n' os'
      have ly := fun n' os' => S1.out.ld R (by first | exact HS.out.symm | rw [HS.out]) Tryz.prog (h) (by omega) n' os'
      rw [hx] at lx
      rw [hy] at ly
      have hcg := fun n' os' => S1.out.cmp HC.out (by first | exact HS.out.symm | rw [HS.out]) x y n' os'
      have XY : Hid (d[m]! = x ∧ d[h]! = y) := ⟨hx, hy⟩
      clear hx hy
      have bp : ((m : Nat) : Int) < (d.size : Int) := by omega
      have bq : ((h : Nat) : Int) < (d.size : Int) := by omega
      by_cases hlv : cf x y < 0
      · have HN : Hid (∀ p, h ≤ p → p < m → lt (d[m]!).1 (d[p]!).1 = true) := Lib.hid (fun p hp hpm => runs_yes hO HU.out (by omega : a ≤ h) hp hpm (Nat.le_refl _) (Nat.le_refl _) (by omega) (by rw [XY.out.1, XY.out.2]; exact runs_w (r := fun x y : Dd => lt x.1 y.1) (HF.out x y) hlv))
        have hd : decide (cf x y < 0) = true := decide_eq_true hlv
        go_wp2_with fail
        go_quiet_grown (first | (go_at_fn g; refine Calls.grown_of (hcg _ _)))
        have S2 : Aside (SWK enc k w0 blk off d (grow (wr.drewN nq) osq)) := S1.out.grown nq osq
        clear lx ly hcg S1
        generalize grow (wr.drewN nq) osq = w2 at S2 ⊢
        go_wp2
        go_roundg (h - i)
        case measure => omega
        case rel => exact ⟨i, h, rfl, rfl, by omega, by omega, by omega, by omega, S2, Lib.hid ⟨HI.out.1, HN.out⟩⟩
      · have HN : Hid (∀ p, a ≤ p → p < h + 1 → lt (d[m]!).1 (d[p]!).1 = false) := Lib.hid (fun p hp hph => runs_no hO HU.out hp (by omega : p ≤ h) (by omega) (Nat.le_refl _) (Nat.le_refl _) (by omega) (by rw [XY.out.1, XY.out.2]; exact runs_n (r := fun x y : Dd => lt x.1 y.1) (HF.out x y) hlv))
        have hd : decide (cf x y < 0) = false := decide_eq_false hlv
        go_wp2_with fail
        go_quiet_grown (first | (go_at_fn g; refine Calls.grown_of (hcg _ _)))
        have S2 : Aside (SWK enc k w0 blk off d (grow (wr.drewN nq) osq)) := S1.out.grown nq osq
        clear lx ly hcg S1
        generalize grow (wr.drewN nq) osq = w2 at S2 ⊢
        go_wp2
        go_roundg (j - (h + 1))
        case measure => omega
        case rel => exact ⟨h + 1, j, by go_num, rfl, by omega, by omega, by omega, by omega, S2, Lib.hid ⟨HN.out, HI.out.2⟩⟩
    · have hltz : ¬ (i : Int) < (j : Int) := by omega
      obtain rfl : i = j := by omega
      clear hij
      go_wp2
      go_loopg [17] m (fun kx s17 wr => ∃ (c : Nat) (dk : Array Dd), s17 = .int .i64 c ∧ i ≤ c ∧ c ≤ m ∧ c - i ≤ kx ∧ dk.size = d.size ∧ Aside (SWK enc k w0 blk off dk wr) ∧ Hid (Shr i m c d dk))
      case atStart => exact ⟨m, d, rfl, by omega, by omega, by omega, rfl, S1, Lib.hid (Shr.start i m d)⟩
      case round =>
        clear S1
        obtain ⟨c1, dk, rfl, hac, hci, hkx', hds, S1, HSh⟩ := hrel
        by_cases hlt2 : i < c1
        · obtain ⟨c, rfl⟩ : ∃ c, c1 = c + 1 := ⟨c1 - 1, by omega⟩
          have hltz2 : (i : Int) < (c : Int) + 1 := by omega
          have HQ : Hid (Shr i m c d (swp dk (c + 1) c)) := Lib.hid (HSh.out.step (by omega) hci (by omega))
          have HD := Lib.hid hds
          have wc : IntKind.i64.wrap (c : Int) = (c : Int) := by rw [IntKind.wrap_i64]; omega
          have wc1 : IntKind.i64.wrap ((c : Int) + 1 - 1) = (c : Int) := by rw [IntKind.wrap_i64]; omega
          have bc1 : (c : Int) + 1 < (d.size : Int) := by omega
          have bc0 : (0 : Int) ≤ (c : Int) + 1 := by omega
          have bt : ((c : Int) + 1).toNat = c + 1 := by omega
          have S2 : Aside (SWK enc k w0 blk off (swp dk (c + 1) (c)) ((wr.drew.setCells blk (off + (c + 1) * k) (enc dk[c]!)).setCells blk (off + (c) * k) (enc dk[c + 1]!))) := S1.out.swapped R (c + 1) (c) (by omega) (by omega)
          have l44a := S1.out.ld1 R (by rw [HD.out]; exact HS.out.symm) Tryz.prog (c + 1) (by omega)
          have l44b := S1.out.ld1 R (by rw [HD.out]; exact HS.out.symm) Tryz.prog (c) (by omega)
          have s44a := S1.out.st1 R (by rw [HD.out]; exact HS.out.symm) Tryz.prog (c + 1) (by omega) dk[c]!
          have s44b := S1.out.st2 R (by rw [HD.out]; exact HS.out.symm) Tryz.prog (c + 1) (c) (by omega) (by omega) dk[c]! dk[c + 1]!
          have n44a : (enc dk[c + 1]!).length = k := R.hk _
          have n44b : (enc dk[c]!).length = k := R.hk _
          generalize enc dk[c + 1]! = cI44 at S2 l44a s44b n44a
          generalize enc dk[c]! = cJ44 at S2 l44b s44a s44b n44b
          clear S1
          go_wp2_with fail
          go_big_region
          clear l44a l44b s44a s44b
          generalize (wr.drew.setCells blk (off + (c + 1) * k) cJ44).setCells blk (off + (c) * k) cI44 = w2 at S2 ⊢
          go_wp2
          go_roundg (c - i)
          case measure => omega
          case rel => exact ⟨c, swp dk (c + 1) c, by go_num, by omega, by omega, by omega, by rw [size_swp]; exact HD.out, S2, HQ⟩
        · have hltz2 : ¬ (i : Int) < (c1 : Int) := by omega
          obtain rfl : c1 = i := by omega
          have HM : Hid (Merged lt a (m + 1) d dk) := Lib.hid (shr_merged hO HU.out HSh.out hi hjb hb HI.out.1 HI.out.2)
          clear hds
          go_wp2
          (try simp only [Exit.inBlock, Exit.then])
          refine bodyPost_ret (results_none rfl _ _ _) rfl ?_
          exact ⟨rfl, dk, S1.out, HM.out⟩
end Go.Proofs.YtgbmgdffgmablaaGreat

namespace Go.Proofs.YtgbmgdffgmablaaGreat
open Go.RowKit Go.Sort Go.Lib Go.Shelf

theorem rotate_z (k : Nat) (aE : ∀ w, (isAgg 38).run Tryz.prog w = .ok true w) (zE : ∀ w, (Go.sizeOf 38).run Tryz.prog w = .ok k w) (enc : Dd → List Value) (f : Value) (blk off cap : Nat) (d0 : Array Dd) (w0 : World) (R : RowK enc k w0 blk off d0)
    (a m b : Nat) (za zm zb : Int) (ha : za = a) (hm : zm = m) (hzb : zb = b) (d : Array Dd) (w : World) (N : Nat) (hN : N = d.size) (hs : d0.size = d.size) (S : SWK enc k w0 blk off d w) (ham : a < m) (hmb : m < b) (hb : b ≤ d.size) (hsz : d.size < 4611686018427387904) :
    Calls Tryz.prog 148 #[.slice (some ⟨blk, off, none⟩) N cap, .int .i64 za, .int .i64 zm, .int .i64 zb, f] w fun e w' => e = .returned (.tuple #[]) ∧
      ∃ d', SWK enc k w0 blk off d' w' ∧ PermIn a b d d' ∧ ∀ p, d'[p]! = d[rho a m b p]! := by
  subst ha hzb hm hN
  exact rotate_c k aE zE enc f blk off cap a m b d0 d w0 w R hs S ham hmb hb hsz
def CutB (a b m n lo hi : Nat) : Prop := (m > (a + b) / 2 ∧ lo = n - b ∧ hi = (a + b) / 2) ∨ (m ≤ (a + b) / 2 ∧ lo = a ∧ hi = m)
variable (k : Nat) (aE : ∀ w, (isAgg 38).run Tryz.prog w = .ok true w) (zE : ∀ w, (Go.sizeOf 38).run Tryz.prog w = .ok k w) (enc : Dd → List Value) (lt : Od → Od → Bool) (cf : Dd → Dd → Int) (hcf : ∀ x y, decide (cf x y < 0) = lt x.1 y.1) (hO : SWO lt)
  (g : Nat) (cb : Array Value) (blk off cap : Nat) (d0 : Array Dd) (w0 : World) (eg : ∀ args w, (callFunc g args).run Tryz.prog w = .ok (.enter g args) w) (R : RowK enc k w0 blk off d0) (hC : CmpLays Tryz.prog g cb enc k cf blk off d0.size w0)

set_option maxHeartbeats 4000000 in
set_option maxRecDepth 1000000 in
include aE zE hcf hO eg R hC in
/-- Both runs are more than one element; hi. -/
theorem sym_hi (a m b : Nat) (d : Array Dd) (w : World) (hs : d0.size = d.size) (S : SWK enc k w0 blk off d w) (U : Runs lt a m b d) (ham : a + 1 < m) (hmb : m + 1 < b) (hb : b ≤ d.size) (hsz : d.size < 4611686018427387904)
    (IH : ∀ (a' m' b' : Nat) (za zm zb : Int) (d' : Array Dd) (w' : World) (N : Nat), za = a' → zm = m' → zb = b' → N = d'.size → b' - a' < b - a → d0.size = d'.size → SWK enc k w0 blk off d' w' → Runs lt a' m' b' d' → a' < m' → m' < b' → b' ≤ d'.size →
      Calls Tryz.prog 140 #[.slice (some ⟨blk, off, none⟩) N cap, .int .i64 za, .int .i64 zm, .int .i64 zb, .func (.func g) #[] cb] w' fun e w'' => e = .returned (.tuple #[]) ∧ ∃ d'', SWK enc k w0 blk off d'' w'' ∧ Merged lt a' b' d' d'')
    (mid : Nat) (hmid : mid = (a + b) / 2) (hm : mid < m) :
    Calls Tryz.prog 140 #[.slice (some ⟨blk, off, none⟩) d.size cap, .int .i64 a, .int .i64 m, .int .i64 b, .func (.func g) #[] cb] w fun e w' => e = .returned (.tuple #[]) ∧
      ∃ d', SWK enc k w0 blk off d' w' ∧ Merged lt a b d d' := by
  have mixed : Tryz.prog.follows .mixedOrders = true := by kernel_rfl
  have S0 : Aside (SWK enc k w0 blk off d w) := S
  have HU := Lib.hid U
  have HC : Aside (CmpLays Tryz.prog g cb enc k cf blk off d0.size w0) := hC
  have HF := Lib.hid hcf
  have HS := Lib.hid hs
  have HI0 : Aside _ := IH
  have e0 : ((m : Int) - (a : Int) == 1) = false := by rw [beq_eq_false_iff_ne]; omega
  have e1 : ((b : Int) - (m : Int) == 1) = false := by rw [beq_eq_false_iff_ne]; omega
  have hz : ((a : Int) + (b : Int)) / 2 = (mid : Int) := by omega
  have hmz : (mid : Int) < (m : Int) := by omega
  obtain ⟨n, hn⟩ : ∃ n, n = mid + m := ⟨_, rfl⟩
  have HN := Lib.hid hn
  have hnz : (mid : Int) + (m : Int) = (n : Int) := by omega
  obtain ⟨p, hp⟩ : ∃ p, n = p + 1 := ⟨n - 1, by omega⟩
  have HP := Lib.hid hp
  have hpz : (n : Int) - 1 = (p : Int) := by omega
  obtain ⟨lo, hlo⟩ : ∃ lo, lo = n - b := ⟨_, rfl⟩
  have hloz : (n : Int) - (b : Int) = (lo : Int) := by omega
  have HB : CutB a b m n lo mid := by unfold CutB; omega
  have lo1 : a ≤ lo := by omega
  have lo2 : lo ≤ mid := by omega
  have hi2 : mid ≤ m := by omega
  have p1 : ∀ c, lo ≤ c → c < mid → m ≤ p - c ∧ p - c < b ∧ c ≤ p := fun c h1 h2 => by omega
  have HP1 := Lib.hid p1
  have HROT := Lib.hid (rotate_z k aE zE enc (.func (.func g) #[] cb) blk off cap d0 w0 R)
  have HMD := Lib.hid hmid
  have HLO := Lib.hid hlo
  have MB : a < mid ∧ mid < b := by omega
  obtain ⟨mb1, mb2⟩ := MB
  have nb : n < 9223372036854775807 := by omega
  clear S hC hcf hs U IH hn hp hlo p1 hmid
  go_enter Tryz.func140, Tryz.ntmps140
  go_wp2
  go_loopg [20, 21] b (fun kx s20 s21 wr => ∃ (s r : Nat), s20 = .int .i64 s ∧ s21 = .int .i64 r ∧ lo ≤ s ∧ s ≤ r ∧ r ≤ mid ∧ r - s ≤ kx ∧ Aside (SWK enc k w0 blk off d wr) ∧ Hid ((∀ c, lo ≤ c → c < s → lt (d[p - c]!).1 (d[c]!).1 = false) ∧ ∀ c, r ≤ c → c < mid → lt (d[p - c]!).1 (d[c]!).1 = true))
  case atStart => exact ⟨lo, mid, by first | rfl | rw [HLO.out], rfl, by omega, by omega, by omega, by omega, S0, Lib.hid ⟨fun q h1 h2 => by omega, fun q h1 h2 => by omega⟩⟩
  case round =>
    clear S0
    obtain ⟨s, r, rfl, rfl, hi1, hij, hjb, hkx, S1, HI⟩ := hrel
    by_cases hlt : s < r
    · as_aux_lemma =>
      have hltz : (s : Int) < (r : Int) := by omega
      obtain ⟨c, hh⟩ : ∃ c, c = (s + r) / 2 := ⟨_, rfl⟩
      have hcz : ((s : Int) + (r : Int)) / 2 = (c : Int) := by omega
      have h1 : s ≤ c := by omega
      have h2 : c < r := by omega
      clear hh
      obtain ⟨pc1, pc2, pc3⟩ := HP1.out c (by omega) (by omega)
      obtain ⟨q, hq⟩ : ∃ q, q = p - c := ⟨_, rfl⟩
      have hqz : IntKind.i64.wrap ((p : Int) - (c : Int)) = (q : Int) := by rw [IntKind.wrap_i64]; omega
      rw [← hq] at pc1 pc2
      have HQ := Lib.hid hq
      clear hq
      obtain ⟨x, hx⟩ : ∃ x, d[q]! = x := ⟨_, rfl⟩
      obtain ⟨y, hy⟩ : ∃ y, d[c]! = y := ⟨_, rfl⟩
      have lx := fun n' os' => S1.out.ld R (by first | exact HS.out.symm | rw [HS.out]) Tryz.prog (q) (by omega) n' os'
      have ly := fun n' os' => S1.out.ld R (by first | exact HS.out.symm | rw [HS.out]) Tryz.prog (c) (by omega) n' os'
      rw [hx] at lx
      rw [hy] at ly
      have hcg := fun n' os' => S1.out.cmp HC.out (by first | exact HS.out.symm | rw [HS.out]) x y n' os'
      have XY : Hid (d[q]! = x ∧ d[c]! = y) := ⟨hx, hy⟩
      clear hx hy
      have bp : ((q : Nat) : Int) < (d.size : Int) := by omega
      have bq : ((c : Nat) : Int) < (d.size : Int) := by omega
      by_cases hlv : cf x y < 0
      · as_aux_lemma =>
        have HNN : Hid (∀ c', c ≤ c' → c' < mid → lt (d[p - c']!).1 (d[c']!).1 = true) := Lib.hid (fun c' h1' h2' => runs_yes hO HU.out (by omega : a ≤ c) h1' (by omega) (HP1.out c' (by omega) h2').1 (by have := HQ.out; omega : p - c' ≤ q) pc2 (by rw [XY.out.1, XY.out.2]; exact runs_w (r := fun x y : Dd => lt x.1 y.1) (HF.out x y) hlv))
        have hd : decide (cf x y < 0) = true := decide_eq_true hlv
        go_wp2_with fail
        go_quiet_grown (first | (go_at_fn g; refine Calls.grown_of (hcg _ _)))
        have S2 : Aside (SWK enc k w0 blk off d (grow (wr.drewN nq) osq)) := S1.out.grown nq osq
        clear lx ly hcg S1
        generalize grow (wr.drewN nq) osq = w2 at S2 ⊢
        go_wp2
        go_roundg (c - s)
        case measure => omega
        case rel => exact ⟨s, c, rfl, rfl, by omega, by omega, by omega, by omega, S2, Lib.hid ⟨HI.out.1, HNN.out⟩⟩
      · as_aux_lemma =>
        have HNN : Hid (∀ c', lo ≤ c' → c' < c + 1 → lt (d[p - c']!).1 (d[c']!).1 = false) := Lib.hid (fun c' h1' h2' => runs_no hO HU.out (by omega : a ≤ c') (by omega : c' ≤ c) (by omega) pc1 (by have := HQ.out; omega : q ≤ p - c') (HP1.out c' h1' (by omega)).2.1 (by rw [XY.out.1, XY.out.2]; exact runs_n (r := fun x y : Dd => lt x.1 y.1) (HF.out x y) hlv))
        have hd : decide (cf x y < 0) = false := decide_eq_false hlv
        go_wp2_with fail
        go_quiet_grown (first | (go_at_fn g; refine Calls.grown_of (hcg _ _)))
        have S2 : Aside (SWK enc k w0 blk off d (grow (wr.drewN nq) osq)) := S1.out.grown nq osq
        clear lx ly hcg S1
        generalize grow (wr.drewN nq) osq = w2 at S2 ⊢
        go_wp2
        go_roundg (r - (c + 1))
        case measure => omega
        case rel => exact ⟨c + 1, r, by go_num, rfl, by omega, by omega, by omega, by omega, S2, Lib.hid ⟨HNN.out, HI.out.2⟩⟩
    · as_aux_lemma =>
      have hltz : ¬ (s : Int) < (r : Int) := by omega
      obtain rfl : s = r := by omega
      clear hij
      have hpe : ∀ c, n - 1 - c = p - c := fun c => by have := HP.out; omega
      obtain ⟨c1, c2, c3, c4, c5, CUT⟩ := cut_of hO HU.out (s := s) (n := n) (lo := lo) (hi := mid) (by rw [HN.out, HMD.out]) (by omega) (by omega) HB hi1 hjb (fun c h1 h2 => by rw [hpe]; exact HI.out.1 c h1 h2) (fun c h1 h2 => by rw [hpe]; exact HI.out.2 c h1 h2)
      rw [← HMD.out] at c5
      obtain ⟨e, he⟩ : ∃ e, e = n - s := ⟨_, rfl⟩
      rw [← he] at c3 c4 c5 CUT
      have hez : (n : Int) - (s : Int) = (e : Int) := by have := HN.out; omega
      have HCUT := Lib.hid CUT
      clear hpe he CUT HI HB HP1 hkx hjb lo1 lo2 hi1 hltz
      obtain ⟨tb, htb⟩ : ∃ tb : Bool, tb = decide (s < m ∧ m < e) := ⟨_, rfl⟩
      have TB := Lib.hid htb
      clear htb
      go_upto_region 39 with fail
      go_cut [185] (fun sx wx => sx = .bool tb ∧ wx = wr)
      case first =>
        by_cases hr1 : s < m
        · have z1 : (s : Int) < (m : Int) := by omega
          by_cases hr2 : m < e
          · have z2 : (m : Int) < (e : Int) := by omega
            have et : tb = true := by rw [TB.out]; exact decide_eq_true ⟨hr1, hr2⟩
            have ET := Lib.hid et
            clear et
            go_wp2_with fail
            go_meet
            case rel => exact ⟨by rw [ET.out], rfl⟩
          · have z2 : ¬ (m : Int) < (e : Int) := by omega
            have et : tb = false := by rw [TB.out]; exact decide_eq_false (fun h => hr2 h.2)
            have ET := Lib.hid et
            clear et
            go_wp2_with fail
            go_meet
            case rel => exact ⟨by rw [ET.out], rfl⟩
        · have z1 : ¬ (s : Int) < (m : Int) := by omega
          have et : tb = false := by rw [TB.out]; exact decide_eq_false (fun h => hr1 h.1)
          have ET := Lib.hid et
          clear et
          go_wp2_with fail
          go_meet
          case rel => exact ⟨by rw [ET.out], rfl⟩
      case rest =>
      obtain ⟨rfl, rfl⟩ := hcut
      go_upto_if 185 with fail
      go_cut [24] (fun s24 wx => s24 = .int .i64 e ∧ ∃ d1, Aside (SWK enc k w0 blk off d1 wx) ∧ PermIn a b d d1 ∧ Hid (Turned lt a s mid e b d1))
      case first =>
       as_aux_lemma =>
        cases tb with
        | true =>
          have hr := of_decide_eq_true TB.out.symm
          go_wp2_with (((with_reducible refine (HROT.out s m e _ _ _ rfl rfl rfl d _ d.size rfl ?_ ?_ ?_ ?_ ?_ ?_).mono ?_); exact HS.out; exact S1.out; omega; omega; omega; omega); rintro e w2 ⟨rfl, d1, S2, P2, Q2⟩)
          go_meet
          case rel => exact ⟨rfl, d1, S2, permIn_mono _ _ _ _ _ _ (by omega) (by omega) (by omega) P2, Lib.hid (after_rot hO HU.out HCUT.out (by omega) (by omega) (by omega) (by omega) (by omega) Q2)⟩
        | false =>
          have hr : ¬ (s < m ∧ m < e) := of_decide_eq_false TB.out.symm
          have HT : Hid (Turned lt a s mid e b d) := Lib.hid (after_rot hO HU.out HCUT.out (by omega) (by omega) (by omega) (by omega) (by omega) (fun p => by rw [rho_none hr (by omega) (by omega)]))
          go_wp2_with fail
          go_meet
          case rel => exact ⟨rfl, d, S1, permIn_refl _ _ _, HT⟩
      case rest =>
       as_aux_lemma =>
        obtain ⟨rfl, d1, S2, P1, HT⟩ := hcut
        clear S1 HCUT TB
        clear tb
        have D1 : Hid (d1.size = d.size) := P1.1
        obtain ⟨tb, htb⟩ : ∃ tb : Bool, tb = decide (a < s ∧ s < mid) := ⟨_, rfl⟩
        have TB := Lib.hid htb
        clear htb
        go_upto_region 41 with fail
        go_cut [199] (fun sx wx => sx = .bool tb ∧ wx = _)
        case first =>
          by_cases hr1 : a < s
          · have z1 : (a : Int) < (s : Int) := by omega
            by_cases hr2 : s < mid
            · have z2 : (s : Int) < (mid : Int) := by omega
              have et : tb = true := by rw [TB.out]; exact decide_eq_true ⟨hr1, hr2⟩
              have ET := Lib.hid et
              clear et
              go_wp2_with fail
              go_meet
              case rel => exact ⟨by rw [ET.out], rfl⟩
            · have z2 : ¬ (s : Int) < (mid : Int) := by omega
              have et : tb = false := by rw [TB.out]; exact decide_eq_false (fun h => hr2 h.2)
              have ET := Lib.hid et
              clear et
              go_wp2_with fail
              go_meet
              case rel => exact ⟨by rw [ET.out], rfl⟩
          · have z1 : ¬ (a : Int) < (s : Int) := by omega
            have et : tb = false := by rw [TB.out]; exact decide_eq_false (fun h => hr1 h.1)
            have ET := Lib.hid et
            clear et
            go_wp2_with fail
            go_meet
            case rel => exact ⟨by rw [ET.out], rfl⟩
        case rest =>
        obtain ⟨rfl, rfl⟩ := hcut
        go_upto_if 199 with fail
        go_cut [24] (fun s24 wx => s24 = .int .i64 e ∧ ∃ d2, Aside (SWK enc k w0 blk off d2 wx) ∧ Hid (Merged lt a mid d1 d2))
        case first =>
         as_aux_lemma =>
          cases tb with
          | true =>
            have hr := of_decide_eq_true TB.out.symm
            go_wp2_with (((with_reducible refine (HI0.out a s mid _ _ _ d1 _ d.size rfl rfl rfl ?_ ?_ ?_ ?_ ?_ ?_ ?_ ?_).mono ?_); exact D1.out.symm; omega; (rw [D1.out]; exact HS.out); exact S2.out; exact HT.out.l; omega; omega; (rw [D1.out]; omega)); rintro e w2 ⟨rfl, d2, S3, M2⟩)
            go_meet
            case rel => exact ⟨rfl, d2, S3, Lib.hid M2⟩
          | false =>
            have HM := Lib.hid (runs_one HT.out.l (of_decide_eq_false TB.out.symm) (by omega) (by omega))
            go_wp2_with fail
            go_meet
            case rel => exact ⟨rfl, d1, S2, HM⟩
        case rest =>
         as_aux_lemma =>
          obtain ⟨rfl, d2, S3, HM⟩ := hcut
          have D2 : Hid (d2.size = d.size) := by show _ = _; rw [HM.out.1.1, D1.out]
          have HT2 : Hid (Runs lt mid e b d2) := Lib.hid (HT.out.r.next HM.out.1 (by omega))
          clear S2 TB
          by_cases hr : mid < e ∧ e < b
          · obtain ⟨hr1, hr2⟩ := hr
            have z1 : (mid : Int) < (e : Int) := by omega
            have z2 : (e : Int) < (b : Int) := by omega
            go_wp2_with (((with_reducible refine (HI0.out mid e b _ _ _ d2 _ d.size rfl rfl rfl ?_ ?_ ?_ ?_ ?_ ?_ ?_ ?_).mono ?_); exact D2.out.symm; omega; (rw [D2.out]; exact HS.out); exact S3.out; exact HT2.out; omega; omega; (rw [D2.out]; omega)); rintro e w2 ⟨rfl, d3, S4, M3⟩)
            go_end0
            exact ⟨rfl, d3, S4, merge_all HT.out P1 HM.out M3 (by omega) (by omega) hb⟩
          · have HMF : Hid (Merged lt a b d d2) := Lib.hid (merge_all HT.out P1 HM.out (runs_one HT2.out hr (by omega) (by omega)) (by omega) (by omega) hb)
            by_cases hr1 : mid < e
            · have z1 : (mid : Int) < (e : Int) := by omega
              have z2 : ¬ (e : Int) < (b : Int) := by omega
              go_wp2_with fail
              go_end0
              exact ⟨rfl, d2, S3.out, HMF.out⟩
            · have z1 : ¬ (mid : Int) < (e : Int) := by omega
              go_wp2_with fail
              go_end0
              exact ⟨rfl, d2, S3.out, HMF.out⟩

set_option maxHeartbeats 4000000 in
set_option maxRecDepth 1000000 in
include aE zE hcf hO eg R hC in
/-- Both runs are more than one element; lo. -/
theorem sym_lo (a m b : Nat) (d : Array Dd) (w : World) (hs : d0.size = d.size) (S : SWK enc k w0 blk off d w) (U : Runs lt a m b d) (ham : a + 1 < m) (hmb : m + 1 < b) (hb : b ≤ d.size) (hsz : d.size < 4611686018427387904)
    (IH : ∀ (a' m' b' : Nat) (za zm zb : Int) (d' : Array Dd) (w' : World) (N : Nat), za = a' → zm = m' → zb = b' → N = d'.size → b' - a' < b - a → d0.size = d'.size → SWK enc k w0 blk off d' w' → Runs lt a' m' b' d' → a' < m' → m' < b' → b' ≤ d'.size →
      Calls Tryz.prog 140 #[.slice (some ⟨blk, off, none⟩) N cap, .int .i64 za, .int .i64 zm, .int .i64 zb, .func (.func g) #[] cb] w' fun e w'' => e = .returned (.tuple #[]) ∧ ∃ d'', SWK enc k w0 blk off d'' w'' ∧ Merged lt a' b' d' d'')
    (mid : Nat) (hmid : mid = (a + b) / 2) (hm : m ≤ mid) :
    Calls Tryz.prog 140 #[.slice (some ⟨blk, off, none⟩) d.size cap, .int .i64 a, .int .i64 m, .int .i64 b, .func (.func g) #[] cb] w fun e w' => e = .returned (.tuple #[]) ∧
      ∃ d', SWK enc k w0 blk off d' w' ∧ Merged lt a b d d' := by
  have mixed : Tryz.prog.follows .mixedOrders = true := by kernel_rfl
  have S0 : Aside (SWK enc k w0 blk off d w) := S
  have HU := Lib.hid U
  have HC : Aside (CmpLays Tryz.prog g cb enc k cf blk off d0.size w0) := hC
  have HF := Lib.hid hcf
  have HS := Lib.hid hs
  have HI0 : Aside _ := IH
  have e0 : ((m : Int) - (a : Int) == 1) = false := by rw [beq_eq_false_iff_ne]; omega
  have e1 : ((b : Int) - (m : Int) == 1) = false := by rw [beq_eq_false_iff_ne]; omega
  have hz : ((a : Int) + (b : Int)) / 2 = (mid : Int) := by omega
  have hmz : ¬ (mid : Int) < (m : Int) := by omega
  obtain ⟨n, hn⟩ : ∃ n, n = mid + m := ⟨_, rfl⟩
  have HN := Lib.hid hn
  have hnz : (mid : Int) + (m : Int) = (n : Int) := by omega
  obtain ⟨p, hp⟩ : ∃ p, n = p + 1 := ⟨n - 1, by omega⟩
  have HP := Lib.hid hp
  have hpz : (n : Int) - 1 = (p : Int) := by omega
  obtain ⟨lo, hlo⟩ : ∃ lo, lo = a := ⟨_, rfl⟩
  have HB : CutB a b m n lo m := by unfold CutB; omega
  have lo1 : a ≤ lo := by omega
  have lo2 : lo ≤ m := by omega
  have hi2 : m ≤ m := by omega
  have p1 : ∀ c, lo ≤ c → c < m → m ≤ p - c ∧ p - c < b ∧ c ≤ p := fun c h1 h2 => by omega
  have HP1 := Lib.hid p1
  have HROT := Lib.hid (rotate_z k aE zE enc (.func (.func g) #[] cb) blk off cap d0 w0 R)
  have HMD := Lib.hid hmid
  have HLO := Lib.hid hlo
  have MB : a < mid ∧ mid < b := by omega
  obtain ⟨mb1, mb2⟩ := MB
  have nb : n < 9223372036854775807 := by omega
  clear S hC hcf hs U IH hn hp hlo p1 hmid
  go_enter Tryz.func140, Tryz.ntmps140
  go_wp2
  go_loopg [20, 21] b (fun kx s20 s21 wr => ∃ (s r : Nat), s20 = .int .i64 s ∧ s21 = .int .i64 r ∧ lo ≤ s ∧ s ≤ r ∧ r ≤ m ∧ r - s ≤ kx ∧ Aside (SWK enc k w0 blk off d wr) ∧ Hid ((∀ c, lo ≤ c → c < s → lt (d[p - c]!).1 (d[c]!).1 = false) ∧ ∀ c, r ≤ c → c < m → lt (d[p - c]!).1 (d[c]!).1 = true))
  case atStart => exact ⟨lo, m, by first | rfl | rw [HLO.out], rfl, by omega, by omega, by omega, by omega, S0, Lib.hid ⟨fun q h1 h2 => by omega, fun q h1 h2 => by omega⟩⟩
  case round =>
    clear S0
    obtain ⟨s, r, rfl, rfl, hi1, hij, hjb, hkx, S1, HI⟩ := hrel
    by_cases hlt : s < r
    · as_aux_lemma =>
      have hltz : (s : Int) < (r : Int) := by omega
      obtain ⟨c, hh⟩ : ∃ c, c = (s + r) / 2 := ⟨_, rfl⟩
      have hcz : ((s : Int) + (r : Int)) / 2 = (c : Int) := by omega
      have h1 : s ≤ c := by omega
      have h2 : c < r := by omega
      clear hh
      obtain ⟨pc1, pc2, pc3⟩ := HP1.out c (by omega) (by omega)
      obtain ⟨q, hq⟩ : ∃ q, q = p - c := ⟨_, rfl⟩
      have hqz : IntKind.i64.wrap ((p : Int) - (c : Int)) = (q : Int) := by rw [IntKind.wrap_i64]; omega
      rw [← hq] at pc1 pc2
      have HQ := Lib.hid hq
      clear hq
      obtain ⟨x, hx⟩ : ∃ x, d[q]! = x := ⟨_, rfl⟩
      obtain ⟨y, hy⟩ : ∃ y, d[c]! = y := ⟨_, rfl⟩
      have lx := fun n' os' => S1.out.ld R (by first | exact HS.out.symm | rw [HS.out]) Tryz.prog (q) (by omega) n' os'
      have ly := fun n' os' => S1.out.ld R (by first | exact HS.out.symm | rw [HS.out]) Tryz.prog (c) (by omega) n' os'
      rw [hx] at lx
      rw [hy] at ly
      have hcg := fun n' os' => S1.out.cmp HC.out (by first | exact HS.out.symm | rw [HS.out]) x y n' os'
      have XY : Hid (d[q]! = x ∧ d[c]! = y) := ⟨hx, hy⟩
      clear hx hy
      have bp : ((q : Nat) : Int) < (d.size : Int) := by omega
      have bq : ((c : Nat) : Int) < (d.size : Int) := by omega
      by_cases hlv : cf x y < 0
      · as_aux_lemma =>
        have HNN : Hid (∀ c', c ≤ c' → c' < m → lt (d[p - c']!).1 (d[c']!).1 = true) := Lib.hid (fun c' h1' h2' => runs_yes hO HU.out (by omega : a ≤ c) h1' (by omega) (HP1.out c' (by omega) h2').1 (by have := HQ.out; omega : p - c' ≤ q) pc2 (by rw [XY.out.1, XY.out.2]; exact runs_w (r := fun x y : Dd => lt x.1 y.1) (HF.out x y) hlv))
        have hd : decide (cf x y < 0) = true := decide_eq_true hlv
        go_wp2_with fail
        go_quiet_grown (first | (go_at_fn g; refine Calls.grown_of (hcg _ _)))
        have S2 : Aside (SWK enc k w0 blk off d (grow (wr.drewN nq) osq)) := S1.out.grown nq osq
        clear lx ly hcg S1
        generalize grow (wr.drewN nq) osq = w2 at S2 ⊢
        go_wp2
        go_roundg (c - s)
        case measure => omega
        case rel => exact ⟨s, c, rfl, rfl, by omega, by omega, by omega, by omega, S2, Lib.hid ⟨HI.out.1, HNN.out⟩⟩
      · as_aux_lemma =>
        have HNN : Hid (∀ c', lo ≤ c' → c' < c + 1 → lt (d[p - c']!).1 (d[c']!).1 = false) := Lib.hid (fun c' h1' h2' => runs_no hO HU.out (by omega : a ≤ c') (by omega : c' ≤ c) (by omega) pc1 (by have := HQ.out; omega : q ≤ p - c') (HP1.out c' h1' (by omega)).2.1 (by rw [XY.out.1, XY.out.2]; exact runs_n (r := fun x y : Dd => lt x.1 y.1) (HF.out x y) hlv))
        have hd : decide (cf x y < 0) = false := decide_eq_false hlv
        go_wp2_with fail
        go_quiet_grown (first | (go_at_fn g; refine Calls.grown_of (hcg _ _)))
        have S2 : Aside (SWK enc k w0 blk off d (grow (wr.drewN nq) osq)) := S1.out.grown nq osq
        clear lx ly hcg S1
        generalize grow (wr.drewN nq) osq = w2 at S2 ⊢
        go_wp2
        go_roundg (r - (c + 1))
        case measure => omega
        case rel => exact ⟨c + 1, r, by go_num, rfl, by omega, by omega, by omega, by omega, S2, Lib.hid ⟨HNN.out, HI.out.2⟩⟩
    · as_aux_lemma =>
      have hltz : ¬ (s : Int) < (r : Int) := by omega
      obtain rfl : s = r := by omega
      clear hij
      have hpe : ∀ c, n - 1 - c = p - c := fun c => by have := HP.out; omega
      obtain ⟨c1, c2, c3, c4, c5, CUT⟩ := cut_of hO HU.out (s := s) (n := n) (lo := lo) (hi := m) (by rw [HN.out, HMD.out]) (by omega) (by omega) HB hi1 hjb (fun c h1 h2 => by rw [hpe]; exact HI.out.1 c h1 h2) (fun c h1 h2 => by rw [hpe]; exact HI.out.2 c h1 h2)
      rw [← HMD.out] at c5
      obtain ⟨e, he⟩ : ∃ e, e = n - s := ⟨_, rfl⟩
      rw [← he] at c3 c4 c5 CUT
      have hez : (n : Int) - (s : Int) = (e : Int) := by have := HN.out; omega
      have HCUT := Lib.hid CUT
      clear hpe he CUT HI HB HP1 hkx hjb lo1 lo2 hi1 hltz
      obtain ⟨tb, htb⟩ : ∃ tb : Bool, tb = decide (s < m ∧ m < e) := ⟨_, rfl⟩
      have TB := Lib.hid htb
      clear htb
      go_upto_region 39 with fail
      go_cut [185] (fun sx wx => sx = .bool tb ∧ wx = wr)
      case first =>
        by_cases hr1 : s < m
        · have z1 : (s : Int) < (m : Int) := by omega
          by_cases hr2 : m < e
          · have z2 : (m : Int) < (e : Int) := by omega
            have et : tb = true := by rw [TB.out]; exact decide_eq_true ⟨hr1, hr2⟩
            have ET := Lib.hid et
            clear et
            go_wp2_with fail
            go_meet
            case rel => exact ⟨by rw [ET.out], rfl⟩
          · have z2 : ¬ (m : Int) < (e : Int) := by omega
            have et : tb = false := by rw [TB.out]; exact decide_eq_false (fun h => hr2 h.2)
            have ET := Lib.hid et
            clear et
            go_wp2_with fail
            go_meet
            case rel => exact ⟨by rw [ET.out], rfl⟩
        · have z1 : ¬ (s : Int) < (m : Int) := by omega
          have et : tb = false := by rw [TB.out]; exact decide_eq_false (fun h => hr1 h.1)
          have ET := Lib.hid et
          clear et
          go_wp2_with fail
          go_meet
          case rel => exact ⟨by rw [ET.out], rfl⟩
      case rest =>
      obtain ⟨rfl, rfl⟩ := hcut
      go_upto_if 185 with fail
      go_cut [24] (fun s24 wx => s24 = .int .i64 e ∧ ∃ d1, Aside (SWK enc k w0 blk off d1 wx) ∧ PermIn a b d d1 ∧ Hid (Turned lt a s mid e b d1))
      case first =>
       as_aux_lemma =>
        cases tb with
        | true =>
          have hr := of_decide_eq_true TB.out.symm
          go_wp2_with (((with_reducible refine (HROT.out s m e _ _ _ rfl rfl rfl d _ d.size rfl ?_ ?_ ?_ ?_ ?_ ?_).mono ?_); exact HS.out; exact S1.out; omega; omega; omega; omega); rintro e w2 ⟨rfl, d1, S2, P2, Q2⟩)
          go_meet
          case rel => exact ⟨rfl, d1, S2, permIn_mono _ _ _ _ _ _ (by omega) (by omega) (by omega) P2, Lib.hid (after_rot hO HU.out HCUT.out (by omega) (by omega) (by omega) (by omega) (by omega) Q2)⟩
        | false =>
          have hr : ¬ (s < m ∧ m < e) := of_decide_eq_false TB.out.symm
          have HT : Hid (Turned lt a s mid e b d) := Lib.hid (after_rot hO HU.out HCUT.out (by omega) (by omega) (by omega) (by omega) (by omega) (fun p => by rw [rho_none hr (by omega) (by omega)]))
          go_wp2_with fail
          go_meet
          case rel => exact ⟨rfl, d, S1, permIn_refl _ _ _, HT⟩
      case rest =>
       as_aux_lemma =>
        obtain ⟨rfl, d1, S2, P1, HT⟩ := hcut
        clear S1 HCUT TB
        clear tb
        have D1 : Hid (d1.size = d.size) := P1.1
        obtain ⟨tb, htb⟩ : ∃ tb : Bool, tb = decide (a < s ∧ s < mid) := ⟨_, rfl⟩
        have TB := Lib.hid htb
        clear htb
        go_upto_region 41 with fail
        go_cut [199] (fun sx wx => sx = .bool tb ∧ wx = _)
        case first =>
          by_cases hr1 : a < s
          · have z1 : (a : Int) < (s : Int) := by omega
            by_cases hr2 : s < mid
            · have z2 : (s : Int) < (mid : Int) := by omega
              have et : tb = true := by rw [TB.out]; exact decide_eq_true ⟨hr1, hr2⟩
              have ET := Lib.hid et
              clear et
              go_wp2_with fail
              go_meet
              case rel => exact ⟨by rw [ET.out], rfl⟩
            · have z2 : ¬ (s : Int) < (mid : Int) := by omega
              have et : tb = false := by rw [TB.out]; exact decide_eq_false (fun h => hr2 h.2)
              have ET := Lib.hid et
              clear et
              go_wp2_with fail
              go_meet
              case rel => exact ⟨by rw [ET.out], rfl⟩
          · have z1 : ¬ (a : Int) < (s : Int) := by omega
            have et : tb = false := by rw [TB.out]; exact decide_eq_false (fun h => hr1 h.1)
            have ET := Lib.hid et
            clear et
            go_wp2_with fail
            go_meet
            case rel => exact ⟨by rw [ET.out], rfl⟩
        case rest =>
        obtain ⟨rfl, rfl⟩ := hcut
        go_upto_if 199 with fail
        go_cut [24] (fun s24 wx => s24 = .int .i64 e ∧ ∃ d2, Aside (SWK enc k w0 blk off d2 wx) ∧ Hid (Merged lt a mid d1 d2))
        case first =>
         as_aux_lemma =>
          cases tb with
          | true =>
            have hr := of_decide_eq_true TB.out.symm
            go_wp2_with (((with_reducible refine (HI0.out a s mid _ _ _ d1 _ d.size rfl rfl rfl ?_ ?_ ?_ ?_ ?_ ?_ ?_ ?_).mono ?_); exact D1.out.symm; omega; (rw [D1.out]; exact HS.out); exact S2.out; exact HT.out.l; omega; omega; (rw [D1.out]; omega)); rintro e w2 ⟨rfl, d2, S3, M2⟩)
            go_meet
            case rel => exact ⟨rfl, d2, S3, Lib.hid M2⟩
          | false =>
            have HM := Lib.hid (runs_one HT.out.l (of_decide_eq_false TB.out.symm) (by omega) (by omega))
            go_wp2_with fail
            go_meet
            case rel => exact ⟨rfl, d1, S2, HM⟩
        case rest =>
         as_aux_lemma =>
          obtain ⟨rfl, d2, S3, HM⟩ := hcut
          have D2 : Hid (d2.size = d.size) := by show _ = _; rw [HM.out.1.1, D1.out]
          have HT2 : Hid (Runs lt mid e b d2) := Lib.hid (HT.out.r.next HM.out.1 (by omega))
          clear S2 TB
          by_cases hr : mid < e ∧ e < b
          · obtain ⟨hr1, hr2⟩ := hr
            have z1 : (mid : Int) < (e : Int) := by omega
            have z2 : (e : Int) < (b : Int) := by omega
            go_wp2_with (((with_reducible refine (HI0.out mid e b _ _ _ d2 _ d.size rfl rfl rfl ?_ ?_ ?_ ?_ ?_ ?_ ?_ ?_).mono ?_); exact D2.out.symm; omega; (rw [D2.out]; exact HS.out); exact S3.out; exact HT2.out; omega; omega; (rw [D2.out]; omega)); rintro e w2 ⟨rfl, d3, S4, M3⟩)
            go_end0
            exact ⟨rfl, d3, S4, merge_all HT.out P1 HM.out M3 (by omega) (by omega) hb⟩
          · have HMF : Hid (Merged lt a b d d2) := Lib.hid (merge_all HT.out P1 HM.out (runs_one HT2.out hr (by omega) (by omega)) (by omega) (by omega) hb)
            by_cases hr1 : mid < e
            · have z1 : (mid : Int) < (e : Int) := by omega
              have z2 : ¬ (e : Int) < (b : Int) := by omega
              go_wp2_with fail
              go_end0
              exact ⟨rfl, d2, S3.out, HMF.out⟩
            · have z1 : ¬ (mid : Int) < (e : Int) := by omega
              go_wp2_with fail
              go_end0
              exact ⟨rfl, d2, S3.out, HMF.out⟩

include aE zE hcf hO eg R hC in
theorem symMerge_c : ∀ (N a m b : Nat) (za zm zb : Int) (d : Array Dd) (w : World) (n : Nat), b - a ≤ N → za = a → zm = m → zb = b → n = d.size → d0.size = d.size → SWK enc k w0 blk off d w → Runs lt a m b d → a < m → m < b → b ≤ d.size → d.size < 4611686018427387904 →
    Calls Tryz.prog 140 #[.slice (some ⟨blk, off, none⟩) n cap, .int .i64 za, .int .i64 zm, .int .i64 zb, .func (.func g) #[] cb] w fun e w' => e = .returned (.tuple #[]) ∧
      ∃ d', SWK enc k w0 blk off d' w' ∧ Merged lt a b d d'
  | 0, a, m, b, _, _, _, _, _, _, hN, _, _, _, _, _, _, _, ham, hmb, _, _ => by omega
  | N + 1, a, m, b, za, zm, zb, d, w, n, hN, ha, hm, hb', hn, hs, S, U, ham, hmb, hb, hsz => by
    subst ha hm hb' hn
    by_cases h1 : m = a + 1
    · subst h1
      have := sym_first k aE zE enc lt cf hcf hO g cb blk off cap d0 w0 eg R hC a b d w hs S U hmb hb hsz
      rw [← Int.natCast_add_one] at this
      exact this
    · by_cases h2 : b = m + 1
      · subst h2
        have := sym_last k aE zE enc lt cf hcf hO g cb blk off cap d0 w0 eg R hC a m d w hs S U (by omega) hb hsz
        rw [← Int.natCast_add_one] at this
        exact this
      · have IH : ∀ (a' m' b' : Nat) (za zm zb : Int) (d' : Array Dd) (w' : World) (N' : Nat), za = a' → zm = m' → zb = b' → N' = d'.size → b' - a' < b - a → d0.size = d'.size → SWK enc k w0 blk off d' w' → Runs lt a' m' b' d' → a' < m' → m' < b' → b' ≤ d'.size →
            Calls Tryz.prog 140 #[.slice (some ⟨blk, off, none⟩) N' cap, .int .i64 za, .int .i64 zm, .int .i64 zb, .func (.func g) #[] cb] w' fun e w'' => e = .returned (.tuple #[]) ∧ ∃ d'', SWK enc k w0 blk off d'' w'' ∧ Merged lt a' b' d' d'' :=
          fun a' m' b' za zm zb d' w' N' q1 q2 q3 q4 q5 q6 q7 q8 q9 q10 q11 => symMerge_c N a' m' b' za zm zb d' w' N' (by omega) q1 q2 q3 q4 q6 q7 q8 q9 q10 q11 (by omega)
        by_cases h3 : (a + b) / 2 < m
        · exact sym_hi k aE zE enc lt cf hcf hO g cb blk off cap d0 w0 eg R hC a m b d w hs S U (by omega) (by omega) hb hsz IH _ rfl h3
        · exact sym_lo k aE zE enc lt cf hcf hO g cb blk off cap d0 w0 eg R hC a m b d w hs S U (by omega) (by omega) hb hsz IH _ rfl (by omega)
end Go.Proofs.YtgbmgdffgmablaaGreat

namespace Go.Proofs
open Go.Shelf
def Tryz.insL_ren : Go.Shelf.Ren := ⟨fun | 20 => 139 | n => n, fun | 24 => 38 | 22 => 22 | 3 => 3 | 25 => 151 | 4 => 4 | 0 => 0 | n => n, fun | n => n⟩
theorem Tryz.insL : Go.Proofs.SlLaysF0.n20 Tryz.prog Tryz.insL_ren := {
  mixed := by kernel_rfl
  f20 := ⟨Tryz.f139.name, by decide, Tryz.func139.trans (congrArg some (by kernel_rfl))⟩
  t0 := Tryz.underlying0
  a0 := Tryz.isAgg0
  z0 := Tryz.sizeOf0
  v0 := Tryz.zeroValue0
  t3 := Tryz.underlying3
  a3 := Tryz.isAgg3
  z3 := Tryz.sizeOf3
  v3 := Tryz.zeroValue3
  t4 := Tryz.underlying4
  a4 := Tryz.isAgg4
  z4 := Tryz.sizeOf4
  v4 := Tryz.zeroValue4
  t22 := Tryz.underlying22
  a22 := Tryz.isAgg22
  z22 := Tryz.sizeOf22
  v22 := Tryz.zeroValue22
  t25 := Tryz.underlying151
  a25 := Tryz.isAgg151
  z25 := Tryz.sizeOf151
  v25 := Tryz.zeroValue151 }
def Tryz.cloneL_ren : Go.Shelf.Ren := ⟨fun | 41 => 49 | n => n, fun | 22 => 22 | 23 => 38 | 4 => 4 | n => n, fun | n => n⟩
theorem Tryz.cloneL : Go.Proofs.SlLaysE0.n41 Tryz.prog Tryz.cloneL_ren := {
  mixed := by kernel_rfl
  f41 := ⟨Tryz.f49.name, by decide, Tryz.func49.trans (congrArg some (by kernel_rfl))⟩
  t4 := Tryz.underlying4
  a4 := Tryz.isAgg4
  z4 := Tryz.sizeOf4
  v4 := Tryz.zeroValue4
  t22 := Tryz.underlying22
  a22 := Tryz.isAgg22
  z22 := Tryz.sizeOf22
  v22 := Tryz.zeroValue22 }
end Go.Proofs

namespace Go.Proofs.YtgbmgdffgmablaaGreat
open Go.RowKit Go.Sort Go.Lib Go.Shelf

variable (k : Nat) (aE : ∀ w, (isAgg 38).run Tryz.prog w = .ok true w) (zE : ∀ w, (Go.sizeOf 38).run Tryz.prog w = .ok k w) (enc : Dd → List Value) (lt : Od → Od → Bool) (cf : Dd → Dd → Int) (hcf : ∀ x y, decide (cf x y < 0) = lt x.1 y.1) (hO : SWO lt)
  (g : Nat) (cb : Array Value) (blk off cap : Nat) (d0 : Array Dd) (w0 : World) (eg : ∀ args w, (callFunc g args).run Tryz.prog w = .ok (.enter g args) w) (R : RowK enc k w0 blk off d0) (hC : CmpLays Tryz.prog g cb enc k cf blk off d0.size w0)
include aE zE hcf hO eg R hC
theorem ins_c (a b : Nat) (za zb : Int) (d : Array Dd) (w : World) (n : Nat) (ha : za = a) (hb' : zb = b) (hn : n = d.size) (hs : d0.size = d.size) (S : SWK enc k w0 blk off d w) (hab : a ≤ b) (hb : b ≤ d.size) (hsz : d.size < 4611686018427387904) (hi : ∀ p q, a ≤ p → p < q → q < b → (d[p]!).2 < (d[q]!).2) :
    Calls Tryz.prog 139 #[.slice (some ⟨blk, off, none⟩) n cap, .int .i64 za, .int .i64 zb, .func (.func g) #[] cb] w fun e w' => e = .returned (.tuple #[]) ∧
      ∃ d', SWK enc k w0 blk off d' w' ∧ Merged lt a b d d' := by
  subst ha hb' hn
  have hl : ltOf cf = ltS lt := by funext x y; exact hcf x y
  have M := ins_stable hO d a b hab hb hi
  have hs' : (Sort.insertionSort (ltS lt) d a b).size = d.size := M.1.1
  have hC' : CmpLays Tryz.prog g cb enc k cf blk off d.size w := fun m os dk hdk x y => by
    obtain ⟨n0, os0, rfl⟩ := S
    rw [sortWorldK_on enc k w0 blk off n0 m d dk os0 os R.hblk hdk]
    exact hC _ _ dk (by omega) x y
  refine (AnyQ.insertionSortCmpFunc (ρ := Tryz.insL_ren) Tryz.insL k aE zE enc R.hk R.h1 cf g cb blk off cap a b d w eg hC' (S.holds R.hblk R.hH hs.symm) (S.lt R.hblk) hab hb hsz).mono ?_
  rintro e w' ⟨rfl, n, os, rfl⟩
  rw [hl]
  exact ⟨rfl, _, S.on R.hblk n _ os hs', M⟩

set_option maxHeartbeats 4000000 in
set_option maxRecDepth 1000000 in
theorem stable_c (d : Array Dd) (w : World) (hs : d0.size = d.size) (S : SWK enc k w0 blk off d w) (hsz : d.size ≤ 160) (hi : ∀ p, p < d.size → (d[p]!).2 = p) :
    Calls Tryz.prog 115 #[.slice (some ⟨blk, off, none⟩) d.size cap, .int .i64 d.size, .func (.func g) #[] cb] w fun e w' => e = .returned (.tuple #[]) ∧
      ∃ d', SWK enc k w0 blk off d' w' ∧ Merged lt 0 d.size d d' := by
  have mixed : Tryz.prog.follows .mixedOrders = true := by kernel_rfl
  have S0 : Aside (SWK enc k w0 blk off d w) := S
  have HI := Lib.hid (ins_c k aE zE enc lt cf hcf hO g cb blk off cap d0 w0 eg R hC)
  have HM := Lib.hid (fun N a m b za zm zb d w n => symMerge_c k aE zE enc lt cf hcf hO g cb blk off cap d0 w0 eg R hC N a m b za zm zb d w n)
  have HS := Lib.hid hs
  have H0 := Lib.hid (IInv.start (lt := lt) d d.size hi)
  clear S hC hcf hs aE zE hi
  go_enter Tryz.func115, Tryz.ntmps115
  go_wp2
  go_loopg [7, 8] d.size (fun kx s7 s8 wr => ∃ (a : Nat) (dk : Array Dd), s7 = .int .i64 a ∧ s8 = .int .i64 ((a : Int) + 20) ∧ a ≤ d.size ∧ d.size - a ≤ kx ∧ Aside (SWK enc k w0 blk off dk wr) ∧ Hid (IInv lt a d.size d dk))
  case atStart => exact ⟨0, d, rfl, rfl, by omega, by omega, S0, H0⟩
  case round =>
    clear S0 H0
    obtain ⟨a, dk, rfl, rfl, han, hkx, S1, I1⟩ := hrel
    have D1 : Hid (dk.size = d.size) := I1.out.perm.1
    by_cases hlt : a + 20 ≤ d.size
    · have hz : (a : Int) + 20 ≤ (d.size : Int) := by omega
      go_wp2_with (((with_reducible refine (HI.out a (a + 20) _ _ dk _ d.size ?_ ?_ D1.out.symm ?_ ?_ ?_ ?_ ?_ ?_).mono ?_); rfl; omega; (rw [D1.out]; exact HS.out); exact S1.out; omega; (rw [D1.out]; omega); (rw [D1.out]; omega); exact I1.out.up hlt); rintro e w2 ⟨rfl, d2, S2, M2⟩)
      obtain ⟨q1, q2, q3, q4⟩ := I1.out.step M2 (by omega) hlt (by omega) (Nat.le_refl _)
      have al := I1.out.al
      have I2 : Hid (IInv lt (a + 20) d.size d d2) := Lib.hid ⟨q1, q2, q3, q4, by omega⟩
      have S3 : Aside (SWK enc k w0 blk off d2 w2) := S2
      clear q1 q2 q3 q4 al M2 S2 S1 I1
      go_roundg (d.size - (a + 20))
      case measure => omega
      case rel => exact ⟨a + 20, d2, by go_num, by go_num, by omega, by omega, S3, I2⟩
    · have hz : ¬ (a : Int) + 20 ≤ (d.size : Int) := by omega
      go_wp2_with (((with_reducible refine (HI.out a d.size _ _ dk _ d.size rfl rfl D1.out.symm ?_ ?_ ?_ ?_ ?_ ?_).mono ?_); (rw [D1.out]; exact HS.out); exact S1.out; omega; (rw [D1.out]; omega); (rw [D1.out]; omega); exact I1.out.up (Nat.le_refl _)); rintro e w2 ⟨rfl, d2, S2, M2⟩)
      obtain ⟨q1, q2, q3, q4⟩ := I1.out.step M2 (by omega) (Nat.le_refl _) (by omega) (Nat.le_refl _)
      have I2 : Hid (SInv lt 20 d.size d d2) := Lib.hid ⟨.inl rfl, q1, q2, q3⟩
      have S3 : Aside (SWK enc k w0 blk off d2 w2) := S2
      clear q1 q2 q3 q4 M2 S2 S1 I1 D1
      go_loopg [6] 160 (fun kx s6 wr => ∃ (bs : Nat) (dk : Array Dd), s6 = .int .i64 bs ∧ bs ≤ 160 ∧ 0 < bs ∧ 160 - bs ≤ kx ∧ Aside (SWK enc k w0 blk off dk wr) ∧ Hid (SInv lt bs d.size d dk))
      case atStart => exact ⟨20, d2, rfl, by omega, by omega, by omega, S3, I2⟩
      case round =>
        clear S3 I2
        obtain ⟨bs, dk, rfl, hb1, hb0, hkx', S1, I1⟩ := hrel
        by_cases hlt2 : bs < d.size
        · have hz2 : (bs : Int) < (d.size : Int) := by omega
          have HB := Lib.hid (I1.out.less hlt2 hsz)
          have hb80 : bs ≤ 80 := by have := HB.out; omega
          have M0 : Hid (MInv lt bs 0 d.size d dk) := Lib.hid (MInv.start I1.out.perm I1.out.blk I1.out.ix)
          clear I1
          go_wp2
          go_loopg [7, 8] d.size (fun kx s7 s8 wr => ∃ (a : Nat) (dk : Array Dd), s7 = .int .i64 a ∧ s8 = .int .i64 ((a : Int) + 2 * (bs : Int)) ∧ a ≤ d.size ∧ d.size - a ≤ kx ∧ Aside (SWK enc k w0 blk off dk wr) ∧ Hid (MInv lt bs a d.size d dk))
          case atStart => exact ⟨0, dk, rfl, by simp, by omega, by omega, S1, M0⟩
          case round =>
            clear S1 M0
            obtain ⟨a, dk, rfl, rfl, han, hkx, S1, I1⟩ := hrel
            have D1 : Hid (dk.size = d.size) := I1.out.perm.1
            by_cases hlt3 : a + 2 * bs ≤ d.size
            · have hz3 : (a : Int) + 2 * (bs : Int) ≤ (d.size : Int) := by omega
              go_wp2_with (((with_reducible refine (HM.out d.size a (a + bs) (a + 2 * bs) _ _ _ dk _ d.size ?_ rfl ?_ ?_ D1.out.symm ?_ ?_ ?_ ?_ ?_ ?_ ?_).mono ?_); omega; omega; omega; (rw [D1.out]; exact HS.out); exact S1.out; exact I1.out.runs HB.out (by omega) (by omega) hlt3; omega; omega; (rw [D1.out]; exact hlt3); (rw [D1.out]; omega)); rintro e w2 ⟨rfl, d2, S2, M2⟩)
              obtain ⟨q1, q2, q3, q4, q5⟩ := I1.out.step HB.out M2 (by omega) (by omega) hlt3 (Nat.le_refl _)
              have al := I1.out.al
              have I2 : Hid (MInv lt bs (a + 2 * bs) d.size d d2) := Lib.hid ⟨q1, q2, q3, q4, q5, by rw [Nat.add_mod_right]; exact al⟩
              have S3 : Aside (SWK enc k w0 blk off d2 w2) := S2
              clear q1 q2 q3 q4 q5 al M2 S2 S1 I1
              go_roundg (d.size - (a + 2 * bs))
              case measure => omega
              case rel => exact ⟨a + 2 * bs, d2, by go_num, by go_num, by omega, by omega, S3, I2⟩
            · have hz3 : ¬ (a : Int) + 2 * (bs : Int) ≤ (d.size : Int) := by omega
              by_cases hlt4 : a + bs < d.size
              · have hz4 : (a : Int) + (bs : Int) < (d.size : Int) := by omega
                go_wp2_with (((with_reducible refine (HM.out d.size a (a + bs) d.size _ _ _ dk _ d.size ?_ rfl ?_ rfl D1.out.symm ?_ ?_ ?_ ?_ ?_ ?_ ?_).mono ?_); omega; omega; (rw [D1.out]; exact HS.out); exact S1.out; exact I1.out.runs HB.out hlt4 (by omega) (Nat.le_refl _); omega; omega; (rw [D1.out]; omega); (rw [D1.out]; omega)); rintro e w2 ⟨rfl, d2, S2, M2⟩)
                have I2 : Hid (SInv lt (2 * bs) d.size d d2) := Lib.hid (SInv.next HB.out (I1.out.step HB.out M2 (by omega) (by omega) (Nat.le_refl _) (Nat.le_refl _)))
                have S3 : Aside (SWK enc k w0 blk off d2 w2) := S2
                clear M2 S2 S1 I1
                go_roundg (160 - 2 * bs)
                case measure => omega
                case rel => exact ⟨2 * bs, d2, by go_num, by omega, by omega, by omega, S3, I2⟩
              · have hz4 : ¬ (a : Int) + (bs : Int) < (d.size : Int) := by omega
                have I2 : Hid (SInv lt (2 * bs) d.size d dk) := Lib.hid (SInv.next HB.out (I1.out.step HB.out (I1.out.one HB.out (by omega)) (by omega) (by omega) (Nat.le_refl _) (Nat.le_refl _)))
                clear I1
                go_wp2
                go_roundg (160 - 2 * bs)
                case measure => omega
                case rel => exact ⟨2 * bs, dk, by go_num, by omega, by omega, by omega, S1, I2⟩
        · have hz2 : ¬ (bs : Int) < (d.size : Int) := by omega
          have HF : Hid (Merged lt 0 d.size d dk) := Lib.hid ⟨I1.out.perm, blk_all I1.out.blk (by omega)⟩
          go_wp2
          go_end0
          exact ⟨rfl, dk, S1.out, HF.out⟩

set_option maxHeartbeats 4000000 in
set_option maxRecDepth 1000000 in
theorem sortStable_c (d : Array Dd) (w : World) (hs : d0.size = d.size) (S : SWK enc k w0 blk off d w) (hsz : d.size ≤ 160) (hi : ∀ p, p < d.size → (d[p]!).2 = p) :
    Calls Tryz.prog 80 #[.slice (some ⟨blk, off, none⟩) d.size cap, .func (.func g) #[] cb] w fun e w' => e = .returned (.tuple #[]) ∧
      ∃ d', SWK enc k w0 blk off d' w' ∧ Merged lt 0 d.size d d' := by
  have H := Lib.hid (stable_c k aE zE enc lt cf hcf hO g cb blk off cap d0 w0 eg R hC d w hs S hsz hi)
  clear S hC hcf hs aE zE hi
  go_enter Tryz.func80, Tryz.ntmps80
  go_wp2_with (((with_reducible refine (H.out).mono ?_)); rintro e w2 ⟨rfl, d2, S2, M2⟩)
  go_end0
  exact ⟨rfl, d2, S2, M2⟩
end Go.Proofs.YtgbmgdffgmablaaGreat

namespace Go.Proofs.YtgbmgdffgmablaaGreat
open Go.RowKit Go.Sort Go.Lib Go.Shelf

/-- Orders as cells, one behind the other. -/
def ol (L : List Od) : List Value := L.flatMap encO
theorem ol_len (L : List Od) : (ol L).length = L.length * 6 := by
  induction L with
  | nil => rfl
  | cons x l ih => rw [ol, List.flatMap_cons, List.length_append, ← ol, ih, List.length_cons]; show 6 + _ = _; omega
theorem ol_get : ∀ (L : List Od) (i c : Nat), i < L.length → c < 6 → (ol L)[i * 6 + c]? = (encO L[i]!)[c]?
  | [], i, c, hi, _ => by simp at hi
  | x :: l, 0, c, _, hc => by
    rw [ol, List.flatMap_cons, List.getElem?_append_left (by show _ < 6; omega), Nat.zero_mul, Nat.zero_add]; rfl
  | x :: l, i + 1, c, hi, hc => by
    rw [ol, List.flatMap_cons, List.getElem?_append_right (by show 6 ≤ _; omega), ← ol]
    have : (i + 1) * 6 + c - (encO x).length = i * 6 + c := by show _ - 6 = _; omega
    rw [this, ol_get l i c (by simpa using hi) hc]
    rfl
theorem ol_one (L : List Od) : ∀ u ∈ ol L, u.oneCell' = true := by
  intro u hu
  obtain ⟨x, _, hx⟩ := List.mem_flatMap.1 hu
  exact encD_one (x, 0) u hx
theorem at_cell {w : World} {x : Od} {b o c : Nat} {u : Value} (h : x.at w b o) (hc : (encO x)[c]? = some u) : w.cell? ⟨b, o + c, none⟩ = some u := by
  obtain ⟨h0, h1, h2, h3, h4, h5⟩ := h
  match c, hc with
  | 0, hc => rw [← hc]; exact h0
  | 1, hc => rw [← hc]; exact h1
  | 2, hc => rw [← hc]; exact h2
  | 3, hc => rw [← hc]; exact h3
  | 4, hc => rw [← hc]; exact h4
  | 5, hc => rw [← hc]; exact h5
theorem at_of {w : World} {x : Od} {b o : Nat} (h : ∀ c u, (encO x)[c]? = some u → w.cell? ⟨b, o + c, none⟩ = some u) : x.at w b o :=
  ⟨h 0 _ rfl, h 1 _ rfl, h 2 _ rfl, h 3 _ rfl, h 4 _ rfl, h 5 _ rfl⟩
theorem enc_some (x : Od) (c : Nat) (hc : c < 6) : (encO x)[c]? = some (encO x)[c]! := by
  rw [List.getElem?_eq_getElem (by show _ < 6; exact hc), getElem!_pos (encO x) c (by show _ < 6; exact hc)]
theorem ods_cells {w : World} {b off len : Nat} {L : List Od} (hl : L.length = len) (h : ∀ i, i < len → (L[i]!).at w b (off + i * 6)) : ∀ j u, (ol L)[j]? = some u → w.cell? ⟨b, off + j, none⟩ = some u := by
  intro j u hu
  have hj := (List.getElem?_eq_some_iff.1 hu).1
  rw [ol_len] at hj
  have e : j = j / 6 * 6 + j % 6 := by omega
  rw [e, ol_get L (j / 6) (j % 6) (by omega) (by omega)] at hu
  have := at_cell (h (j / 6) (by omega)) hu
  rw [show off + j / 6 * 6 + j % 6 = off + j by omega] at this
  exact this
theorem zip_fst (L : List Od) (i : Nat) (hi : i < L.length) : (L.zipIdx.toArray[i]!) = (L[i]!, i) := by
  rw [getElem!_pos L.zipIdx.toArray i (by simpa using hi), getElem!_pos L i hi]
  simp
/-- A row of the call's own, as the sort sees it. -/
theorem own_holds {w : World} {base n : Nat} {v : Value} {L : List Od} (h : w.ownsRow base 38 6 v n (ol L)) (hv : v ≠ .slice none 0 0) :
    L.length = n ∧ ∃ k cap, v = .slice (some ⟨k, 0, none⟩) n cap ∧ n ≤ cap ∧ base ≤ k ∧ k < w.heap.size ∧ HoldsK encD 6 w k 0 L.zipIdx.toArray := by
  obtain ⟨h1, h2⟩ := h
  rw [ol_len] at h1
  have hl : L.length = n := by omega
  rcases h2 with ⟨h0, _⟩ | ⟨k, cap, cur, hv', hb, hk, hc, hm, hs, ht⟩
  · exact absurd h0 hv
  · refine ⟨hl, k, cap, hv', hc, hb, blk_lt hk, fun j hj => ?_⟩
    rw [size_flatK] at hj
    have hz : L.zipIdx.toArray.size = n := by simp [hl]
    rw [hz] at hj
    refine ⟨?_, frozen_of_row _ _ _ _ _ hk⟩
    rw [get_flatK _ _ _ _ (by rw [hz]; exact hj), zip_fst L (j / 6) (by omega)]
    have hx : (ol L)[j]? = some (encO L[j / 6]!)[j % 6]! := by
      have e : j = j / 6 * 6 + j % 6 := by omega
      conv => lhs; rw [e]
      rw [ol_get L (j / 6) (j % 6) (by omega) (by omega)]
      exact enc_some _ _ (by omega)
    rw [Nat.zero_add, cell_of_row _ _ _ _ _ _ hk]
    rw [← ht, List.getElem?_take, if_pos (by omega), Array.getElem?_toList] at hx
    exact hx
/-- What the sort leaves. -/
theorem sw_gw {w0 w : World} {blk : Nat} {d : Array Dd} {B : Nat} (S : SW6 w0 blk d w) (hB : B ≤ blk) (hs : B ≤ w0.heap.size) : Below B w0 w ∧ w0.drawn ≤ w.drawn := by
  obtain ⟨n, os, rfl⟩ := S
  refine ⟨⟨rfl, rfl, rfl, ?_, fun j hj => ?_⟩, Nat.le_add_right _ _⟩
  · unfold sortWorldK; rw [size_grow, size_putRowK]; exact Nat.le_add_right _ _
  · unfold sortWorldK
    rw [heap_grow_old _ _ (by rw [size_putRowK]; show j < w0.heap.size; omega)]
    unfold putRowK putRow mapBlock
    show (w0.heap.modify blk _)[j]? = _
    rw [Array.getElem?_modify, if_neg (by omega)]
theorem ods_of_sort {w0 w : World} {blk n : Nat} {d0 d : Array Dd} {L : List Od} (S : SW6 w0 blk d w) (R : Rw6 w0 blk d0) (hs : d.size = d0.size) (hn : d.size = n) (h9 : n ≤ 9223372036854775807) (hL : d.toList.map Prod.fst = L) (hok : ∀ x ∈ L, Od.ok w x) : Ods w (some ⟨blk, 0, none⟩) n L := by
  have hl : L.length = n := by rw [← hL]; simp [hn]
  refine ⟨hl, h9, hok, .inr ⟨blk, 0, rfl, S.lt R.hblk, fun i hi => at_of fun c u hu => ?_⟩⟩
  have h := HoldsK.cells (S.holds R.hblk R.hH hs) R.hk (show i < d.size by omega) c u (by
    have e : L[i]! = (d[i]!).1 := by
      rw [getElem!_pos L i (by omega), getElem!_pos d i (by omega)]
      simp [← hL]
    rw [← hu, e]; rfl)
  rw [addr_add] at h
  exact h
theorem info_od : (Tryz.prog.info? 38).map (fun i => (i.zero, i.size, i.bytes)) = some (some (.agg #[.int .u64 0, .int .i64 0, .int .i64 0, .int .i64 0, .int .i64 0, .int .u64 0]), 6, 48) := by kernel_rfl
/-- slices.Clone at orders. -/
theorem clone_c (b off n c : Nat) (L : List Od) (w : World) (hl : L.length = n) (hn : n ≤ 1000) (hc : ∀ i, i < n → (L[i]!).at w b (off + i * 6)) :
    Calls Tryz.prog 49 #[.slice (some ⟨b, off, none⟩) n c] w fun e w' => ∃ v', e = .returned v' ∧ w'.ownsRow w.heap.size 38 6 v' n (ol L) ∧ v' ≠ .slice none 0 0 ∧ Below w.heap.size w w' := by
  cases hi : Tryz.prog.info? 38 with
  | none => have := info_od; rw [hi] at this; cases this
  | some i0 =>
    have := info_od
    rw [hi] at this
    simp only [Option.map_some, Option.some.injEq, Prod.mk.injEq] at this
    obtain ⟨h1, h2, h3⟩ := this
    exact AnyE.slices_Clone (ρ := Tryz.cloneL_ren) Tryz.cloneL i0 _ 6 48 hi h1 h2 h3 rfl (by omega) Tryz.sizeOf38 b off n c (ol L) w (by rw [ol_len, hl]) (by unfold maxLen; omega) (by omega) (ods_cells hl hc) (ol_one L)
theorem clone_nil (n c : Nat) (w : World) : Calls Tryz.prog 49 #[.slice none n c] w fun e w' => e = .returned (.slice none 0 0) ∧ w' = w :=
  AnyE.slices_Clone_nil (ρ := Tryz.cloneL_ren) Tryz.cloneL n c w

set_option maxHeartbeats 4000000 in
set_option maxRecDepth 100000 in
/-- slices.Clone at an empty slice, wherever it points. -/
theorem clone0_c (a : Addr) (c : Nat) (w : World) :
    Calls Tryz.prog 49 #[.slice (some a) 0 c] w fun e w' => ∃ v', e = .returned v' ∧ w'.ownsRow w.heap.size 38 6 v' 0 [] ∧ v' ≠ .slice none 0 0 ∧ Below w.heap.size w w' := by
  have mixed : Tryz.prog.follows .mixedOrders = true := by kernel_rfl
  have q22 : ∀ (w : World) (a : Option Addr) (n c n' c' : Nat), (binOp .eql 22 (.slice a n c) (.slice none n' c')).run Tryz.prog w = .ok (.bool a.isNone) w := fun w a n c n' c' => Lib.run_eql_slice_nil w _ _ a n c n' c' Tryz.underlying22
  cases hi : Tryz.prog.info? 38 with
  | none => have := info_od; rw [hi] at this; cases this
  | some i0 =>
    have := info_od
    rw [hi] at this
    simp only [Option.map_some, Option.some.injEq, Prod.mk.injEq] at this
    obtain ⟨h1, h2, h3⟩ := this
    have HI : Hid (Tryz.prog.info? 38 = some i0 ∧ i0.zero = some (.agg #[.int .u64 0, .int .i64 0, .int .i64 0, .int .i64 0, .int .i64 0, .int .u64 0]) ∧ i0.size = 6 ∧ i0.bytes = 48) := ⟨hi, h1, h2, h3⟩
    clear hi h1 h2 h3
    go_enter Tryz.func49, Tryz.ntmps49
    go_wp2_with (at_builtin; refine wpList_append_own _ rfl _ _ 22 rfl w.heap.size 38 i0 (.agg #[.int .u64 0, .int .i64 0, .int .i64 0, .int .i64 0, .int .i64 0, .int .u64 0]) 6 48 Tryz.underlying22 HI.out.1 HI.out.2.1 HI.out.2.2.1 HI.out.2.2.2 rfl (by omega) _ _ _ rfl (World.ownsRow_made w #[] 0 (Nat.le_refl _) (Nat.zero_le _) (by simp)) a 0 c [] rfl ?qc1 ?qc2 ?qc3 ?qc4 ?qc5 ?qc6 ?_)
    case qc1 => rfl
    case qc2 => intro j u hj; simp at hj
    case qc3 => intro u hu; simp at hu
    case qc4 => unfold maxLen; omega
    case qc5 => omega
    case qc6 => simp
    intro v' w1 hown hgrow hnil
    go_wp2
    go_ret
    refine ⟨v', rfl, by simpa using hown, ?_, ?_⟩
    · exact hnil
    · exact ((Below.refl _ w).alloc (Nat.le_refl _) _).grown hgrow (by simp) (by intro k hk; simp [Value.ownBlock] at hk; omega)
theorem eg_c : ∀ args w, (callFunc 81 args).run Tryz.prog w = .ok (.enter 81 args) w := enters_of Tryz.func81 (by kernel_rfl) rfl
theorem lays_c (blk size : Nat) (w : World) : CmpLays Tryz.prog 81 #[] encD 6 (fun x y => cmpO x.1 y.1) blk 0 size w := fun _ _ _ _ x y =>
  (closure_c x.1 y.1 _).mono fun _ _ ⟨h1, h2⟩ => ⟨h1, h2.grow⟩
theorem sortD_c (blk cap n : Nat) (L : List Od) (w : World) (hn : L.length = n) (h1 : n ≤ 160) (hb : blk < w.heap.size) (H : HoldsK encD 6 w blk 0 L.zipIdx.toArray) (hok : ∀ x ∈ L, Od.ok w x) :
    Calls Tryz.prog 80 #[.slice (some ⟨blk, 0, none⟩) n cap, .func (.func 81) #[] #[]] w fun e w' => e = .returned (.tuple #[]) ∧ Ods w' (some ⟨blk, 0, none⟩) n (sortO L) ∧ Below blk w w' := by
  have hz : L.zipIdx.toArray.size = n := by simp [hn]
  have R : Rw6 w blk L.zipIdx.toArray := ⟨encD_len, encD_one, H, hb⟩
  have := sortStable_c 6 Tryz.isAgg38 Tryz.sizeOf38 encD ltO (fun x y => cmpO x.1 y.1) (fun x y => cmpO_lt x.1 y.1) swo_ltO 81 #[] blk 0 cap L.zipIdx.toArray w eg_c R (lays_c blk _ w) L.zipIdx.toArray w rfl (SWK.start H) (by omega) (fun p hp => by rw [zip_fst L p (by omega)])
  rw [hz] at this
  refine this.mono ?_
  rintro e w' ⟨rfl, d', S, M⟩
  rw [← hz] at M
  have hs : d'.size = L.zipIdx.toArray.size := M.1.1
  have hso := sortO_merged (L := L) rfl M
  have hmem : ∀ x ∈ sortO L, x ∈ L := fun x hx => by
    unfold sortO at hx
    obtain ⟨y, hy, rfl⟩ := List.mem_map.1 hx
    have := (List.mergeSort_perm _ _).mem_iff.1 hy
    have := (List.mem_zipIdx' this).2
    rw [this]; exact List.getElem_mem _
  exact ⟨rfl, ods_of_sort S R hs (by rw [hs, hz]) (by omega) hso (fun x hx => hok x (hmem x hx)), (sw_gw S (Nat.le_refl _) (by omega)).1⟩

set_option maxHeartbeats 4000000 in
set_option maxRecDepth 100000 in
theorem insNil_c (c : Nat) (f : Value) (w : World) : Calls Tryz.prog 139 #[.slice none 0 c, .int .i64 0, .int .i64 0, f] w fun e w' => e = .returned (.tuple #[]) ∧ w = w' := by
  go_enter Tryz.func139, Tryz.ntmps139
  go_wp2
  go_loop [8] (fun s => s = .int .i64 1) (fun _ => 0)
  case atStart => rfl
  case round =>
    subst hrel
    go_wp2
    go_end0
    exact ⟨rfl, rfl⟩
set_option maxHeartbeats 4000000 in
set_option maxRecDepth 100000 in
theorem stableNil_c (c : Nat) (f : Value) (w : World) : Calls Tryz.prog 115 #[.slice none 0 c, .int .i64 0, f] w fun e w' => e = .returned (.tuple #[]) ∧ w = w' := by
  have HI := Lib.hid (insNil_c c f)
  go_enter Tryz.func115, Tryz.ntmps115
  go_wp2
  go_loop [7, 8] (fun s t => s = .int .i64 0 ∧ t = .int .i64 20) (fun _ _ => 0)
  case atStart => exact ⟨rfl, rfl⟩
  case round =>
    obtain ⟨rfl, rfl⟩ := hrel
    go_wp2_with ((with_reducible refine (HI.out _).mono ?_); rintro e w' ⟨rfl, rfl⟩)
    go_loop [6] (fun s => s = .int .i64 20) (fun _ => 0)
    case atStart => rfl
    case round =>
      subst hrel
      go_wp2
      go_end0
      exact ⟨rfl, rfl⟩
set_option maxHeartbeats 4000000 in
set_option maxRecDepth 100000 in
theorem sortNil_c (c : Nat) (f : Value) (w : World) : Calls Tryz.prog 80 #[.slice none 0 c, f] w fun e w' => e = .returned (.tuple #[]) ∧ w = w' := by
  have HI := Lib.hid (stableNil_c c f)
  go_enter Tryz.func80, Tryz.ntmps80
  go_wp2_with ((with_reducible refine (HI.out _).mono ?_); rintro e w' ⟨rfl, rfl⟩)
  go_end0
  exact ⟨rfl, rfl⟩
/-- What order.Sorted tells. -/
def SortedIs (w : World) (L : List Od) (n : Nat) (e : Ending) (w' : World) : Prop := ∃ A c, e = .returned (.slice A n c) ∧ n ≤ c ∧ Ods w' A n (sortO L) ∧ Below w.heap.size w w'
set_option maxHeartbeats 4000000 in
set_option maxRecDepth 100000 in
theorem sortedOwn_c (a : Addr) (n c : Nat) (L : List Od) (w : World) (hl : L.length = n) (hn : n ≤ 160) (hok : ∀ x ∈ L, Od.ok w x)
    (hcl : Calls Tryz.prog 49 #[.slice (some a) n c] w fun e w' => ∃ v', e = .returned v' ∧ w'.ownsRow w.heap.size 38 6 v' n (ol L) ∧ v' ≠ .slice none 0 0 ∧ Below w.heap.size w w') :
    Calls Tryz.prog 69 #[.slice (some a) n c] w (SortedIs w L n) := by
  have HC := Lib.hid hcl
  have HS := Lib.hid (fun blk cap W hb H hk => sortD_c blk cap n L W hl hn hb H hk)
  have HOK := Lib.hid hok
  clear hl hn hok hcl
  go_enter Tryz.func69, Tryz.ntmps69
  go_wp2_with fail
  refine HC.out.mono ?_
  rintro e w1 ⟨v', rfl, hown, hne, b1⟩
  obtain ⟨_, k, cap, rfl, hcap, hk1, hk2, hH⟩ := own_holds hown hne
  have HH : Aside (HoldsK encD 6 w1 k 0 L.zipIdx.toArray) := hH
  have B1 := Lib.hid b1
  clear hown hne hH b1
  go_wp2_with fail
  refine (HS.out k cap w1 hk2 HH.out HOK.out).mono ?_
  rintro e w2 ⟨rfl, O2, b2⟩
  have HF : Hid (n ≤ cap ∧ Ods w2 (some ⟨k, 0, none⟩) n (sortO L) ∧ Below w.heap.size w w2) := ⟨hcap, O2, B1.out.trans (b2.mono hk1)⟩
  clear O2 b2 B1 HH hcap
  go_wp2_with fail
  go_ret
  exact ⟨_, _, rfl, HF.out⟩
set_option maxHeartbeats 4000000 in
set_option maxRecDepth 100000 in
theorem sortedNil_c (c : Nat) (w : World) : Calls Tryz.prog 69 #[.slice none 0 c] w (SortedIs w [] 0) := by
  have HC := Lib.hid (clone_nil 0 c)
  have HS := Lib.hid sortNil_c
  have HF : Hid (0 ≤ 0 ∧ Ods w none 0 (sortO []) ∧ Below w.heap.size w w) := ⟨Nat.le_refl _, ⟨sortO_len [], by omega, (by rw [List.eq_nil_of_length_eq_zero (sortO_len [])]; intro x hx; cases hx), .inl rfl⟩, Below.refl _ _⟩
  go_enter Tryz.func69, Tryz.ntmps69
  go_wp2_with (first | ((with_reducible refine (HC.out _).mono ?_); rintro e w' ⟨rfl, rfl⟩) | ((with_reducible refine (HS.out _ _ _).mono ?_); rintro e w' ⟨rfl, rfl⟩))
  go_ret
  exact ⟨_, _, rfl, HF.out⟩
/-- order.Sorted, at any orders. -/
theorem sorted_c (A : Option Addr) (n c : Nat) (L : List Od) (w : World) (H : Ods w A n L) (hn : n ≤ 160) : Calls Tryz.prog 69 #[.slice A n c] w (SortedIs w L n) := by
  obtain ⟨hl, h9, hok, h⟩ := H
  match A, h with
  | none, h =>
    have h0 : n = 0 := by
      rcases h with h | ⟨_, _, h, _⟩
      · exact h
      · cases h
    subst h0
    have : L = [] := List.eq_nil_of_length_eq_zero hl
    subst this
    exact sortedNil_c c w
  | some ⟨b, off, sp⟩, h =>
    rcases h with h | ⟨b', off', h, hb, hc⟩
    · subst h
      have : L = [] := List.eq_nil_of_length_eq_zero hl
      subst this
      exact sortedOwn_c _ 0 c [] w rfl hn hok (clone0_c _ c w)
    · cases h
      exact sortedOwn_c _ n c L w hl hn hok (clone_c b off n c L w hl (by omega) hc)
end Go.Proofs.YtgbmgdffgmablaaGreat

namespace Go.Proofs.YtgbmgdffgmablaaGreat
open Go.RowKit Go.Sort Go.Shelf

/-- A queue in a slice. -/
def QueAt (w : World) (a : Option Addr) (n : Nat) (q : List Od) : Prop :=
  q.length = n ∧ (n = 0 ∨ ∃ g, a = some ⟨g, 0, none⟩ ∧ g < w.heap.size ∧ ∀ i, i < n → (q[i]!).at w g (i * 6))
theorem own_que {w : World} {base n : Nat} {T : TypeId} {v : Value} {L : List Od} (h : w.ownsRow base T 6 v n (ol L)) : ∃ A c, v = .slice A n c ∧ QueAt w A n L := by
  obtain ⟨h1, h2⟩ := h
  rw [ol_len] at h1
  have hl : L.length = n := by omega
  rcases h2 with ⟨hv, h0⟩ | ⟨k, cap, cur, hv, _, hk, hc, hm, hs, ht⟩
  · subst h0; exact ⟨none, 0, hv, hl, .inl rfl⟩
  · refine ⟨_, _, hv, hl, .inr ⟨k, rfl, blk_lt hk, fun i hi => ?_⟩⟩
    have hcell : ∀ j v, (ol L)[j]? = some v → w.cell? ⟨k, j, none⟩ = some v := by
      intro j v hj
      rw [← ht, List.getElem?_take] at hj
      split at hj
      · rw [Array.getElem?_toList] at hj
        rw [cell_of_row _ _ _ _ _ _ hk, hj]
      · cases hj
    have g : ∀ c v, c < 6 → (encO L[i]!)[c]? = some v → w.cell? ⟨k, i * 6 + c, none⟩ = some v := fun c v hc hv =>
      hcell (i * 6 + c) v ((ol_get L i c (by omega) hc).trans hv)
    exact ⟨g 0 _ (by omega) rfl, g 1 _ (by omega) rfl, g 2 _ (by omega) rfl, g 3 _ (by omega) rfl, g 4 _ (by omega) rfl, g 5 _ (by omega) rfl⟩
theorem cell_fr {S : Nat → Prop} {w w' : World} (hf : Fr S w w') {b : Nat} (hl : b < w.heap.size) (hn : ¬ S b) (o : Nat) : w'.cell? ⟨b, o, none⟩ = w.cell? ⟨b, o, none⟩ := World.cell?_of_block (w := w) (hf.block b hl hn)
theorem Od.at_fr {S : Nat → Prop} {w w' : World} {x : Od} {b o : Nat} (h : x.at w b o) (hl : b < w.heap.size) (hf : Fr S w w') (hn : ¬ S b) : x.at w' b o := by
  unfold Od.at at h ⊢
  simpa only [cell_fr hf hl hn] using h
theorem QueAt.fr {S : Nat → Prop} {w w' : World} {A : Option Addr} {n : Nat} {q : List Od} (h : QueAt w A n q) (hf : Fr S w w') (hn : ∀ g, A = some ⟨g, 0, none⟩ → ¬ S g) : QueAt w' A n q := by
  refine ⟨h.1, ?_⟩
  rcases h.2 with h0 | ⟨g, rfl, hg, hc⟩
  · exact .inl h0
  · exact .inr ⟨g, rfl, Nat.lt_of_lt_of_le hg hf.size, fun i hi => Od.at_fr (hc i hi) hg hf (hn g rfl)⟩
theorem QueAt.gw {w w' : World} {A : Option Addr} {n : Nat} {q : List Od} (h : QueAt w A n q) (hf : Gw w w') : QueAt w' A n q :=
  h.fr (S := fun _ => False) (Fr.of_below hf.b) (fun _ _ h => h)
theorem RowsAt.fr {S : Nat → Prop} {w w' : World} {A : Option Addr} {n : Nat} {R : List Rw} (h : RowsAt w A n R) (hf : Fr S w w') (hn : ∀ g, A = some ⟨g, 0, none⟩ → ¬ S g) : RowsAt w' A n R := by
  refine ⟨h.1, ?_⟩
  rcases h.2 with h0 | ⟨g, rfl, hg, hc⟩
  · exact .inl h0
  · exact .inr ⟨g, rfl, Nat.lt_of_lt_of_le hg hf.size, fun i hi => by
      rw [cell_fr hf hg (hn g rfl), cell_fr hf hg (hn g rfl)]
      exact hc i hi⟩
theorem RowsAt.gw {w w' : World} {A : Option Addr} {n : Nat} {R : List Rw} (h : RowsAt w A n R) (hf : Gw w w') : RowsAt w' A n R :=
  h.fr (S := fun _ => False) (Fr.of_below hf.b) (fun _ _ h => h)
theorem Gw.of_grow (w : World) (m : Nat) (os : Array Obj) : Gw w (Go.Sort.grow (w.drewN m) os) := ⟨below_grown_sl _ _ _ _ (Nat.le_refl _), Nat.le_add_right _ _⟩
theorem hmf_any : ∀ (fn : Fn) (first cap : Array Value) (w : World), (Instr.makeFunc fn first cap).run Tryz.prog w = .ok (.func fn first cap) w := fun _ _ _ _ => rfl
/-- In a strict order of places, 'not yet' holds below, and no more from some place on. -/
theorem mono_not {α : Type} [Inhabited α] {l : List α} {f : α → Bool} (h : l.Pairwise (fun a b => f b = true → f a = true)) : ∀ a b, a ≤ b → b < l.length → (!f l[a]!) = true → (!f l[b]!) = true := by
  intro a b hab hb ha
  rcases Nat.eq_or_lt_of_le hab with rfl | hlt
  · exact ha
  · rw [List.pairwise_iff_getElem] at h
    rw [getElem!_pos l a (by omega)] at ha
    rw [getElem!_pos l b hb]
    have := h a b (by omega) hb hlt
    cases hf : f l[b] with
    | false => rfl
    | true => rw [this hf] at ha; cases ha
theorem count_not {α : Type} [Inhabited α] (l : List α) (f : α → Bool) : (List.range l.length).countP (fun i => !!f l[i]!) = l.countP f := by
  rw [← countP_places l default f]
  congr 1
  funext i
  rw [Bool.not_not, List.getElem!_eq_getElem?_getD, List.getD_eq_getElem?_getD]
set_option maxHeartbeats 4000000 in
set_option maxRecDepth 100000 in
theorem place_c (A : Option Addr) (n c : Nat) (q : List Od) (o : Od) (w : World) (H : QueAt w A n q) (hs : q.Pairwise (fun x y => ahdO x y = true)) (hn : n ≤ 1000) :
    Calls Tryz.prog 182 #[.slice A n c, .agg #[.int .u64 o.id, .int .i64 o.acc, .int .i64 o.side, .int .i64 o.price, .int .i64 o.qty, .int .u64 o.seq]] w fun e w' => e = .returned (.int .i64 (plN o q : Nat)) ∧ Gw w w' := by
  have hmf := hmf_any
  have hl := H.1
  obtain ⟨W, hW⟩ : ∃ W, ((w.alloc (.cells #[.slice A n c] 22)).alloc (.cells (encO o).toArray 38)) = W := ⟨_, rfl⟩
  have B1 : Gw w W := by rw [← hW]; exact ((Gw.refl w).alloc _).alloc _
  have hq : W.heap[w.heap.size]? = some (.cells #[.slice A n c] 22 (0, 0)) := by rw [← hW]; exact hd_prev (by simp) (hd_last rfl)
  have ho : W.heap[w.heap.size + 1]? = some (.cells (encO o).toArray 38 (0, 0)) := by rw [← hW]; exact hd_last (by simp)
  have HS := Any.sort_Search Tryz.searchL 190 #[.pointer (some ⟨w.heap.size, 0, none⟩), .pointer (some ⟨w.heap.size + 1, 0, none⟩)] n (fun i => !ahdO q[i]! o) W (enters_of Tryz.func190 (by kernel_rfl) rfl) (by omega)
    (fun m os i hi => by
      have hG := Gw.of_grow W m os
      rcases H.2 with h0 | ⟨g, rfl, hg, hc⟩
      · omega
      have hgw := (H.gw B1).gw hG
      rcases hgw.2 with h0 | ⟨g', e', hg', hc'⟩
      · omega
      injection e' with e'
      injection e' with e'
      subst e'
      exact (plc_c _ _ _ g n c i o q[i]! hi (by rw [hG.b.block _ (blk_lt hq)]; exact hq) (by rw [hG.b.block _ (blk_lt ho)]; exact ho) hg' (hc' i hi)).mono fun e w' ⟨h1, h2⟩ => ⟨h1, h2.grow⟩)
    (by rw [← hl]; exact mono_not (que_mono hs))
  rw [← hl, count_not q (fun x => ahdO x o), hl] at HS
  have HS' : Hid _ := Lib.hid HS
  go_enter Tryz.func182, Tryz.ntmps182
  go_wp2_with fail
  rw [show ((w.alloc (.cells #[.slice A n c] 22)).alloc (.cells #[.int .u64 o.id, .int .i64 o.acc, .int .i64 o.side, .int .i64 o.price, .int .i64 o.qty, .int .u64 o.seq] 38)) = W from hW]
  have c0 : W.cell? ⟨w.heap.size, 0, none⟩ = some (.slice A n c) := by rw [cell_of_row _ _ _ _ _ _ hq]; rfl
  go_wp2_with fail
  refine (HS'.out).mono ?_
  rintro e w' ⟨rfl, nq, osq, rfl⟩
  go_wp2_with fail
  go_ret
  exact ⟨rfl, B1.trans (Gw.of_grow _ _ _)⟩
set_option maxHeartbeats 4000000 in
set_option maxRecDepth 100000 in
theorem find_c (A : Option Addr) (n c : Nat) (R : List Rw) (s p : Int) (w : World) (H : RowsAt w A n R) (hs : R.Pairwise (fun a b => betN s a.pr b.pr = true)) (hn : n ≤ 1000) :
    Calls Tryz.prog 181 #[.slice A n c, .int .i64 s, .int .i64 p] w fun e w' => e = .returned (.tuple #[.int .i64 (atN s p R : Nat), .bool (decide (atN s p R < n) && (R[atN s p R]!).pr == p)]) ∧ Gw w w' := by
  have mixed : Tryz.prog.follows .mixedOrders = true := by kernel_rfl
  have hmf := hmf_any
  have hl := H.1
  obtain ⟨W, hW⟩ : ∃ W, (((w.alloc (.cells #[.slice A n c] 248)).alloc (.cells #[.int .i64 s] 3)).alloc (.cells #[.int .i64 p] 2)) = W := ⟨_, rfl⟩
  have B1 : Gw w W := by rw [← hW]; exact (((Gw.refl w).alloc _).alloc _).alloc _
  have hr : W.heap[w.heap.size]? = some (.cells #[.slice A n c] 248 (0, 0)) := by rw [← hW]; exact hd_prev (by simp; omega) (hd_prev (by simp) (hd_last rfl))
  have hsb : W.heap[w.heap.size + 1]? = some (.cells #[.int .i64 s] 3 (0, 0)) := by rw [← hW]; exact hd_prev (by simp) (hd_last (by simp))
  have hpb : W.heap[w.heap.size + 2]? = some (.cells #[.int .i64 p] 2 (0, 0)) := by rw [← hW]; exact hd_last (by simp)
  have HS := Any.sort_Search Tryz.searchL 189 #[.pointer (some ⟨w.heap.size + 1, 0, none⟩), .pointer (some ⟨w.heap.size, 0, none⟩), .pointer (some ⟨w.heap.size + 2, 0, none⟩)] n (fun i => !betN s (R[i]!).pr p) W (enters_of Tryz.func189 (by kernel_rfl) rfl) (by omega)
    (fun m os i hi => by
      have hG := Gw.of_grow W m os
      rcases H.2 with h0 | ⟨g, rfl, hg, hc⟩
      · omega
      have hgw := (H.gw B1).gw hG
      rcases hgw.2 with h0 | ⟨g', e', hg', hc'⟩
      · omega
      injection e' with e'
      injection e' with e'
      subst e'
      exact (fnd_c _ _ _ _ g n c i s p (R[i]!).pr hi (by rw [cell_of_row _ _ _ _ _ _ ((hG.b.block _ (blk_lt hsb)).trans hsb)]; rfl) (by rw [cell_of_row _ _ _ _ _ _ ((hG.b.block _ (blk_lt hr)).trans hr)]; rfl) (by rw [cell_of_row _ _ _ _ _ _ ((hG.b.block _ (blk_lt hpb)).trans hpb)]; rfl) (hc' i hi).1).mono fun e w' ⟨h1, h2⟩ => ⟨h1, h2.grow⟩)
    (by rw [← hl]; exact mono_not (f := fun r : Rw => betN s r.pr p) (rows_mono hs))
  rw [← hl, count_not R (fun r => betN s r.pr p), hl] at HS
  have HS' : Hid _ := Lib.hid HS
  have HA : Aside (RowsAt W A n R) := H.gw B1
  obtain ⟨k, hk⟩ : ∃ k, atN s p R = k := ⟨_, rfl⟩
  rw [show R.countP (fun r => betN s r.pr p) = k from hk] at HS'
  rw [hk]
  have hkl : k ≤ n := by rw [← hk, ← hl]; exact at_le s p R
  obtain ⟨bb, hbb⟩ : ∃ bb, (decide (k < n) && (R[k]!).pr == p) = bb := ⟨_, rfl⟩
  rw [hbb]
  clear hk HS hs
  have c0 : W.cell? ⟨w.heap.size, 0, none⟩ = some (.slice A n c) := by rw [cell_of_row _ _ _ _ _ _ hr]; rfl
  go_enter Tryz.func181, Tryz.ntmps181
  go_wp2_with fail
  refine (HS'.out).mono ?_
  rintro e w' ⟨rfl, nq, osq, rfl⟩
  have G2 := Gw.of_grow W nq osq
  have HA2 : Aside (RowsAt (grow (W.drewN nq) osq) A n R) := HA.out.gw G2
  have B2 := Lib.hid (B1.trans G2)
  have e0 : (grow (W.drewN nq) osq).heap[w.heap.size]? = some (.cells #[.slice A n c] 248 (0, 0)) := by rw [G2.b.block _ (blk_lt hr)]; exact hr
  have e1 : (grow (W.drewN nq) osq).heap[w.heap.size + 2]? = some (.cells #[.int .i64 p] 2 (0, 0)) := by rw [G2.b.block _ (blk_lt hpb)]; exact hpb
  generalize grow (W.drewN nq) osq = W2 at *
  have d0 : W2.cell? ⟨w.heap.size, 0, none⟩ = some (.slice A n c) := by rw [cell_of_row _ _ _ _ _ _ e0]; rfl
  have d1 : W2.cell? ⟨w.heap.size + 2, 0, none⟩ = some (.int .i64 p) := by rw [cell_of_row _ _ _ _ _ _ e1]; rfl
  clear e0 e1 c0 hr hsb hpb hW HS' G2 HA
  by_cases hkn : k < n
  · have hd : decide ((k : Int) < (n : Int)) = true := by simp; omega
    have hd' : decide (k < n) = true := by simp [hkn]
    rw [hd', Bool.true_and] at hbb
    obtain ⟨_, h2⟩ := HA2
    rcases h2 with h0 | ⟨g, rfl, hg, hc⟩
    · omega
    have hck := (hc k hkn).1
    have hkz : (k : Int) < (n : Int) := by omega
    obtain ⟨pr, hpr⟩ : ∃ pr, (R[k]!).pr = pr := ⟨_, rfl⟩
    rw [hpr] at hck hbb
    subst hbb
    clear hpr hc hkn hd'
    go_wp2_with fail
    go_quiet (fail)
    go_wp2_with fail
    go_ret2
    exact ⟨rfl, B2.out.trans ⟨below_drewN (Below.refl _ _) _, Nat.le_add_right _ _⟩⟩
  · have hd : decide ((k : Int) < (n : Int)) = false := by simp; omega
    have hd' : decide (k < n) = false := by simp [hkn]
    rw [hd', Bool.false_and] at hbb
    subst hbb
    clear HA2 hkn hd
    go_wp2_with fail
    go_quiet (fail)
    go_wp2_with fail
    go_ret2
    exact ⟨rfl, B2.out.trans ⟨below_drewN (Below.refl _ _) _, Nat.le_add_right _ _⟩⟩
end Go.Proofs.YtgbmgdffgmablaaGreat

namespace Go.Proofs.YtgbmgdffgmablaaGreat
open Go.RowKit Go.Sort Go.Shelf Go.Maps

/-- A side: is it in the map; its rows' slice; the rows. -/
structure Sd where
  there : Bool
  v : Value
  rs : List Rw
abbrev v0 : Value := .slice none 0 0
def nilS : Sd := ⟨false, v0, []⟩
def mapD (s1 s2 : Sd) : DataW Value :=
  .map ((if s1.there then [(.int .i64 1, .held s1.v)] else []) ++ (if s2.there then [(.int .i64 2, .held s2.v)] else []))
def RV (v : Value) : Option (DataW Value × List MemPlace) := some (.held v, [])
/-- What a side's look-up tells. -/
def rowsOf (s1 s2 : Sd) (side : Int) : Value := if side = 1 then s1.v else if side = 2 then s2.v else v0
theorem keyI : Keyed Tryz.prog 3 := int_keyed Tryz.underlying3
theorem zeroR (w : World) : (zeroValue 248).run Tryz.prog w = .ok v0 w := by kernel_rfl
theorem mapD_at (s1 s2 : Sd) (h1 : s1.there = false → s1.v = v0) (h2 : s2.there = false → s2.v = v0) (side : Int) : (mapD s1 s2).atKey (.int .i64 side) (.held v0) = .held (rowsOf s1 s2 side) := by
  obtain ⟨t1, a1, r1⟩ := s1
  obtain ⟨t2, a2, r2⟩ := s2
  simp only at h1 h2
  unfold rowsOf
  by_cases e1 : side = 1
  · subst e1
    cases t1 <;> cases t2 <;> simp [mapD, DataW.atKey, Lit.sameKey] <;> simp_all
  · by_cases e2 : side = 2
    · subst e2
      cases t1 <;> cases t2 <;> simp [mapD, DataW.atKey, Lit.sameKey] <;> simp_all
    · have e1' : ¬ (1 : Int) = side := fun h => e1 h.symm
      have e2' : ¬ (2 : Int) = side := fun h => e2 h.symm
      cases t1 <;> cases t2 <;> simp [mapD, DataW.atKey, Lit.sameKey, e1, e2, e1', e2']
/-- A side's look-up. -/
theorem look_side {w : World} {m : Nat} {s1 s2 : Sd} (h : w.ownsMap Tryz.prog 3 RV m 2 (mapD s1 s2)) (h1 : s1.there = false → s1.v = v0) (h2 : s2.there = false → s2.v = v0) (side : Int) (hs : (Lit.int .i64 side).wf = true) :
    (Instr.lookup 130 (.map (some m)) (.int .i64 side) false).run Tryz.prog w = .ok (rowsOf s1 s2 side) w := by
  have hat := mapD_at s1 s2 h1 h2 side
  obtain ⟨es, clock, hb, F, _, hD⟩ := h
  rw [hD] at hat
  rcases Maps.fit_look false keyI Tryz.underlying130 (zeroR w) hb F (keyOf_int_mk Tryz.underlying3 hs) with ⟨hrun, _, hz⟩ | ⟨e0, y, _, _, hrun, hR, hz, _⟩
  · rw [hz] at hat
    replace hat := DataW.held.inj hat
    simp only [Bool.false_eq_true, if_false] at hrun
    exact hrun.trans (congrArg (fun v => Result.ok v w) hat)
  · rw [hz] at hat
    unfold RV at hR
    replace hR := Option.some.inj hR
    rw [← hR] at hat
    replace hat := DataW.held.inj hat
    simp only [Bool.false_eq_true, if_false] at hrun
    exact hrun.trans (congrArg (fun v => Result.ok v w) hat)
/-- A side is put into the map. -/
theorem map_put1 (s1 s2 : Sd) (v : Value) (rs : List Rw) : (mapD s1 s2).put (.int .i64 1) (.held v) = mapD ⟨true, v, rs⟩ s2 := by
  obtain ⟨t1, a1, r1⟩ := s1
  obtain ⟨t2, a2, r2⟩ := s2
  cases t1 <;> cases t2 <;> simp [mapD, DataW.put, DataW.insert, Lit.sameKey, Lit.before]
theorem map_put2 (s1 s2 : Sd) (v : Value) (rs : List Rw) : (mapD s1 s2).put (.int .i64 2) (.held v) = mapD s1 ⟨true, v, rs⟩ := by
  obtain ⟨t1, a1, r1⟩ := s1
  obtain ⟨t2, a2, r2⟩ := s2
  cases t1 <;> cases t2 <;> simp [mapD, DataW.put, DataW.insert, Lit.sameKey, Lit.before]
theorem mapD_size (s1 s2 : Sd) : Maps.size (mapD s1 s2) ≤ 2 := by
  obtain ⟨t1, a1, r1⟩ := s1
  obtain ⟨t2, a2, r2⟩ := s2
  cases t1 <;> cases t2 <;> simp [mapD, Maps.size]
theorem map_two {w : World} {m n : Nat} {s1 s2 : Sd} (h : w.ownsMap Tryz.prog 3 RV m n (mapD s1 s2)) : w.ownsMap Tryz.prog 3 RV m 2 (mapD s1 s2) := by
  have hz := mapD_size s1 s2
  obtain ⟨es, clock, hb, F, _, hD⟩ := h
  refine ⟨es, clock, hb, F, ?_, hD⟩
  rw [hD] at hz
  simpa [Maps.size, length_sorted] using hz

/-- A book, as it lies: no book (nil), one that no call made (m nil), or one that has a map. -/
structure Bk (w : World) (b : Option Addr) (m : Option Nat) (s1 s2 : Sd) : Prop where
  shape : (b = none ∧ m = none) ∨ ∃ p, b = some ⟨p, 0, none⟩ ∧ w.heap[p]? = some (.cells #[.map m] 132 (0, 0))
  un : m = none → s1 = nilS ∧ s2 = nilS
  mp : ∀ k, m = some k → w.ownsMap Tryz.prog 3 RV k 2 (mapD s1 s2)
  t1 : s1.there = false → s1.v = v0
  t2 : s2.there = false → s2.v = v0
  r1 : w.ownsRow 0 247 2 s1.v s1.rs.length (rl s1.rs)
  r2 : w.ownsRow 0 247 2 s2.v s2.rs.length (rl s2.rs)
  q : ∀ r ∈ s1.rs ++ s2.rs, w.ownsRow 0 38 6 r.v r.q.length (ol r.q)
/-- The blocks of a book. -/
def foot (b : Option Addr) (m : Option Nat) (s1 s2 : Sd) (k : Nat) : Prop :=
  b = some ⟨k, 0, none⟩ ∨ m = some k ∨ s1.v.ownBlock = some k ∨ s2.v.ownBlock = some k ∨ ∃ r ∈ s1.rs ++ s2.rs, r.v.ownBlock = some k
theorem ownsMap_fr {S : Nat → Prop} {w w' : World} {P : Program} {k : TypeId} {R : Value → Option (DataW Value × List MemPlace)} {b n : Nat} {D : DataW Value} (h : w.ownsMap P k R b n D) (hf : Fr S w w') (hn : ¬ S b) : w'.ownsMap P k R b n D := by
  have hlt := h.lt
  obtain ⟨es, clock, hb, F, hs, hD⟩ := h
  exact ⟨es, clock, (hf.block b hlt hn).trans hb, F, hs, hD⟩
theorem Bk.fr {S : Nat → Prop} {w w' : World} {b : Option Addr} {m : Option Nat} {s1 s2 : Sd} (h : Bk w b m s1 s2) (hf : Fr S w w') (hn : ∀ k, foot b m s1 s2 k → ¬ S k) : Bk w' b m s1 s2 := by
  refine ⟨?_, h.un, fun k hk => ownsMap_fr (h.mp k hk) hf (hn k (.inr (.inl hk))), h.t1, h.t2, own_fr h.r1 hf (fun k hk => hn k (.inr (.inr (.inl hk)))), own_fr h.r2 hf (fun k hk => hn k (.inr (.inr (.inr (.inl hk))))), fun r hr => own_fr (h.q r hr) hf (fun k hk => hn k (.inr (.inr (.inr (.inr ⟨r, hr, hk⟩)))))⟩
  rcases h.shape with h0 | ⟨p, hb, hp⟩
  · exact .inl h0
  · exact .inr ⟨p, hb, hf.blk hp (hn p (.inl hb))⟩
theorem Bk.below {w w' : World} {b : Option Addr} {m : Option Nat} {s1 s2 : Sd} (h : Bk w b m s1 s2) (hf : Below w.heap.size w w') : Bk w' b m s1 s2 :=
  h.fr (S := fun _ => False) (Fr.of_below hf) (fun _ _ h => h)
/-- A book's blocks are there. -/
theorem Bk.lt {w : World} {b : Option Addr} {m : Option Nat} {s1 s2 : Sd} (h : Bk w b m s1 s2) {k : Nat} (hk : foot b m s1 s2 k) : k < w.heap.size := by
  rcases hk with hk | hk | hk | hk | ⟨r, hr, hk⟩
  · rcases h.shape with ⟨h0, _⟩ | ⟨p, hb, hp⟩
    · rw [h0] at hk; cases hk
    · rw [hb] at hk; injection hk with hk; injection hk with hk; subst hk; exact blk_lt hp
  · exact (h.mp k hk).lt
  · exact (own_lt h.r1 k hk).2
  · exact (own_lt h.r2 k hk).2
  · exact (own_lt (h.q r hr) k hk).2
theorem neq_map (m : Option Nat) (w : World) : (binOp .neq 130 (.map m) (.map none)).run Tryz.prog w = .ok (.bool m.isSome) w := by
  cases m <;> kernel_rfl
set_option maxHeartbeats 4000000 in
set_option maxRecDepth 100000 in
theorem made_c (b : Option Addr) (m : Option Nat) (s1 s2 : Sd) (w : World) (H : Bk w b m s1 s2) :
    Calls Tryz.prog 177 #[.pointer b] w fun e w' => e = .returned (.bool m.isSome) ∧ w' = w := by
  rcases H.shape with ⟨rfl, rfl⟩ | ⟨p, rfl, hp⟩
  · clear H
    go_enter Tryz.func177, Tryz.ntmps177
    go_wp2_with fail
    go_ret
    exact ⟨rfl, rfl⟩
  · have c0 : w.cell? ⟨p, 0, none⟩ = some (.map m) := by rw [cell_of_row _ _ _ _ _ _ hp]; rfl
    have hn := neq_map m w
    generalize m.isSome = bb at hn ⊢
    clear H hp
    go_enter Tryz.func177, Tryz.ntmps177
    go_wp2_with fail
    go_ret
    exact ⟨rfl, rfl⟩
theorem rowsOf_nil (side : Int) : rowsOf nilS nilS side = v0 := by
  unfold rowsOf nilS
  (repeat' split) <;> rfl
set_option maxHeartbeats 4000000 in
set_option maxRecDepth 100000 in
theorem side_c (b : Option Addr) (m : Option Nat) (s1 s2 : Sd) (side : Int) (w : World) (hs : (Lit.int .i64 side).wf = true) (H : Bk w b m s1 s2) :
    Calls Tryz.prog 180 #[.pointer b, .int .i64 side] w fun e w' => e = .returned (rowsOf s1 s2 side) ∧ w' = w := by
  have HM := Lib.hid (made_c b m s1 s2 w H)
  cases m with
  | none =>
    obtain ⟨rfl, rfl⟩ := H.un rfl
    rw [rowsOf_nil]
    clear H
    go_enter Tryz.func180, Tryz.ntmps180
    go_wp2_with ((with_reducible refine (HM.out).mono ?_); rintro e w' ⟨rfl, rfl⟩)
    go_ret
    exact ⟨rfl, rfl⟩
  | some m =>
    have hl := look_side (H.mp m rfl) H.t1 H.t2 side hs
    rcases H.shape with ⟨_, h0⟩ | ⟨p, rfl, hp⟩
    · cases h0
    have c0 : w.cell? ⟨p, 0, none⟩ = some (.map (some m)) := by rw [cell_of_row _ _ _ _ _ _ hp]; rfl
    generalize rowsOf s1 s2 side = v at *
    clear H hp
    go_enter Tryz.func180, Tryz.ntmps180
    go_wp2_with ((with_reducible refine (HM.out).mono ?_); rintro e w' ⟨rfl, rfl⟩)
    go_ret
    exact ⟨rfl, rfl⟩
set_option maxHeartbeats 4000000 in
set_option maxRecDepth 100000 in
theorem new_c (w : World) : Calls Tryz.prog 50 #[] w fun e w' => e = .returned (.pointer (some ⟨w.heap.size + 1, 0, none⟩)) ∧ Hid (Bk w' (some ⟨w.heap.size + 1, 0, none⟩) (some w.heap.size) nilS nilS ∧ Below w.heap.size w w') := by
  have hmm := @run_makeMap Tryz.prog
  go_enter Tryz.func50, Tryz.ntmps50
  go_wp2_with fail
  go_ret
  refine ⟨rfl, Lib.hid ?_⟩
  refine ⟨⟨.inr ⟨_, rfl, ?_⟩, (fun h => by cases h), fun k hk => ?_, fun _ => rfl, fun _ => rfl, ?_, ?_, fun r hr => by cases hr⟩, ?_⟩
  · exact hd_last (by simp)
  · injection hk with hk
    subst hk
    exact ((World.ownsMap_made w Tryz.prog 3 RV).mono (Nat.zero_le _)).alloc _
  · exact ⟨rfl, .inl ⟨rfl, rfl⟩⟩
  · exact ⟨rfl, .inl ⟨rfl, rfl⟩⟩
  · exact ((Below.refl _ _).alloc (Nat.le_refl _) _).alloc (by simp) _
end Go.Proofs.YtgbmgdffgmablaaGreat

namespace Go.Proofs.YtgbmgdffgmablaaGreat
open Go.RowKit Go.Shelf

attribute [local go_sem] Oper.semAt_some

/-- A side's rows. -/
def rsOf (s1 s2 : Sd) (side : Int) : List Rw := if side = 1 then s1.rs else if side = 2 then s2.rs else []
/-- What may come: a row of the book. -/
abbrev Rx (s1 s2 : Sd) := { r : Rw // r ∈ s1.rs ++ s2.rs }
def vals {s1 s2 : Sd} (l : List (Rx s1 s2)) : List Rw := l.map Subtype.val
theorem rsOf_mem {s1 s2 : Sd} {side : Int} {r : Rw} (h : r ∈ rsOf s1 s2 side) : r ∈ s1.rs ++ s2.rs := by
  unfold rsOf at h
  split at h
  · exact List.mem_append_left _ h
  · split at h
    · exact List.mem_append_right _ h
    · cases h
theorem Bk.rows {w : World} {b : Option Addr} {m : Option Nat} {s1 s2 : Sd} (h : Bk w b m s1 s2) (side : Int) :
    ∃ A c, rowsOf s1 s2 side = .slice A (rsOf s1 s2 side).length c ∧ RowsAt w A (rsOf s1 s2 side).length (rsOf s1 s2 side) ∧ ∀ g, A = some ⟨g, 0, none⟩ → 0 < (rsOf s1 s2 side).length → foot b m s1 s2 g := by
  unfold rowsOf rsOf
  by_cases e1 : side = 1
  · rw [if_pos e1, if_pos e1]
    obtain ⟨A, c, hv, hR⟩ := own_rows h.r1
    exact ⟨A, c, hv, hR, fun g hg _ => .inr (.inr (.inl (by rw [hv, hg]; rfl)))⟩
  · rw [if_neg e1, if_neg e1]
    by_cases e2 : side = 2
    · rw [if_pos e2, if_pos e2]
      obtain ⟨A, c, hv, hR⟩ := own_rows h.r2
      exact ⟨A, c, hv, hR, fun g hg _ => .inr (.inr (.inr (.inl (by rw [hv, hg]; rfl))))⟩
    · rw [if_neg e2, if_neg e2]
      exact ⟨none, 0, rfl, ⟨rfl, .inl rfl⟩, fun g hg _ => by cases hg⟩
theorem fr_low {n₀ : Nat} {w w' : World} (h : Below n₀ w w') : Fr (n₀ ≤ ·) w w' := ⟨h.os, h.tape, h.output, h.size, fun k _ hn => h.block k (by omega)⟩
def Rw.val (r : Rw) : Value := .agg #[.int .i64 r.pr, r.v]

/-- What the iterator reads, as it lies; none of its blocks is of S. -/
structure OvM (S : Nat → Prop) (w : World) (sb bb g : Nat) (sides : List Int) (b : Option Addr) (m : Option Nat) (s1 s2 : Sd) : Prop where
  c1 : w.cell? ⟨sb, 0, none⟩ = some (.slice (some ⟨g, 0, none⟩) sides.length sides.length)
  l1 : ¬ S sb
  c2 : w.cell? ⟨bb, 0, none⟩ = some (.pointer b)
  l2 : ¬ S bb
  cs : ∀ k, k < sides.length → w.cell? ⟨g, k, none⟩ = some (.int .i64 (sides[k]!)) ∧ (Lit.int .i64 (sides[k]!)).wf = true
  lg : ¬ S g
  bk : Bk w b m s1 s2
  lb : ∀ k, foot b m s1 s2 k → ¬ S k
theorem cell_keep {S : Nat → Prop} {w w' : World} (hf : Fr S w w') {b o : Nat} {v : Value} (hn : ¬ S b) (h : w.cell? ⟨b, o, none⟩ = some v) : w'.cell? ⟨b, o, none⟩ = some v :=
  (cell_fr hf (World.block_lt_of_cell? w ⟨b, o, none⟩ h) hn o).trans h
theorem OvM.keep {S : Nat → Prop} {w w' : World} {sb bb g : Nat} {sides : List Int} {b : Option Addr} {m : Option Nat} {s1 s2 : Sd} (h : OvM S w sb bb g sides b m s1 s2) (hf : Fr S w w') : OvM S w' sb bb g sides b m s1 s2 :=
  ⟨cell_keep hf h.l1 h.c1, h.l1, cell_keep hf h.l2 h.c2, h.l2, fun k hk => ⟨cell_keep hf h.lg (h.cs k hk).1, (h.cs k hk).2⟩, h.lg, h.bk.fr hf h.lb, h.lb⟩
theorem Fr.t {S : Nat → Prop} {a b c : World} (h : Fr S a b) (k : Fr S b c) : Fr S a c := h.trans k (fun _ h => .inl h)
theorem subs_snoc {s1 s2 : Sd} {pre : List (Rx s1 s2)} {X Y : List Rw} {j : Nat} {r : Rw} (hr : r ∈ s1.rs ++ s2.rs) (h : vals pre = X ++ Y.take j) (hj : j < Y.length) (e : Y[j]! = r) : vals (pre ++ [⟨r, hr⟩]) = X ++ Y.take (j + 1) := by
  unfold vals at h ⊢
  rw [List.map_append, h, List.take_succ_eq_append_getElem hj, List.append_assoc]
  rw [getElem!_pos Y j hj] at e
  rw [e]
  rfl
theorem vals_len {s1 s2 : Sd} (l : List (Rx s1 s2)) : (vals l).length = l.length := List.length_map _
theorem sides_pre (s1 s2 : Sd) (sides : List Int) (k : Nat) : (sides.take k).flatMap (rsOf s1 s2) <+: sides.flatMap (rsOf s1 s2) := by
  conv => rhs; rw [← List.take_append_drop k sides, List.flatMap_append]
  exact List.prefix_append _ _
theorem sides_snoc (s1 s2 : Sd) (sides : List Int) (k : Nat) (hk : k < sides.length) : (sides.take (k + 1)).flatMap (rsOf s1 s2) = (sides.take k).flatMap (rsOf s1 s2) ++ rsOf s1 s2 (sides[k]!) := by
  rw [List.take_succ_eq_append_getElem hk, List.flatMap_append, getElem!_pos sides k hk]
  simp

set_option maxRecDepth 100000 in
set_option maxHeartbeats 4000000 in
theorem over1_in (n : Nat) (hn : 1 ≤ n) (ll : Nat) (S : Nat → Prop) (sb bb g : Nat) (sides : List Int) (b : Option Addr) (m : Option Nat) (s1 s2 : Sd) (hL : sides.length ≤ 1000) (hR1 : s1.rs.length ≤ 1000) (hR2 : s2.rs.length ≤ 1000) (J Jx : List (Rx s1 s2) → World → Prop)
    (W : World) (N : Nat) (hN : (sides.flatMap (rsOf s1 s2)).length ≤ N) (hJ : AbidesFrom W.heap.size J)
    (hY : ∀ pre x W1, J pre W1 → pre.length < N → YieldAt Fence.wide (n - 1) Tryz.prog ll #[Rw.val x.1] W1 fun e W' =>
      (e = .returned (.bool true) ∧ J (pre ++ [x]) W' ∧ Fr S W1 W') ∨ (e = .returned (.bool false) ∧ Jx (pre ++ [x]) W'))
    (hM : OvM S W sb bb g sides b m s1 s2) (h0 : J [] W) :
    CallsIn Fence.wide n Tryz.prog 187 #[.func (.yield ll) #[] #[], .pointer (some ⟨sb, 0, none⟩), .pointer (some ⟨bb, 0, none⟩)] W fun e W' => (∃ v, e = .returned v) ∧
      ((∃ ys : List (Rx s1 s2), vals ys = sides.flatMap (rsOf s1 s2) ∧ J ys W') ∨ (∃ pre : List (Rx s1 s2), vals pre <+: sides.flatMap (rsOf s1 s2) ∧ Jx pre W')) := by
  have HGr : Hid (∀ pre W1 W2, J pre W1 → Below W1.heap.size W1 W2 → J pre W2) := fun pre W1 W2 h hb =>
    hJ pre W1 W2 none h ⟨hb.os, hb.tape, hb.output, hb.size, fun i hi _ => hb.block i hi⟩ (fun r e => by cases e)
  have HY := Lib.hid hY
  have H0 := Lib.hid h0
  have HM := Lib.hid hM
  have HN := Lib.hid (And.intro hN (And.intro hL (And.intro hR1 hR2)))
  have c1 := hM.c1
  clear hY h0 hM hJ hN hL hR1 hR2
  refine callsIn_of_wp Tryz.func187 rfl trivial ?_ rfl
  simp only [Tryz.ntmps187, List.size_toArray, List.length_cons, List.length_nil, Nat.reduceAdd, Nat.reduceSub, Array.replicate_succ, Array.replicate_zero, List.push_toArray, List.append_toArray, List.nil_append, List.cons_append]
  gi_wp2_with fail
  gi_loopw [10] (fun s wr => ∃ (k : Nat) (pre : List (Rx s1 s2)), s = .int .i64 (k : Int) ∧ Hid (k ≤ sides.length ∧ vals pre = (sides.take k).flatMap (rsOf s1 s2) ∧ J pre wr ∧ OvM S wr sb bb g sides b m s1 s2)) (fun s _ => match s with | .int _ z => sides.length - z.toNat | _ => 0)
  case atStart => exact ⟨0, [], rfl, Nat.zero_le _, rfl, H0.out, HM.out⟩
  case round =>
    clear H0 HM c1
    obtain ⟨k, pre, rfl, hd⟩ := hrel
    by_cases hk : k < sides.length
    · have hO := hd.out.2.2.2
      have ck := (hO.cs k hk).1
      obtain ⟨sd, hsd⟩ : ∃ sd, sides[k]! = sd := ⟨_, rfl⟩
      rw [hsd] at ck
      have c2 := hO.c2
      obtain ⟨A, c, hv, hR, hA⟩ := hO.bk.rows sd
      have HS := Lib.hid ((callsIn_wide (n := n - 1)).2 (side_c b m s1 s2 sd wr (by rw [← hsd]; exact (hO.cs k hk).2) hO.bk))
      rw [hv] at HS
      obtain ⟨rs, hrs⟩ : ∃ rs, rsOf s1 s2 sd = rs := ⟨_, rfl⟩
      rw [hrs] at hR hA HS
      have hkI : (k : Int) < (sides.length : Int) := by omega
      have hln : rs.length ≤ 1000 := by
        rw [← hrs]
        unfold rsOf
        split
        · exact HN.out.2.2.1
        · split
          · exact HN.out.2.2.2
          · exact Nat.zero_le _
      have HA := Lib.hid (And.intro hR.2 hA)
      have HX := Lib.hid (And.intro hsd (And.intro hrs hk))
      clear hO hsd hrs hk hR hA hv
      gi_wp2_with fail
      refine ⟨trivial, ?_⟩
      ((with_reducible refine HS.out.mono ?_); rintro e w1 ⟨rfl, rfl⟩)
      clear HS ck c2
      gi_wp2_with fail
      gi_loopw [18] (fun s wq => ∃ (j : Nat) (pre : List (Rx s1 s2)), s = .int .i64 (j : Int) ∧ Hid (j ≤ rs.length ∧ vals pre = (sides.take k).flatMap (rsOf s1 s2) ++ rs.take j ∧ J pre wq ∧ OvM S wq sb bb g sides b m s1 s2 ∧ Fr S w1 wq)) (fun s _ => match s with | .int _ z => rs.length - z.toNat | _ => 0)
      case atStart => exact ⟨0, pre, rfl, Nat.zero_le _, by rw [hd.out.2.1]; simp, hd.out.2.2.1, hd.out.2.2.2, Fr.refl _ _⟩
      case round =>
        clear hd
        obtain ⟨j, pre', rfl, hd⟩ := hrel
        by_cases hj : j < rs.length
        · have hO := hd.out.2.2.2.1
          have hB := hd.out.2.2.2.2
          obtain ⟨g2, rfl, hg2⟩ : ∃ g2, A = some ⟨g2, 0, none⟩ ∧ w1.cell? ⟨g2, j * 2, none⟩ = some (.int .i64 (rs[j]!).pr) ∧ w1.cell? ⟨g2, j * 2 + 1, none⟩ = some (rs[j]!).v := by
            rcases HA.out.1 with h0 | ⟨g2, h1, _, h3⟩
            · omega
            · exact ⟨g2, h1, h3 j hj⟩
          have hl2 : ¬ S g2 := hO.lb g2 (HA.out.2 g2 rfl (by omega))
          have hmem : rs[j]! ∈ s1.rs ++ s2.rs := by
            rw [getElem!_pos rs j hj]
            exact rsOf_mem (by rw [HX.out.2.1]; exact List.getElem_mem hj)
          have d0 := cell_keep hB hl2 hg2.1
          have d1 := cell_keep hB hl2 hg2.2
          obtain ⟨r, hr⟩ : ∃ r, rs[j]! = r := ⟨_, rfl⟩
          rw [hr] at d0 d1 hmem
          have hpl : pre'.length < N := by
            have e1 : (vals pre').length = pre'.length := vals_len pre'
            rw [hd.out.2.1, List.length_append, List.length_take] at e1
            have e2 := (sides_pre s1 s2 sides (k + 1)).length_le
            rw [sides_snoc s1 s2 sides k HX.out.2.2, List.length_append, HX.out.1, HX.out.2.1] at e2
            have := HN.out.1
            omega
          obtain ⟨pr, hpr⟩ : ∃ pr, r.pr = pr := ⟨_, rfl⟩
          obtain ⟨qa, qc, hqv, _⟩ := own_que (hO.bk.q r hmem)
          obtain ⟨qn, hqn⟩ : ∃ qn, r.q.length = qn := ⟨_, rfl⟩
          rw [hqn] at hqv
          rw [hpr] at d0
          rw [hqv] at d1
          have hJa : J pre' (wr.alloc (.cells #[.int .i64 pr, .slice qa qn qc] 247)) := HGr.out _ _ _ hd.out.2.2.1 ((Below.refl _ _).alloc (Nat.le_refl _) _)
          obtain ⟨fn, tmps, assign, body, hy, hY⟩ := HY.out pre' ⟨r, hmem⟩ (wr.alloc (.cells #[.int .i64 pr, .slice qa qn qc] 247)) hJa hpl
          have HV : Rw.val r = .agg #[.int .i64 pr, .slice qa qn qc] := by unfold Rw.val; rw [hpr, hqv]
          simp only [HV] at hy
          have HYY := Lib.hid hY
          have hjI : (j : Int) < (rs.length : Int) := by omega
          have HF := Lib.hid (And.intro hj (And.intro hr (And.intro hO hB)))
          have HP := Lib.hid hd.out.2.1
          have hw9 : IntKind.i64.wrap ((j : Int) + 1) = ((j + 1 : Nat) : Int) := by rw [IntKind.wrap_i64]; omega
          clear hd hO hB hg2 hl2 hJa hY hpr hqv hj hr HV hpl
          gi_wp2_with fail
          refine HYY.out.mono ?_
          rintro e W3 (⟨rfl, hJ3, hk3⟩ | ⟨rfl, hJx3⟩)
          · have hb : Fr S wr W3 := ((Fr.refl S wr).alloc _).t hk3
            have HJ3 := Lib.hid (And.intro hJ3 hb)
            clear hJ3 hk3 hb HYY hy
            gi_wp2_with fail
            refine ⟨⟨j + 1, pre' ++ [⟨r, hmem⟩], ?_, ?_, subs_snoc hmem HP.out HF.out.1 HF.out.2.1, HJ3.out.1, HF.out.2.2.1.keep HJ3.out.2, HF.out.2.2.2.t HJ3.out.2⟩, ?_⟩
            · simp
            · have := HF.out.1; omega
            · have := HF.out.1
              simp
              omega
          · gi_wp2_with fail
            refine bodyPost_ret (results_none rfl _ _ _) rfl ?_
            refine ⟨⟨_, rfl⟩, .inr ⟨pre' ++ [⟨r, hmem⟩], ?_, hJx3⟩⟩
            rw [subs_snoc hmem HP.out HF.out.1 HF.out.2.1]
            refine List.IsPrefix.trans ?_ (sides_pre s1 s2 sides (k + 1))
            rw [sides_snoc s1 s2 sides k HX.out.2.2, HX.out.1, HX.out.2.1]
            exact List.prefix_append_right_inj _ |>.2 (List.take_prefix _ _)
        · have hjI : ¬ (j : Int) < (rs.length : Int) := by omega
          have HF := Lib.hid (And.intro hj hd.out)
          have hw9 : IntKind.i64.wrap ((k : Int) + 1) = ((k + 1 : Nat) : Int) := by rw [IntKind.wrap_i64]; have := HN.out.2.1; omega
          clear hd hj
          gi_wp2_with fail
          refine ⟨⟨k + 1, pre', ?_, ?_, ?_, HF.out.2.2.2.1, HF.out.2.2.2.2.1⟩, ?_⟩
          · simp
          · have := HX.out.2.2; omega
          · rw [sides_snoc s1 s2 sides k HX.out.2.2, HX.out.1, HX.out.2.1, HF.out.2.2.1, (List.take_of_length_le (by have := HF.out.1; omega) : rs.take j = rs)]
          · have := HX.out.2.2
            simp
            omega
    · have hkI : ¬ (k : Int) < (sides.length : Int) := by omega
      gi_wp2_with fail
      go_end0
      refine ⟨⟨_, rfl⟩, .inl ⟨pre, ?_, hd.out.2.2.1⟩⟩
      rw [hd.out.2.1, List.take_of_length_le (by omega)]
theorem over_c (b : Option Addr) (A : Option Addr) (n c : Nat) (w : World) :
    Calls Tryz.prog 179 #[.pointer b, .slice A n c] w fun e w' => e = .returned (.func (.func 187) #[] #[.pointer (some ⟨w.heap.size + 1, 0, none⟩), .pointer (some ⟨w.heap.size, 0, none⟩)]) ∧ w' = (w.alloc (.cells #[.pointer b] 102)).alloc (.cells #[.slice A n c] 216) := by
  have hmf := hmf_any
  go_enter Tryz.func179, Tryz.ntmps179
  go_wp2_with fail
  go_ret
  exact ⟨rfl, rfl⟩
theorem over_stops (n : Nat) (hn : 1 ≤ n) (S : Nat → Prop) (sb bb g : Nat) (sides : List Int) (b : Option Addr) (m : Option Nat) (s1 s2 : Sd) (hL : sides.length ≤ 1000) (hR1 : s1.rs.length ≤ 1000) (hR2 : s2.rs.length ≤ 1000) (w : World) (N : Nat) (hN : (sides.flatMap (rsOf s1 s2)).length ≤ N)
    (hM : OvM S w sb bb g sides b m s1 s2) :
    SeqStopsK Fence.wide n Tryz.prog 187 #[.pointer (some ⟨sb, 0, none⟩), .pointer (some ⟨bb, 0, none⟩)] (fun x : Rx s1 s2 => #[Rw.val x.1]) (Fr S) (fun ys => vals ys = sides.flatMap (rsOf s1 s2)) (fun pre => vals pre <+: sides.flatMap (rsOf s1 s2)) N w := fun ll J Jx W hW hJ _ hY h0 =>
  over1_in n hn ll S sb bb g sides b m s1 s2 hL hR1 hR2 J Jx W N hN hJ hY (hM.keep ((Fr.of_below hW).mono (fun _ h => .inl h))) h0
end Go.Proofs.YtgbmgdffgmablaaGreat

namespace Go.Proofs.YtgbmgdffgmablaaGreat
open Go.RowKit Go.Shelf Go.Sort

attribute [local go_sem] Oper.semAt_some

/-- A block of cells alone. -/
def Cl (T : TypeId) (W : World) (c : Nat) (cs : Array Value) : Prop := W.heap[c]? = some (.cells cs T (0, 0))
theorem Cl.own {T : TypeId} {c : Nat} {cs : Array Value} {X Y : World} {row : Option Nat} (h : Cl T X c cs) (hg : X.grownBy Y row) (hr : ∀ r, row = some r → ∃ o : Obj, X.heap[r]? = some o ∧ o.isCells = false) : Cl T Y c cs :=
  (hg.block c (blk_lt h) (fun e => by obtain ⟨o, ho, hc⟩ := hr c e.symm; rw [show X.heap[c]? = _ from h] at ho; cases ho; cases hc)).trans h
theorem Cl.c {T : TypeId} {c : Nat} {cs : Array Value} {X : World} (h : Cl T X c cs) (k : Nat) : X.cell? ⟨c, k, none⟩ = cs[k]? := cell_of_row _ _ _ _ _ _ h
theorem Cl.f {T : TypeId} {c k : Nat} {cs : Array Value} {X : World} (h : Cl T X c cs) : X.frozen? ⟨c, k, none⟩ = false := frozen_of_row _ _ _ _ _ h
theorem wrap_more (a b : Nat) : wrap64 (wrap64 (a : Int) + (b : Int)) = IntKind.i64.wrap ((a + b : Nat) : Int) := by simp only [IntKind.wrap_i64, wrap64]; omega
theorem wrap_fit {a : Nat} (h : a ≤ 1000000) : IntKind.i64.wrap (a : Int) = (a : Int) := by rw [IntKind.wrap_i64]; omega
/-- What comes of the rows: how many orders. -/
def lenQ (R : List Rw) : Nat := (R.map (fun r => r.q.length)).sum
theorem lenQ_flat (R : List Rw) : lenQ R = (flatR R).length := by
  unfold lenQ flatR
  rw [List.length_flatMap]
theorem lenQ_snoc {s1 s2 : Sd} (pre : List (Rx s1 s2)) (x : Rx s1 s2) : lenQ (vals (pre ++ [x])) = lenQ (vals pre) + x.1.q.length := by
  unfold lenQ vals
  simp
theorem two_sides (s1 s2 : Sd) : [1, 2].flatMap (rsOf s1 s2) = s1.rs ++ s2.rs := by
  show rsOf s1 s2 1 ++ (rsOf s1 s2 2 ++ []) = _
  rw [List.append_nil]
  rfl
theorem lenQ_pre {s1 s2 : Sd} {x : Rx s1 s2} : x.1.q.length ≤ lenQ (s1.rs ++ s2.rs) := by
  have h : ∀ (l : List Rw), x.1 ∈ l → x.1.q.length ≤ lenQ l := by
    intro l
    induction l with
    | nil => intro h; cases h
    | cons y l ih =>
      intro h
      unfold lenQ at ih ⊢
      rw [List.map_cons, List.sum_cons]
      rcases List.mem_cons.1 h with h | h
      · rw [h]; omega
      · have := ih h; omega
  exact h _ x.2
theorem ov_two (S : Nat → Prop) (W1 : World) (b : Option Addr) (m : Option Nat) (s1 s2 : Sd) (H : Bk W1 b m s1 s2) (hf : ∀ k, foot b m s1 s2 k → ¬ S k) (h0 : ¬ S W1.heap.size) (h1 : ¬ S (W1.heap.size + 1)) (h2 : ¬ S (W1.heap.size + 2)) :
    OvM S (((W1.alloc (.cells #[.int .i64 1, .int .i64 2] 3)).alloc (.cells #[.pointer b] 102)).alloc (.cells #[.slice (some ⟨W1.heap.size, 0, none⟩) 2 2] 216)) (W1.heap.size + 2) (W1.heap.size + 1) W1.heap.size [1, 2] b m s1 s2 := by
  have e0 : (((W1.alloc (.cells #[.int .i64 1, .int .i64 2] 3)).alloc (.cells #[.pointer b] 102)).alloc (.cells #[.slice (some ⟨W1.heap.size, 0, none⟩) 2 2] 216)).heap[W1.heap.size]? = some (.cells #[.int .i64 1, .int .i64 2] 3) := hd_prev (by simp; omega) (hd_prev (by simp) (hd_last rfl))
  have e1 : (((W1.alloc (.cells #[.int .i64 1, .int .i64 2] 3)).alloc (.cells #[.pointer b] 102)).alloc (.cells #[.slice (some ⟨W1.heap.size, 0, none⟩) 2 2] 216)).heap[W1.heap.size + 1]? = some (.cells #[.pointer b] 102) := hd_prev (by simp) (hd_last (by simp))
  have e2 : (((W1.alloc (.cells #[.int .i64 1, .int .i64 2] 3)).alloc (.cells #[.pointer b] 102)).alloc (.cells #[.slice (some ⟨W1.heap.size, 0, none⟩) 2 2] 216)).heap[W1.heap.size + 2]? = some (.cells #[.slice (some ⟨W1.heap.size, 0, none⟩) 2 2] 216) := hd_last (by simp)
  refine ⟨by rw [cell_of_row _ _ _ _ _ _ e2]; rfl, h2, by rw [cell_of_row _ _ _ _ _ _ e1]; rfl, h1, fun k hk => ?_, h0, ?_, hf⟩
  · have hk' : k = 0 ∨ k = 1 := by simp at hk; omega
    rcases hk' with rfl | rfl
    · exact ⟨by rw [cell_of_row _ _ _ _ _ _ e0]; rfl, by decide⟩
    · exact ⟨by rw [cell_of_row _ _ _ _ _ _ e0]; rfl, by decide⟩
  · exact H.below ((((Below.refl _ _).alloc (Nat.le_refl _) _).alloc (by simp) _).alloc (by simp; omega) _)
theorem fr_b {S : Nat → Prop} (W : World) (l : Nat) (o o' : Obj) (hl : S l) (_ : W.heap[l]? = some o) : Fr S W (W.putObj l o') :=
  (Fr.refl S W).grown (grownBy_putObj' W l o') (fun j e => by cases e; exact .inl hl)

/-- A loop over rows: the loop's variable lies in a box. -/
def AxR (n : Nat) (tm : Array Value) (k1 k2 : Nat) {s1 s2 : Sd} (x : Rx s1 s2) (a' : Act) (W : World) : Prop :=
  ∃ B A c, n ≤ B ∧ Cl 247 W B #[.int .i64 x.1.pr, .slice A x.1.q.length c] ∧ x.1.v = .slice A x.1.q.length c ∧ a' = { tmps := (tm.setIfInBounds k1 (.pointer (some ⟨B, 0, none⟩))).setIfInBounds k2 (Rw.val x.1), defers := [] }
set_option maxHeartbeats 4000000 in
set_option maxRecDepth 100000 in
theorem lLen_c (b : Option Addr) (m : Option Nat) (s1 s2 : Sd) (w : World) (H : Bk w b m s1 s2) (hR1 : s1.rs.length ≤ 1000) (hR2 : s2.rs.length ≤ 1000) (hQ : lenQ (s1.rs ++ s2.rs) ≤ 1000) :
    Calls Tryz.prog 173 #[.pointer b] w fun e w' => e = .returned (.int .i64 (lenQ (s1.rs ++ s2.rs) : Nat)) ∧ Hid (Below w.heap.size w w') := by
  refine (callsIn_wide (n := 5)).1 ?_
  refine callsIn_of_wp_marks Tryz.func173 rfl trivial ?_ rfl
  simp only [Tryz.ntmps173, List.size_toArray, List.length_cons, List.length_nil, Nat.reduceAdd, Nat.reduceSub, Array.replicate_succ, Array.replicate_zero, List.push_toArray, List.append_toArray, List.nil_append, List.cons_append]
  gi_wp2_with (refine ⟨trivial, ?_⟩; refine ((callsIn_wide (n := 5 - 1)).2 (over_c _ _ _ _ _)).mono ?_; rintro e w' ⟨rfl, rfl⟩)
  have e1 : w.heap.size + 1 + 1 + 1 = w.heap.size + 3 := rfl
  obtain ⟨W1, hW1⟩ : ∃ W1, w.alloc (.cells #[.int .i64 0] 3) = W1 := ⟨_, rfl⟩
  have hz1 : W1.heap.size = w.heap.size + 1 := by rw [← hW1]; simp
  have hB1 : Below w.heap.size w W1 := by rw [← hW1]; exact (Below.refl _ _).alloc (Nat.le_refl _) _
  have hM := ov_two (fun k => k = w.heap.size ∨ w.heap.size + 4 ≤ k) W1 b m s1 s2 (H.below hB1) (fun k hk hS => by have := H.lt hk; omega) (by omega) (by omega) (by omega)
  obtain ⟨W0, hW0⟩ : ∃ W0, (((W1.alloc (.cells #[.int .i64 1, .int .i64 2] 3)).alloc (.cells #[.pointer b] 102)).alloc (.cells #[.slice (some ⟨W1.heap.size, 0, none⟩) 2 2] 216)) = W0 := ⟨_, rfl⟩
  have hc0 : Cl 3 W0 w.heap.size #[.int .i64 0] := by
    rw [← hW0, ← hW1]
    exact hd_prev (by simp; omega) (hd_prev (by simp; omega) (hd_prev (by simp) (hd_last rfl)))
  have hB0 : Below w.heap.size w W0 := by rw [← hW0, ← hW1]; exact ((((Below.refl _ _).alloc (Nat.le_refl _) _).alloc (by simp) _).alloc (by simp; omega) _).alloc (by simp; omega) _
  have hsz : W0.heap.size = w.heap.size + 4 := by rw [← hW0]; simp; omega
  rw [hW0] at hM
  rw [hz1] at hM hW0
  have hWW : (((w.alloc (.cells #[.int .i64 0] 3)).alloc (.cells #[.int .i64 1, .int .i64 2] 3)).alloc (.cells #[.pointer b] 102)).alloc (.cells #[.slice (some ⟨w.heap.size + 1, 0, none⟩) 2 2] 216) = W0 := by rw [hW1]; exact hW0
  rw [hWW]
  clear hWW hW0 hW1 hz1 hB1
  refine wpIn_rangeFunc_ownH rfl (by omega) (gf := 187) (lb := #[.pointer (some ⟨w.heap.size + 3, 0, none⟩), .pointer (some ⟨w.heap.size + 2, 0, none⟩)]) rfl trivial (enters_of Tryz.func187 (by kernel_rfl) rfl)
    (over_stops (5 - 1) (by omega) (fun k => k = w.heap.size ∨ w.heap.size + 4 ≤ k) (w.heap.size + 3) (w.heap.size + 2) (w.heap.size + 1) [1, 2] b m s1 s2 (by simp) hR1 hR2 W0 (s1.rs ++ s2.rs).length (by rw [two_sides]; exact Nat.le_refl _) hM) Fr.t (fun W l o o' hl ho _ _ => fr_b W l o o' (.inr (by omega)) ho) (Below.refl _ _) (fun _ => rfl)
    (fun pre W => Cl 3 W w.heap.size #[.int .i64 (IntKind.i64.wrap (lenQ (vals pre) : Nat))] ∧ Below w.heap.size w W)
    (fun _ _ _ => False)
    (OwnFrom.and (Own.from (fun s A B row hs hg hr => hs.own hg hr) _) (ownFrom_below (Nat.le_refl _) (by omega)))
    (fun _ _ _ _ _ hs _ _ => hs)
    ⟨hc0, hB0⟩
    (AxR (w.heap.size + 1) #[.pointer b, undef, .int .i64 0, .pointer (some ⟨w.heap.size, 0, none⟩), undef, .pointer b, .slice (some ⟨w.heap.size + 1, 0, none⟩) 2 2, .func (.func 187) #[] #[.pointer (some ⟨w.heap.size + 3, 0, none⟩), .pointer (some ⟨w.heap.size + 2, 0, none⟩)], undef, undef, undef, undef, undef, undef, undef] 4 8)
    (fun x a' _ X Y row hs hg hr => by obtain ⟨B, A, c, h1, h2, h3⟩ := hs; exact ⟨B, A, c, h1, h2.own hg (fun r e => (hr r e).2), h3⟩)
    ?assign ?body ?done ?stop
  case assign =>
    rintro l0 pre x W K ⟨hc, hB⟩ hK
    obtain ⟨A, c, hv, _⟩ := own_que (H.q x.1 x.2)
    have hval : Rw.val x.1 = .agg #[.int .i64 x.1.pr, .slice A x.1.q.length c] := by unfold Rw.val; rw [hv]
    unfold AxR at hK
    simp only [hval] at hK ⊢
    have hlt := hB.size
    have hsz' := hc
    gi_wp2
    refine hK _ _ ((KeepsOthers.alloc _ _).from _) ((Fr.refl _ W).alloc _) ⟨hd_prev (blk_lt hc) hc, hB.alloc hB.size _⟩ ⟨W.heap.size, A, c, ?_, hd_last rfl, hv, rfl⟩
    have := blk_lt hc
    omega
  case body =>
    rintro l0 pre x a' W hl ⟨r, hr⟩ ⟨hc, hB⟩ ⟨Bx, A, c, hBx, bX, hv, rfl⟩ hlt
    have p0 : W.cell? ⟨w.heap.size, 0, none⟩ = some (.int .i64 (IntKind.i64.wrap (lenQ (vals pre) : Nat))) := (hc.c 0).trans rfl
    have p1 : W.cell? ⟨Bx, 1, none⟩ = some (.slice A x.1.q.length c) := (bX.c 1).trans rfl
    have f0 := hc.f (k := 0)
    have hval : Rw.val x.1 = .agg #[.int .i64 x.1.pr, .slice A x.1.q.length c] := by unfold Rw.val; rw [hv]
    simp only [hval]
    gi_wp2
    refine ⟨(KeepsOthers.setCell _ _ _).from _, (Fr.refl _ W).set (.inl (.inl rfl)) _, ?_, hB.setCell (p := ⟨w.heap.size, 0, none⟩) (Nat.le_refl _) _⟩
    show (W.setCell _ _).heap[_]? = _
    rw [heap_set hc, lenQ_snoc]
    simp only [Array.setIfInBounds, List.size_toArray, List.length_cons, List.length_nil, Nat.zero_add, Nat.lt_add_one, dif_pos]
    rw [wrap_more]
    rfl
  case done =>
    rintro D ys W hD hys ⟨hc, hB⟩ hK
    have e2 : lenQ (vals ys) = lenQ (s1.rs ++ s2.rs) := by rw [hys, two_sides]
    rw [e2] at hc
    have e3 := wrap_fit (Nat.le_trans hQ (by decide : 1000 ≤ 1000000))
    rw [e3] at hc
    have p0 : W.cell? ⟨w.heap.size, 0, none⟩ = some (.int .i64 (lenQ (s1.rs ++ s2.rs) : Nat)) := (hc.c 0).trans rfl
    clear hys e2 e3 hc hM hc0
    gi_wp2_with fail
    refine ⟨by simp, .inl ⟨_, _, rfl, run_takeDeferred hK, ?_⟩⟩
    exact ⟨_, results_tmp rfl _ _ _, rfl, Lib.hid (hB.trans (belowK_b (w := w) (Nat.le_refl _) W D _ _ (by omega) hK rfl rfl))⟩
  case stop =>
    rintro D c pre W _ _ h _
    exact h.elim
end Go.Proofs.YtgbmgdffgmablaaGreat

namespace Go.Proofs.YtgbmgdffgmablaaGreat
open Go.RowKit

/-- Good orders. -/
def goodO (x : Od) : Bool := decide (0 ≤ x.acc) && (decide (x.acc < 8) && ((rkN x.side != 2) && (decide (1 ≤ x.price) && (decide (x.price ≤ 1099511627776) && (decide (1 ≤ x.qty) && decide (x.qty ≤ 1099511627776))))))
set_option maxHeartbeats 4000000 in
set_option maxRecDepth 100000 in
theorem good_w0 (x : Od) (w : World) (h0 : ¬ (0 ≤ x.acc)) : Calls Tryz.prog 65 #[.agg #[.int .u64 x.id, .int .i64 x.acc, .int .i64 x.side, .int .i64 x.price, .int .i64 x.qty, .int .u64 x.seq]] w fun e w' => e = .returned (.bool false) ∧ Gw w w' := by
  have HK := Lib.hid rank_c
  have g : decide (0 ≤ x.acc) = false := decide_eq_false h0
  go_enter Tryz.func65, Tryz.ntmps65
  go_wp2_with ((with_reducible refine (HK.out _ _).mono ?_); rintro e w' ⟨rfl, rfl⟩)
  go_ret
  exact ⟨rfl, (Gw.refl w).alloc _⟩
set_option maxHeartbeats 4000000 in
set_option maxRecDepth 100000 in
theorem good_w1 (x : Od) (w : World) (h0 : (0 ≤ x.acc)) (h1 : ¬ (x.acc < 8)) : Calls Tryz.prog 65 #[.agg #[.int .u64 x.id, .int .i64 x.acc, .int .i64 x.side, .int .i64 x.price, .int .i64 x.qty, .int .u64 x.seq]] w fun e w' => e = .returned (.bool false) ∧ Gw w w' := by
  have HK := Lib.hid rank_c
  have g : decide (x.acc < 8) = false := decide_eq_false h1
  go_enter Tryz.func65, Tryz.ntmps65
  go_wp2_with ((with_reducible refine (HK.out _ _).mono ?_); rintro e w' ⟨rfl, rfl⟩)
  go_ret
  exact ⟨rfl, (Gw.refl w).alloc _⟩
set_option maxHeartbeats 4000000 in
set_option maxRecDepth 100000 in
theorem good_w2 (x : Od) (w : World) (h0 : (0 ≤ x.acc)) (h1 : (x.acc < 8)) (h2 : (rkN x.side != 2) = false) : Calls Tryz.prog 65 #[.agg #[.int .u64 x.id, .int .i64 x.acc, .int .i64 x.side, .int .i64 x.price, .int .i64 x.qty, .int .u64 x.seq]] w fun e w' => e = .returned (.bool false) ∧ Gw w w' := by
  have HK := Lib.hid rank_c
  go_enter Tryz.func65, Tryz.ntmps65
  go_wp2_with ((with_reducible refine (HK.out _ _).mono ?_); rintro e w' ⟨rfl, rfl⟩)
  go_ret
  exact ⟨rfl, (Gw.refl w).alloc _⟩
set_option maxHeartbeats 4000000 in
set_option maxRecDepth 100000 in
theorem good_w3 (x : Od) (w : World) (h0 : (0 ≤ x.acc)) (h1 : (x.acc < 8)) (h2 : (rkN x.side != 2) = true) (h3 : ¬ (1 ≤ x.price)) : Calls Tryz.prog 65 #[.agg #[.int .u64 x.id, .int .i64 x.acc, .int .i64 x.side, .int .i64 x.price, .int .i64 x.qty, .int .u64 x.seq]] w fun e w' => e = .returned (.bool false) ∧ Gw w w' := by
  have HK := Lib.hid rank_c
  have g : decide (1 ≤ x.price) = false := decide_eq_false h3
  go_enter Tryz.func65, Tryz.ntmps65
  go_wp2_with ((with_reducible refine (HK.out _ _).mono ?_); rintro e w' ⟨rfl, rfl⟩)
  go_ret
  exact ⟨rfl, (Gw.refl w).alloc _⟩
set_option maxHeartbeats 4000000 in
set_option maxRecDepth 100000 in
theorem good_w4 (x : Od) (w : World) (h0 : (0 ≤ x.acc)) (h1 : (x.acc < 8)) (h2 : (rkN x.side != 2) = true) (h3 : (1 ≤ x.price)) (h4 : ¬ (x.price ≤ 1099511627776)) : Calls Tryz.prog 65 #[.agg #[.int .u64 x.id, .int .i64 x.acc, .int .i64 x.side, .int .i64 x.price, .int .i64 x.qty, .int .u64 x.seq]] w fun e w' => e = .returned (.bool false) ∧ Gw w w' := by
  have HK := Lib.hid rank_c
  have g : decide (x.price ≤ 1099511627776) = false := decide_eq_false h4
  go_enter Tryz.func65, Tryz.ntmps65
  go_wp2_with ((with_reducible refine (HK.out _ _).mono ?_); rintro e w' ⟨rfl, rfl⟩)
  go_ret
  exact ⟨rfl, (Gw.refl w).alloc _⟩
set_option maxHeartbeats 4000000 in
set_option maxRecDepth 100000 in
theorem good_w5 (x : Od) (w : World) (h0 : (0 ≤ x.acc)) (h1 : (x.acc < 8)) (h2 : (rkN x.side != 2) = true) (h3 : (1 ≤ x.price)) (h4 : (x.price ≤ 1099511627776)) (h5 : ¬ (1 ≤ x.qty)) : Calls Tryz.prog 65 #[.agg #[.int .u64 x.id, .int .i64 x.acc, .int .i64 x.side, .int .i64 x.price, .int .i64 x.qty, .int .u64 x.seq]] w fun e w' => e = .returned (.bool false) ∧ Gw w w' := by
  have HK := Lib.hid rank_c
  have g : decide (1 ≤ x.qty) = false := decide_eq_false h5
  go_enter Tryz.func65, Tryz.ntmps65
  go_wp2_with ((with_reducible refine (HK.out _ _).mono ?_); rintro e w' ⟨rfl, rfl⟩)
  go_ret
  exact ⟨rfl, (Gw.refl w).alloc _⟩
set_option maxHeartbeats 4000000 in
set_option maxRecDepth 100000 in
theorem good_w6 (x : Od) (w : World) (h0 : (0 ≤ x.acc)) (h1 : (x.acc < 8)) (h2 : (rkN x.side != 2) = true) (h3 : (1 ≤ x.price)) (h4 : (x.price ≤ 1099511627776)) (h5 : (1 ≤ x.qty)) (h6 : ¬ (x.qty ≤ 1099511627776)) : Calls Tryz.prog 65 #[.agg #[.int .u64 x.id, .int .i64 x.acc, .int .i64 x.side, .int .i64 x.price, .int .i64 x.qty, .int .u64 x.seq]] w fun e w' => e = .returned (.bool false) ∧ Gw w w' := by
  have HK := Lib.hid rank_c
  have g : decide (x.qty ≤ 1099511627776) = false := decide_eq_false h6
  go_enter Tryz.func65, Tryz.ntmps65
  go_wp2_with ((with_reducible refine (HK.out _ _).mono ?_); rintro e w' ⟨rfl, rfl⟩)
  go_ret
  exact ⟨rfl, (Gw.refl w).alloc _⟩
set_option maxHeartbeats 4000000 in
set_option maxRecDepth 100000 in
theorem good_w7 (x : Od) (w : World) (h0 : (0 ≤ x.acc)) (h1 : (x.acc < 8)) (h2 : (rkN x.side != 2) = true) (h3 : (1 ≤ x.price)) (h4 : (x.price ≤ 1099511627776)) (h5 : (1 ≤ x.qty)) (h6 : (x.qty ≤ 1099511627776)) : Calls Tryz.prog 65 #[.agg #[.int .u64 x.id, .int .i64 x.acc, .int .i64 x.side, .int .i64 x.price, .int .i64 x.qty, .int .u64 x.seq]] w fun e w' => e = .returned (.bool true) ∧ Gw w w' := by
  have HK := Lib.hid rank_c
  go_enter Tryz.func65, Tryz.ntmps65
  go_wp2_with ((with_reducible refine (HK.out _ _).mono ?_); rintro e w' ⟨rfl, rfl⟩)
  go_ret
  exact ⟨rfl, (Gw.refl w).alloc _⟩
theorem good_c (x : Od) (w : World) : Calls Tryz.prog 65 #[x.val] w fun e w' => e = .returned (.bool (goodO x)) ∧ Gw w w' := by
  unfold goodO
  by_cases h0 : 0 ≤ x.acc
  rotate_left
  · rw [decide_eq_false h0]; simp only [Bool.false_and]; exact good_w0 x w h0
  rw [decide_eq_true h0]
  rw [Bool.true_and]
  by_cases h1 : x.acc < 8
  rotate_left
  · rw [decide_eq_false h1]; simp only [Bool.false_and]; exact good_w1 x w h0 h1
  rw [decide_eq_true h1]
  rw [Bool.true_and]
  cases h2 : (rkN x.side != 2) with
  | false => simp only [Bool.false_and]; exact good_w2 x w h0 h1 h2
  | true =>
    rw [Bool.true_and]
    by_cases h3 : 1 ≤ x.price
    rotate_left
    · rw [decide_eq_false h3]; simp only [Bool.false_and]; exact good_w3 x w h0 h1 h2 h3
    rw [decide_eq_true h3]
    rw [Bool.true_and]
    by_cases h4 : x.price ≤ 1099511627776
    rotate_left
    · rw [decide_eq_false h4]; simp only [Bool.false_and]; exact good_w4 x w h0 h1 h2 h3 h4
    rw [decide_eq_true h4]
    rw [Bool.true_and]
    by_cases h5 : 1 ≤ x.qty
    rotate_left
    · rw [decide_eq_false h5]; simp only [Bool.false_and]; exact good_w5 x w h0 h1 h2 h3 h4 h5
    rw [decide_eq_true h5]
    rw [Bool.true_and]
    by_cases h6 : x.qty ≤ 1099511627776
    rotate_left
    · rw [decide_eq_false h6]; exact good_w6 x w h0 h1 h2 h3 h4 h5 h6
    rw [decide_eq_true h6]
    exact good_w7 x w h0 h1 h2 h3 h4 h5 h6

theorem eqf {P : Program} (w : World) (d : Nat) (xs ys : Array Value) (fs : List Field) (hn : ∀ f ∈ fs, f.name ≠ "_") (E : Field → Bool)
    (h : ∀ f ∈ fs, ∃ a b, (part f.type xs f.offset).run P w = .ok a w ∧ (part f.type ys f.offset).run P w = .ok b w ∧ (Op.equalIn d f.type a b).run P w = .ok (E f) w) :
    (Op.eqFields d xs ys fs).run P w = .ok (fs.all E) w := by
  induction fs with
  | nil => simp [Op.eqFields]
  | cons f fs ih =>
    obtain ⟨a, b, h1, h2, h3⟩ := h f List.mem_cons_self
    have ih' := ih (fun g hg => hn g (List.mem_cons_of_mem _ hg)) (fun g hg => h g (List.mem_cons_of_mem _ hg))
    simp only [Op.eqFields]
    rw [if_pos (hn f List.mem_cons_self)]
    simp only [Sem.run_bind, h1, h2, h3, Result.andThen_ok, Sem.run_ite, List.all_cons]
    cases hE : E f
    · simp
    · simpa using ih'
def fld (x : Od) : Nat → Int
  | 0 => x.id | 1 => x.acc | 2 => x.side | 3 => x.price | 4 => x.qty | _ => x.seq
def eqO (x y : Od) : Bool := [0, 1, 2, 3, 4, 5].all fun i => fld x i == fld y i
theorem eqO_iff (x y : Od) : eqO x y = true ↔ x = y := by
  unfold eqO
  simp only [List.all_cons, List.all_nil, Bool.and_true, Bool.and_eq_true, beq_iff_eq, fld]
  constructor
  · rintro ⟨h0, h1, h2, h3, h4, h5⟩
    cases x; cases y; simp only at *; subst h0 h1 h2 h3 h4 h5; rfl
  · rintro rfl; simp
abbrev OC (x : Od) : Array Value := #[.int .u64 x.id, .int .i64 x.acc, .int .i64 x.side, .int .i64 x.price, .int .i64 x.qty, .int .u64 x.seq]
theorem ptP0 (x : Od) (w : World) : (part 35 (OC x) 0).run Tryz.prog w = .ok (.int .u64 (fld x 0)) w := by kernel_rfl
theorem ptP1 (x : Od) (w : World) : (part 3 (OC x) 1).run Tryz.prog w = .ok (.int .i64 (fld x 1)) w := by kernel_rfl
theorem ptP2 (x : Od) (w : World) : (part 3 (OC x) 2).run Tryz.prog w = .ok (.int .i64 (fld x 2)) w := by kernel_rfl
theorem ptP3 (x : Od) (w : World) : (part 2 (OC x) 3).run Tryz.prog w = .ok (.int .i64 (fld x 3)) w := by kernel_rfl
theorem ptP4 (x : Od) (w : World) : (part 2 (OC x) 4).run Tryz.prog w = .ok (.int .i64 (fld x 4)) w := by kernel_rfl
theorem ptP5 (x : Od) (w : World) : (part 35 (OC x) 5).run Tryz.prog w = .ok (.int .u64 (fld x 5)) w := by kernel_rfl
theorem eq_ordP (x y : Od) (w : World) : (Op.equalIn 10000 38 (.agg (OC x)) (.agg (OC y))).run Tryz.prog w = .ok (eqO x y) w := by
  rw [run_equalIn_agg w 9999 38 _ _ (by unfold Program.fieldsOf; rw [Tryz.underlying38]) (by kernel_rfl)]
  have h1 : ∀ (a b : Int) (w : World), (Op.equalIn 9999 35 (.int .u64 a) (.int .u64 b)).run Tryz.prog w = .ok (a == b) w := fun a b w => run_equalIn_int w 9998 _ _ _ a b Tryz.underlying35
  have h2 : ∀ (a b : Int) (w : World), (Op.equalIn 9999 2 (.int .i64 a) (.int .i64 b)).run Tryz.prog w = .ok (a == b) w := fun a b w => run_equalIn_int w 9998 _ _ _ a b Tryz.underlying2
  have h3 : ∀ (a b : Int) (w : World), (Op.equalIn 9999 3 (.int .i64 a) (.int .i64 b)).run Tryz.prog w = .ok (a == b) w := fun a b w => run_equalIn_int w 9998 _ _ _ a b Tryz.underlying3
  unfold Program.fieldsOf
  rw [Tryz.underlying38]
  refine (eqf w 9999 _ _ _ ?_ (fun f => fld x f.offset == fld y f.offset) ?_).trans rfl
  · intro f hf
    simp only [List.mem_cons, List.not_mem_nil, or_false] at hf
    rcases hf with rfl | rfl | rfl | rfl | rfl | rfl <;> decide
  · intro f hf
    simp only [List.mem_cons, List.not_mem_nil, or_false] at hf
    rcases hf with rfl | rfl | rfl | rfl | rfl | rfl
    · exact ⟨_, _, ptP0 x w, ptP0 y w, h1 _ _ _⟩
    · exact ⟨_, _, ptP1 x w, ptP1 y w, h3 _ _ _⟩
    · exact ⟨_, _, ptP2 x w, ptP2 y w, h3 _ _ _⟩
    · exact ⟨_, _, ptP3 x w, ptP3 y w, h2 _ _ _⟩
    · exact ⟨_, _, ptP4 x w, ptP4 y w, h2 _ _ _⟩
    · exact ⟨_, _, ptP5 x w, ptP5 y w, h1 _ _ _⟩
theorem neqP (x y : Od) (w : World) : (binOp .neq 38 (.agg (OC x)) (.agg (OC y))).run Tryz.prog w = .ok (.bool (!eqO x y)) w := by
  rw [run_neq_struct, eq_ordP]; rfl
theorem ptR0 (x : Od) (w : World) : (part 35 (OC x) 0).run Tryz.prog w = .ok (.int .u64 (fld x 0)) w := by kernel_rfl
theorem ptR1 (x : Od) (w : World) : (part 3 (OC x) 1).run Tryz.prog w = .ok (.int .i64 (fld x 1)) w := by kernel_rfl
theorem ptR2 (x : Od) (w : World) : (part 3 (OC x) 2).run Tryz.prog w = .ok (.int .i64 (fld x 2)) w := by kernel_rfl
theorem ptR3 (x : Od) (w : World) : (part 2 (OC x) 3).run Tryz.prog w = .ok (.int .i64 (fld x 3)) w := by kernel_rfl
theorem ptR4 (x : Od) (w : World) : (part 2 (OC x) 4).run Tryz.prog w = .ok (.int .i64 (fld x 4)) w := by kernel_rfl
theorem ptR5 (x : Od) (w : World) : (part 35 (OC x) 5).run Tryz.prog w = .ok (.int .u64 (fld x 5)) w := by kernel_rfl
theorem eq_ordR (x y : Od) (w : World) : (Op.equalIn 10000 49 (.agg (OC x)) (.agg (OC y))).run Tryz.prog w = .ok (eqO x y) w := by
  rw [run_equalIn_agg w 9999 49 _ _ (by unfold Program.fieldsOf; rw [Tryz.underlying49]) (by kernel_rfl)]
  have h1 : ∀ (a b : Int) (w : World), (Op.equalIn 9999 35 (.int .u64 a) (.int .u64 b)).run Tryz.prog w = .ok (a == b) w := fun a b w => run_equalIn_int w 9998 _ _ _ a b Tryz.underlying35
  have h2 : ∀ (a b : Int) (w : World), (Op.equalIn 9999 2 (.int .i64 a) (.int .i64 b)).run Tryz.prog w = .ok (a == b) w := fun a b w => run_equalIn_int w 9998 _ _ _ a b Tryz.underlying2
  have h3 : ∀ (a b : Int) (w : World), (Op.equalIn 9999 3 (.int .i64 a) (.int .i64 b)).run Tryz.prog w = .ok (a == b) w := fun a b w => run_equalIn_int w 9998 _ _ _ a b Tryz.underlying3
  unfold Program.fieldsOf
  rw [Tryz.underlying49]
  refine (eqf w 9999 _ _ _ ?_ (fun f => fld x f.offset == fld y f.offset) ?_).trans rfl
  · intro f hf
    simp only [List.mem_cons, List.not_mem_nil, or_false] at hf
    rcases hf with rfl | rfl | rfl | rfl | rfl | rfl <;> decide
  · intro f hf
    simp only [List.mem_cons, List.not_mem_nil, or_false] at hf
    rcases hf with rfl | rfl | rfl | rfl | rfl | rfl
    · exact ⟨_, _, ptR0 x w, ptR0 y w, h1 _ _ _⟩
    · exact ⟨_, _, ptR1 x w, ptR1 y w, h3 _ _ _⟩
    · exact ⟨_, _, ptR2 x w, ptR2 y w, h3 _ _ _⟩
    · exact ⟨_, _, ptR3 x w, ptR3 y w, h2 _ _ _⟩
    · exact ⟨_, _, ptR4 x w, ptR4 y w, h2 _ _ _⟩
    · exact ⟨_, _, ptR5 x w, ptR5 y w, h1 _ _ _⟩
theorem neqR (x y : Od) (w : World) : (binOp .neq 49 (.agg (OC x)) (.agg (OC y))).run Tryz.prog w = .ok (.bool (!eqO x y)) w := by
  rw [run_neq_struct, eq_ordR]; rfl
end Go.Proofs.YtgbmgdffgmablaaGreat

namespace Go.Proofs.YtgbmgdffgmablaaGreat
open Go.RowKit Go.Sort Go.Lib Go.Shelf

def eqL : List Od → List Od → Bool
  | [], [] => true
  | x :: l, y :: m => eqO x y && eqL l m
  | _, _ => false
theorem eqL_iff : ∀ (l m : List Od), eqL l m = true ↔ l = m
  | [], [] => by simp [eqL]
  | x :: l, y :: m => by simp [eqL, eqO_iff, eqL_iff l m]
  | [], y :: m => by simp [eqL]
  | x :: l, [] => by simp [eqL]
theorem eqL_no {l m : List Od} {i : Nat} (_hi : i < l.length) (_hl : l.length = m.length) (h : eqO l[i]! m[i]! = false) : eqL l m = false := by
  cases e : eqL l m with
  | false => rfl
  | true =>
    rw [eqL_iff] at e
    subst e
    have := (eqO_iff l[i]! l[i]!).2 rfl
    rw [h] at this; cases this
theorem eqL_yes {l m : List Od} (hl : l.length = m.length) (h : ∀ i, i < l.length → l[i]! = m[i]!) : eqL l m = true := by
  rw [eqL_iff]
  apply List.ext_getElem hl
  intro i h1 h2
  have := h i h1
  rwa [getElem!_pos l i h1, getElem!_pos m i h2] at this
def EqIs (w : World) (b : Bool) (e : Ending) (w' : World) : Prop := e = .returned (.bool b) ∧ Gw w w'
set_option maxHeartbeats 4000000 in
set_option maxRecDepth 1000000 in
theorem equal_c (A B : Option Addr) (n c c' : Nat) (L M : List Od) (w : World) (H : Ods w A n L) (K : Ods w B n M) (hn : n ≤ 1000) :
    Calls Tryz.prog 68 #[.slice A n c, .slice B n c'] w (EqIs w (eqL L M)) := by
  have mixed : Tryz.prog.follows .mixedOrders = true := by kernel_rfl
  obtain ⟨hl, _, _, h⟩ := H
  obtain ⟨kl, _, _, k⟩ := K
  have HLn := Lib.hid hl
  have KLn := Lib.hid kl
  have HH := Lib.hid h
  have KK := Lib.hid k
  have HE := Lib.hid (fun q : Nat => (show EqIs w (eqL L M) (.returned (.bool (eqL L M))) (w.drewN q) from ⟨rfl, ⟨below_drewN (Below.refl _ _) _, Nat.le_add_right _ _⟩⟩))
  clear hl kl h k
  go_enter Tryz.func68, Tryz.ntmps68
  go_wp2
  go_loopg [13] n (fun kx s13 wr => ∃ i q : Nat, s13 = .int .i64 i ∧ i ≤ n ∧ n - i ≤ kx ∧ wr = w.drewN q ∧ Hid (∀ j, j < i → L[j]! = M[j]!))
  case atStart => exact ⟨0, 0, rfl, by omega, by omega, rfl, Lib.hid (fun j hj => by omega)⟩
  case round =>
    obtain ⟨i, q, rfl, hin, hkx, rfl, HI⟩ := hrel
    by_cases hlt : i < n
    · have hltz : (i : Int) < (n : Int) := by omega
      have h1 := HH.out
      have k1 := KK.out
      rcases h1 with h1 | ⟨b, off, rfl, _, hc⟩
      · omega
      rcases k1 with k1 | ⟨b', off', rfl, _, kc⟩
      · omega
      have hx := hc i hlt
      have hy := kc i hlt
      clear hc kc
      obtain ⟨x, ex⟩ : ∃ x, L[i]! = x := ⟨_, rfl⟩
      obtain ⟨y, ey⟩ : ∃ y, M[i]! = y := ⟨_, rfl⟩
      rw [ex] at hx
      rw [ey] at hy
      have XY : Hid (L[i]! = x ∧ M[i]! = y) := ⟨ex, ey⟩
      clear ex ey
      obtain ⟨x0, x1, x2, x3, x4, x5⟩ := hx
      obtain ⟨y0, y1, y2, y3, y4, y5⟩ := hy
      have hq := neqP x y
      cases he : eqO x y with
      | true =>
        rw [he] at hq
        have HN : Hid (∀ j, j < i + 1 → L[j]! = M[j]!) := Lib.hid (fun j hj => by
          by_cases e : j < i
          · exact HI.out j e
          · obtain rfl : j = i := by omega
            rw [XY.out.1, XY.out.2]; exact (eqO_iff x y).1 he)
        clear he
        go_wp2_with fail
        go_quiet (fail)
        go_wp2_with fail
        go_roundg (n - (i + 1))
        case measure => omega
        case rel => exact ⟨i + 1, q + nq, by go_num, by omega, by omega, (by first | rfl | exact World.drewN_drewN _ _ _), HN⟩
      | false =>
        rw [he] at hq
        have HF : Hid (eqL L M = false) := Lib.hid (eqL_no (i := i) (by rw [HLn.out]; exact hlt) (by rw [HLn.out, KLn.out]) (by rw [XY.out.1, XY.out.2]; exact he))
        clear he
        go_wp2_with fail
        go_quiet (fail)
        go_wp2_with fail
        go_ret
        try rw [World.drewN_drewN]
        have := HE.out (q + nq)
        rw [HF.out] at this
        rw [HF.out]
        exact this
    · have hltz : ¬ (i : Int) < (n : Int) := by omega
      obtain rfl : i = n := by omega
      have HF : Hid (eqL L M = true) := Lib.hid (eqL_yes (by rw [HLn.out, KLn.out]) (fun j hj => HI.out j (by rw [HLn.out] at hj; exact hj)))
      go_wp2
      go_ret
      have := HE.out q
      rw [HF.out] at this
      rw [HF.out]
      exact this
end Go.Proofs.YtgbmgdffgmablaaGreat

namespace Go.Proofs.YtgbmgdffgmablaaGreat
open Go.RowKit Go.Sort Go.Lib Go.Shelf

def eU (z : Int) : Value := .int .u64 z
theorem eU_one : OneCell eU := fun _ => rfl
set_option maxHeartbeats 4000000 in
set_option maxRecDepth 100000 in
theorem lessU_c (x y : Int) (W : World) : Calls Tryz.prog 110 #[.int .u64 x, .int .u64 y] W fun e w' => e = .returned (.bool (ltInt x y)) ∧ w' = W := by
  have HN := Lib.hid isNaN_c
  cases h : ltInt x y with
  | true =>
    have h1 : x < y := by unfold ltInt at h; simpa using h
    go_enter Tryz.func110, Tryz.ntmps110
    go_wp2_with ((with_reducible refine (HN.out _ _).mono ?_); rintro e w' ⟨rfl, rfl⟩)
    go_ret
    exact ⟨rfl, rfl⟩
  | false =>
    have h1 : ¬ x < y := by unfold ltInt at h; simpa using h
    have g1 : decide (x < y) = false := decide_eq_false h1
    go_enter Tryz.func110, Tryz.ntmps110
    go_wp2_with ((with_reducible refine (HN.out _ _).mono ?_); rintro e w' ⟨rfl, rfl⟩)
    go_ret
    exact ⟨rfl, rfl⟩

set_option maxHeartbeats 4000000 in
set_option maxRecDepth 1000000 in
theorem insU_c (blk off cap a b : Nat) (za zb : Int) (d0 d : Array Int) (w0 w : World) (n : Nat) (ha : za = a) (hb' : zb = b) (hn : n = d.size) (R : Row1 eU w0 blk off d0) (hs : d0.size = d.size) (S : SW eU w0 blk off d w) (hab : a ≤ b) (hb : b ≤ d.size) (hsz : d.size < 4611686018427387904) :
    Calls Tryz.prog 104 #[.slice (some ⟨blk, off, none⟩) n cap, .int .i64 za, .int .i64 zb] w fun e w' => e = .returned (.tuple #[]) ∧
      ∃ d', SW eU w0 blk off d' w' ∧ PermIn a b d d' ∧ SortedIn ltInt a b d' := by
  subst ha hb' hn
  have mixed : Tryz.prog.follows .mixedOrders = true := by kernel_rfl
  have S0 : Aside (SW eU w0 blk off d w) := S
  have HS := Lib.hid hs
  have HL := Lib.hid lessU_c
  clear S hs
  go_enter Tryz.func104, Tryz.ntmps104
  go_wp2
  go_loopg [6] (b - a) (fun kx s6 wr => ∃ (i : Nat) (dk : Array Int), s6 = .int .i64 i ∧ a < i ∧ i ≤ b + 1 ∧ b + 1 - i ≤ kx + 1 ∧ Aside (SW eU w0 blk off dk wr) ∧ PermIn a b d dk ∧ Hid (SortedIn ltInt a i dk))
  case atStart => exact ⟨a + 1, d, by go_num, by omega, by omega, by omega, S0, permIn_refl _ _ _, Lib.hid (fun i j h1 h2 h3 => by omega)⟩
  case round =>
    clear S0
    obtain ⟨i, dk, rfl, hai, hib, hkx, S1, HPm, HO⟩ := hrel
    have HD : Hid (dk.size = d.size) := HPm.1
    by_cases hlt : i < b
    · have hltz : (i : Int) < (b : Int) := by omega
      have HI0 : Hid (Ins ltInt a i i dk) := Lib.hid ⟨fun p q h1 h2 h3 h4 h5 => HO.out p q h1 h2 (by omega), fun q h1 h2 => by omega⟩
      clear HO
      go_wp2
      go_loopg [7] i (fun g2 s7 wr2 => ∃ (j : Nat) (dj : Array Int), s7 = .int .i64 j ∧ a ≤ j ∧ j ≤ i ∧ j ≤ g2 ∧ Aside (SW eU w0 blk off dj wr2) ∧ PermIn a b d dj ∧ Hid (Ins ltInt a j i dj))
      case atStart => exact ⟨i, dk, rfl, by omega, Nat.le_refl _, Nat.le_refl _, S1, HPm, HI0⟩
      case round =>
        clear S1 HI0 HPm HD
        obtain ⟨j1, dj, rfl, haj, hji, hg2, S1, HPm, HI⟩ := hrel
        have HD : Hid (dj.size = d.size) := HPm.1
        by_cases hja : a < j1
        · obtain ⟨j, rfl⟩ : ∃ j, j1 = j + 1 := ⟨j1 - 1, by omega⟩
          have hjz : (a : Int) < (j : Int) + 1 := by omega
          have wc : IntKind.i64.wrap ((j : Int) + 1 - 1) = (j : Int) := by rw [IntKind.wrap_i64]; omega
          have wc' : IntKind.i64.wrap (j : Int) = (j : Int) := by rw [IntKind.wrap_i64]; omega
          have bz : (j : Int) + 1 < (d.size : Int) := by omega
          have bt : ((j : Int) + 1).toNat = j + 1 := by omega
          have b0 : (0 : Int) ≤ (j : Int) + 1 := by omega
          have hsz2 := HD.out
          obtain ⟨x, hx⟩ : ∃ x, dj[j + 1]! = x := ⟨_, rfl⟩
          obtain ⟨y, hy⟩ : ∃ y, dj[j]! = y := ⟨_, rfl⟩
          have cx := S1.out.c1 R (by rw [HD.out]; exact HS.out.symm) (j + 1) (by omega)
          have cy := S1.out.c1 R (by rw [HD.out]; exact HS.out.symm) (j) (by omega)
          rw [hx] at cx
          rw [hy] at cy
          have cx' : wr.cell? ⟨blk, off + (j + 1), none⟩ = some (.int .u64 x) := cx
          have cy' : wr.cell? ⟨blk, off + (j), none⟩ = some (.int .u64 y) := cy
          clear cx cy
          have XY : Hid (dj[j + 1]! = x ∧ dj[j]! = y) := ⟨hx, hy⟩
          clear hx hy
          have bp : ((j + 1 : Nat) : Int) < (d.size : Int) := by omega
          have bq : ((j : Nat) : Int) < (d.size : Int) := by omega
          clear hsz2
          cases hl : ltInt x y with
          | true =>
            have HN : Hid (Ins ltInt a j i (swp dj (j + 1) j)) := Lib.hid (HI.out.step (by rw [XY.out.1, XY.out.2]; exact hl) (by omega) (by rw [HD.out]; omega))
            have HPn : PermIn a b d (swp dj (j + 1) j) := permIn_trans _ _ _ _ _ HPm (swp_permIn dj a b (j + 1) j (by omega) (by omega) (by omega) (by omega) (by rw [HD.out]; omega))
            go_wp2_with fail
            go_quiet ((go_at_call 110; with_reducible exact Calls.quiet_of_same (HL.out _ _ _)))
            go_wp2_with fail
            have S3 : Aside (SW eU w0 blk off dj (wr.drewN nq)) := S1.out.drewN nq
            clear cx' cy' S1 HPm HI hl
            generalize wr.drewN nq = wq at S3 ⊢
            have hsz2 := HD.out
            have S2 := S3.out.swapped R (j + 1) (j) (by omega) (by omega)
            have ca := S3.out.c1 R (by rw [HD.out]; exact HS.out.symm) (j + 1) (by omega)
            have cb := S3.out.c1 R (by rw [HD.out]; exact HS.out.symm) (j) (by omega)
            have fa := S3.out.f1 R (by rw [HD.out]; exact HS.out.symm) (j + 1) (by omega)
            have fb := S3.out.f1 R (by rw [HD.out]; exact HS.out.symm) (j) (by omega)
            obtain ⟨uc, cc⟩ := S3.out.c2 R (by rw [HD.out]; exact HS.out.symm) (j + 1) (j) (by omega) (by omega) (eU dj[j]!)
            generalize dj[j + 1]! = vI at S2 ca cc
            generalize dj[j]! = vJ at S2 cb cc
            replace S2 : Aside (SW eU w0 blk off (swp dj (j + 1) (j)) ((wq.setCell ⟨blk, off + (j + 1), none⟩ (.int .u64 vJ)).setCell ⟨blk, off + (j), none⟩ (.int .u64 vI)).drew) := S2
            replace ca : wq.cell? ⟨blk, off + (j + 1), none⟩ = some (.int .u64 vI) := ca
            replace cb : wq.cell? ⟨blk, off + (j), none⟩ = some (.int .u64 vJ) := cb
            replace cc : (wq.setCell ⟨blk, off + (j + 1), none⟩ (.int .u64 vJ)).cell? ⟨blk, off + (j), none⟩ = some uc := cc
            clear S3
            go_wp2_with fail
            go_big_region
            clear ca cb fa fb cc
            generalize ((wq.setCell ⟨blk, off + (j + 1), none⟩ (.int .u64 vJ)).setCell ⟨blk, off + (j), none⟩ (.int .u64 vI)).drew = w2 at S2 ⊢
            clear hsz2
            all_goals go_wp2
            go_roundg j
            case measure => omega
            case rel => exact ⟨j, swp dj (j + 1) j, by go_num, by omega, by omega, Nat.le_refl _, S2, HPn, HN⟩
          | false =>
            have HN : Hid (SortedIn ltInt a (i + 1) dj) := Lib.hid (HI.out.stop swo_ltInt (.inr (by simp only [Nat.add_sub_cancel]; rw [XY.out.1, XY.out.2]; exact hl)))
            go_wp2_with fail
            go_quiet ((go_at_call 110; with_reducible exact Calls.quiet_of_same (HL.out _ _ _)))
            have S3 : Aside (SW eU w0 blk off dj (wr.drewN nq)) := S1.out.drewN nq
            clear cx' cy' S1 HI
            generalize wr.drewN nq = wq at S3 ⊢
            go_wp2
            go_roundg (b - (i + 1))
            case measure => omega
            case rel => exact ⟨i + 1, dj, by go_num, by omega, by omega, by omega, S3, HPm, HN⟩
        · have hjz : ¬ (a : Int) < (j1 : Int) := by omega
          have hjd : decide ((j1 : Int) > (a : Int)) = false := decide_eq_false (by omega)
          have HN : Hid (SortedIn ltInt a (i + 1) dj) := Lib.hid (HI.out.stop swo_ltInt (.inl (by omega)))
          go_wp2_with fail
          go_quiet ((go_at_call 110; with_reducible exact Calls.quiet_of_same (HL.out _ _ _)))
          have S3 : Aside (SW eU w0 blk off dj (wr.drewN nq)) := S1.out.drewN nq
          clear S1 HI
          generalize wr.drewN nq = wq at S3 ⊢
          go_wp2
          go_roundg (b - (i + 1))
          case measure => omega
          case rel => exact ⟨i + 1, dj, by go_num, by omega, by omega, by omega, S3, HPm, HN⟩
    · have hltz : ¬ (i : Int) < (b : Int) := by omega
      have HF : Hid (SortedIn ltInt a b dk) := Lib.hid (fun p q h1 h2 h3 => HO.out p q h1 h2 (by omega))
      clear HO HD
      go_wp2
      go_end0
      exact ⟨rfl, dk, S1.out, HPm, HF.out⟩
end Go.Proofs.YtgbmgdffgmablaaGreat

namespace Go.Proofs
open Go.Shelf
def Tryz.compactL_ren : Go.Shelf.Ren := ⟨fun | 43 => 67 | n => n, fun | 22 => 124 | 23 => 35 | 3 => 3 | 4 => 4 | 0 => 0 | n => n, fun | n => n⟩
theorem Tryz.compactL : Go.Proofs.SlLaysE.n43 Tryz.prog Tryz.compactL_ren := {
  mixed := by kernel_rfl
  f43 := ⟨Tryz.f67.name, by decide, Tryz.func67.trans (congrArg some (by kernel_rfl))⟩
  t0 := Tryz.underlying0
  a0 := Tryz.isAgg0
  z0 := Tryz.sizeOf0
  v0 := Tryz.zeroValue0
  t3 := Tryz.underlying3
  a3 := Tryz.isAgg3
  z3 := Tryz.sizeOf3
  v3 := Tryz.zeroValue3
  t4 := Tryz.underlying4
  a4 := Tryz.isAgg4
  z4 := Tryz.sizeOf4
  v4 := Tryz.zeroValue4
  t22 := Tryz.underlying124
  a22 := Tryz.isAgg124
  z22 := Tryz.sizeOf124
  v22 := Tryz.zeroValue124
  a23 := Tryz.isAgg35
  z23 := Tryz.sizeOf35 }
def Tryz.bitsLenL_ren : Go.Shelf.Ren := ⟨fun | 125 => 79 | 128 => 113 | 129 => 114 | n => n, fun | 46 => 148 | 3 => 3 | 51 => 188 | 53 => 35 | 4 => 4 | 5 => 5 | 9 => 9 | n => n, fun | n => n⟩
theorem Tryz.bitsLenL : Go.Proofs.Lays.n125 Tryz.prog Tryz.bitsLenL_ren := {
  mixed := by kernel_rfl
  f125 := Tryz.func79.trans (congrArg some (by kernel_rfl))
  f128 := Tryz.func113.trans (congrArg some (by kernel_rfl))
  f129 := Tryz.func114.trans (congrArg some (by kernel_rfl))
  t3 := Tryz.underlying3
  a3 := Tryz.isAgg3
  z3 := Tryz.sizeOf3
  v3 := Tryz.zeroValue3
  t4 := Tryz.underlying4
  a4 := Tryz.isAgg4
  z4 := Tryz.sizeOf4
  v4 := Tryz.zeroValue4
  t5 := Tryz.underlying5
  a5 := Tryz.isAgg5
  z5 := Tryz.sizeOf5
  v5 := Tryz.zeroValue5
  t9 := Tryz.underlying9
  a9 := Tryz.isAgg9
  z9 := Tryz.sizeOf9
  v9 := Tryz.zeroValue9
  t46 := Tryz.underlying148
  a46 := Tryz.isAgg148
  z46 := Tryz.sizeOf148
  v46 := Tryz.zeroValue148
  t51 := Tryz.underlying188
  a51 := Tryz.isAgg188
  z51 := Tryz.sizeOf188
  v51 := Tryz.zeroValue188
  t53 := Tryz.underlying35
  a53 := Tryz.isAgg35
  z53 := Tryz.sizeOf35
  v53 := Tryz.zeroValue35 }
end Go.Proofs

namespace Go.Proofs.YtgbmgdffgmablaaGreat
open Go.RowKit Go.Sort Go.Lib Go.Shelf

theorem len_c (x : Int) (w : World) (h0 : 0 ≤ x) (h1 : x ≤ 18446744073709551615) : Calls Tryz.prog 79 #[.int .u64 x] w fun e w' => e = .returned (.int .i64 (Lib.bitLen x.toNat)) ∧ w' = w :=
  Any.bits_Len (ρ := Tryz.bitsLenL_ren) Tryz.bitsLenL x w h0 h1
/-- What slices.Sort does with a row. -/
def SortsU (n : Nat) : Prop := ∀ (blk off cap : Nat) (d : Array Int) (w : World), n = d.size → Holds eU w blk off d → blk < w.heap.size →
  Calls Tryz.prog 66 #[.slice (some ⟨blk, off, none⟩) n cap] w fun e w' => e = .returned (.tuple #[]) ∧ ∃ d', SW eU w blk off d' w' ∧ PermIn 0 n d d' ∧ SortedIn ltInt 0 n d'
/-- slices.Compact: how many are left. -/
theorem compact_c (blk off cap : Nat) (d : Array Int) (w : World) (hH : Holds eU w blk off d) (hsz : d.size ≤ 1000) (hcap : d.size ≤ cap) :
    Calls Tryz.prog 67 #[.slice (some ⟨blk, off, none⟩) d.size cap] w fun e w' => e = .returned (.slice (some ⟨blk, off, none⟩) (compactUpTo d d.size).length cap) ∧ ∃ d', SW eU w blk off d' w' := by
  refine (AnyE.slices_Compact (ρ := Tryz.compactL_ren) Tryz.compactL eU eU_one (EqlAt.intD _ _ _) (NeqAt.intD _ _ _) 0 Tryz.zeroValue35 blk off cap d w hH (by omega) hcap).mono ?_
  rintro e w' ⟨rfl, q, rfl⟩
  exact ⟨rfl, _, q, #[], by unfold sortWorld; rw [grow_empty]⟩
end Go.Proofs.YtgbmgdffgmablaaGreat
