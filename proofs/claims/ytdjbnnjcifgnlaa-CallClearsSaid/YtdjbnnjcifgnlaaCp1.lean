/- What the laws lean on, in a few texts (by shake.py): number 1 of 5. -/
import Derived.Test.YtdjbnnjcifgnlaaRows
import Derived.WalkKit
import Derived.Laws.Bits64b
import Derived.Test.YtdjbnnjcifgnlaaProg
import Derived.Test.YtdjbnnjcifgnlaaChecked
import Derived.WalkSpells
import Derived.WalkLawsBesides
import Derived.Handy
import Derived.BigQuiet
import Derived.Deep.QuietTactic
import Derived.Maps.AppendAt
import Derived.Deep.Draws
import Derived.Lib.IndexBytes
import Derived.OwnWalk
import Derived.Deep.RegionHeld3
import Derived.Deep.RegionLaw
import Derived.Deep.AppendLies
import Derived.Lib.ConvBytes
import Derived.Lib.Hide
import Derived.Sort.Grow
import Derived.Sort.LotA
import Derived.OpenShut
import Derived.Deep.Slices
import Derived.Deep.Fields
import Derived.ChangeSame
import Derived.Shelf.SlSortCmp.KitK
import Derived.Deep.MidRow
import Derived.Deep.RegionWith
import Derived.BigRegion
import Derived.Deep.LoopGhost
import Derived.Deep.CutRange
import Derived.Deep.DeepCutAuto
import Derived.Shelf.SlGeneric
import Derived.Shelf.SlSortCmp.InsertionK
import Derived.Shelf.SlicesE.Clone
import Derived.Ground.SlsfProg
import Derived.Ground.SlgnProg
import Derived.Laws.StructEq
import Derived.Shelf.SlSortCmp.Kit1
import Derived.Shelf.SlicesE.Compact
import Derived.Shelf.Small.Bits
import Derived.Ground.NamesProg

namespace Go.Proofs.Ytdjbnnjcifgnlaa
open Go.RowKit

theorem blk_lt {w : World} {g : Nat} {o : Obj} (h : w.heap[g]? = some o) : g < w.heap.size := by
  rcases Nat.lt_or_ge g w.heap.size with h' | h'
  · exact h'
  · rw [Array.getElem?_eq_none h'] at h; cases h
theorem heap_set {w : World} {g k : Nat} {v : Value} {cs : Array Value} {t : TypeId} (h : w.heap[g]? = some (.cells cs t (0, 0))) : (w.setCell ⟨g, k, none⟩ v).heap[g]? = some (.cells (cs.setIfInBounds k v) t (0, 0)) :=
  heap_setCell_same _ _ _ _ _ _ h
theorem heap_far {w : World} {a : Addr} {v : Value} {k : Nat} (h : k ≠ a.block) : (w.setCell a v).heap[k]? = w.heap[k]? := Below.heap_setCell w a v k h
/-- Only block g, and what is new, has turned. -/
def Tch (g : Nat) (w w' : World) : Prop := w.grownBy w' (some g)
theorem Tch.refl (g : Nat) (w : World) : Tch g w w := World.grownBy.refl _ _
theorem Tch.trans {g : Nat} {a b c : World} (h : Tch g a b) (k : Tch g b c) : Tch g a c := World.grownBy.trans h k
theorem Tch.drew {g : Nat} {a b : World} (h : Tch g a b) : Tch g a b.drew := ⟨h.os, h.tape, h.output, h.size, h.block⟩
theorem Tch.drewN {g : Nat} {a b : World} (h : Tch g a b) (n : Nat) : Tch g a (b.drewN n) := ⟨h.os, h.tape, h.output, h.size, h.block⟩
theorem Tch.alloc {g : Nat} {a b : World} (h : Tch g a b) (o : Obj) : Tch g a (b.alloc o) := h.trans (World.grownBy_alloc b o _)
theorem Tch.set {g : Nat} {a b : World} (h : Tch g a b) (k : Nat) (v : Value) : Tch g a (b.setCell ⟨g, k, none⟩ v) :=
  h.trans ⟨rfl, rfl, rfl, by simp [World.setCell], fun i _ hne => heap_far (a := ⟨g, k, none⟩) (fun e => hne (by rw [e]))⟩
theorem Tch.size {g : Nat} {a b : World} (h : Tch g a b) : a.heap.size ≤ b.heap.size := World.grownBy.size h
theorem Tch.blk {g k : Nat} {a b : World} {o : Obj} (h : Tch g a b) (ho : a.heap[k]? = some o) (hne : k ≠ g) : b.heap[k]? = some o :=
  (World.grownBy.block h k (blk_lt ho) (fun e => hne (by injection e))).trans ho
theorem Tch.below {g B : Nat} {a b : World} (h : Tch g a b) (hB : B ≤ g) (hs : B ≤ a.heap.size) : Below B a b :=
  ⟨World.grownBy.os h, World.grownBy.tape h, World.grownBy.output h, h.size, fun k hk => World.grownBy.block h k (by omega) (fun e => by injection e; omega)⟩
/-- A byte as a cell. -/
def byt (b : UInt8) : Value := .int .u8 (b.toNat : Int)
/-- Only blocks of S, and what is new, have turned. -/
structure Fr (S : Nat → Prop) (w w' : World) : Prop where
  os : w'.os = w.os
  tape : w'.tape = w.tape
  output : w'.output = w.output
  size : w.heap.size ≤ w'.heap.size
  block : ∀ k, k < w.heap.size → ¬ S k → w'.heap[k]? = w.heap[k]?
theorem Fr.refl (S : Nat → Prop) (w : World) : Fr S w w := ⟨rfl, rfl, rfl, Nat.le_refl _, fun _ _ _ => rfl⟩
theorem Fr.trans {S S' : Nat → Prop} {a b c : World} (h : Fr S a b) (k : Fr S' b c) (hs : ∀ k, S' k → S k ∨ a.heap.size ≤ k) : Fr S a c :=
  ⟨k.os.trans h.os, k.tape.trans h.tape, k.output.trans h.output, Nat.le_trans h.size k.size, fun i hi hn =>
    (k.block i (Nat.lt_of_lt_of_le hi h.size) (fun hS => by rcases hs i hS with h1 | h1; exact hn h1; omega)).trans (h.block i hi hn)⟩
theorem Fr.drew {S : Nat → Prop} {a b : World} (h : Fr S a b) : Fr S a b.drew := ⟨h.os, h.tape, h.output, h.size, h.block⟩
theorem Fr.drewN {S : Nat → Prop} {a b : World} (h : Fr S a b) (n : Nat) : Fr S a (b.drewN n) := ⟨h.os, h.tape, h.output, h.size, h.block⟩
theorem Fr.alloc {S : Nat → Prop} {a b : World} (h : Fr S a b) (o : Obj) : Fr S a (b.alloc o) :=
  ⟨h.os, h.tape, h.output, Nat.le_trans h.size (by simp), fun k hk hn => (Below.heap_alloc b o k (Nat.lt_of_lt_of_le hk h.size)).trans (h.block k hk hn)⟩
theorem Fr.set {S : Nat → Prop} {a b : World} (h : Fr S a b) {p : Addr} (hp : S p.block ∨ a.heap.size ≤ p.block) (v : Value) : Fr S a (b.setCell p v) :=
  ⟨h.os, h.tape, h.output, by simpa [World.setCell] using h.size, fun k hk hn => (heap_far (fun e => by rcases hp with h1 | h1; exact hn (e ▸ h1); omega)).trans (h.block k hk hn)⟩
theorem Fr.grown {S : Nat → Prop} {a b c : World} {row : Option Nat} (h : Fr S a b) (k : b.grownBy c row) (hr : ∀ j, row = some j → S j ∨ a.heap.size ≤ j) : Fr S a c :=
  ⟨k.os.trans h.os, k.tape.trans h.tape, k.output.trans h.output, Nat.le_trans h.size k.size, fun i hi hn =>
    (k.block i (Nat.lt_of_lt_of_le hi h.size) (fun e => by rcases hr i e.symm with h1 | h1; exact hn h1; omega)).trans (h.block i hi hn)⟩
theorem Fr.below {S : Nat → Prop} {B : Nat} {a b : World} (h : Fr S a b) (hS : ∀ k, S k → B ≤ k) (hB : B ≤ a.heap.size) : Below B a b :=
  ⟨h.os, h.tape, h.output, h.size, fun k hk => h.block k (by omega) (fun hk' => by have := hS k hk'; omega)⟩
theorem Fr.of_below {S : Nat → Prop} {a b : World} (h : Below a.heap.size a b) : Fr S a b := ⟨h.os, h.tape, h.output, h.size, fun k hk _ => h.block k hk⟩
theorem Fr.mono {S S' : Nat → Prop} {a b : World} (h : Fr S a b) (hs : ∀ k, S k → S' k ∨ a.heap.size ≤ k) : Fr S' a b := (Fr.refl S' a).trans h hs
theorem Fr.blk {S : Nat → Prop} {a b : World} {k : Nat} {o : Obj} (h : Fr S a b) (ho : a.heap[k]? = some o) (hn : ¬ S k) : b.heap[k]? = some o := (h.block k (blk_lt ho) hn).trans ho
/-- A slice that reads as bytes. -/
def SlB (w : World) (A : Option Addr) (n : Nat) (l : List UInt8) : Prop :=
  l.length = n ∧ (n = 0 ∨ ∃ b off, A = some ⟨b, off, none⟩ ∧ b < w.heap.size ∧ ∀ i, i < n → w.cell? ⟨b, off + i, none⟩ = some (byt (l.getD i 0)))
theorem addr_add (b off j : Nat) : (⟨b, off, none⟩ : Addr).add j = ⟨b, off + j, none⟩ := by unfold Addr.add; split <;> simp_all
theorem SlB.fr {S : Nat → Prop} {w w' : World} {A : Option Addr} {n : Nat} {l : List UInt8} (h : SlB w A n l) (hf : Fr S w w') (hn : ∀ b off, A = some ⟨b, off, none⟩ → ¬ S b) : SlB w' A n l := by
  refine ⟨h.1, ?_⟩
  rcases h.2 with h0 | ⟨b, off, rfl, hb, hc⟩
  · exact .inl h0
  · refine .inr ⟨b, off, rfl, Nat.lt_of_lt_of_le hb hf.size, fun i hi => ?_⟩
    rw [World.cell?_of_block (w := w) (hf.block b hb (hn b off rfl))]
    exact hc i hi
theorem SlB.drop {w : World} {A : Option Addr} {n : Nat} {l : List UInt8} (h : SlB w A n l) (k : Nat) (hk : k ≤ n) : SlB w (A.map (·.add k)) (n - k) (l.drop k) := by
  obtain ⟨hl, h2⟩ := h
  refine ⟨by simp; omega, ?_⟩
  rcases h2 with h0 | ⟨b, off, rfl, hb, hc⟩
  · exact .inl (by omega)
  · refine .inr ⟨b, off + k, by simp [addr_add], hb, fun i hi => ?_⟩
    have := hc (k + i) (by omega)
    rw [show off + k + i = off + (k + i) by omega, this]
    simp [List.getD_eq_getElem?_getD, List.getElem?_drop]
theorem SlB.take {w : World} {A : Option Addr} {n : Nat} {l : List UInt8} (h : SlB w A n l) (k : Nat) (hk : k ≤ n) : SlB w A k (l.take k) := by
  obtain ⟨hl, h2⟩ := h
  refine ⟨by simp; omega, ?_⟩
  rcases h2 with h0 | ⟨b, off, rfl, hb, hc⟩
  · exact .inl (by omega)
  · refine .inr ⟨b, off, rfl, hb, fun i hi => ?_⟩
    rw [hc i (by omega)]
    simp [List.getD_eq_getElem?_getD, hi]
theorem own_fr {S : Nat → Prop} {w w' : World} {base n : Nat} {v : Value} {xs : List Value} {e : TypeId} {size : Nat} (h : w.ownsRow base e size v n xs) (hf : Fr S w w') (hv : ∀ k, v.ownBlock = some k → ¬ S k) : w'.ownsRow base e size v n xs := by
  obtain ⟨h1, h2⟩ := h
  refine ⟨h1, ?_⟩
  rcases h2 with hn | ⟨k, cap, cur, rfl, hb, hk, rest⟩
  · exact .inl hn
  · exact .inr ⟨k, cap, cur, rfl, hb, hf.blk hk (hv k rfl), rest⟩
/-- A box: a cell alone. -/
def Bx (T : TypeId) (w : World) (c : Nat) (v : Value) : Prop := w.heap[c]? = some (.cells #[v] T (0, 0))
theorem Bx.c0 {T : TypeId} {w : World} {c : Nat} {v : Value} (h : Bx T w c v) : w.cell? ⟨c, 0, none⟩ = some v := by rw [cell_of_row _ _ _ _ _ _ h]; rfl
theorem Bx.f0 {T : TypeId} {w : World} {c : Nat} {v : Value} (h : Bx T w c v) : w.frozen? ⟨c, 0, none⟩ = false := frozen_of_row _ _ _ _ _ h
theorem Bx.set {T : TypeId} {w : World} {c : Nat} {v : Value} (h : Bx T w c v) (u : Value) : Bx T (w.setCell ⟨c, 0, none⟩ u) c u := by unfold Bx at h ⊢; rw [heap_set h]; rfl
theorem Bx.alloc {T : TypeId} {w : World} {c : Nat} {v : Value} (h : Bx T w c v) (o : Obj) : Bx T (w.alloc o) c v := (Below.heap_alloc w o c (blk_lt h)).trans h
end Go.Proofs.Ytdjbnnjcifgnlaa

namespace Go.Proofs.Ytdjbnnjcifgnlaa
open Go.RowKit

def rkN (s : Int) : Int := if s = 1 then 0 else if s = 2 then 1 else 2
theorem rank_c (s : Int) (w : World) : Calls Try.prog 47 #[.int .i64 s] w fun e w' => e = .returned (.int .i64 (rkN s)) ∧ w = w' := by
  unfold rkN
  by_cases h1 : s = 1
  · rw [if_pos h1]
    have e1 : (s == 1) = true := by simp [h1]
    clear h1
    go_enter Try.func47, Try.ntmps47
    go_wp2_with fail
    go_ret
    exact ⟨rfl, rfl⟩
  rw [if_neg h1]
  have e1 : (s == 1) = false := by simp [h1]
  by_cases h2 : s = 2
  · rw [if_pos h2]
    have e2 : (s == 2) = true := by simp [h2]
    clear h1 h2
    go_enter Try.func47, Try.ntmps47
    go_wp2_with fail
    go_ret
    exact ⟨rfl, rfl⟩
  rw [if_neg h2]
  have e2 : (s == 2) = false := by simp [h2]
  clear h1 h2
  go_enter Try.func47, Try.ntmps47
  go_wp2_with fail
  go_ret
  exact ⟨rfl, rfl⟩
/-- Is the price a better than b? -/
def betN (s a b : Int) : Bool := (s == 1 && decide (b < a)) || (s == 2 && decide (a < b))
def croN (s a b : Int) : Bool := (s == 1 && decide (b ≤ a)) || (s == 2 && decide (a ≤ b))
set_option maxHeartbeats 4000000 in
set_option maxRecDepth 100000 in
theorem asBuyer_c (s a b : Int) (w : World) : Calls Try.prog 56 #[.int .i64 s, .int .i64 a, .int .i64 b] w fun e w' => e = .returned (.tuple #[.int .i64 (if s = 1 then a else if s = 2 then b else 0), .int .i64 (if s = 1 then b else if s = 2 then a else 0), .bool (s == 1 || s == 2)]) ∧ w = w' := by
  by_cases h1 : s = 1
  · rw [if_pos h1, if_pos h1]
    have e1 : (s == 1) = true := by simp [h1]
    have e2 : (s == 2) = false := by simp [h1]
    rw [e1, e2]
    clear h1
    go_enter Try.func56, Try.ntmps56
    go_wp2_with fail
    go_ret3
    exact ⟨rfl, rfl⟩
  rw [if_neg h1, if_neg h1]
  have e1 : (s == 1) = false := by simp [h1]
  by_cases h2 : s = 2
  · rw [if_pos h2, if_pos h2]
    have e2 : (s == 2) = true := by simp [h2]
    rw [e1, e2]
    clear h1 h2
    go_enter Try.func56, Try.ntmps56
    go_wp2_with fail
    go_ret3
    exact ⟨rfl, rfl⟩
  rw [if_neg h2, if_neg h2]
  have e2 : (s == 2) = false := by simp [h2]
  rw [e1, e2]
  clear h1 h2
  go_enter Try.func56, Try.ntmps56
  go_wp2_with fail
  go_ret3
  exact ⟨rfl, rfl⟩
set_option maxHeartbeats 4000000 in
set_option maxRecDepth 100000 in
theorem better_c (s a b : Int) (w : World) : Calls Try.prog 85 #[.int .i64 s, .int .i64 a, .int .i64 b] w fun e w' => e = .returned (.bool (betN s a b)) ∧ w = w' := by
  have HA0 := fun w => asBuyer_c s a b w
  by_cases h1 : s = 1
  · rw [if_pos h1, if_pos h1] at HA0
    have e : betN s a b = decide (b < a) := by unfold betN; simp [h1]
    have e1 : (s == 1) = true := by simp [h1]
    rw [e1, Bool.true_or] at HA0
    have HA := Lib.hid HA0
    rw [e]
    clear HA0 h1 e e1
    go_enter Try.func85, Try.ntmps85
    go_wp2_with ((with_reducible refine (HA.out _).mono ?_); rintro e w' ⟨rfl, rfl⟩)
    go_ret
    exact ⟨rfl, rfl⟩
  rw [if_neg h1, if_neg h1] at HA0
  by_cases h2 : s = 2
  · rw [if_pos h2, if_pos h2] at HA0
    have e : betN s a b = decide (a < b) := by unfold betN; simp [h2]
    have e1 : (s == 2) = true := by simp [h2]
    rw [e1, Bool.or_true] at HA0
    have HA := Lib.hid HA0
    rw [e]
    clear HA0 h1 h2 e e1
    go_enter Try.func85, Try.ntmps85
    go_wp2_with ((with_reducible refine (HA.out _).mono ?_); rintro e w' ⟨rfl, rfl⟩)
    go_ret
    exact ⟨rfl, rfl⟩
  rw [if_neg h2, if_neg h2] at HA0
  have e : betN s a b = false := by unfold betN; simp [h1, h2]
  have e1 : (s == 1) = false := by simp [h1]
  have e2 : (s == 2) = false := by simp [h2]
  rw [e1, e2] at HA0
  have HA := Lib.hid HA0
  rw [e]
  clear HA0 h1 h2 e e1 e2
  go_enter Try.func85, Try.ntmps85
  go_wp2_with ((with_reducible refine (HA.out _).mono ?_); rintro e w' ⟨rfl, rfl⟩)
  go_ret
  exact ⟨rfl, rfl⟩
def cmpN (a b : Int) : Int := if a < b then -1 else if b < a then 1 else 0
set_option maxHeartbeats 4000000 in
set_option maxRecDepth 100000 in
theorem isNaN_c (a : Int) (w : World) : Calls Try.prog 100 #[.int .u64 a] w fun e w' => e = .returned (.bool false) ∧ w = w' := by
  go_enter Try.func100, Try.ntmps100
  go_wp2_with fail
  go_ret
  exact ⟨rfl, rfl⟩
set_option maxHeartbeats 4000000 in
set_option maxRecDepth 100000 in
theorem compare_c (a b : Int) (w : World) : Calls Try.prog 86 #[.int .u64 a, .int .u64 b] w fun e w' => e = .returned (.int .i64 (cmpN a b)) ∧ w = w' := by
  have HN := Lib.hid isNaN_c
  unfold cmpN
  by_cases h1 : a < b
  · rw [if_pos h1]
    go_enter Try.func86, Try.ntmps86
    go_wp2_with ((with_reducible refine (HN.out _ _).mono ?_); rintro e w' ⟨rfl, rfl⟩)
    go_ret
    exact ⟨rfl, rfl⟩
  rw [if_neg h1]
  have g1 : decide (a < b) = false := decide_eq_false h1
  by_cases h2 : b < a
  · rw [if_pos h2]
    clear h1
    go_enter Try.func86, Try.ntmps86
    go_wp2_with ((with_reducible refine (HN.out _ _).mono ?_); rintro e w' ⟨rfl, rfl⟩)
    go_ret
    exact ⟨rfl, rfl⟩
  rw [if_neg h2]
  have g2 : decide (b < a) = false := decide_eq_false h2
  clear h1 h2
  go_enter Try.func86, Try.ntmps86
  go_wp2_with ((with_reducible refine (HN.out _ _).mono ?_); rintro e w' ⟨rfl, rfl⟩)
  go_ret
  exact ⟨rfl, rfl⟩
set_option maxHeartbeats 4000000 in
set_option maxRecDepth 100000 in
theorem or_c (a b : Int) (g : Nat) (w : World) (hg : w.heap[g]? = some (.cells #[.int .i64 a, .int .i64 b] 3 (0, 0))) :
    Calls Try.prog 18 #[.slice (some ⟨g, 0, none⟩) 2 2] w fun e w' => e = .returned (.int .i64 (if a = 0 then b else a)) ∧ w = w' := by
  have c0 : w.cell? ⟨g, 0, none⟩ = some (.int .i64 a) := by rw [cell_of_row _ _ _ _ _ _ hg]; rfl
  have c1 : w.cell? ⟨g, 1, none⟩ = some (.int .i64 b) := by rw [cell_of_row _ _ _ _ _ _ hg]; rfl
  clear hg
  by_cases h0 : a = 0
  · rw [if_pos h0]
    have e0 : (a != 0) = false := by simp [h0]
    clear h0
    by_cases h1 : b = 0
    · have e1 : (b != 0) = false := by simp [h1]
      have e2 : Ending.returned (.int .i64 0) = Ending.returned (.int .i64 b) := by rw [h1]
      have E2 := Lib.hid e2
      clear h1 e2
      go_enter Try.func18, Try.ntmps18
      go_wp2_with fail
      go_loop [8] (fun i => ∃ k : Nat, k ≤ 2 ∧ i = .int .i64 k) (fun i => 2 - (intOf i).toNat)
      case atStart => exact ⟨0, by omega, rfl⟩
      case round =>
        obtain ⟨k, hk, rfl⟩ := hrel
        have e : k = 0 ∨ k = 1 ∨ k = 2 := by omega
        rcases e with rfl | rfl | rfl
        · go_wp2_with fail
          exact ⟨⟨1, by omega, rfl⟩, by simp [intOf]⟩
        · go_wp2_with fail
          exact ⟨⟨2, by omega, rfl⟩, by simp [intOf]⟩
        · go_wp2_with fail
          go_ret
          exact ⟨E2.out, rfl⟩
    · have e1 : (b != 0) = true := by simp [h1]
      clear h1
      go_enter Try.func18, Try.ntmps18
      go_wp2_with fail
      go_loop [8] (fun i => ∃ k : Nat, k ≤ 1 ∧ i = .int .i64 k) (fun i => 2 - (intOf i).toNat)
      case atStart => exact ⟨0, by omega, rfl⟩
      case round =>
        obtain ⟨k, hk, rfl⟩ := hrel
        have e : k = 0 ∨ k = 1 := by omega
        rcases e with rfl | rfl
        · go_wp2_with fail
          exact ⟨⟨1, by omega, rfl⟩, by simp [intOf]⟩
        · go_wp2_with fail
          go_ret
          exact ⟨rfl, rfl⟩
  · rw [if_neg h0]
    have e0 : (a != 0) = true := by simp [h0]
    clear h0
    go_enter Try.func18, Try.ntmps18
    go_wp2_with fail
    go_loop [8] (fun i => i = .int .i64 0) (fun i => 2 - (intOf i).toNat)
    case atStart => rfl
    case round =>
      subst hrel
      go_wp2_with fail
      go_ret
      exact ⟨rfl, rfl⟩
end Go.Proofs.Ytdjbnnjcifgnlaa

namespace Go.Proofs.Ytdjbnnjcifgnlaa
open Go.RowKit

/-- What a call leaves that only makes memory, and draws. -/
structure Gw (w w' : World) : Prop where
  b : Below w.heap.size w w'
  d : w.drawn ≤ w'.drawn
theorem Gw.refl (w : World) : Gw w w := ⟨Below.refl _ _, Nat.le_refl _⟩
theorem Gw.trans {a b c : World} (h : Gw a b) (k : Gw b c) : Gw a c := ⟨h.b.trans (k.b.mono h.b.size), Nat.le_trans h.d k.d⟩
theorem Gw.alloc {a b : World} (h : Gw a b) (o : Obj) : Gw a (b.alloc o) := ⟨h.b.alloc h.b.size o, h.d⟩
theorem Gw.grow {w w' : World} (h : Gw w w') : ∃ q os, w' = Go.Sort.grow (w.drewN q) os := by
  refine ⟨w'.drawn - w.drawn, w'.heap.extract w.heap.size w'.heap.size, ?_⟩
  have e : w'.heap = w.heap ++ w'.heap.extract w.heap.size w'.heap.size := by
    apply Array.ext_getElem?
    intro i
    rw [Array.getElem?_append]
    by_cases hi : i < w.heap.size
    · rw [if_pos hi]; exact h.b.block i hi
    · rw [if_neg hi, Array.getElem?_extract]
      by_cases hj : i < w'.heap.size
      · rw [if_pos (by omega)]; congr 1; omega
      · rw [if_neg (by omega), Array.getElem?_eq_none (by omega)]
  have hd := h.d
  have h1 := h.b.tape; have h2 := h.b.os; have h3 := h.b.output
  cases w'; cases w
  simp only at e hd h1 h2 h3 ⊢
  subst h1 h2 h3
  unfold Go.Sort.grow World.drewN
  simp only [World.mk.injEq, true_and, and_true]
  exact ⟨e, by omega⟩
theorem hd_last {w : World} {o : Obj} {n : Nat} (h : n = w.heap.size) : (w.alloc o).heap[n]? = some o := by subst h; exact heap_alloc_new w o
theorem hd_prev {w : World} {o p : Obj} {n : Nat} (h : n < w.heap.size) (hp : w.heap[n]? = some p) : (w.alloc o).heap[n]? = some p := (heap_alloc_old (w := w) (o := o) h).trans hp
theorem hd_drew {w : World} {g : Nat} {p : Obj} (h : w.heap[g]? = some p) : w.drew.heap[g]? = some p := h
/-- Is the first order (ID, side, price, Seq) ahead of the second one? -/
def ahdN (i1 s1 p1 q1 i2 s2 p2 q2 : Int) : Bool :=
  if s1 ≠ s2 ∨ (s1 ≠ 1 ∧ s1 ≠ 2) then false else if p1 ≠ p2 then betN s1 p1 p2 else decide ((if cmpN q1 q2 = 0 then cmpN i1 i2 else cmpN q1 q2) < 0)
theorem rk_2 (s : Int) : (rkN s == 2) = decide (s ≠ 1 ∧ s ≠ 2) := by
  unfold rkN
  by_cases h1 : s = 1
  · simp [h1]
  · by_cases h2 : s = 2
    · simp [h2]
    · simp [h1, h2]
set_option maxHeartbeats 4000000 in
set_option maxRecDepth 100000 in
theorem ahead_c (i1 a1 s1 p1 n1 q1 i2 a2 s2 p2 n2 q2 : Int) (w : World) :
    Calls Try.prog 53 #[.agg #[.int .u64 i1, .int .i64 a1, .int .i64 s1, .int .i64 p1, .int .i64 n1, .int .u64 q1], .agg #[.int .u64 i2, .int .i64 a2, .int .i64 s2, .int .i64 p2, .int .i64 n2, .int .u64 q2]] w fun e w' => e = .returned (.bool (ahdN i1 s1 p1 q1 i2 s2 p2 q2)) ∧ Gw w w' := by
  unfold ahdN
  have HK := Lib.hid rank_c
  by_cases h1 : s1 = s2
  rotate_left
  · rw [if_pos (.inl h1)]
    have e1 : (s1 != s2) = true := by simp [h1]
    clear h1
    go_enter Try.func53, Try.ntmps53
    go_wp2_with fail
    go_ret
    exact ⟨rfl, ⟨by (focus ((repeat' (first | (with_reducible exact Below.refl _ _) | (with_reducible assumption) | (with_reducible refine Below.alloc ?_ ?_ _) | (with_reducible refine Below.setCell ?_ ?_ _) | (with_reducible refine Below.row ?_ ?_ _) | (with_reducible refine Below.drew ?_) | (with_reducible refine below_drewN ?_ _) | (focus (first | (simp; done) | omega | (simp; omega))))); done)), by first | exact Nat.le_refl _ | exact Nat.le_succ _⟩⟩
  have e1 : (s1 != s2) = false := by simp [h1]
  have r2 := rk_2 s1
  by_cases h2 : s1 ≠ 1 ∧ s1 ≠ 2
  · rw [if_pos (.inr h2)]
    rw [decide_eq_true h2] at r2
    clear h1 h2
    go_enter Try.func53, Try.ntmps53
    go_wp2_with ((with_reducible refine (HK.out _ _).mono ?_); rintro e w' ⟨rfl, rfl⟩)
    go_ret
    exact ⟨rfl, ⟨by (focus ((repeat' (first | (with_reducible exact Below.refl _ _) | (with_reducible assumption) | (with_reducible refine Below.alloc ?_ ?_ _) | (with_reducible refine Below.setCell ?_ ?_ _) | (with_reducible refine Below.row ?_ ?_ _) | (with_reducible refine Below.drew ?_) | (with_reducible refine below_drewN ?_ _) | (focus (first | (simp; done) | omega | (simp; omega))))); done)), by first | exact Nat.le_refl _ | exact Nat.le_succ _⟩⟩
  have hno : ¬ (s1 ≠ s2 ∨ (s1 ≠ 1 ∧ s1 ≠ 2)) := fun h => h.elim (fun h => h h1) h2
  rw [if_neg hno]
  rw [decide_eq_false h2] at r2
  by_cases h3 : p1 = p2
  rotate_left
  · rw [if_pos h3]
    have e3 : (p1 != p2) = true := by simp [h3]
    have HB := Lib.hid (better_c s1 p1 p2)
    generalize betN s1 p1 p2 = r at *
    clear h1 h2 h3 hno
    go_enter Try.func53, Try.ntmps53
    go_wp2_with (first | ((with_reducible refine (HK.out _ _).mono ?_); rintro e w' ⟨rfl, rfl⟩) | ((with_reducible refine (HB.out _).mono ?_); rintro e w' ⟨rfl, rfl⟩))
    go_ret
    exact ⟨rfl, ⟨by (focus ((repeat' (first | (with_reducible exact Below.refl _ _) | (with_reducible assumption) | (with_reducible refine Below.alloc ?_ ?_ _) | (with_reducible refine Below.setCell ?_ ?_ _) | (with_reducible refine Below.row ?_ ?_ _) | (with_reducible refine Below.drew ?_) | (with_reducible refine below_drewN ?_ _) | (focus (first | (simp; done) | omega | (simp; omega))))); done)), by first | exact Nat.le_refl _ | exact Nat.le_succ _⟩⟩
  rw [if_neg (by simp [h3])]
  have e3 : (p1 != p2) = false := by simp [h3]
  have HC1 := Lib.hid (compare_c q1 q2)
  have HC2 := Lib.hid (compare_c i1 i2)
  have HO := Lib.hid (fun g w hg => or_c (cmpN q1 q2) (cmpN i1 i2) g w hg)
  generalize cmpN q1 q2 = c1 at *
  generalize cmpN i1 i2 = c2 at *
  generalize (if c1 = 0 then c2 else c1) = c at *
  clear h1 h2 h3 hno
  go_enter Try.func53, Try.ntmps53
  go_wp2_with ((with_reducible refine (HK.out _ _).mono ?_); rintro e w' ⟨rfl, rfl⟩)
  refine wp_region_held_drew (S := (fun w' => w'.heap[w.heap.size]? = some (.cells #[.int .u64 i1, .int .i64 a1, .int .i64 s1, .int .i64 p1, .int .i64 n1, .int .u64 q1] 42 (0, 0)) ∧ w'.heap[w.heap.size + 1]? = some (.cells #[.int .u64 i2, .int .i64 a2, .int .i64 s2, .int .i64 p2, .int .i64 n2, .int .u64 q2] 42 (0, 0)))) (by kernel_rfl) (by first | (dsimp only; exact ⟨by (focus ((repeat' (first | (with_reducible assumption) | ((with_reducible refine hd_last ?_); (focus (first | (simp; done) | omega | (simp; omega)))) | ((with_reducible refine hd_prev ?_ ?_); (focus (first | (simp; done) | omega | (simp; omega)))) | (with_reducible refine hd_drew ?_))); done)), by (focus ((repeat' (first | (with_reducible assumption) | ((with_reducible refine hd_last ?_); (focus (first | (simp; done) | omega | (simp; omega)))) | ((with_reducible refine hd_prev ?_ ?_); (focus (first | (simp; done) | omega | (simp; omega)))) | (with_reducible refine hd_drew ?_))); done))⟩) | exact ⟨by (focus ((repeat' (first | (with_reducible assumption) | ((with_reducible refine hd_last ?_); (focus (first | (simp; done) | omega | (simp; omega)))) | ((with_reducible refine hd_prev ?_ ?_); (focus (first | (simp; done) | omega | (simp; omega)))) | (with_reducible refine hd_drew ?_))); done)), by (focus ((repeat' (first | (with_reducible assumption) | ((with_reducible refine hd_last ?_); (focus (first | (simp; done) | omega | (simp; omega)))) | ((with_reducible refine hd_prev ?_ ?_); (focus (first | (simp; done) | omega | (simp; omega)))) | (with_reducible refine hd_drew ?_))); done))⟩) (fun hHeld => ?_)
  refine wpAnyH_take (i := 0) (oi := ⟨some 28, _, _, _, _, _⟩) (v := ?_) rfl (by kernel_rfl) (by kernel_rfl) (by kernel_rfl) (fun _ _ _ h => h) (Or.inl ⟨by kernel_rfl, ?_⟩) (by assumption) ?_
  rotate_left
  · (intro w hSw; (try dsimp only at hSw); go_simp; try with_reducible rfl)
  (repeat (first | simp only [Act.put] | simp only [List.setIfInBounds_toArray] | simp only [List.set_cons_succ] | simp only [List.set_cons_zero]))
  refine wpAnyH_take (i := 1) (oi := ⟨some 29, _, _, _, _, _⟩) (v := ?_) rfl (by kernel_rfl) (by kernel_rfl) (by kernel_rfl) (fun _ _ _ h => h) (Or.inl ⟨by kernel_rfl, ?_⟩) (by assumption) ?_
  rotate_left
  · (intro w hSw; have cc := cell_of_row _ _ 5 _ _ _ hSw.1; (try dsimp only at hSw); go_simp; try with_reducible rfl)
  (repeat (first | simp only [Act.put] | simp only [List.setIfInBounds_toArray] | simp only [List.set_cons_succ] | simp only [List.set_cons_zero]))
  refine wpAnyH_take (i := 2) (oi := ⟨some 30, _, _, _, _, _⟩) (v := ?_) rfl (by kernel_rfl) (by kernel_rfl) (by kernel_rfl) (fun _ _ _ h => h) (Or.inl ⟨by kernel_rfl, ?_⟩) (by assumption) ?_
  rotate_left
  · (intro w hSw; (try dsimp only at hSw); go_simp; try with_reducible rfl)
  (repeat (first | simp only [Act.put] | simp only [List.setIfInBounds_toArray] | simp only [List.set_cons_succ] | simp only [List.set_cons_zero]))
  refine wpAnyH_take (i := 3) (oi := ⟨some 31, _, _, _, _, _⟩) (v := ?_) rfl (by kernel_rfl) (by kernel_rfl) (by kernel_rfl) (fun _ _ _ h => h) (Or.inl ⟨by kernel_rfl, ?_⟩) (by assumption) ?_
  rotate_left
  · (intro w hSw; have cc := cell_of_row _ _ 5 _ _ _ hSw.2; (try dsimp only at hSw); go_simp; try with_reducible rfl)
  (repeat (first | simp only [Act.put] | simp only [List.setIfInBounds_toArray] | simp only [List.set_cons_succ] | simp only [List.set_cons_zero]))
  refine wpAnyH_take (i := 5) (oi := ⟨some 33, _, _, _, _, _⟩) (v := ?_) rfl (by kernel_rfl) (by kernel_rfl) (by kernel_rfl) (fun _ _ _ h => h) (Or.inl ⟨by kernel_rfl, ?_⟩) (by assumption) ?_
  rotate_left
  · (intro w hSw; (try dsimp only at hSw); go_simp; try with_reducible rfl)
  (repeat (first | simp only [Act.put] | simp only [List.setIfInBounds_toArray] | simp only [List.set_cons_succ] | simp only [List.set_cons_zero]))
  refine wpAnyH_take (i := 6) (oi := ⟨some 34, _, _, _, _, _⟩) (v := ?_) rfl (by kernel_rfl) (by kernel_rfl) (by kernel_rfl) (fun _ _ _ h => h) (Or.inl ⟨by kernel_rfl, ?_⟩) (by assumption) ?_
  rotate_left
  · (intro w hSw; have cc := cell_of_row _ _ 0 _ _ _ hSw.1; (try dsimp only at hSw); go_simp; try with_reducible rfl)
  (repeat (first | simp only [Act.put] | simp only [List.setIfInBounds_toArray] | simp only [List.set_cons_succ] | simp only [List.set_cons_zero]))
  refine wpAnyH_take (i := 7) (oi := ⟨some 35, _, _, _, _, _⟩) (v := ?_) rfl (by kernel_rfl) (by kernel_rfl) (by kernel_rfl) (fun _ _ _ h => h) (Or.inl ⟨by kernel_rfl, ?_⟩) (by assumption) ?_
  rotate_left
  · (intro w hSw; (try dsimp only at hSw); go_simp; try with_reducible rfl)
  (repeat (first | simp only [Act.put] | simp only [List.setIfInBounds_toArray] | simp only [List.set_cons_succ] | simp only [List.set_cons_zero]))
  refine wpAnyH_take (i := 8) (oi := ⟨some 36, _, _, _, _, _⟩) (v := ?_) rfl (by kernel_rfl) (by kernel_rfl) (by kernel_rfl) (fun _ _ _ h => h) (Or.inl ⟨by kernel_rfl, ?_⟩) (by assumption) ?_
  rotate_left
  · (intro w hSw; have cc := cell_of_row _ _ 0 _ _ _ hSw.2; (try dsimp only at hSw); go_simp; try with_reducible rfl)
  (repeat (first | simp only [Act.put] | simp only [List.setIfInBounds_toArray] | simp only [List.set_cons_succ] | simp only [List.set_cons_zero]))
  refine wpAnyH_ready (rs := [4]) (by kernel_rfl) (by simp) ?_
  refine AllReadyH.cons (o := ⟨some 32, _, _, _, _, _⟩) rfl (fun K hK => ?_) AllReadyH.nil
  go_simp
  ((with_reducible refine (HC1.out _).mono ?_); rintro e w' ⟨rfl, rfl⟩)
  refine hK.out _ _ (by first | assumption | exact ⟨by (focus ((repeat' (first | (with_reducible assumption) | ((with_reducible refine hd_last ?_); (focus (first | (simp; done) | omega | (simp; omega)))) | ((with_reducible refine hd_prev ?_ ?_); (focus (first | (simp; done) | omega | (simp; omega)))) | (with_reducible refine hd_drew ?_))); done)), by (focus ((repeat' (first | (with_reducible assumption) | ((with_reducible refine hd_last ?_); (focus (first | (simp; done) | omega | (simp; omega)))) | ((with_reducible refine hd_prev ?_ ?_); (focus (first | (simp; done) | omega | (simp; omega)))) | (with_reducible refine hd_drew ?_))); done))⟩) (fun hHeld => ?_)
  clear hK K
  (repeat (first | simp only [Act.put] | simp only [List.setIfInBounds_toArray] | simp only [List.set_cons_succ] | simp only [List.set_cons_zero]))
  refine wpAnyH_ready (rs := [9]) (by kernel_rfl) (by simp) ?_
  refine AllReadyH.cons (o := ⟨some 37, _, _, _, _, _⟩) rfl (fun K hK => ?_) AllReadyH.nil
  go_simp
  ((with_reducible refine (HC2.out _).mono ?_); rintro e w' ⟨rfl, rfl⟩)
  refine hK.out _ _ (by first | assumption | exact ⟨by (focus ((repeat' (first | (with_reducible assumption) | ((with_reducible refine hd_last ?_); (focus (first | (simp; done) | omega | (simp; omega)))) | ((with_reducible refine hd_prev ?_ ?_); (focus (first | (simp; done) | omega | (simp; omega)))) | (with_reducible refine hd_drew ?_))); done)), by (focus ((repeat' (first | (with_reducible assumption) | ((with_reducible refine hd_last ?_); (focus (first | (simp; done) | omega | (simp; omega)))) | ((with_reducible refine hd_prev ?_ ?_); (focus (first | (simp; done) | omega | (simp; omega)))) | (with_reducible refine hd_drew ?_))); done))⟩) (fun hHeld => ?_)
  clear hK K
  (repeat (first | simp only [Act.put] | simp only [List.setIfInBounds_toArray] | simp only [List.set_cons_succ] | simp only [List.set_cons_zero]))
  refine wpAnyH_ready (rs := [10]) (by kernel_rfl) (by simp) ?_
  refine AllReadyH.cons (o := ⟨some 38, _, _, _, _, _⟩) rfl (fun K hK => ?_) AllReadyH.nil
  go_simp
  refine hK.out _ _ (by first | assumption | exact ⟨by (focus ((repeat' (first | (with_reducible assumption) | ((with_reducible refine hd_last ?_); (focus (first | (simp; done) | omega | (simp; omega)))) | ((with_reducible refine hd_prev ?_ ?_); (focus (first | (simp; done) | omega | (simp; omega)))) | (with_reducible refine hd_drew ?_))); done)), by (focus ((repeat' (first | (with_reducible assumption) | ((with_reducible refine hd_last ?_); (focus (first | (simp; done) | omega | (simp; omega)))) | ((with_reducible refine hd_prev ?_ ?_); (focus (first | (simp; done) | omega | (simp; omega)))) | (with_reducible refine hd_drew ?_))); done))⟩) (fun hHeld => ?_)
  clear hK K
  (repeat (first | simp only [Act.put] | simp only [List.setIfInBounds_toArray] | simp only [List.set_cons_succ] | simp only [List.set_cons_zero]))
  refine wpAnyH_ready (rs := [11]) (by kernel_rfl) (by simp) ?_
  refine AllReadyH.cons (o := ⟨some 39, _, _, _, _, _⟩) rfl (fun K hK => ?_) AllReadyH.nil
  go_simp
  ((with_reducible refine (HO.out _ _ ?_).mono ?_); (focus ((repeat' (first | (with_reducible assumption) | ((with_reducible refine hd_last ?_); (focus (first | (simp; done) | omega | (simp; omega)))) | ((with_reducible refine hd_prev ?_ ?_); (focus (first | (simp; done) | omega | (simp; omega)))) | (with_reducible refine hd_drew ?_))); done)); rintro e w' ⟨rfl, rfl⟩)
  refine hK.out _ _ (by first | assumption | exact ⟨by (focus ((repeat' (first | (with_reducible assumption) | ((with_reducible refine hd_last ?_); (focus (first | (simp; done) | omega | (simp; omega)))) | ((with_reducible refine hd_prev ?_ ?_); (focus (first | (simp; done) | omega | (simp; omega)))) | (with_reducible refine hd_drew ?_))); done)), by (focus ((repeat' (first | (with_reducible assumption) | ((with_reducible refine hd_last ?_); (focus (first | (simp; done) | omega | (simp; omega)))) | ((with_reducible refine hd_prev ?_ ?_); (focus (first | (simp; done) | omega | (simp; omega)))) | (with_reducible refine hd_drew ?_))); done))⟩) (fun hHeld => ?_)
  clear hK K
  (repeat (first | simp only [Act.put] | simp only [List.setIfInBounds_toArray] | simp only [List.set_cons_succ] | simp only [List.set_cons_zero]))
  refine wpAnyH_take (i := 12) (oi := ⟨some 40, _, _, _, _, _⟩) (v := ?_) rfl (by kernel_rfl) (by kernel_rfl) (by kernel_rfl) (fun _ _ _ h => h) (Or.inl ⟨by kernel_rfl, ?_⟩) (by assumption) ?_
  rotate_left
  · (intro w hSw; (try dsimp only at hSw); go_simp; try with_reducible rfl)
  (repeat (first | simp only [Act.put] | simp only [List.setIfInBounds_toArray] | simp only [List.set_cons_succ] | simp only [List.set_cons_zero]))
  refine wpAnyH_take (i := 13) (oi := ⟨some 4, _, _, _, _, _⟩) (v := ?_) rfl (by kernel_rfl) (by kernel_rfl) (by kernel_rfl) (fun _ _ _ h => h) (Or.inl ⟨by kernel_rfl, ?_⟩) (by assumption) ?_
  rotate_left
  · (intro w hSw; (try dsimp only at hSw); go_simp; try with_reducible rfl)
  (repeat (first | simp only [Act.put] | simp only [List.setIfInBounds_toArray] | simp only [List.set_cons_succ] | simp only [List.set_cons_zero]))
  refine wpAnyH_done (by kernel_rfl) ?_ _
  go_wp2_with fail
  go_ret
  exact ⟨rfl, ⟨by (focus ((repeat' (first | (with_reducible exact Below.refl _ _) | (with_reducible assumption) | (with_reducible refine Below.alloc ?_ ?_ _) | (with_reducible refine Below.setCell ?_ ?_ _) | (with_reducible refine Below.row ?_ ?_ _) | (with_reducible refine Below.drew ?_) | (with_reducible refine below_drewN ?_ _) | (focus (first | (simp; done) | omega | (simp; omega))))); done)), by first | exact Nat.le_refl _ | exact Nat.le_succ _⟩⟩
end Go.Proofs.Ytdjbnnjcifgnlaa

namespace Go.Proofs.Ytdjbnnjcifgnlaa
open Go.Sort

section
variable {β : Type} [Inhabited β] (lt : β → β → Bool)
/-- By the order alone. -/
def ltS (x y : β × Nat) : Bool := lt x.1 y.1
/-- By the order, and among equal ones by the first place. -/
def ltR (x y : β × Nat) : Bool := lt x.1 y.1 || (!lt y.1 x.1 && decide (x.2 < y.2))
variable {lt}
omit [Inhabited β] in
/-- What stood behind is less just if it is less by the order alone. -/
theorem ltS_R {x y : β × Nat} (h : y.2 ≤ x.2) : ltS lt x y = ltR lt x y := by
  unfold ltS ltR
  have : decide (x.2 < y.2) = false := decide_eq_false (by omega)
  rw [this, Bool.and_false, Bool.or_false]
omit [Inhabited β] in
theorem ltR_iff {x y : β × Nat} : ltR lt x y = true ↔ lt x.1 y.1 = true ∨ (lt y.1 x.1 = false ∧ x.2 < y.2) := by
  unfold ltR
  simp
omit [Inhabited β] in
theorem ltR_no {x y : β × Nat} : ltR lt x y = false ↔ lt x.1 y.1 = false ∧ (lt y.1 x.1 = true ∨ y.2 ≤ x.2) := by
  unfold ltR
  by_cases h : lt y.1 x.1 = true
  · simp [h]
  · simp at h; simp [h]
omit [Inhabited β] in
theorem swo_ltR (h : SWO lt) : SWO (ltR lt) := by
  refine ⟨fun x => ?_, fun x y z a b => ?_, fun x y z a b => ?_⟩
  · rw [ltR_no]; exact ⟨h.irrefl _, .inr (Nat.le_refl _)⟩
  · rw [ltR_iff] at a b ⊢
    rcases a with a | ⟨a, a'⟩
    · rcases b with b | ⟨b, b'⟩
      · exact .inl (h.trans _ _ _ a b)
      · left
        cases e : lt x.1 z.1 with
        | true => rfl
        | false => have := h.ntrans _ _ _ e b; rw [a] at this; cases this
    · rcases b with b | ⟨b, b'⟩
      · left
        cases e : lt x.1 z.1 with
        | true => rfl
        | false => have := h.ntrans _ _ _ a e; rw [b] at this; cases this
      · exact .inr ⟨h.ntrans _ _ _ b a, by omega⟩
  · rw [ltR_no] at a b ⊢
    refine ⟨h.ntrans _ _ _ a.1 b.1, ?_⟩
    rcases a.2 with a2 | a2
    · left
      cases e : lt z.1 x.1 with
      | true => rfl
      | false => have := h.ntrans _ _ _ b.1 e; rw [a2] at this; cases this
    · rcases b.2 with b2 | b2
      · left
        cases e : lt z.1 x.1 with
        | true => rfl
        | false => have := h.ntrans _ _ _ e a.1; rw [b2] at this; cases this
      · right; omega

theorem insInner_perm {α : Type} [Inhabited α] (l : α → α → Bool) (a b : Nat) : ∀ (j : Nat) (d : Array α), j < b → b ≤ d.size → PermIn a b d (insInner l a j d)
  | 0, d, _, _ => permIn_refl d a b
  | j + 1, d, hj, hb => by
    unfold insInner
    split
    · rename_i hc
      have haj : j + 1 > a := by simp at hc; omega
      exact permIn_trans _ _ _ a b (swp_permIn d a b (j + 1) j (by omega) hj (by omega) (by omega) hb) (insInner_perm l a b j _ (by omega) (by rw [size_swp]; exact hb))
    · exact permIn_refl d a b
theorem insInner_R (a : Nat) : ∀ (j : Nat) (d : Array (β × Nat)), j < d.size → (∀ p, a ≤ p → p < j → (d[p]!).2 < (d[j]!).2) → insInner (ltS lt) a j d = insInner (ltR lt) a j d
  | 0, _, _, _ => rfl
  | j + 1, d, hj, h => by
    unfold insInner
    by_cases haj : j + 1 > a
    · have e : ltS lt d[j + 1]! d[j]! = ltR lt d[j + 1]! d[j]! := ltS_R (Nat.le_of_lt (h j (by omega) (by omega)))
      rw [e]
      have IH := insInner_R a j (swp d (j + 1) j) (by rw [size_swp]; omega) (fun p hp hpj => by
        rw [swp_right _ _ _ (by omega), swp_other _ _ _ _ (by omega) (by omega)]
        exact h p hp (by omega))
      rw [IH]
    · have : decide (j + 1 > a) = false := decide_eq_false haj
      rw [this, Bool.false_and, Bool.false_and]
      rfl
theorem outer_go {α : Type} [Inhabited α] (l : α → α → Bool) (a b i : Nat) (d : Array α) (h : i < b) : insOuter l a b i d = insOuter l a b (i + 1) (insInner l a i d) := by
  rw [insOuter, if_pos h]
theorem outer_stop {α : Type} [Inhabited α] (l : α → α → Bool) (a b i : Nat) (d : Array α) (h : ¬ i < b) : insOuter l a b i d = d := by
  rw [insOuter, if_neg h]
theorem insOuter_R (a b : Nat) : ∀ (n i : Nat) (d : Array (β × Nat)), b - i = n → a < i → b ≤ d.size → (∀ p q, a ≤ p → p < q → i ≤ q → q < b → (d[p]!).2 < (d[q]!).2) → insOuter (ltS lt) a b i d = insOuter (ltR lt) a b i d
  | 0, i, d, hn, _, _, _ => by
    rw [outer_stop _ _ _ _ _ (by omega), outer_stop _ _ _ _ _ (by omega)]
  | n + 1, i, d, hn, hai, hb, h => by
    rw [outer_go _ _ _ _ _ (by omega), outer_go (ltR lt) _ _ _ _ (by omega)]
    have e := insInner_R (lt := lt) a i d (by omega) (fun p hp hpi => h p i hp hpi (Nat.le_refl _) (by omega))
    rw [e]
    have P := insInner_perm (ltR lt) a (i + 1) i d (by omega) (by omega)
    refine insOuter_R a b n (i + 1) _ (by omega) (by omega) (by rw [P.1]; exact hb) (fun p q hp hpq hiq hq => ?_)
    rw [P.2.1 q (.inr hiq)]
    by_cases hpi : p < i + 1
    · exact permIn_all d _ a (i + 1) (fun x => x.2 < (d[q]!).2) (by omega) P (fun k hk hki => h k q hk (by omega) (by omega) hq) p hp hpi
    · rw [P.2.1 p (.inr (by omega))]
      exact h p q hp hpq (by omega) hq
theorem ins_stable (h : SWO lt) (d : Array (β × Nat)) (a b : Nat) (hab : a ≤ b) (hb : b ≤ d.size) (hi : ∀ p q, a ≤ p → p < q → q < b → (d[p]!).2 < (d[q]!).2) :
    PermIn a b d (insertionSort (ltS lt) d a b) ∧ SortedIn (ltR lt) a b (insertionSort (ltS lt) d a b) := by
  have e : insertionSort (ltS lt) d a b = insertionSort (ltR lt) d a b := insOuter_R a b _ _ d rfl (by omega) hb (fun p q hp hpq _ hq => hi p q hp hpq hq)
  rw [e]
  exact insertionSort_holds (swo_ltR h) d a b hab hb

/-- Where what comes to p came from, if [a, m) and [m, b) change places. -/
def rho (a m b p : Nat) : Nat := if a ≤ p ∧ p < a + (b - m) then p + (m - a) else if a + (b - m) ≤ p ∧ p < b then p - (b - m) else p
/-- Where what comes to p came from, if n from a on and n from b on change places. -/
def sig (a b n p : Nat) : Nat := if a ≤ p ∧ p < a + n then p + (b - a) else if b ≤ p ∧ p < b + n then p - (b - a) else p
theorem sig_zero (a b p : Nat) : sig a b 0 p = p := by unfold sig; (repeat' split) <;> omega
theorem rho_big (m i j p : Nat) (hi : i ≤ m) (hj : j < i) : sig (m - i) m j (rho (m - (i - j)) m (m + j) p) = rho (m - i) m (m + j) p := by
  unfold rho sig
  (repeat' split) <;> omega
theorem rho_less (i j m p : Nat) (hi : i ≤ m) (hj : i < j) : sig (m - i) (m + j - i) i (rho (m - i) m (m + (j - i)) p) = rho (m - i) m (m + j) p := by
  unfold rho sig
  (repeat' split) <;> omega
theorem rho_same (i m p : Nat) (hi : i ≤ m) : sig (m - i) m i p = rho (m - i) m (m + i) p := by
  unfold rho sig
  (repeat' split) <;> omega
end

section
variable {β : Type} [Inhabited β] {lt : β → β → Bool}
/-- Two sorted runs side by side; all of the second one stood behind all of the first one. -/
structure Runs (lt : β → β → Bool) (a m b : Nat) (d : Array (β × Nat)) : Prop where
  l : SortedIn (ltR lt) a m d
  r : SortedIn (ltR lt) m b d
  ix : ∀ p q, a ≤ p → p < m → m ≤ q → q < b → (d[p]!).2 < (d[q]!).2
def Merged (lt : β → β → Bool) (a b : Nat) (d d' : Array (β × Nat)) : Prop := PermIn a b d d' ∧ SortedIn (ltR lt) a b d'
/-- A later one against an earlier one. -/
theorem Runs.cmp {a m b : Nat} {d : Array (β × Nat)} (R : Runs lt a m b d) {p q : Nat} (hp : a ≤ p) (hpm : p < m) (hq : m ≤ q) (hqb : q < b) : lt (d[q]!).1 (d[p]!).1 = ltR lt d[q]! d[p]! :=
  ltS_R (Nat.le_of_lt (R.ix p q hp hpm hq hqb))
theorem sorted_le (h : SWO lt) {a b : Nat} {d : Array (β × Nat)} (S : SortedIn (ltR lt) a b d) {p q : Nat} (hp : a ≤ p) (hpq : p ≤ q) (hq : q < b) : ltR lt d[q]! d[p]! = false := by
  rcases Nat.lt_or_ge p q with h1 | h1
  · exact S p q hp h1 hq
  · obtain rfl : p = q := by omega
    exact (swo_ltR h).irrefl _
theorem runs_no (h : SWO lt) {a m b : Nat} {d : Array (β × Nat)} (R : Runs lt a m b d) {p p' q q' : Nat} (hp : a ≤ p) (hpp : p ≤ p') (hpm : p' < m) (hq : m ≤ q) (hqq : q ≤ q') (hqb : q' < b) (hl : lt (d[q]!).1 (d[p']!).1 = false) : lt (d[q']!).1 (d[p]!).1 = false := by
  have hR := swo_ltR h
  rw [R.cmp (by omega) hpm hq (by omega)] at hl
  rw [R.cmp hp (by omega) (by omega) hqb]
  exact hR.ntrans _ _ _ (hR.ntrans _ _ _ (sorted_le h R.r hq hqq hqb) hl) (sorted_le h R.l hp hpp hpm)
theorem runs_yes (h : SWO lt) {a m b : Nat} {d : Array (β × Nat)} (R : Runs lt a m b d) {p p' q q' : Nat} (hp : a ≤ p) (hpp : p ≤ p') (hpm : p' < m) (hq : m ≤ q) (hqq : q ≤ q') (hqb : q' < b) (hl : lt (d[q']!).1 (d[p]!).1 = true) : lt (d[q]!).1 (d[p']!).1 = true := by
  cases e : lt (d[q]!).1 (d[p']!).1 with
  | true => rfl
  | false => rw [runs_no h R hp hpp hpm hq hqq hqb e] at hl; cases hl
/-- The first run is one element: where it goes to. -/
def Shl (a i : Nat) (k : Nat) (d dk : Array (β × Nat)) : Prop :=
  PermIn a i d dk ∧ (∀ p, a ≤ p → p < k → dk[p]! = d[p + 1]!) ∧ dk[k]! = d[a]! ∧ (∀ p, k < p → dk[p]! = d[p]!)
theorem Shl.start (a i : Nat) (d : Array (β × Nat)) : Shl a i a d d := ⟨permIn_refl _ _ _, fun p h1 h2 => by omega, rfl, fun _ _ => rfl⟩
theorem Shl.step {a i k : Nat} {d dk : Array (β × Nat)} (h : Shl a i k d dk) (hk : a ≤ k) (hi : k + 1 < i) (hs : i ≤ d.size) : Shl a i (k + 1) d (swp dk k (k + 1)) := by
  obtain ⟨P, h1, h2, h3⟩ := h
  have hsz : dk.size = d.size := P.1
  refine ⟨permIn_trans _ _ _ _ _ P (swp_permIn dk a i k (k + 1) (by omega) (by omega) (by omega) hi (by omega)), fun p hp hpk => ?_, ?_, fun p hp => ?_⟩
  · by_cases e : p = k
    · subst e
      rw [swp_left _ _ _ (by omega) (by omega)]
      exact h3 _ (by omega)
    · rw [swp_other _ _ _ _ e (by omega)]
      exact h1 p hp (by omega)
  · rw [swp_right _ _ _ (by omega)]; exact h2
  · rw [swp_other _ _ _ _ (by omega) (by omega)]
    exact h3 p (by omega)
/-- The first run is one element, put behind all that are less. -/
theorem shl_merged (h : SWO lt) {a b i k : Nat} {d dk : Array (β × Nat)} (R : Runs lt a (a + 1) b d) (H : Shl a i k d dk) (hi : a + 1 ≤ i) (hib : i ≤ b) (hb : b ≤ d.size) (hk : k + 1 = i)
    (h1 : ∀ q, a + 1 ≤ q → q < i → lt (d[q]!).1 (d[a]!).1 = true) (h2 : ∀ q, i ≤ q → q < b → lt (d[q]!).1 (d[a]!).1 = false) : Merged lt a b d dk := by
  obtain ⟨P, g1, g2, g3⟩ := H
  refine ⟨permIn_mono _ _ _ _ _ _ (Nat.le_refl _) hib hb P, fun p q hp hpq hq => ?_⟩
  have hR := swo_ltR h
  have L1 : ∀ q, a + 1 ≤ q → q < i → ltR lt d[q]! d[a]! = true := fun q hq hqi => by rw [← R.cmp (Nat.le_refl _) (by omega) hq (by omega)]; exact h1 q hq hqi
  have L2 : ∀ q, i ≤ q → q < b → ltR lt d[q]! d[a]! = false := fun q hq hqb => by rw [← R.cmp (Nat.le_refl _) (by omega) (by omega) hqb]; exact h2 q hq hqb
  rcases Nat.lt_trichotomy q k with e | e | e
  · rw [g1 p hp (by omega), g1 q (by omega) e]
    exact R.r _ _ (by omega) (by omega) (by omega)
  · subst e
    rw [g2, g1 p hp hpq]
    exact hR.asymmA (L1 _ (by omega) (by omega))
  · rw [g3 q e]
    rcases Nat.lt_trichotomy p k with e' | e' | e'
    · rw [g1 p hp e']
      exact R.r _ _ (by omega) (by omega) hq
    · subst e'
      rw [g2]
      exact L2 q (by omega) hq
    · rw [g3 p e']
      exact R.r _ _ (by omega) hpq hq
/-- The second run is one element: where it goes to. -/
def Shr (i m : Nat) (k : Nat) (d dk : Array (β × Nat)) : Prop :=
  PermIn i (m + 1) d dk ∧ (∀ p, k < p → p ≤ m → dk[p]! = d[p - 1]!) ∧ dk[k]! = d[m]! ∧ (∀ p, p < k → dk[p]! = d[p]!) ∧ (∀ p, m < p → dk[p]! = d[p]!)
theorem Shr.start (i m : Nat) (d : Array (β × Nat)) : Shr i m m d d := ⟨permIn_refl _ _ _, fun p h1 h2 => by omega, rfl, fun _ _ => rfl, fun _ _ => rfl⟩
theorem Shr.step {i m k : Nat} {d dk : Array (β × Nat)} (h : Shr i m (k + 1) d dk) (hk : i ≤ k) (hm : k + 1 ≤ m) (hs : m < d.size) : Shr i m k d (swp dk (k + 1) k) := by
  obtain ⟨P, h1, h2, h3, h4⟩ := h
  have hsz : dk.size = d.size := P.1
  refine ⟨permIn_trans _ _ _ _ _ P (swp_permIn dk i (m + 1) (k + 1) k (by omega) (by omega) (by omega) (by omega) (by omega)), fun p hp hpm => ?_, ?_, fun p hp => ?_, fun p hp => ?_⟩
  · by_cases e : p = k + 1
    · subst e
      rw [swp_left _ _ _ (by omega) (by omega)]
      exact h3 _ (by omega)
    · rw [swp_other _ _ _ _ e (by omega)]
      exact h1 p (by omega) hpm
  · rw [swp_right _ _ _ (by omega)]; exact h2
  · rw [swp_other _ _ _ _ (by omega) (by omega)]
    exact h3 p (by omega)
  · rw [swp_other _ _ _ _ (by omega) (by omega)]
    exact h4 p hp
theorem shr_merged (h : SWO lt) {a m i : Nat} {d dk : Array (β × Nat)} (R : Runs lt a m (m + 1) d) (H : Shr i m i d dk) (hi : a ≤ i) (him : i ≤ m) (hb : m + 1 ≤ d.size)
    (h1 : ∀ p, a ≤ p → p < i → lt (d[m]!).1 (d[p]!).1 = false) (h2 : ∀ p, i ≤ p → p < m → lt (d[m]!).1 (d[p]!).1 = true) : Merged lt a (m + 1) d dk := by
  obtain ⟨P, g1, g2, g3, _⟩ := H
  refine ⟨permIn_mono _ _ _ _ _ _ hi (Nat.le_refl _) hb P, fun p q hp hpq hq => ?_⟩
  have hR := swo_ltR h
  have L1 : ∀ p, a ≤ p → p < i → ltR lt d[m]! d[p]! = false := fun p hp hpi => by rw [← R.cmp hp (by omega) (Nat.le_refl _) (by omega)]; exact h1 p hp hpi
  have L2 : ∀ p, i ≤ p → p < m → ltR lt d[m]! d[p]! = true := fun p hp hpm => by rw [← R.cmp (by omega) hpm (Nat.le_refl _) (by omega)]; exact h2 p hp hpm
  rcases Nat.lt_trichotomy p i with e | e | e
  · rw [g3 p e]
    rcases Nat.lt_trichotomy q i with e' | e' | e'
    · rw [g3 q e']; exact R.l _ _ hp hpq (by omega)
    · subst e'; rw [g2]; exact L1 p hp e
    · rw [g1 q e' (by omega)]; exact R.l _ _ hp (by omega) (by omega)
  · subst e
    rw [g2, g1 q (by omega) (by omega)]
    exact hR.asymmA (L2 _ (by omega) (by omega))
  · rw [g1 p e (by omega), g1 q (by omega) (by omega)]
    exact R.l _ _ (by omega) (by omega) (by omega)
/-- Behind the search: of both runs the lesser parts, and the greater parts. -/
structure Cut (lt : β → β → Bool) (a m b s e : Nat) (d : Array (β × Nat)) : Prop where
  lo : ∀ p q, a ≤ p → p < s → e ≤ q → q < b → ltR lt d[q]! d[p]! = false
  hi : ∀ p q, s ≤ p → p < m → m ≤ q → q < e → ltR lt d[q]! d[p]! = true
theorem cut_of (h : SWO lt) {a m b s n lo hi : Nat} {d : Array (β × Nat)} (R : Runs lt a m b d) (hmid : n = (a + b) / 2 + m) (ham : a < m) (hmb : m < b)
    (hb : (m > (a + b) / 2 ∧ lo = n - b ∧ hi = (a + b) / 2) ∨ (m ≤ (a + b) / 2 ∧ lo = a ∧ hi = m)) (hs1 : lo ≤ s) (hs2 : s ≤ hi)
    (h1 : ∀ c, lo ≤ c → c < s → lt (d[n - 1 - c]!).1 (d[c]!).1 = false) (h2 : ∀ c, s ≤ c → c < hi → lt (d[n - 1 - c]!).1 (d[c]!).1 = true) :
    a ≤ s ∧ s ≤ m ∧ m ≤ n - s ∧ n - s ≤ b ∧ s + ((n - s) - m) = (a + b) / 2 ∧ Cut lt a m b s (n - s) d := by
  have hR := swo_ltR h
  refine ⟨by omega, by omega, by omega, by omega, by omega, fun p q hp hps hq hqb => ?_, fun p q hp hpm hq hqe => ?_⟩
  · have g := h1 (s - 1) (by omega) (by omega)
    rw [R.cmp (p := s - 1) (q := n - 1 - (s - 1)) (by omega) (by omega) (by omega) (by omega)] at g
    have g1 := sorted_le h R.l (p := p) (q := s - 1) hp (by omega) (by omega)
    have g2 := sorted_le h R.r (p := n - 1 - (s - 1)) (q := q) (by omega) (by omega) hqb
    exact hR.ntrans _ _ _ (hR.ntrans _ _ _ g2 g) g1
  · have g := h2 s (Nat.le_refl _) (by omega)
    rw [R.cmp (p := s) (q := n - 1 - s) (by omega) (by omega) (by omega) (by omega)] at g
    have g1 := sorted_le h R.l (p := s) (q := p) (by omega) hp hpm
    have g2 := sorted_le h R.r (p := q) (q := n - 1 - s) hq (by omega) (by omega)
    cases e : ltR lt d[q]! d[p]! with
    | true => rfl
    | false =>
      have := hR.ntrans _ _ _ (hR.ntrans _ _ _ (show ltR lt d[n - 1 - s]! d[q]! = false by
        exact g2) e) g1
      rw [g] at this; cases this
/-- Behind the turning: two pairs of runs, and all of the first pair below all of the second. -/
structure Turned (lt : β → β → Bool) (a s mid e b : Nat) (d : Array (β × Nat)) : Prop where
  l : Runs lt a s mid d
  r : Runs lt mid e b d
  x : ∀ p q, a ≤ p → p < mid → mid ≤ q → q < b → ltR lt d[q]! d[p]! = false
theorem rho_lo {s m e p : Nat} (h : p < s) : rho s m e p = p := by unfold rho; (repeat' split) <;> omega
theorem rho_hi {s m e p : Nat} (h : e ≤ p) (hs : s ≤ m) (hm : m ≤ e) : rho s m e p = p := by unfold rho; (repeat' split) <;> omega
theorem rho_1 {s m e p : Nat} (h : s ≤ p) (h2 : p < s + (e - m)) : rho s m e p = p + (m - s) := by unfold rho; rw [if_pos ⟨h, h2⟩]
theorem rho_2 {s m e p : Nat} (h : s + (e - m) ≤ p) (h2 : p < e) : rho s m e p = p - (e - m) := by unfold rho; rw [if_neg (by omega), if_pos ⟨h, h2⟩]
theorem rho_none {s m e p : Nat} (h : ¬ (s < m ∧ m < e)) (hs : s ≤ m) (hm : m ≤ e) : rho s m e p = p := by unfold rho; (repeat' split) <;> omega
theorem after_rot (h : SWO lt) {a m b s e mid : Nat} {d d1 : Array (β × Nat)} (R : Runs lt a m b d) (C : Cut lt a m b s e d) (has : a ≤ s) (hsm : s ≤ m) (hme : m ≤ e) (heb : e ≤ b) (hmid : s + (e - m) = mid)
    (hd : ∀ p, d1[p]! = d[rho s m e p]!) : Turned lt a s mid e b d1 := by
  have hR := swo_ltR h
  have L : ∀ p, p < s → d1[p]! = d[p]! := fun p hp => by rw [hd, rho_lo hp]
  have H : ∀ p, e ≤ p → d1[p]! = d[p]! := fun p hp => by rw [hd, rho_hi hp hsm hme]
  have A : ∀ p, s ≤ p → p < mid → d1[p]! = d[p + (m - s)]! := fun p hp hq => by rw [hd, rho_1 hp (by omega)]
  have B : ∀ p, mid ≤ p → p < e → d1[p]! = d[p - (e - m)]! := fun p hp hq => by rw [hd, rho_2 (by omega) hq]
  refine ⟨⟨fun p q hp hpq hq => ?_, fun p q hp hpq hq => ?_, fun p q hp hps hq hqm => ?_⟩, ⟨fun p q hp hpq hq => ?_, fun p q hp hpq hq => ?_, fun p q hp hps hq hqm => ?_⟩, fun p q hp hpm hq hqb => ?_⟩
  · rw [L p (by omega), L q (by omega)]; exact R.l _ _ hp hpq (by omega)
  · rw [A p hp (by omega), A q (by omega) hq]; exact R.r _ _ (by omega) (by omega) (by omega)
  · rw [L p hps, A q hq hqm]; exact R.ix _ _ hp (by omega) (by omega) (by omega)
  · rw [B p hp (by omega), B q (by omega) hq]; exact R.l _ _ (by omega) (by omega) (by omega)
  · rw [H p hp, H q (by omega)]; exact R.r _ _ (by omega) hpq hq
  · rw [B p hp hps, H q hq]; exact R.ix _ _ (by omega) (by omega) (by omega) hqm
  · by_cases h1 : p < s
    · rw [L p h1]
      by_cases h2 : q < e
      · rw [B q hq h2]; exact R.l _ _ hp (by omega) (by omega)
      · rw [H q (by omega)]; exact C.lo p q hp h1 (by omega) hqb
    · rw [A p (by omega) hpm]
      by_cases h2 : q < e
      · rw [B q hq h2]; exact hR.asymmA (C.hi (q - (e - m)) (p + (m - s)) (by omega) (by omega) (by omega) (by omega))
      · rw [H q (by omega)]; exact R.r _ _ (by omega) (by omega) hqb
theorem runs_one {a s b : Nat} {d : Array (β × Nat)} (R : Runs lt a s b d) (h : ¬ (a < s ∧ s < b)) (ha : a ≤ s) (hb : s ≤ b) : Merged lt a b d d := by
  refine ⟨permIn_refl _ _ _, ?_⟩
  by_cases e : a = s
  · subst e; exact R.r
  · obtain rfl : s = b := by omega
    exact R.l
theorem Runs.next {a s b : Nat} {d d' : Array (β × Nat)} (R : Runs lt a s b d) {c : Nat} (P : PermIn c a d d') (hs : a ≤ s) : Runs lt a s b d' := by
  have e : ∀ p, a ≤ p → d'[p]! = d[p]! := fun p hp => P.2.1 p (.inr hp)
  refine ⟨fun p q hp hpq hq => ?_, fun p q hp hpq hq => ?_, fun p q hp hps hq hqb => ?_⟩
  · rw [e p hp, e q (by omega)]; exact R.l _ _ hp hpq hq
  · rw [e p (by omega), e q (by omega)]; exact R.r _ _ hp hpq hq
  · rw [e p hp, e q (by omega)]; exact R.ix _ _ hp hps hq hqb
theorem merge_all {a mid b s e : Nat} {d d1 d2 d3 : Array (β × Nat)} (T : Turned lt a s mid e b d1) (P : PermIn a b d d1) (M1 : Merged lt a mid d1 d2) (M2 : Merged lt mid b d2 d3) (ham : a ≤ mid) (hmb : mid ≤ b) (hb : b ≤ d.size) : Merged lt a b d d3 := by
  have s1 : d1.size = d.size := P.1
  have s2 : d2.size = d1.size := M1.1.1
  have s3 : d3.size = d2.size := M2.1.1
  refine ⟨permIn_trans _ _ _ _ _ P (permIn_trans _ _ _ _ _ (permIn_mono _ _ _ _ _ _ (Nat.le_refl _) hmb (by omega) M1.1) (permIn_mono _ _ _ _ _ _ ham (Nat.le_refl _) (by omega) M2.1)), fun p q hp hpq hq => ?_⟩
  by_cases h1 : q < mid
  · rw [M2.1.2.1 p (.inl (by omega)), M2.1.2.1 q (.inl h1)]
    exact M1.2 p q hp hpq h1
  · by_cases h2 : mid ≤ p
    · exact M2.2 p q h2 hpq hq
    · rw [M2.1.2.1 p (.inl (by omega))]
      refine permIn_all d1 d2 a mid (fun x => ltR lt d3[q]! x = false) (by omega) M1.1 (fun p' hp' hpm' => ?_) p hp (by omega)
      refine permIn_all d2 d3 mid b (fun x => ltR lt x d1[p']! = false) (by omega) M2.1 (fun q' hq' hqb' => ?_) q (by omega) hq
      rw [M1.1.2.1 q' (.inr hq')]
      exact T.x p' q' hp' hpm' hq' hqb'
end
end Go.Proofs.Ytdjbnnjcifgnlaa

namespace Go.Proofs.Ytdjbnnjcifgnlaa
open Go.RowKit Go.ChangeShapes Go.WideShapes Go.Deep
set_option linter.unusedVariables false

structure Od where
  id : Int
  acc : Int
  side : Int
  price : Int
  qty : Int
  seq : Int
instance : Inhabited Od := ⟨⟨0, 0, 0, 0, 0, 0⟩⟩
def Od.ok (w : World) (x : Od) : Prop := (0 ≤ x.id ∧ x.id ≤ 18446744073709551615) ∧ (-9223372036854775808 ≤ x.acc ∧ x.acc ≤ 9223372036854775807) ∧ (-9223372036854775808 ≤ x.side ∧ x.side ≤ 9223372036854775807) ∧ (-9223372036854775808 ≤ x.price ∧ x.price ≤ 9223372036854775807) ∧ (-9223372036854775808 ≤ x.qty ∧ x.qty ≤ 9223372036854775807) ∧ (0 ≤ x.seq ∧ x.seq ≤ 18446744073709551615)
def Od.val (x : Od) : Value := .agg #[(.int .u64 x.id), (.int .i64 x.acc), (.int .i64 x.side), (.int .i64 x.price), (.int .i64 x.qty), (.int .u64 x.seq)]
/-- The cells of one at an address. -/
def Od.at (x : Od) (w : World) (b o : Nat) : Prop := w.cell? ⟨b, o, none⟩ = some (.int .u64 x.id) ∧ w.cell? ⟨b, o + 1, none⟩ = some (.int .i64 x.acc) ∧ w.cell? ⟨b, o + 2, none⟩ = some (.int .i64 x.side) ∧ w.cell? ⟨b, o + 3, none⟩ = some (.int .i64 x.price) ∧ w.cell? ⟨b, o + 4, none⟩ = some (.int .i64 x.qty) ∧ w.cell? ⟨b, o + 5, none⟩ = some (.int .u64 x.seq)
theorem Od.ok_below {w w' : World} {x : Od} (h : x.ok w) (hb : Below w.heap.size w w') : x.ok w' := by
  exact h
theorem Od.at_below {w w' : World} {x : Od} {b o : Nat} (h : x.at w b o) (hl : b < w.heap.size) (hb : Below w.heap.size w w') : x.at w' b o := by
  unfold Od.at at h ⊢
  simpa only [hb.cell (p := ⟨b, o, none⟩) hl, hb.cell (p := ⟨b, o + 1, none⟩) hl, hb.cell (p := ⟨b, o + 2, none⟩) hl, hb.cell (p := ⟨b, o + 3, none⟩) hl, hb.cell (p := ⟨b, o + 4, none⟩) hl, hb.cell (p := ⟨b, o + 5, none⟩) hl] using h
/-- Some of them in a slice. -/
def Ods (w : World) (a : Option Addr) (len : Nat) (its : List Od) : Prop :=
  its.length = len ∧ len ≤ 9223372036854775807 ∧ (∀ x ∈ its, x.ok w) ∧ (len = 0 ∨ ∃ b off, a = some ⟨b, off, none⟩ ∧ b < w.heap.size ∧ ∀ i, i < len → (its[i]!).at w b (off + i * 6))
theorem Ods.below {w w' : World} {a : Option Addr} {len : Nat} {its : List Od} (h : Ods w a len its) (hb : Below w.heap.size w w') : Ods w' a len its := by
  obtain ⟨h1, hle, h2, h3⟩ := h
  refine ⟨h1, hle, fun x hx => Od.ok_below (h2 x hx) hb, ?_⟩
  rcases h3 with h0 | ⟨b, off, rfl, hlt, hc⟩
  · exact .inl h0
  · exact .inr ⟨b, off, rfl, Nat.lt_of_lt_of_le hlt hb.size, fun i hi => Od.at_below (hc i hi) hlt hb⟩
theorem fields_od : oneCellFields Try.prog (match Try.prog.underlying 42 with | some (.struct fs) => fs | _ => #[]) = true := by kernel_rfl
theorem cells_od : Try.prog.cellsOf 42 = 6 := by kernel_rfl

set_option maxRecDepth 100000 in
set_option maxHeartbeats 2000000 in
theorem open_od {H : Type} {enc : TypeId × Value → H} {w : World} {fuel : Nat} {cs : List Value} {y : DataW H × List MemPlace} (hl : cs.length = 6) (h : DataW.trod enc Try.prog w 0 (fun _ => true) true fuel 42 cs = some y) :
    ∃ x : Od, x.ok w ∧ cs[0]? = some (.int .u64 x.id) ∧ cs[1]? = some (.int .i64 x.acc) ∧ cs[2]? = some (.int .i64 x.side) ∧ cs[3]? = some (.int .i64 x.price) ∧ cs[4]? = some (.int .i64 x.qty) ∧ cs[5]? = some (.int .u64 x.seq) := by
  obtain ⟨xs, n', _, _, _, hxl, hg⟩ := DataW.trod_struct Try.underlying42 h
  have fone := fields_od
  rw [Try.underlying42] at fone
  have at_ : ∀ (j : Nat) (f : Field), j < 6 → f.offset = j ∧ Try.prog.cellsOf f.type = 1 → DataW.trod enc Try.prog w 0 (fun _ => true) true n' f.type ((cs.drop f.offset).take (Try.prog.cellsOf f.type)) = xs[j]? →
      ∃ v y, cs[j]? = some v ∧ DataW.trod enc Try.prog w 0 (fun _ => true) true n' f.type [v] = some y := by
    intro j f hj ⟨ho, hk⟩ htr
    rw [ho, hk] at htr
    have hjl : j < cs.length := by omega
    have e1 : (cs.drop j).take 1 = [cs[j]] := by
      rw [List.drop_eq_getElem_cons hjl]; rfl
    rw [e1] at htr
    have hxj : j < xs.length := by rw [hxl]; exact hj
    rw [List.getElem?_eq_getElem hxj] at htr
    exact ⟨_, _, List.getElem?_eq_getElem hjl, htr⟩
  obtain ⟨v0, y0, p0, q0⟩ := at_ 0 _ (by omega) (hone_of fone 0 _ rfl) (hg 0 _ rfl)
  obtain ⟨v1, y1, p1, q1⟩ := at_ 1 _ (by omega) (hone_of fone 1 _ rfl) (hg 1 _ rfl)
  obtain ⟨v2, y2, p2, q2⟩ := at_ 2 _ (by omega) (hone_of fone 2 _ rfl) (hg 2 _ rfl)
  obtain ⟨v3, y3, p3, q3⟩ := at_ 3 _ (by omega) (hone_of fone 3 _ rfl) (hg 3 _ rfl)
  obtain ⟨v4, y4, p4, q4⟩ := at_ 4 _ (by omega) (hone_of fone 4 _ rfl) (hg 4 _ rfl)
  obtain ⟨v5, y5, p5, q5⟩ := at_ 5 _ (by omega) (hone_of fone 5 _ rfl) (hg 5 _ rfl)
  obtain ⟨k0, e0, _, w0⟩ := DataW.trod_int Try.underlying39 q0
  obtain ⟨k1, e1, _, w1⟩ := DataW.trod_int Try.underlying3 q1
  obtain ⟨k2, e2, _, w2⟩ := DataW.trod_int Try.underlying3 q2
  obtain ⟨k3, e3, _, w3⟩ := DataW.trod_int Try.underlying2 q3
  obtain ⟨k4, e4, _, w4⟩ := DataW.trod_int Try.underlying2 q4
  obtain ⟨k5, e5, _, w5⟩ := DataW.trod_int Try.underlying39 q5
  injection e0 with e0; injection e1 with e1; injection e2 with e2; injection e3 with e3; injection e4 with e4; injection e5 with e5
  subst e0; subst e1; subst e2; subst e3; subst e4; subst e5
  exact ⟨⟨k0, k1, k2, k3, k4, k5⟩, ⟨bounds_u64 w0, bounds_i64 w1, bounds_i64 w2, bounds_i64 w3, bounds_i64 w4, bounds_u64 w5⟩, p0, p1, p2, p3, p4, p5⟩

set_option maxRecDepth 100000 in
set_option maxHeartbeats 2000000 in
theorem open_ods {H : Type} {enc : TypeId × Value → H} {w : World} {a : Option Addr} {len cap : Nat} {d : DataW H} {p : List MemPlace}
    (h : DataW.Trod enc Try.prog w 0 (fun _ => true) true 22 (.slice a len cap) d p) : ∃ its, Ods w a len its ∧ len ≤ cap ∧ cap ≤ maxLen := by
  obtain ⟨fuel, hf⟩ := h
  have hlt := DataW.trod_lt _ _ _ _ hf
  rcases open_slice Try.underlying22 hf with ⟨hcs, _⟩ | ⟨x, l, c, m, n, D, Pl, hcs, _, hl, hm, hmm, hx, hi⟩
  · simp [Value.cells] at hcs
    obtain ⟨rfl, rfl, rfl⟩ := hcs
    exact ⟨[], ⟨rfl, by omega, by simp, .inl rfl⟩, Nat.le_refl _, Nat.zero_le _⟩
  · simp [Value.cells] at hcs
    obtain ⟨rfl, rfl, rfl⟩ := hcs
    rw [if_pos rfl] at hmm
    subst hmm
    have one : ∀ i, i < len → ∃ y : Od, y.ok w ∧ w.cell? ((x.add (i * 6)).add 0) = some (.int .u64 y.id) ∧ w.cell? ((x.add (i * 6)).add 1) = some (.int .i64 y.acc) ∧ w.cell? ((x.add (i * 6)).add 2) = some (.int .i64 y.side) ∧ w.cell? ((x.add (i * 6)).add 3) = some (.int .i64 y.price) ∧ w.cell? ((x.add (i * 6)).add 4) = some (.int .i64 y.qty) ∧ w.cell? ((x.add (i * 6)).add 5) = some (.int .u64 y.seq) := by
      intro i hil
      obtain ⟨cs', hc, ht⟩ := hi i (by omega)
      rw [cells_od] at hc
      obtain ⟨_, hlen, hcell⟩ := World.cells?_some hc
      obtain ⟨y, hy, p0, p1, p2, p3, p4, p5⟩ := open_od hlen ht
      exact ⟨y, hy, by rw [hcell 0 (by omega), p0], by rw [hcell 1 (by omega), p1], by rw [hcell 2 (by omega), p2], by rw [hcell 3 (by omega), p3], by rw [hcell 4 (by omega), p4], by rw [hcell 5 (by omega), p5]⟩
    refine ⟨(List.range len).map fun i => if h : i < len then Classical.choose (one i h) else default, ⟨by simp, by unfold maxLen at hm; omega, fun z hz => ?_, ?_⟩, hl, hm⟩
    · obtain ⟨i, hi1, rfl⟩ := List.mem_map.1 hz
      have hil : i < len := by simpa using hi1
      rw [dif_pos hil]
      exact (Classical.choose_spec (one i hil)).1
    · by_cases h0 : len = 0
      · exact .inl h0
      obtain ⟨b, off, spot⟩ := x
      obtain ⟨y, _, hy, _⟩ := one 0 (by omega)
      have hspot : spot = none := by simpa [Addr.add] using World.cell?_spot hy
      subst hspot
      have hb : b < w.heap.size := World.block_lt_of_cell? w ⟨b, off + 0 * 6 + 0, none⟩ (by simpa only [addr_add] using hy)
      refine .inr ⟨b, off, rfl, hb, fun i hil => ?_⟩
      have e : ((List.range len).map fun i => if h : i < len then Classical.choose (one i h) else (default : Od))[i]! = Classical.choose (one i hil) := by
        rw [List.getElem!_eq_getElem?_getD, List.getElem?_map, List.getElem?_range hil]
        simp [hil]
      have hs := (Classical.choose_spec (one i hil)).2
      rw [e]
      unfold Od.at
      simpa only [addr_add, ← Nat.add_assoc, Nat.add_zero] using hs
end Go.Proofs.Ytdjbnnjcifgnlaa

namespace Go.Proofs.Ytdjbnnjcifgnlaa
open Go.RowKit Go.Sort Go.Lib Go.Shelf

/-- An order's cells. -/
def encO (x : Od) : List Value := [.int .u64 x.id, .int .i64 x.acc, .int .i64 x.side, .int .i64 x.price, .int .i64 x.qty, .int .u64 x.seq]
abbrev Dd := Od × Nat
def encD (x : Dd) : List Value := encO x.1
theorem encD_len (x : Dd) : (encD x).length = 6 := rfl
theorem encD_one (x : Dd) : ∀ v ∈ encD x, v.oneCell' = true := by
  intro v hv
  simp only [encD, encO, List.mem_cons, List.not_mem_nil, or_false] at hv
  rcases hv with rfl | rfl | rfl | rfl | rfl | rfl <;> rfl
abbrev SW6 (w0 : World) (blk : Nat) (d : Array Dd) (w : World) : Prop := SWK encD 6 w0 blk 0 d w
abbrev Rw6 (w0 : World) (blk : Nat) (d : Array Dd) : Prop := RowK encD 6 w0 blk 0 d
theorem infoO : (Try.prog.info? 42).map (·.size) = some 6 := by kernel_rfl
end Go.Proofs.Ytdjbnnjcifgnlaa

namespace Go.Proofs.Ytdjbnnjcifgnlaa
open Go.RowKit

/-- Is the first order ahead of the second one? -/
def ahdO (x y : Od) : Bool := ahdN x.id x.side x.price x.seq y.id y.side y.price y.seq
def cmpO (x y : Od) : Int := if rkN x.side ≠ rkN y.side then rkN x.side - rkN y.side else if ahdO x y = true then -1 else if ahdO y x = true then 1 else 0
theorem rk_r (s : Int) : 0 ≤ rkN s ∧ rkN s ≤ 2 := by unfold rkN; (repeat' split) <;> omega
theorem ahead_o (x y : Od) (w : World) : Calls Try.prog 53 #[x.val, y.val] w fun e w' => e = .returned (.bool (ahdO x y)) ∧ Gw w w' := ahead_c _ _ _ _ _ _ _ _ _ _ _ _ w
section
variable {ops : Array Oper} {rest : List Oper} {o : Oper} {a : Act} {w : World} {Q : Exit → Act → World → Prop}
theorem loadO (hgd : Region.wanted o (yielded ops a.tmps) = true) (x : Operand) (ho : o.op = .load 42 x) (g : Nat) (hx : a.eval x = .pointer (some ⟨g, 0, none⟩)) (z : Od) (t : TypeId)
    (hg : w.heap[g]? = some (.cells (encO z).toArray t (0, 0))) (h : wpList Try.prog ops Q rest (a.put o.dst z.val) w) : wpList Try.prog ops Q (o :: rest) a w :=
  BigFrame.wpList_want hgd fun _ hK => wp_load_row _ x ho g hx _ _ (0, 0) _ hg Try.underlying42 rfl infoO (hK _ _ h)
end
theorem two_box (w : World) (o1 o2 : Obj) (n : Nat) : (((w.alloc o1).alloc o2).drewN n).heap[w.heap.size]? = some o1 ∧ (((w.alloc o1).alloc o2).drewN n).heap[w.heap.size + 1]? = some o2 ∧ Gw w (((w.alloc o1).alloc o2).drewN n) ∧ (((w.alloc o1).alloc o2).drewN n).heap.size = w.heap.size + 2 := by
  refine ⟨?_, ?_, ⟨?_, ?_⟩, ?_⟩
  · show ((w.alloc o1).alloc o2).heap[w.heap.size]? = some o1
    exact hd_prev (by simp) (hd_last rfl)
  · show ((w.alloc o1).alloc o2).heap[w.heap.size + 1]? = some o2
    exact hd_last (by simp)
  · exact below_drewN (((Below.refl _ _).alloc (Nat.le_refl _) _).alloc (by simp) _) n
  · exact Nat.le_add_right _ _
  · show ((w.alloc o1).alloc o2).heap.size = _
    simp
theorem rank_q (s : Int) (W : World) : Calls Try.prog 47 #[.int .i64 s] W fun e w' => e = .returned (.int .i64 (rkN s)) ∧ w' = W := (rank_c s W).mono fun _ _ ⟨h1, h2⟩ => ⟨h1, h2.symm⟩
set_option maxHeartbeats 4000000 in
set_option maxRecDepth 100000 in
theorem clo_rank (x y : Od) (w : World) (h1 : rkN x.side ≠ rkN y.side) :
    Calls Try.prog 52 #[.agg #[.int .u64 x.id, .int .i64 x.acc, .int .i64 x.side, .int .i64 x.price, .int .i64 x.qty, .int .u64 x.seq], .agg #[.int .u64 y.id, .int .i64 y.acc, .int .i64 y.side, .int .i64 y.price, .int .i64 y.qty, .int .u64 y.seq]] w fun e w' => e = .returned (.int .i64 (rkN x.side - rkN y.side)) ∧ Gw w w' := by
  have mixed : Try.prog.follows .mixedOrders = true := by kernel_rfl
  have HR := Lib.hid rank_q
  have r1 := rk_r x.side
  have r2 := rk_r y.side
  have e1 : (rkN x.side != rkN y.side) = true := by simp [h1]
  have ew : IntKind.i64.wrap (rkN x.side - rkN y.side) = rkN x.side - rkN y.side := by rw [IntKind.wrap_i64]; omega
  clear h1 r1 r2
  go_enter Try.func52, Try.ntmps52
  go_wp2_with fail
  go_quiet ((go_at_call 47; with_reducible exact Calls.quiet_of_same (HR.out _ _)))
  have TB := two_box w (Obj.cells #[.int .u64 x.id, .int .i64 x.acc, .int .i64 x.side, .int .i64 x.price, .int .i64 x.qty, .int .u64 x.seq] 42) (Obj.cells #[.int .u64 y.id, .int .i64 y.acc, .int .i64 y.side, .int .i64 y.price, .int .i64 y.qty, .int .u64 y.seq] 42) nq
  generalize ((w.alloc (Obj.cells #[.int .u64 x.id, .int .i64 x.acc, .int .i64 x.side, .int .i64 x.price, .int .i64 x.qty, .int .u64 x.seq] 42)).alloc (Obj.cells #[.int .u64 y.id, .int .i64 y.acc, .int .i64 y.side, .int .i64 y.price, .int .i64 y.qty, .int .u64 y.seq] 42)).drewN nq = w1 at TB ⊢
  obtain ⟨f1, f2, G1, z1⟩ := TB
  have c1 : w1.cell? ⟨w.heap.size, 2, none⟩ = some (.int .i64 x.side) := by rw [cell_of_row _ _ _ _ _ _ f1]; rfl
  have c2 : w1.cell? ⟨w.heap.size + 1, 2, none⟩ = some (.int .i64 y.side) := by rw [cell_of_row _ _ _ _ _ _ f2]; rfl
  clear f1 f2
  go_wp2_with fail
  go_quiet ((go_at_call 47; with_reducible exact Calls.quiet_of_same (HR.out _ _)))
  go_wp2_with fail
  go_ret
  exact ⟨rfl, G1.trans ⟨below_drewN (Below.refl _ _) _, Nat.le_add_right _ _⟩⟩
set_option maxHeartbeats 4000000 in
set_option maxRecDepth 100000 in
theorem clo_ahead (x y : Od) (w : World) (h1 : rkN x.side = rkN y.side) (h2 : ahdO x y = true) :
    Calls Try.prog 52 #[.agg #[.int .u64 x.id, .int .i64 x.acc, .int .i64 x.side, .int .i64 x.price, .int .i64 x.qty, .int .u64 x.seq], .agg #[.int .u64 y.id, .int .i64 y.acc, .int .i64 y.side, .int .i64 y.price, .int .i64 y.qty, .int .u64 y.seq]] w fun e w' => e = .returned (.int .i64 (-1)) ∧ Gw w w' := by
  have mixed : Try.prog.follows .mixedOrders = true := by kernel_rfl
  have HR := Lib.hid rank_q
  have e1 : (rkN x.side != rkN y.side) = false := by simp [h1]
  have HA : ∀ w, Calls Try.prog 53 #[x.val, y.val] w fun e w' => e = .returned (.bool true) ∧ Gw w w' := fun w => by rw [← h2]; exact ahead_o x y w
  have HA' := Lib.hid HA
  clear h1 HA h2
  go_enter Try.func52, Try.ntmps52
  go_wp2_with fail
  go_quiet ((go_at_call 47; with_reducible exact Calls.quiet_of_same (HR.out _ _)))
  have TB := two_box w (Obj.cells #[.int .u64 x.id, .int .i64 x.acc, .int .i64 x.side, .int .i64 x.price, .int .i64 x.qty, .int .u64 x.seq] 42) (Obj.cells #[.int .u64 y.id, .int .i64 y.acc, .int .i64 y.side, .int .i64 y.price, .int .i64 y.qty, .int .u64 y.seq] 42) nq
  generalize ((w.alloc (Obj.cells #[.int .u64 x.id, .int .i64 x.acc, .int .i64 x.side, .int .i64 x.price, .int .i64 x.qty, .int .u64 x.seq] 42)).alloc (Obj.cells #[.int .u64 y.id, .int .i64 y.acc, .int .i64 y.side, .int .i64 y.price, .int .i64 y.qty, .int .u64 y.seq] 42)).drewN nq = w1 at TB ⊢
  obtain ⟨f1, f2, G1, z1⟩ := TB
  go_wp2_with (first | ((with_reducible apply loadO (z := x)); rfl; rfl; rfl; exact f1; skip) | ((with_reducible apply loadO (z := y)); rfl; rfl; rfl; exact f2; skip))
  ((with_reducible refine (HA'.out _).mono ?_); rintro e w2 ⟨rfl, k2⟩)
  have F2 : w2.heap[w.heap.size]? = some (.cells (encO x).toArray 42 (0, 0)) := by rw [k2.b.block _ (by omega)]; exact f1
  have F2' : w2.heap[w.heap.size + 1]? = some (.cells (encO y).toArray 42 (0, 0)) := by rw [k2.b.block _ (by omega)]; exact f2
  have G2 := G1.trans k2
  have z2 : w.heap.size + 2 ≤ w2.heap.size := by have := k2.b.size; omega
  clear k2 f1 f2 G1 z1
  go_wp2_with fail
  go_ret
  exact ⟨rfl, G2⟩
set_option maxHeartbeats 4000000 in
set_option maxRecDepth 100000 in
theorem clo_behind (x y : Od) (w : World) (h1 : rkN x.side = rkN y.side) (h2 : ahdO x y = false) (h3 : ahdO y x = true) :
    Calls Try.prog 52 #[.agg #[.int .u64 x.id, .int .i64 x.acc, .int .i64 x.side, .int .i64 x.price, .int .i64 x.qty, .int .u64 x.seq], .agg #[.int .u64 y.id, .int .i64 y.acc, .int .i64 y.side, .int .i64 y.price, .int .i64 y.qty, .int .u64 y.seq]] w fun e w' => e = .returned (.int .i64 1) ∧ Gw w w' := by
  have mixed : Try.prog.follows .mixedOrders = true := by kernel_rfl
  have HR := Lib.hid rank_q
  have e1 : (rkN x.side != rkN y.side) = false := by simp [h1]
  have HA : ∀ w, Calls Try.prog 53 #[x.val, y.val] w fun e w' => e = .returned (.bool false) ∧ Gw w w' := fun w => by rw [← h2]; exact ahead_o x y w
  have HA' := Lib.hid HA
  have HB : ∀ w, Calls Try.prog 53 #[y.val, x.val] w fun e w' => e = .returned (.bool true) ∧ Gw w w' := fun w => by rw [← h3]; exact ahead_o y x w
  have HB' := Lib.hid HB
  clear HB h3
  clear h1 HA h2
  go_enter Try.func52, Try.ntmps52
  go_wp2_with fail
  go_quiet ((go_at_call 47; with_reducible exact Calls.quiet_of_same (HR.out _ _)))
  have TB := two_box w (Obj.cells #[.int .u64 x.id, .int .i64 x.acc, .int .i64 x.side, .int .i64 x.price, .int .i64 x.qty, .int .u64 x.seq] 42) (Obj.cells #[.int .u64 y.id, .int .i64 y.acc, .int .i64 y.side, .int .i64 y.price, .int .i64 y.qty, .int .u64 y.seq] 42) nq
  generalize ((w.alloc (Obj.cells #[.int .u64 x.id, .int .i64 x.acc, .int .i64 x.side, .int .i64 x.price, .int .i64 x.qty, .int .u64 x.seq] 42)).alloc (Obj.cells #[.int .u64 y.id, .int .i64 y.acc, .int .i64 y.side, .int .i64 y.price, .int .i64 y.qty, .int .u64 y.seq] 42)).drewN nq = w1 at TB ⊢
  obtain ⟨f1, f2, G1, z1⟩ := TB
  go_wp2_with (first | ((with_reducible apply loadO (z := x)); rfl; rfl; rfl; exact f1; skip) | ((with_reducible apply loadO (z := y)); rfl; rfl; rfl; exact f2; skip))
  ((with_reducible refine (HA'.out _).mono ?_); rintro e w2 ⟨rfl, k2⟩)
  have F2 : w2.heap[w.heap.size]? = some (.cells (encO x).toArray 42 (0, 0)) := by rw [k2.b.block _ (by omega)]; exact f1
  have F2' : w2.heap[w.heap.size + 1]? = some (.cells (encO y).toArray 42 (0, 0)) := by rw [k2.b.block _ (by omega)]; exact f2
  have G2 := G1.trans k2
  have z2 : w.heap.size + 2 ≤ w2.heap.size := by have := k2.b.size; omega
  clear k2 f1 f2 G1 z1
  go_wp2_with (first | ((with_reducible apply loadO (z := x)); rfl; rfl; rfl; exact F2; skip) | ((with_reducible apply loadO (z := y)); rfl; rfl; rfl; exact F2'; skip))
  ((with_reducible refine (HB'.out _).mono ?_); rintro e w3 ⟨rfl, k3⟩)
  have G3 := G2.trans k3
  clear k3
  go_wp2_with fail
  go_ret
  exact ⟨rfl, G3⟩
set_option maxHeartbeats 4000000 in
set_option maxRecDepth 100000 in
theorem clo_none (x y : Od) (w : World) (h1 : rkN x.side = rkN y.side) (h2 : ahdO x y = false) (h3 : ahdO y x = false) :
    Calls Try.prog 52 #[.agg #[.int .u64 x.id, .int .i64 x.acc, .int .i64 x.side, .int .i64 x.price, .int .i64 x.qty, .int .u64 x.seq], .agg #[.int .u64 y.id, .int .i64 y.acc, .int .i64 y.side, .int .i64 y.price, .int .i64 y.qty, .int .u64 y.seq]] w fun e w' => e = .returned (.int .i64 0) ∧ Gw w w' := by
  have mixed : Try.prog.follows .mixedOrders = true := by kernel_rfl
  have HR := Lib.hid rank_q
  have e1 : (rkN x.side != rkN y.side) = false := by simp [h1]
  have HA : ∀ w, Calls Try.prog 53 #[x.val, y.val] w fun e w' => e = .returned (.bool false) ∧ Gw w w' := fun w => by rw [← h2]; exact ahead_o x y w
  have HA' := Lib.hid HA
  have HB : ∀ w, Calls Try.prog 53 #[y.val, x.val] w fun e w' => e = .returned (.bool false) ∧ Gw w w' := fun w => by rw [← h3]; exact ahead_o y x w
  have HB' := Lib.hid HB
  clear HB h3
  clear h1 HA h2
  go_enter Try.func52, Try.ntmps52
  go_wp2_with fail
  go_quiet ((go_at_call 47; with_reducible exact Calls.quiet_of_same (HR.out _ _)))
  have TB := two_box w (Obj.cells #[.int .u64 x.id, .int .i64 x.acc, .int .i64 x.side, .int .i64 x.price, .int .i64 x.qty, .int .u64 x.seq] 42) (Obj.cells #[.int .u64 y.id, .int .i64 y.acc, .int .i64 y.side, .int .i64 y.price, .int .i64 y.qty, .int .u64 y.seq] 42) nq
  generalize ((w.alloc (Obj.cells #[.int .u64 x.id, .int .i64 x.acc, .int .i64 x.side, .int .i64 x.price, .int .i64 x.qty, .int .u64 x.seq] 42)).alloc (Obj.cells #[.int .u64 y.id, .int .i64 y.acc, .int .i64 y.side, .int .i64 y.price, .int .i64 y.qty, .int .u64 y.seq] 42)).drewN nq = w1 at TB ⊢
  obtain ⟨f1, f2, G1, z1⟩ := TB
  go_wp2_with (first | ((with_reducible apply loadO (z := x)); rfl; rfl; rfl; exact f1; skip) | ((with_reducible apply loadO (z := y)); rfl; rfl; rfl; exact f2; skip))
  ((with_reducible refine (HA'.out _).mono ?_); rintro e w2 ⟨rfl, k2⟩)
  have F2 : w2.heap[w.heap.size]? = some (.cells (encO x).toArray 42 (0, 0)) := by rw [k2.b.block _ (by omega)]; exact f1
  have F2' : w2.heap[w.heap.size + 1]? = some (.cells (encO y).toArray 42 (0, 0)) := by rw [k2.b.block _ (by omega)]; exact f2
  have G2 := G1.trans k2
  have z2 : w.heap.size + 2 ≤ w2.heap.size := by have := k2.b.size; omega
  clear k2 f1 f2 G1 z1
  go_wp2_with (first | ((with_reducible apply loadO (z := x)); rfl; rfl; rfl; exact F2; skip) | ((with_reducible apply loadO (z := y)); rfl; rfl; rfl; exact F2'; skip))
  ((with_reducible refine (HB'.out _).mono ?_); rintro e w3 ⟨rfl, k3⟩)
  have G3 := G2.trans k3
  clear k3
  go_wp2_with fail
  go_ret
  exact ⟨rfl, G3⟩

theorem closure_c (x y : Od) (w : World) : Calls Try.prog 52 #[x.val, y.val] w fun e w' => e = .returned (.int .i64 (cmpO x y)) ∧ Gw w w' := by
  unfold cmpO
  by_cases h1 : rkN x.side = rkN y.side
  · rw [if_neg (by simp [h1])]
    cases h2 : ahdO x y with
    | true => rw [if_pos rfl]; exact clo_ahead x y w h1 h2
    | false =>
      rw [if_neg (by simp)]
      cases h3 : ahdO y x with
      | true => rw [if_pos rfl]; exact clo_behind x y w h1 h2 h3
      | false => rw [if_neg (by simp)]; exact clo_none x y w h1 h2 h3
  · rw [if_pos h1]; exact clo_rank x y w h1
end Go.Proofs.Ytdjbnnjcifgnlaa

namespace Go.Proofs.Ytdjbnnjcifgnlaa
open Go.Sort

section
variable {β : Type} [Inhabited β] {lt : β → β → Bool}
def Blk (lt : β → β → Bool) (bs lo hi : Nat) (d : Array (β × Nat)) : Prop := ∀ p q, lo ≤ p → p < q → q < hi → p / bs = q / bs → ltR lt d[q]! d[p]! = false
def Ixs (bs lo hi : Nat) (d : Array (β × Nat)) : Prop := ∀ p, lo ≤ p → p < hi → (d[p]!).2 / bs = p / bs
/-- Blocks of 20 ahead of a are sorted, the others are as they were. -/
structure IInv (lt : β → β → Bool) (a n : Nat) (d dk : Array (β × Nat)) : Prop where
  perm : PermIn 0 n d dk
  lo : Blk lt 20 0 a dk
  ix : Ixs 20 0 a dk
  rest : ∀ p, a ≤ p → p < n → (dk[p]!).2 = p
  al : a % 20 = 0
theorem IInv.start (d : Array (β × Nat)) (n : Nat) (h : ∀ p, p < n → (d[p]!).2 = p) : IInv lt 0 n d d :=
  ⟨permIn_refl _ _ _, fun p q _ h1 h2 _ => by omega, fun p _ h1 => by omega, fun p _ hp => h p hp, rfl⟩
theorem IInv.up {a n : Nat} {d dk : Array (β × Nat)} (I : IInv lt a n d dk) {b : Nat} (hb : b ≤ n) : ∀ p q, a ≤ p → p < q → q < b → (dk[p]!).2 < (dk[q]!).2 := fun p q hp hpq hq => by
  rw [I.rest p hp (by omega), I.rest q (by omega) (by omega)]; exact hpq
theorem IInv.step {a n b : Nat} {d dk dk' : Array (β × Nat)} (I : IInv lt a n d dk) (M : Merged lt a b dk dk') (hab : a ≤ b) (hb : b ≤ n) (hb2 : b ≤ a + 20) (hn : n ≤ d.size) :
    PermIn 0 n d dk' ∧ Blk lt 20 0 b dk' ∧ Ixs 20 0 b dk' ∧ (∀ p, b ≤ p → p < n → (dk'[p]!).2 = p) := by
  have hs : dk.size = d.size := I.perm.1
  refine ⟨permIn_trans _ _ _ _ _ I.perm (permIn_mono _ _ _ _ _ _ (Nat.zero_le _) hb (by omega) M.1), fun p q hp hpq hq he => ?_, fun p hp hpb => ?_, fun p hp hpn => ?_⟩
  · have al := I.al
    by_cases h1 : q < a
    · rw [M.1.2.1 p (.inl (by omega)), M.1.2.1 q (.inl h1)]; exact I.lo p q hp hpq h1 he
    · exact M.2 p q (by omega) hpq hq
  · by_cases h1 : p < a
    · rw [M.1.2.1 p (.inl h1)]; exact I.ix p hp h1
    · have al := I.al
      have : (dk'[p]!).2 / 20 = a / 20 := permIn_all dk dk' a b (fun x => x.2 / 20 = a / 20) (by omega) M.1 (fun i hi hib => by
        show (dk[i]!).2 / 20 = a / 20
        rw [I.rest i hi (by omega)]; omega) p (by omega) hpb
      omega
  · rw [M.1.2.1 p (.inr hp)]; exact I.rest p (by omega) hpn
/-- Ahead of a blocks of 2 bs are sorted, from a on blocks of bs. -/
structure MInv (lt : β → β → Bool) (bs a n : Nat) (d dk : Array (β × Nat)) : Prop where
  perm : PermIn 0 n d dk
  lo : Blk lt (2 * bs) 0 a dk
  ixl : Ixs (2 * bs) 0 a dk
  hi : Blk lt bs a n dk
  ixh : Ixs bs a n dk
  al : a % (2 * bs) = 0
theorem MInv.start {bs n : Nat} {d dk : Array (β × Nat)} (P : PermIn 0 n d dk) (hi : Blk lt bs 0 n dk) (ix : Ixs bs 0 n dk) : MInv lt bs 0 n d dk :=
  ⟨P, fun p q _ h1 h2 _ => by omega, fun p _ h1 => by omega, hi, ix, Nat.zero_mod _⟩
theorem MInv.runs {bs a n b : Nat} {d dk : Array (β × Nat)} (I : MInv lt bs a n d dk) (hbs : bs = 20 ∨ bs = 40 ∨ bs = 80) (h1 : a + bs < b) (h2 : b ≤ a + 2 * bs) (hb : b ≤ n) : Runs lt a (a + bs) b dk := by
  have al := I.al
  refine ⟨fun p q hp hpq hq => I.hi p q hp hpq (by omega) ?_, fun p q hp hpq hq => I.hi p q (by omega) hpq (by omega) ?_, fun p q hp hpm hq hqb => ?_⟩
  · rcases hbs with rfl | rfl | rfl <;> omega
  · rcases hbs with rfl | rfl | rfl <;> omega
  · have e1 := I.ixh p hp (by omega)
    have e2 := I.ixh q (by omega) (by omega)
    rcases hbs with rfl | rfl | rfl <;> omega
theorem MInv.step {bs a n b : Nat} {d dk dk' : Array (β × Nat)} (I : MInv lt bs a n d dk) (hbs : bs = 20 ∨ bs = 40 ∨ bs = 80) (M : Merged lt a b dk dk') (hab : a ≤ b) (h2 : b ≤ a + 2 * bs) (hb : b ≤ n) (hn : n ≤ d.size) :
    PermIn 0 n d dk' ∧ Blk lt (2 * bs) 0 b dk' ∧ Ixs (2 * bs) 0 b dk' ∧ Blk lt bs b n dk' ∧ Ixs bs b n dk' := by
  have al := I.al
  have hs : dk.size = d.size := I.perm.1
  have L : ∀ p, p < a → dk'[p]! = dk[p]! := fun p hp => M.1.2.1 p (.inl hp)
  have H : ∀ p, b ≤ p → dk'[p]! = dk[p]! := fun p hp => M.1.2.1 p (.inr hp)
  refine ⟨permIn_trans _ _ _ _ _ I.perm (permIn_mono _ _ _ _ _ _ (Nat.zero_le _) hb (by omega) M.1), fun p q hp hpq hq he => ?_, fun p hp hpb => ?_, fun p q hp hpq hq he => ?_, fun p hp hpn => ?_⟩
  · by_cases h1 : q < a
    · rw [L p (by omega), L q h1]; exact I.lo p q hp hpq h1 he
    · refine M.2 p q ?_ hpq hq
      rcases hbs with rfl | rfl | rfl <;> omega
  · by_cases h1 : p < a
    · rw [L p h1]; exact I.ixl p hp h1
    · have : (dk'[p]!).2 / (2 * bs) = a / (2 * bs) := permIn_all dk dk' a b (fun x => x.2 / (2 * bs) = a / (2 * bs)) (by omega) M.1 (fun i hi hib => by
        have e := I.ixh i hi (by omega)
        show (dk[i]!).2 / (2 * bs) = a / (2 * bs)
        rcases hbs with rfl | rfl | rfl <;> omega) p (by omega) hpb
      rcases hbs with rfl | rfl | rfl <;> omega
  · rw [H p hp, H q (by omega)]; exact I.hi p q (by omega) hpq hq he
  · rw [H p hp]; exact I.ixh p (by omega) hpn
theorem MInv.one {bs a n : Nat} {d dk : Array (β × Nat)} (I : MInv lt bs a n d dk) (hbs : bs = 20 ∨ bs = 40 ∨ bs = 80) (h : n ≤ a + bs) : Merged lt a n dk dk := by
  have al := I.al
  refine ⟨permIn_refl _ _ _, fun p q hp hpq hq => I.hi p q hp hpq hq ?_⟩
  rcases hbs with rfl | rfl | rfl <;> omega
theorem blk_all {bs n : Nat} {dk : Array (β × Nat)} (h : Blk lt bs 0 n dk) (hn : n ≤ bs) : SortedIn (ltR lt) 0 n dk := fun p q hp hpq hq => h p q hp hpq hq (by
  rw [Nat.div_eq_of_lt (by omega), Nat.div_eq_of_lt (by omega)])
/-- What stands in the loop over the sizes of blocks. -/
structure SInv (lt : β → β → Bool) (bs n : Nat) (d dk : Array (β × Nat)) : Prop where
  sz : bs = 20 ∨ bs = 40 ∨ bs = 80 ∨ bs = 160
  perm : PermIn 0 n d dk
  blk : Blk lt bs 0 n dk
  ix : Ixs bs 0 n dk
theorem SInv.less {bs n : Nat} {d dk : Array (β × Nat)} (I : SInv lt bs n d dk) (h : bs < n) (hn : n ≤ 160) : bs = 20 ∨ bs = 40 ∨ bs = 80 := by
  have := I.sz; omega
theorem SInv.next {bs n : Nat} {d dk : Array (β × Nat)} (hbs : bs = 20 ∨ bs = 40 ∨ bs = 80) (h : PermIn 0 n d dk ∧ Blk lt (2 * bs) 0 n dk ∧ Ixs (2 * bs) 0 n dk ∧ Blk lt bs n n dk ∧ Ixs bs n n dk) : SInv lt (2 * bs) n d dk :=
  ⟨by omega, h.1, h.2.1, h.2.2.1⟩
end
end Go.Proofs.Ytdjbnnjcifgnlaa

namespace Go.Proofs.Ytdjbnnjcifgnlaa
open Go.Sort

def ltO (x y : Od) : Bool := decide (rkN x.side < rkN y.side) || (decide (rkN x.side = rkN y.side) && ahdO x y)
def kpO (x : Od) : Int := if x.side = 1 then -x.price else if x.side = 2 then x.price else 0
def kqO (x : Od) : Int := if x.side = 1 ∨ x.side = 2 then x.seq else 0
def kiO (x : Od) : Int := if x.side = 1 ∨ x.side = 2 then x.id else 0
/-- By four numbers, the first one first. -/
def Lex (a b c d a' b' c' d' : Int) : Prop := a < a' ∨ (a = a' ∧ (b < b' ∨ (b = b' ∧ (c < c' ∨ (c = c' ∧ d < d')))))
theorem cmpN_lt (a b : Int) : cmpN a b < 0 ↔ a < b := by unfold cmpN; (repeat' split) <;> omega
theorem cmpN_0 (a b : Int) : cmpN a b = 0 ↔ a = b := by unfold cmpN; (repeat' split) <;> omega
theorem ahd_iff (x y : Od) : ahdO x y = true ↔ x.side = y.side ∧ ((x.side = 1 ∧ (y.price < x.price ∨ (x.price = y.price ∧ (x.seq < y.seq ∨ (x.seq = y.seq ∧ x.id < y.id))))) ∨ (x.side = 2 ∧ (x.price < y.price ∨ (x.price = y.price ∧ (x.seq < y.seq ∨ (x.seq = y.seq ∧ x.id < y.id)))))) := by
  unfold ahdO ahdN
  by_cases h1 : x.side ≠ y.side ∨ (x.side ≠ 1 ∧ x.side ≠ 2)
  · rw [if_pos h1]; simp; omega
  · rw [if_neg h1]
    by_cases h2 : x.price = y.price
    · rw [if_neg (by simp [h2])]
      rw [decide_eq_true_iff]
      by_cases h3 : cmpN x.seq y.seq = 0
      · rw [if_pos h3, cmpN_lt]; rw [cmpN_0] at h3; omega
      · rw [if_neg h3, cmpN_lt]; rw [cmpN_0] at h3; omega
    · rw [if_pos h2]
      unfold betN
      have e1 : (x.side == 1) = decide (x.side = 1) := rfl
      have e2 : (x.side == 2) = decide (x.side = 2) := rfl
      rw [e1, e2]
      simp only [Bool.or_eq_true, Bool.and_eq_true, decide_eq_true_iff]
      omega
theorem ltO_iff (x y : Od) : ltO x y = true ↔ Lex (rkN x.side) (kpO x) (kqO x) (kiO x) (rkN y.side) (kpO y) (kqO y) (kiO y) := by
  unfold ltO Lex
  simp only [Bool.or_eq_true, Bool.and_eq_true, decide_eq_true_iff, ahd_iff]
  unfold rkN kpO kqO kiO
  by_cases a1 : x.side = 1 <;> by_cases b1 : y.side = 1 <;> by_cases a2 : x.side = 2 <;> by_cases b2 : y.side = 2 <;> simp [a1, b1, a2, b2] <;> omega
theorem lex_irr (a b c d : Int) : ¬ Lex a b c d a b c d := by unfold Lex; omega
theorem lex_tr {a b c d a' b' c' d' x y z u : Int} (h : Lex a b c d a' b' c' d') (k : Lex a' b' c' d' x y z u) : Lex a b c d x y z u := by unfold Lex at *; omega
theorem lex_nt {a b c d a' b' c' d' x y z u : Int} (h : ¬ Lex a b c d a' b' c' d') (k : ¬ Lex a' b' c' d' x y z u) : ¬ Lex a b c d x y z u := by unfold Lex at *; omega
theorem ltO_no (x y : Od) : ltO x y = false ↔ ¬ Lex (rkN x.side) (kpO x) (kqO x) (kiO x) (rkN y.side) (kpO y) (kqO y) (kiO y) := by
  rw [← ltO_iff]; simp
theorem swo_ltO : SWO ltO := by
  refine ⟨fun x => ?_, fun x y z h k => ?_, fun x y z h k => ?_⟩
  · rw [ltO_no]; exact lex_irr _ _ _ _
  · rw [ltO_iff] at *; exact lex_tr h k
  · rw [ltO_no] at *; exact lex_nt h k
theorem cmpO_lt (x y : Od) : decide (cmpO x y < 0) = ltO x y := by
  unfold cmpO ltO
  by_cases h : rkN x.side = rkN y.side
  · rw [if_neg (by simp [h]), h]
    cases ahdO x y with
    | true => simp
    | false => cases ahdO y x <;> simp
  · rw [if_pos h]
    have : decide (rkN x.side = rkN y.side) = false := decide_eq_false h
    rw [this, Bool.false_and, Bool.or_false]
    by_cases h2 : rkN x.side < rkN y.side
    · rw [decide_eq_true h2, decide_eq_true (by omega)]
    · rw [decide_eq_false h2, decide_eq_false (by omega)]
/-- The orders, sorted: as they trade, equal ones as they stood. -/
def sortO (L : List Od) : List Od := (L.zipIdx.mergeSort (fun x y => !ltR ltO y x)).map Prod.fst
theorem zip_inj {L : List Od} {x y : Od × Nat} (hx : x ∈ L.zipIdx) (hy : y ∈ L.zipIdx) (h : x.2 = y.2) : x = y := by
  have h1 := List.mem_zipIdx' hx
  have h2 := List.mem_zipIdx' hy
  obtain ⟨x1, x2⟩ := x
  obtain ⟨y1, y2⟩ := y
  simp only at h h1 h2
  subst h
  rw [h1.2, h2.2]
theorem sortO_eq {L : List Od} {D : List (Od × Nat)} (hp : D.Perm L.zipIdx) (hs : D.Pairwise (fun x y => ltR ltO y x = false)) : sortO L = D.map Prod.fst := by
  have hR := swo_ltR swo_ltO
  unfold sortO
  congr 1
  have hm : (L.zipIdx.mergeSort (fun x y => !ltR ltO y x)).Pairwise (fun x y => ltR ltO y x = false) := by
    have := List.pairwise_mergeSort (le := fun x y => !ltR ltO y x) (fun a b c h1 h2 => by
      simp only [Bool.not_eq_true'] at *; exact hR.ntrans _ _ _ h2 h1) (fun a b => by
      cases h : ltR ltO b a with
      | true => have := hR.asymmA h; simp [this]
      | false => simp) L.zipIdx
    exact this.imp (fun h => by simpa using h)
  refine List.Perm.eq_of_pairwise (le := fun x y => ltR ltO y x = false) (fun a b ha hb h1 h2 => ?_) hm hs ((List.mergeSort_perm _ _).trans hp.symm)
  have ha' := (List.mergeSort_perm _ _).mem_iff.1 ha
  have hb' := hp.mem_iff.1 hb
  rw [ltR_no] at h1 h2
  refine zip_inj ha' hb' ?_
  rcases h1.2 with h | h
  · rw [h2.1] at h; cases h
  · rcases h2.2 with h' | h'
    · rw [h1.1] at h'; cases h'
    · omega
theorem sortO_len (L : List Od) : (sortO L).length = L.length := by
  unfold sortO; rw [List.length_map, (List.mergeSort_perm _ _).length_eq, List.length_zipIdx]
/-- Behind the program's sort. -/
theorem sortO_merged {d d' : Array (Od × Nat)} {L : List Od} (hd : d.toList = L.zipIdx) (h : Merged ltO 0 d.size d d') : d'.toList.map Prod.fst = sortO L := by
  obtain ⟨P, S⟩ := h
  have hs : d'.size = d.size := P.1
  refine (sortO_eq (D := d'.toList) ?_ ?_).symm
  · have := P.2.2
    rw [← hd]
    have e1 : d'.extract 0 d.size = d' := by rw [← hs]; exact Array.extract_size
    have e2 : d.extract 0 d.size = d := Array.extract_size
    rw [e1, e2] at this
    exact this
  · rw [List.pairwise_iff_getElem]
    intro i j hi hj hij
    have := S i j (Nat.zero_le _) hij (by simpa [hs] using hj)
    rw [getElem!_pos d' j (by simpa using hj), getElem!_pos d' i (by simpa using hi)] at this
    simpa using this
end Go.Proofs.Ytdjbnnjcifgnlaa

namespace Go.Proofs.Ytdjbnnjcifgnlaa
open Go.RowKit Go.Sort Go.Lib Go.Shelf

set_option maxHeartbeats 4000000 in
set_option maxRecDepth 1000000 in
theorem swapRange_c (k : Nat) (aE : ∀ w, (isAgg 42).run Try.prog w = .ok true w) (zE : ∀ w, (Go.sizeOf 42).run Try.prog w = .ok k w) (enc : Dd → List Value) (f : Value) (blk off cap a b n : Nat) (d0 d : Array Dd) (w0 w : World)
    (R : RowK enc k w0 blk off d0) (hs : d0.size = d.size) (S : SWK enc k w0 blk off d w) (hab : a + n ≤ b) (hb : b + n ≤ d.size) (hsz : d.size < 4611686018427387904) :
    Calls Try.prog 106 #[.slice (some ⟨blk, off, none⟩) d.size cap, .int .i64 a, .int .i64 b, .int .i64 n, f] w fun e w' => e = .returned (.tuple #[]) ∧
      ∃ d', SWK enc k w0 blk off d' w' ∧ PermIn a (b + n) d d' ∧ ∀ p, d'[p]! = d[sig a b n p]! := by
  have mixed : Try.prog.follows .mixedOrders = true := by kernel_rfl
  have S0 : Aside (SWK enc k w0 blk off d w) := S
  clear S
  go_enter Try.func106, Try.ntmps106
  go_wp2
  go_loopg [10] n (fun kx s10 wr => ∃ (i : Nat) (dk : Array Dd), s10 = .int .i64 i ∧ i ≤ n ∧ n - i ≤ kx ∧ dk.size = d.size ∧ Aside (SWK enc k w0 blk off dk wr) ∧ PermIn a (b + n) d dk ∧ Hid (∀ p, dk[p]! = d[sig a b i p]!))
  case atStart => exact ⟨0, d, rfl, by omega, by omega, rfl, S0, permIn_refl _ _ _, Lib.hid (fun p => by rw [sig_zero])⟩
  case round =>
    clear S0
    obtain ⟨i, dk, rfl, hin, hkx, hds, S1, HPm, HP⟩ := hrel
    by_cases hlt : i < n
    · have hltz : (i : Int) < (n : Int) := by omega
      go_wp2_with fail
      have ra : IntKind.i64.wrap ((a : Int) + (i : Int)) = ((a + i : Nat) : Int) := by rw [IntKind.wrap_i64]; omega
      have rb : IntKind.i64.wrap ((b : Int) + (i : Int)) = ((b + i : Nat) : Int) := by rw [IntKind.wrap_i64]; omega
      have S2 : Aside (SWK enc k w0 blk off (swp dk (a + i) (b + i)) ((wr.drew.setCells blk (off + (a + i) * k) (enc dk[b + i]!)).setCells blk (off + (b + i) * k) (enc dk[a + i]!))) := S1.out.swapped R (a + i) (b + i) (by omega) (by omega)
      have l44a := S1.out.ld1 R (by omega) Try.prog (a + i) (by omega)
      have l44b := S1.out.ld1 R (by omega) Try.prog (b + i) (by omega)
      have s44a := S1.out.st1 R (by omega) Try.prog (a + i) (by omega) dk[b + i]!
      have s44b := S1.out.st2 R (by omega) Try.prog (a + i) (b + i) (by omega) (by omega) dk[b + i]! dk[a + i]!
      have n44a : (enc dk[a + i]!).length = k := R.hk _
      have n44b : (enc dk[b + i]!).length = k := R.hk _
      have HPn : PermIn a (b + n) d (swp dk (a + i) (b + i)) := permIn_trans _ _ _ _ _ HPm (swp_permIn dk a (b + n) (a + i) (b + i) (by omega) (by omega) (by omega) (by omega) (by omega))
      have HQ : Hid (∀ p, (swp dk (a + i) (b + i))[p]! = d[sig a b (i + 1) p]!) := Lib.hid (fun p => by
        rw [swp_get dk (by omega) (by omega), HP.out, HP.out, HP.out]
        unfold sig
        (repeat' split) <;> first | omega | (congr 1; done) | (congr 1; omega))
      generalize enc dk[a + i]! = cI44 at S2 l44a s44b n44a
      generalize enc dk[b + i]! = cJ44 at S2 l44b s44a s44b n44b
      clear S1 HP HPm
      go_wp2_with fail
      go_big_region
      clear l44a l44b s44a s44b
      generalize (wr.drew.setCells blk (off + (a + i) * k) cJ44).setCells blk (off + (b + i) * k) cI44 = w2 at S2 ⊢
      go_wp2
      go_roundg (n - (i + 1))
      case measure => omega
      case rel => exact ⟨i + 1, swp dk (a + i) (b + i), by go_num, by omega, Nat.le_refl _, by rw [size_swp]; exact hds, S2, HPn, HQ⟩
    · have hltz : ¬ (i : Int) < (n : Int) := by omega
      go_wp2
      go_end0
      obtain rfl : i = n := by omega
      exact ⟨rfl, dk, S1.out, HPm, HP.out⟩

theorem swapRange_z (k : Nat) (aE : ∀ w, (isAgg 42).run Try.prog w = .ok true w) (zE : ∀ w, (Go.sizeOf 42).run Try.prog w = .ok k w) (enc : Dd → List Value) (f : Value) (blk off cap : Nat) (d0 : Array Dd) (w0 : World) (R : RowK enc k w0 blk off d0)
    (a b n : Nat) (za zb zn : Int) (ha : za = a) (hzb : zb = b) (hn : zn = n) (d : Array Dd) (w : World) (N : Nat) (hN : N = d.size) (hs : d0.size = d.size) (S : SWK enc k w0 blk off d w) (hab : a + n ≤ b) (hb : b + n ≤ d.size) (hsz : d.size < 4611686018427387904) :
    Calls Try.prog 106 #[.slice (some ⟨blk, off, none⟩) N cap, .int .i64 za, .int .i64 zb, .int .i64 zn, f] w fun e w' => e = .returned (.tuple #[]) ∧
      ∃ d', SWK enc k w0 blk off d' w' ∧ PermIn a (b + n) d d' ∧ ∀ p, d'[p]! = d[sig a b n p]! := by
  subst ha hzb hn hN
  exact swapRange_c k aE zE enc f blk off cap a b n d0 d w0 w R hs S hab hb hsz

set_option maxHeartbeats 4000000 in
set_option maxRecDepth 1000000 in
theorem rotate_c (k : Nat) (aE : ∀ w, (isAgg 42).run Try.prog w = .ok true w) (zE : ∀ w, (Go.sizeOf 42).run Try.prog w = .ok k w) (enc : Dd → List Value) (f : Value) (blk off cap a m b : Nat) (d0 d : Array Dd) (w0 w : World)
    (R : RowK enc k w0 blk off d0) (hs : d0.size = d.size) (S : SWK enc k w0 blk off d w) (ham : a < m) (hmb : m < b) (hb : b ≤ d.size) (hsz : d.size < 4611686018427387904) :
    Calls Try.prog 105 #[.slice (some ⟨blk, off, none⟩) d.size cap, .int .i64 a, .int .i64 m, .int .i64 b, f] w fun e w' => e = .returned (.tuple #[]) ∧
      ∃ d', SWK enc k w0 blk off d' w' ∧ PermIn a b d d' ∧ ∀ p, d'[p]! = d[rho a m b p]! := by
  have mixed : Try.prog.follows .mixedOrders = true := by kernel_rfl
  have S0 : Aside (SWK enc k w0 blk off d w) := S
  have HZ := Lib.hid (swapRange_z k aE zE enc f blk off cap d0 w0 R)
  clear S aE zE
  go_enter Try.func105, Try.ntmps105
  go_wp2
  go_loopg [10, 11] b (fun kx s10 s11 wr => ∃ (i j : Nat) (dk : Array Dd), s10 = .int .i64 i ∧ s11 = .int .i64 j ∧ 0 < i ∧ 0 < j ∧ i + a ≤ m ∧ m + j ≤ b ∧ i + j ≤ kx ∧ Aside (SWK enc k w0 blk off dk wr) ∧ PermIn a b d dk ∧ Hid (∀ p, dk[rho (m - i) m (m + j) p]! = d[rho a m b p]!))
  case atStart => exact ⟨m - a, b - m, d, by rw [Int.ofNat_sub (by omega)], by rw [Int.ofNat_sub (by omega)], by omega, by omega, by omega, by omega, by omega, S0, permIn_refl _ _ _, Lib.hid (fun p => by rw [show m - (m - a) = a by omega, show m + (b - m) = b by omega])⟩
  case round =>
    clear S0
    obtain ⟨i, j, dk, rfl, rfl, hi0, hj0, him, hjm, hkx, S1, HPm, HP⟩ := hrel
    have hds : dk.size = d.size := HPm.1
    have E : Hid (dk.size = d.size) := hds
    clear hds
    rcases Nat.lt_trichotomy i j with hlt | heq | hlt
    · have e1 : ((i : Int) != (j : Int)) = true := by simp; omega
      have e2 : ¬ (j : Int) < (i : Int) := by omega
      go_wp2_with (((with_reducible refine (HZ.out (m - i) (m + j - i) i _ _ _ ?_ ?_ ?_ dk _ d.size ?_ ?_ ?_ ?_ ?_ ?_).mono ?_); omega; omega; rfl; exact E.out.symm; (rw [E.out]; exact hs); exact S1.out; omega; (rw [E.out]; omega); (rw [E.out]; omega)); rintro e w2 ⟨rfl, d2, S2, P2, Q2⟩)
      have P3 : PermIn a b d d2 := permIn_trans _ _ _ _ _ HPm (permIn_mono _ _ _ _ _ _ (by omega) (by omega) (by rw [E.out]; exact hb) P2)
      have Q3 : Hid (∀ p, d2[rho (m - i) m (m + (j - i)) p]! = d[rho a m b p]!) := Lib.hid (fun p => by rw [Q2, rho_less i j m p (by omega) hlt, HP.out])
      have S3 : Aside (SWK enc k w0 blk off d2 w2) := S2
      clear S2 P2 Q2 S1 HP HPm
      go_roundg (j)
      case measure => omega
      case rel => exact ⟨i, j - i, d2, rfl, by rw [Int.ofNat_sub (by omega)], by omega, by omega, by omega, by omega, by omega, S3, P3, Q3⟩
    · subst heq
      have e1 : ((i : Int) != (i : Int)) = false := by simp
      go_wp2_with (((with_reducible refine (HZ.out (m - i) m i _ _ _ ?_ ?_ ?_ dk _ d.size ?_ ?_ ?_ ?_ ?_ ?_).mono ?_); omega; rfl; rfl; exact E.out.symm; (rw [E.out]; exact hs); exact S1.out; omega; (rw [E.out]; omega); (rw [E.out]; omega)); rintro e w2 ⟨rfl, d2, S2, P2, Q2⟩)
      have P3 : PermIn a b d d2 := permIn_trans _ _ _ _ _ HPm (permIn_mono _ _ _ _ _ _ (by omega) (by omega) (by rw [E.out]; exact hb) P2)
      have Q3 : ∀ p, d2[p]! = d[rho a m b p]! := fun p => by rw [Q2, rho_same i m p (by omega), HP.out]
      go_end0
      exact ⟨rfl, d2, S2, P3, Q3⟩
    · have e1 : ((i : Int) != (j : Int)) = true := by simp; omega
      have e2 : (j : Int) < (i : Int) := by omega
      go_wp2_with (((with_reducible refine (HZ.out (m - i) m j _ _ _ ?_ ?_ ?_ dk _ d.size ?_ ?_ ?_ ?_ ?_ ?_).mono ?_); omega; rfl; rfl; exact E.out.symm; (rw [E.out]; exact hs); exact S1.out; omega; (rw [E.out]; omega); (rw [E.out]; omega)); rintro e w2 ⟨rfl, d2, S2, P2, Q2⟩)
      have P3 : PermIn a b d d2 := permIn_trans _ _ _ _ _ HPm (permIn_mono _ _ _ _ _ _ (by omega) (by omega) (by rw [E.out]; exact hb) P2)
      have Q3 : Hid (∀ p, d2[rho (m - (i - j)) m (m + j) p]! = d[rho a m b p]!) := Lib.hid (fun p => by rw [Q2, rho_big m i j p (by omega) hlt, HP.out])
      have S3 : Aside (SWK enc k w0 blk off d2 w2) := S2
      clear S2 P2 Q2 S1 HP HPm
      go_roundg (i)
      case measure => omega
      case rel => exact ⟨i - j, j, d2, by rw [Int.ofNat_sub (by omega)], rfl, by omega, by omega, by omega, by omega, by omega, S3, P3, Q3⟩
end Go.Proofs.Ytdjbnnjcifgnlaa

namespace Go.Proofs.Ytdjbnnjcifgnlaa
open Go.RowKit Go.Sort Go.Lib Go.Shelf

theorem runs_w {α : Type} {r : α → α → Bool} {x y : α} {c : Int} (h : decide (c < 0) = r x y) (hc : c < 0) : r x y = true := by rw [← h]; exact decide_eq_true hc
theorem runs_n {α : Type} {r : α → α → Bool} {x y : α} {c : Int} (h : decide (c < 0) = r x y) (hc : ¬ c < 0) : r x y = false := by rw [← h]; exact decide_eq_false hc
variable (k : Nat) (aE : ∀ w, (isAgg 42).run Try.prog w = .ok true w) (zE : ∀ w, (Go.sizeOf 42).run Try.prog w = .ok k w) (enc : Dd → List Value) (lt : Od → Od → Bool) (cf : Dd → Dd → Int) (hcf : ∀ x y, decide (cf x y < 0) = lt x.1 y.1) (hO : SWO lt)
  (g : Nat) (cb : Array Value) (blk off cap : Nat) (d0 : Array Dd) (w0 : World) (eg : ∀ args w, (callFunc g args).run Try.prog w = .ok (.enter g args) w) (R : RowK enc k w0 blk off d0) (hC : CmpLays Try.prog g cb enc k cf blk off d0.size w0)
set_option maxHeartbeats 4000000 in
set_option maxRecDepth 1000000 in
include aE zE hcf hO eg R hC in
/-- The first run is one element. -/
theorem sym_first (a b : Nat) (d : Array Dd) (w : World) (hs : d0.size = d.size) (S : SWK enc k w0 blk off d w) (U : Runs lt a (a + 1) b d) (hab : a + 1 < b) (hb : b ≤ d.size) (hsz : d.size < 4611686018427387904) :
    Calls Try.prog 102 #[.slice (some ⟨blk, off, none⟩) d.size cap, .int .i64 a, .int .i64 ((a : Int) + 1), .int .i64 b, .func (.func g) #[] cb] w fun e w' => e = .returned (.tuple #[]) ∧
      ∃ d', SWK enc k w0 blk off d' w' ∧ Merged lt a b d d' := by
  have mixed : Try.prog.follows .mixedOrders = true := by kernel_rfl
  have S0 : Aside (SWK enc k w0 blk off d w) := S
  have HU := Lib.hid U
  have HC : Aside (CmpLays Try.prog g cb enc k cf blk off d0.size w0) := hC
  have HF := Lib.hid hcf
  have HS := Lib.hid hs
  have e1 : ((a : Int) + 1 - (a : Int) == 1) = true := by rw [beq_iff_eq]; omega
  clear S hC hcf hs U
  go_enter Try.func102, Try.ntmps102
  go_wp2
  go_loopg [10, 11] b (fun kx s10 s11 wr => ∃ (i j : Nat), s10 = .int .i64 i ∧ s11 = .int .i64 j ∧ a + 1 ≤ i ∧ i ≤ j ∧ j ≤ b ∧ j - i ≤ kx ∧ Aside (SWK enc k w0 blk off d wr) ∧ Hid ((∀ q, a + 1 ≤ q → q < i → lt (d[q]!).1 (d[a]!).1 = true) ∧ ∀ q, j ≤ q → q < b → lt (d[q]!).1 (d[a]!).1 = false))
  case atStart => exact ⟨a + 1, b, by go_num, rfl, by omega, by omega, by omega, by omega, S0, Lib.hid ⟨fun q h1 h2 => by omega, fun q h1 h2 => by omega⟩⟩
  case round =>
    clear S0
    obtain ⟨i, j, rfl, rfl, hi, hij, hjb, hkx, S1, HI⟩ := hrel
    by_cases hlt : i < j
    · have hltz : (i : Int) < (j : Int) := by omega
      obtain ⟨h, hh⟩ : ∃ h, h = (i + j) / 2 := ⟨_, rfl⟩
      have hz : ((i : Int) + (j : Int)) / 2 = (h : Int) := by omega
      have h1 : i ≤ h := by omega
      have h2 : h < j := by omega
      clear hh
      obtain ⟨x, hx⟩ : ∃ x, d[h]! = x := ⟨_, rfl⟩
      obtain ⟨y, hy⟩ : ∃ y, d[a]! = y := ⟨_, rfl⟩
      have lx := fun n' os' => S1.out.ld R (by first | exact HS.out.symm | rw [HS.out]) Try.prog (h) (by omega) n' os'
      have ly := fun n' os' => S1.out.ld R (by first | exact HS.out.symm | rw [HS.out]) Try.prog (a) (by omega) n' os'
      rw [hx] at lx
      rw [hy] at ly
      have hcg := fun n' os' => S1.out.cmp HC.out (by first | exact HS.out.symm | rw [HS.out]) x y n' os'
      have XY : Hid (d[h]! = x ∧ d[a]! = y) := ⟨hx, hy⟩
      clear hx hy
      have bp : ((h : Nat) : Int) < (d.size : Int) := by omega
      have bq : ((a : Nat) : Int) < (d.size : Int) := by omega
      by_cases hlv : cf x y < 0
      · have HN : Hid (∀ q, a + 1 ≤ q → q < h + 1 → lt (d[q]!).1 (d[a]!).1 = true) := Lib.hid (fun q hq hqh => runs_yes hO HU.out (Nat.le_refl _) (Nat.le_refl _) (by omega) hq (by omega) (by omega : h < b) (by rw [XY.out.1, XY.out.2]; exact runs_w (r := fun x y : Dd => lt x.1 y.1) (HF.out x y) hlv))
        go_wp2_with fail
        go_quiet_grown (first | (go_at_fn g; refine Calls.grown_of (hcg _ _)))
        have S2 : Aside (SWK enc k w0 blk off d (grow (wr.drewN nq) osq)) := S1.out.grown nq osq
        clear lx ly hcg S1
        generalize grow (wr.drewN nq) osq = w2 at S2 ⊢
        go_wp2
        go_roundg (j - (h + 1))
        case measure => omega
        case rel => exact ⟨h + 1, j, by go_num, rfl, by omega, by omega, by omega, by omega, S2, Lib.hid ⟨HN.out, HI.out.2⟩⟩
      · have HN : Hid (∀ q, h ≤ q → q < b → lt (d[q]!).1 (d[a]!).1 = false) := Lib.hid (fun q hq hqb => runs_no hO HU.out (Nat.le_refl _) (Nat.le_refl _) (by omega) (by omega : a + 1 ≤ h) hq hqb (by rw [XY.out.1, XY.out.2]; exact runs_n (r := fun x y : Dd => lt x.1 y.1) (HF.out x y) hlv))
        go_wp2_with fail
        go_quiet_grown (first | (go_at_fn g; refine Calls.grown_of (hcg _ _)))
        have S2 : Aside (SWK enc k w0 blk off d (grow (wr.drewN nq) osq)) := S1.out.grown nq osq
        clear lx ly hcg S1
        generalize grow (wr.drewN nq) osq = w2 at S2 ⊢
        go_wp2
        go_roundg (h - i)
        case measure => omega
        case rel => exact ⟨i, h, rfl, rfl, by omega, by omega, by omega, by omega, S2, Lib.hid ⟨HI.out.1, HN.out⟩⟩
    · have hltz : ¬ (i : Int) < (j : Int) := by omega
      obtain rfl : i = j := by omega
      clear hij
      go_wp2
      go_loopg [13] b (fun kx s13 wr => ∃ (c : Nat) (dk : Array Dd), s13 = .int .i64 c ∧ a ≤ c ∧ c + 1 ≤ i ∧ i - c ≤ kx ∧ dk.size = d.size ∧ Aside (SWK enc k w0 blk off dk wr) ∧ Hid (Shl a i c d dk))
      case atStart => exact ⟨a, d, rfl, by omega, by omega, by omega, rfl, S1, Lib.hid (Shl.start a i d)⟩
      case round =>
        clear S1
        obtain ⟨c, dk, rfl, hac, hci, hkx', hds, S1, HSh⟩ := hrel
        by_cases hlt2 : c + 1 < i
        · have hltz2 : (c : Int) < (i : Int) - 1 := by omega
          have HQ : Hid (Shl a i (c + 1) d (swp dk c (c + 1))) := Lib.hid (HSh.out.step hac hlt2 (by omega))
          have HD := Lib.hid hds
          have S2 : Aside (SWK enc k w0 blk off (swp dk (c) (c + 1)) ((wr.drew.setCells blk (off + (c) * k) (enc dk[c + 1]!)).setCells blk (off + (c + 1) * k) (enc dk[c]!))) := S1.out.swapped R (c) (c + 1) (by omega) (by omega)
          have l44a := S1.out.ld1 R (by rw [HD.out]; exact HS.out.symm) Try.prog (c) (by omega)
          have l44b := S1.out.ld1 R (by rw [HD.out]; exact HS.out.symm) Try.prog (c + 1) (by omega)
          have s44a := S1.out.st1 R (by rw [HD.out]; exact HS.out.symm) Try.prog (c) (by omega) dk[c + 1]!
          have s44b := S1.out.st2 R (by rw [HD.out]; exact HS.out.symm) Try.prog (c) (c + 1) (by omega) (by omega) dk[c + 1]! dk[c]!
          have n44a : (enc dk[c]!).length = k := R.hk _
          have n44b : (enc dk[c + 1]!).length = k := R.hk _
          generalize enc dk[c]! = cI44 at S2 l44a s44b n44a
          generalize enc dk[c + 1]! = cJ44 at S2 l44b s44a s44b n44b
          clear S1
          go_wp2_with fail
          go_big_region
          clear l44a l44b s44a s44b
          generalize (wr.drew.setCells blk (off + (c) * k) cJ44).setCells blk (off + (c + 1) * k) cI44 = w2 at S2 ⊢
          go_wp2
          go_roundg (i - (c + 1))
          case measure => omega
          case rel => exact ⟨c + 1, swp dk c (c + 1), by go_num, by omega, by omega, by omega, by rw [size_swp]; exact HD.out, S2, HQ⟩
        · have hltz2 : ¬ (c : Int) < (i : Int) - 1 := by omega
          have HM : Hid (Merged lt a b d dk) := Lib.hid (shl_merged hO HU.out HSh.out (by omega) hjb hb (by omega) HI.out.1 HI.out.2)
          clear hds
          go_wp2
          (try simp only [Exit.inBlock, Exit.then])
          refine bodyPost_ret (results_none rfl _ _ _) rfl ?_
          exact ⟨rfl, dk, S1.out, HM.out⟩
set_option maxHeartbeats 4000000 in
set_option maxRecDepth 1000000 in
include aE zE hcf hO eg R hC in
/-- The second run is one element. -/
theorem sym_last (a m : Nat) (d : Array Dd) (w : World) (hs : d0.size = d.size) (S : SWK enc k w0 blk off d w) (U : Runs lt a m (m + 1) d) (ham : a + 1 < m) (hb : m + 1 ≤ d.size) (hsz : d.size < 4611686018427387904) :
    Calls Try.prog 102 #[.slice (some ⟨blk, off, none⟩) d.size cap, .int .i64 a, .int .i64 m, .int .i64 ((m : Int) + 1), .func (.func g) #[] cb] w fun e w' => e = .returned (.tuple #[]) ∧
      ∃ d', SWK enc k w0 blk off d' w' ∧ Merged lt a (m + 1) d d' := by
  have mixed : Try.prog.follows .mixedOrders = true := by kernel_rfl
  have S0 : Aside (SWK enc k w0 blk off d w) := S
  have HU := Lib.hid U
  have HC : Aside (CmpLays Try.prog g cb enc k cf blk off d0.size w0) := hC
  have HF := Lib.hid hcf
  have HS := Lib.hid hs
  have e0 : ((m : Int) - (a : Int) == 1) = false := by rw [beq_eq_false_iff_ne]; omega
  have e1' : ((m : Int) + 1 - (m : Int) == 1) = true := by rw [beq_iff_eq]; omega
  clear S hC hcf hs U
  go_enter Try.func102, Try.ntmps102
  go_wp2
  go_loopg [14, 15] m (fun kx s14 s15 wr => ∃ (i j : Nat), s14 = .int .i64 i ∧ s15 = .int .i64 j ∧ a ≤ i ∧ i ≤ j ∧ j ≤ m ∧ j - i ≤ kx ∧ Aside (SWK enc k w0 blk off d wr) ∧ Hid ((∀ p, a ≤ p → p < i → lt (d[m]!).1 (d[p]!).1 = false) ∧ ∀ p, j ≤ p → p < m → lt (d[m]!).1 (d[p]!).1 = true))
  case atStart => exact ⟨a, m, rfl, rfl, by omega, by omega, by omega, by omega, S0, Lib.hid ⟨fun q h1 h2 => by omega, fun q h1 h2 => by omega⟩⟩
  case round =>
    clear S0
    obtain ⟨i, j, rfl, rfl, hi, hij, hjb, hkx, S1, HI⟩ := hrel
    by_cases hlt : i < j
    · have hltz : (i : Int) < (j : Int) := by omega
      obtain ⟨h, hh⟩ : ∃ h, h = (i + j) / 2 := ⟨_, rfl⟩
      have hz : ((i : Int) + (j : Int)) / 2 = (h : Int) := by omega
      have h1 : i ≤ h := by omega
      have h2 : h < j := by omega
      clear hh
      obtain ⟨x, hx⟩ : ∃ x, d[m]! = x := ⟨_, rfl⟩
      obtain ⟨y, hy⟩ : ∃ y, d[h]! = y := ⟨_, rfl⟩
      have lx := fun n' os' => S1.out.ld R (by first | exact HS.out.symm | rw [HS.out]) Try.prog (m) (by omega) n' os'
      have ly := fun n' os' => S1.out.ld R (by first | exact HS.out.symm | rw [HS.out]) Try.prog (h) (by omega) n' os'
      rw [hx] at lx
      rw [hy] at ly
      have hcg := fun n' os' => S1.out.cmp HC.out (by first | exact HS.out.symm | rw [HS.out]) x y n' os'
      have XY : Hid (d[m]! = x ∧ d[h]! = y) := ⟨hx, hy⟩
      clear hx hy
      have bp : ((m : Nat) : Int) < (d.size : Int) := by omega
      have bq : ((h : Nat) : Int) < (d.size : Int) := by omega
      by_cases hlv : cf x y < 0
      · have HN : Hid (∀ p, h ≤ p → p < m → lt (d[m]!).1 (d[p]!).1 = true) := Lib.hid (fun p hp hpm => runs_yes hO HU.out (by omega : a ≤ h) hp hpm (Nat.le_refl _) (Nat.le_refl _) (by omega) (by rw [XY.out.1, XY.out.2]; exact runs_w (r := fun x y : Dd => lt x.1 y.1) (HF.out x y) hlv))
        have hd : decide (cf x y < 0) = true := decide_eq_true hlv
        go_wp2_with fail
        go_quiet_grown (first | (go_at_fn g; refine Calls.grown_of (hcg _ _)))
        have S2 : Aside (SWK enc k w0 blk off d (grow (wr.drewN nq) osq)) := S1.out.grown nq osq
        clear lx ly hcg S1
        generalize grow (wr.drewN nq) osq = w2 at S2 ⊢
        go_wp2
        go_roundg (h - i)
        case measure => omega
        case rel => exact ⟨i, h, rfl, rfl, by omega, by omega, by omega, by omega, S2, Lib.hid ⟨HI.out.1, HN.out⟩⟩
      · have HN : Hid (∀ p, a ≤ p → p < h + 1 → lt (d[m]!).1 (d[p]!).1 = false) := Lib.hid (fun p hp hph => runs_no hO HU.out hp (by omega : p ≤ h) (by omega) (Nat.le_refl _) (Nat.le_refl _) (by omega) (by rw [XY.out.1, XY.out.2]; exact runs_n (r := fun x y : Dd => lt x.1 y.1) (HF.out x y) hlv))
        have hd : decide (cf x y < 0) = false := decide_eq_false hlv
        go_wp2_with fail
        go_quiet_grown (first | (go_at_fn g; refine Calls.grown_of (hcg _ _)))
        have S2 : Aside (SWK enc k w0 blk off d (grow (wr.drewN nq) osq)) := S1.out.grown nq osq
        clear lx ly hcg S1
        generalize grow (wr.drewN nq) osq = w2 at S2 ⊢
        go_wp2
        go_roundg (j - (h + 1))
        case measure => omega
        case rel => exact ⟨h + 1, j, by go_num, rfl, by omega, by omega, by omega, by omega, S2, Lib.hid ⟨HN.out, HI.out.2⟩⟩
    · have hltz : ¬ (i : Int) < (j : Int) := by omega
      obtain rfl : i = j := by omega
      clear hij
      go_wp2
      go_loopg [17] m (fun kx s17 wr => ∃ (c : Nat) (dk : Array Dd), s17 = .int .i64 c ∧ i ≤ c ∧ c ≤ m ∧ c - i ≤ kx ∧ dk.size = d.size ∧ Aside (SWK enc k w0 blk off dk wr) ∧ Hid (Shr i m c d dk))
      case atStart => exact ⟨m, d, rfl, by omega, by omega, by omega, rfl, S1, Lib.hid (Shr.start i m d)⟩
      case round =>
        clear S1
        obtain ⟨c1, dk, rfl, hac, hci, hkx', hds, S1, HSh⟩ := hrel
        by_cases hlt2 : i < c1
        · obtain ⟨c, rfl⟩ : ∃ c, c1 = c + 1 := ⟨c1 - 1, by omega⟩
          have hltz2 : (i : Int) < (c : Int) + 1 := by omega
          have HQ : Hid (Shr i m c d (swp dk (c + 1) c)) := Lib.hid (HSh.out.step (by omega) hci (by omega))
          have HD := Lib.hid hds
          have wc : IntKind.i64.wrap (c : Int) = (c : Int) := by rw [IntKind.wrap_i64]; omega
          have wc1 : IntKind.i64.wrap ((c : Int) + 1 - 1) = (c : Int) := by rw [IntKind.wrap_i64]; omega
          have bc1 : (c : Int) + 1 < (d.size : Int) := by omega
          have bc0 : (0 : Int) ≤ (c : Int) + 1 := by omega
          have bt : ((c : Int) + 1).toNat = c + 1 := by omega
          have S2 : Aside (SWK enc k w0 blk off (swp dk (c + 1) (c)) ((wr.drew.setCells blk (off + (c + 1) * k) (enc dk[c]!)).setCells blk (off + (c) * k) (enc dk[c + 1]!))) := S1.out.swapped R (c + 1) (c) (by omega) (by omega)
          have l44a := S1.out.ld1 R (by rw [HD.out]; exact HS.out.symm) Try.prog (c + 1) (by omega)
          have l44b := S1.out.ld1 R (by rw [HD.out]; exact HS.out.symm) Try.prog (c) (by omega)
          have s44a := S1.out.st1 R (by rw [HD.out]; exact HS.out.symm) Try.prog (c + 1) (by omega) dk[c]!
          have s44b := S1.out.st2 R (by rw [HD.out]; exact HS.out.symm) Try.prog (c + 1) (c) (by omega) (by omega) dk[c]! dk[c + 1]!
          have n44a : (enc dk[c + 1]!).length = k := R.hk _
          have n44b : (enc dk[c]!).length = k := R.hk _
          generalize enc dk[c + 1]! = cI44 at S2 l44a s44b n44a
          generalize enc dk[c]! = cJ44 at S2 l44b s44a s44b n44b
          clear S1
          go_wp2_with fail
          go_big_region
          clear l44a l44b s44a s44b
          generalize (wr.drew.setCells blk (off + (c + 1) * k) cJ44).setCells blk (off + (c) * k) cI44 = w2 at S2 ⊢
          go_wp2
          go_roundg (c - i)
          case measure => omega
          case rel => exact ⟨c, swp dk (c + 1) c, by go_num, by omega, by omega, by omega, by rw [size_swp]; exact HD.out, S2, HQ⟩
        · have hltz2 : ¬ (i : Int) < (c1 : Int) := by omega
          obtain rfl : c1 = i := by omega
          have HM : Hid (Merged lt a (m + 1) d dk) := Lib.hid (shr_merged hO HU.out HSh.out hi hjb hb HI.out.1 HI.out.2)
          clear hds
          go_wp2
          (try simp only [Exit.inBlock, Exit.then])
          refine bodyPost_ret (results_none rfl _ _ _) rfl ?_
          exact ⟨rfl, dk, S1.out, HM.out⟩
end Go.Proofs.Ytdjbnnjcifgnlaa

namespace Go.Proofs.Ytdjbnnjcifgnlaa
open Go.RowKit Go.Sort Go.Lib Go.Shelf

theorem rotate_z (k : Nat) (aE : ∀ w, (isAgg 42).run Try.prog w = .ok true w) (zE : ∀ w, (Go.sizeOf 42).run Try.prog w = .ok k w) (enc : Dd → List Value) (f : Value) (blk off cap : Nat) (d0 : Array Dd) (w0 : World) (R : RowK enc k w0 blk off d0)
    (a m b : Nat) (za zm zb : Int) (ha : za = a) (hm : zm = m) (hzb : zb = b) (d : Array Dd) (w : World) (N : Nat) (hN : N = d.size) (hs : d0.size = d.size) (S : SWK enc k w0 blk off d w) (ham : a < m) (hmb : m < b) (hb : b ≤ d.size) (hsz : d.size < 4611686018427387904) :
    Calls Try.prog 105 #[.slice (some ⟨blk, off, none⟩) N cap, .int .i64 za, .int .i64 zm, .int .i64 zb, f] w fun e w' => e = .returned (.tuple #[]) ∧
      ∃ d', SWK enc k w0 blk off d' w' ∧ PermIn a b d d' ∧ ∀ p, d'[p]! = d[rho a m b p]! := by
  subst ha hzb hm hN
  exact rotate_c k aE zE enc f blk off cap a m b d0 d w0 w R hs S ham hmb hb hsz
def CutB (a b m n lo hi : Nat) : Prop := (m > (a + b) / 2 ∧ lo = n - b ∧ hi = (a + b) / 2) ∨ (m ≤ (a + b) / 2 ∧ lo = a ∧ hi = m)
variable (k : Nat) (aE : ∀ w, (isAgg 42).run Try.prog w = .ok true w) (zE : ∀ w, (Go.sizeOf 42).run Try.prog w = .ok k w) (enc : Dd → List Value) (lt : Od → Od → Bool) (cf : Dd → Dd → Int) (hcf : ∀ x y, decide (cf x y < 0) = lt x.1 y.1) (hO : SWO lt)
  (g : Nat) (cb : Array Value) (blk off cap : Nat) (d0 : Array Dd) (w0 : World) (eg : ∀ args w, (callFunc g args).run Try.prog w = .ok (.enter g args) w) (R : RowK enc k w0 blk off d0) (hC : CmpLays Try.prog g cb enc k cf blk off d0.size w0)

set_option maxHeartbeats 4000000 in
set_option maxRecDepth 1000000 in
include aE zE hcf hO eg R hC in
/-- Both runs are more than one element; hi. -/
theorem sym_hi (a m b : Nat) (d : Array Dd) (w : World) (hs : d0.size = d.size) (S : SWK enc k w0 blk off d w) (U : Runs lt a m b d) (ham : a + 1 < m) (hmb : m + 1 < b) (hb : b ≤ d.size) (hsz : d.size < 4611686018427387904)
    (IH : ∀ (a' m' b' : Nat) (za zm zb : Int) (d' : Array Dd) (w' : World) (N : Nat), za = a' → zm = m' → zb = b' → N = d'.size → b' - a' < b - a → d0.size = d'.size → SWK enc k w0 blk off d' w' → Runs lt a' m' b' d' → a' < m' → m' < b' → b' ≤ d'.size →
      Calls Try.prog 102 #[.slice (some ⟨blk, off, none⟩) N cap, .int .i64 za, .int .i64 zm, .int .i64 zb, .func (.func g) #[] cb] w' fun e w'' => e = .returned (.tuple #[]) ∧ ∃ d'', SWK enc k w0 blk off d'' w'' ∧ Merged lt a' b' d' d'')
    (mid : Nat) (hmid : mid = (a + b) / 2) (hm : mid < m) :
    Calls Try.prog 102 #[.slice (some ⟨blk, off, none⟩) d.size cap, .int .i64 a, .int .i64 m, .int .i64 b, .func (.func g) #[] cb] w fun e w' => e = .returned (.tuple #[]) ∧
      ∃ d', SWK enc k w0 blk off d' w' ∧ Merged lt a b d d' := by
  have mixed : Try.prog.follows .mixedOrders = true := by kernel_rfl
  have S0 : Aside (SWK enc k w0 blk off d w) := S
  have HU := Lib.hid U
  have HC : Aside (CmpLays Try.prog g cb enc k cf blk off d0.size w0) := hC
  have HF := Lib.hid hcf
  have HS := Lib.hid hs
  have HI0 : Aside _ := IH
  have e0 : ((m : Int) - (a : Int) == 1) = false := by rw [beq_eq_false_iff_ne]; omega
  have e1 : ((b : Int) - (m : Int) == 1) = false := by rw [beq_eq_false_iff_ne]; omega
  have hz : ((a : Int) + (b : Int)) / 2 = (mid : Int) := by omega
  have hmz : (mid : Int) < (m : Int) := by omega
  obtain ⟨n, hn⟩ : ∃ n, n = mid + m := ⟨_, rfl⟩
  have HN := Lib.hid hn
  have hnz : (mid : Int) + (m : Int) = (n : Int) := by omega
  obtain ⟨p, hp⟩ : ∃ p, n = p + 1 := ⟨n - 1, by omega⟩
  have HP := Lib.hid hp
  have hpz : (n : Int) - 1 = (p : Int) := by omega
  obtain ⟨lo, hlo⟩ : ∃ lo, lo = n - b := ⟨_, rfl⟩
  have hloz : (n : Int) - (b : Int) = (lo : Int) := by omega
  have HB : CutB a b m n lo mid := by unfold CutB; omega
  have lo1 : a ≤ lo := by omega
  have lo2 : lo ≤ mid := by omega
  have hi2 : mid ≤ m := by omega
  have p1 : ∀ c, lo ≤ c → c < mid → m ≤ p - c ∧ p - c < b ∧ c ≤ p := fun c h1 h2 => by omega
  have HP1 := Lib.hid p1
  have HROT := Lib.hid (rotate_z k aE zE enc (.func (.func g) #[] cb) blk off cap d0 w0 R)
  have HMD := Lib.hid hmid
  have HLO := Lib.hid hlo
  have MB : a < mid ∧ mid < b := by omega
  obtain ⟨mb1, mb2⟩ := MB
  have nb : n < 9223372036854775807 := by omega
  clear S hC hcf hs U IH hn hp hlo p1 hmid
  go_enter Try.func102, Try.ntmps102
  go_wp2
  go_loopg [20, 21] b (fun kx s20 s21 wr => ∃ (s r : Nat), s20 = .int .i64 s ∧ s21 = .int .i64 r ∧ lo ≤ s ∧ s ≤ r ∧ r ≤ mid ∧ r - s ≤ kx ∧ Aside (SWK enc k w0 blk off d wr) ∧ Hid ((∀ c, lo ≤ c → c < s → lt (d[p - c]!).1 (d[c]!).1 = false) ∧ ∀ c, r ≤ c → c < mid → lt (d[p - c]!).1 (d[c]!).1 = true))
  case atStart => exact ⟨lo, mid, by first | rfl | rw [HLO.out], rfl, by omega, by omega, by omega, by omega, S0, Lib.hid ⟨fun q h1 h2 => by omega, fun q h1 h2 => by omega⟩⟩
  case round =>
    clear S0
    obtain ⟨s, r, rfl, rfl, hi1, hij, hjb, hkx, S1, HI⟩ := hrel
    by_cases hlt : s < r
    · as_aux_lemma =>
      have hltz : (s : Int) < (r : Int) := by omega
      obtain ⟨c, hh⟩ : ∃ c, c = (s + r) / 2 := ⟨_, rfl⟩
      have hcz : ((s : Int) + (r : Int)) / 2 = (c : Int) := by omega
      have h1 : s ≤ c := by omega
      have h2 : c < r := by omega
      clear hh
      obtain ⟨pc1, pc2, pc3⟩ := HP1.out c (by omega) (by omega)
      obtain ⟨q, hq⟩ : ∃ q, q = p - c := ⟨_, rfl⟩
      have hqz : IntKind.i64.wrap ((p : Int) - (c : Int)) = (q : Int) := by rw [IntKind.wrap_i64]; omega
      rw [← hq] at pc1 pc2
      have HQ := Lib.hid hq
      clear hq
      obtain ⟨x, hx⟩ : ∃ x, d[q]! = x := ⟨_, rfl⟩
      obtain ⟨y, hy⟩ : ∃ y, d[c]! = y := ⟨_, rfl⟩
      have lx := fun n' os' => S1.out.ld R (by first | exact HS.out.symm | rw [HS.out]) Try.prog (q) (by omega) n' os'
      have ly := fun n' os' => S1.out.ld R (by first | exact HS.out.symm | rw [HS.out]) Try.prog (c) (by omega) n' os'
      rw [hx] at lx
      rw [hy] at ly
      have hcg := fun n' os' => S1.out.cmp HC.out (by first | exact HS.out.symm | rw [HS.out]) x y n' os'
      have XY : Hid (d[q]! = x ∧ d[c]! = y) := ⟨hx, hy⟩
      clear hx hy
      have bp : ((q : Nat) : Int) < (d.size : Int) := by omega
      have bq : ((c : Nat) : Int) < (d.size : Int) := by omega
      by_cases hlv : cf x y < 0
      · as_aux_lemma =>
        have HNN : Hid (∀ c', c ≤ c' → c' < mid → lt (d[p - c']!).1 (d[c']!).1 = true) := Lib.hid (fun c' h1' h2' => runs_yes hO HU.out (by omega : a ≤ c) h1' (by omega) (HP1.out c' (by omega) h2').1 (by have := HQ.out; omega : p - c' ≤ q) pc2 (by rw [XY.out.1, XY.out.2]; exact runs_w (r := fun x y : Dd => lt x.1 y.1) (HF.out x y) hlv))
        have hd : decide (cf x y < 0) = true := decide_eq_true hlv
        go_wp2_with fail
        go_quiet_grown (first | (go_at_fn g; refine Calls.grown_of (hcg _ _)))
        have S2 : Aside (SWK enc k w0 blk off d (grow (wr.drewN nq) osq)) := S1.out.grown nq osq
        clear lx ly hcg S1
        generalize grow (wr.drewN nq) osq = w2 at S2 ⊢
        go_wp2
        go_roundg (c - s)
        case measure => omega
        case rel => exact ⟨s, c, rfl, rfl, by omega, by omega, by omega, by omega, S2, Lib.hid ⟨HI.out.1, HNN.out⟩⟩
      · as_aux_lemma =>
        have HNN : Hid (∀ c', lo ≤ c' → c' < c + 1 → lt (d[p - c']!).1 (d[c']!).1 = false) := Lib.hid (fun c' h1' h2' => runs_no hO HU.out (by omega : a ≤ c') (by omega : c' ≤ c) (by omega) pc1 (by have := HQ.out; omega : q ≤ p - c') (HP1.out c' h1' (by omega)).2.1 (by rw [XY.out.1, XY.out.2]; exact runs_n (r := fun x y : Dd => lt x.1 y.1) (HF.out x y) hlv))
        have hd : decide (cf x y < 0) = false := decide_eq_false hlv
        go_wp2_with fail
        go_quiet_grown (first | (go_at_fn g; refine Calls.grown_of (hcg _ _)))
        have S2 : Aside (SWK enc k w0 blk off d (grow (wr.drewN nq) osq)) := S1.out.grown nq osq
        clear lx ly hcg S1
        generalize grow (wr.drewN nq) osq = w2 at S2 ⊢
        go_wp2
        go_roundg (r - (c + 1))
        case measure => omega
        case rel => exact ⟨c + 1, r, by go_num, rfl, by omega, by omega, by omega, by omega, S2, Lib.hid ⟨HNN.out, HI.out.2⟩⟩
    · as_aux_lemma =>
      have hltz : ¬ (s : Int) < (r : Int) := by omega
      obtain rfl : s = r := by omega
      clear hij
      have hpe : ∀ c, n - 1 - c = p - c := fun c => by have := HP.out; omega
      obtain ⟨c1, c2, c3, c4, c5, CUT⟩ := cut_of hO HU.out (s := s) (n := n) (lo := lo) (hi := mid) (by rw [HN.out, HMD.out]) (by omega) (by omega) HB hi1 hjb (fun c h1 h2 => by rw [hpe]; exact HI.out.1 c h1 h2) (fun c h1 h2 => by rw [hpe]; exact HI.out.2 c h1 h2)
      rw [← HMD.out] at c5
      obtain ⟨e, he⟩ : ∃ e, e = n - s := ⟨_, rfl⟩
      rw [← he] at c3 c4 c5 CUT
      have hez : (n : Int) - (s : Int) = (e : Int) := by have := HN.out; omega
      have HCUT := Lib.hid CUT
      clear hpe he CUT HI HB HP1 hkx hjb lo1 lo2 hi1 hltz
      obtain ⟨tb, htb⟩ : ∃ tb : Bool, tb = decide (s < m ∧ m < e) := ⟨_, rfl⟩
      have TB := Lib.hid htb
      clear htb
      go_upto_region 39 with fail
      go_cut [185] (fun sx wx => sx = .bool tb ∧ wx = wr)
      case first =>
        by_cases hr1 : s < m
        · have z1 : (s : Int) < (m : Int) := by omega
          by_cases hr2 : m < e
          · have z2 : (m : Int) < (e : Int) := by omega
            have et : tb = true := by rw [TB.out]; exact decide_eq_true ⟨hr1, hr2⟩
            have ET := Lib.hid et
            clear et
            go_wp2_with fail
            go_meet
            case rel => exact ⟨by rw [ET.out], rfl⟩
          · have z2 : ¬ (m : Int) < (e : Int) := by omega
            have et : tb = false := by rw [TB.out]; exact decide_eq_false (fun h => hr2 h.2)
            have ET := Lib.hid et
            clear et
            go_wp2_with fail
            go_meet
            case rel => exact ⟨by rw [ET.out], rfl⟩
        · have z1 : ¬ (s : Int) < (m : Int) := by omega
          have et : tb = false := by rw [TB.out]; exact decide_eq_false (fun h => hr1 h.1)
          have ET := Lib.hid et
          clear et
          go_wp2_with fail
          go_meet
          case rel => exact ⟨by rw [ET.out], rfl⟩
      case rest =>
      obtain ⟨rfl, rfl⟩ := hcut
      go_upto_if 185 with fail
      go_cut [24] (fun s24 wx => s24 = .int .i64 e ∧ ∃ d1, Aside (SWK enc k w0 blk off d1 wx) ∧ PermIn a b d d1 ∧ Hid (Turned lt a s mid e b d1))
      case first =>
       as_aux_lemma =>
        cases tb with
        | true =>
          have hr := of_decide_eq_true TB.out.symm
          go_wp2_with (((with_reducible refine (HROT.out s m e _ _ _ rfl rfl rfl d _ d.size rfl ?_ ?_ ?_ ?_ ?_ ?_).mono ?_); exact HS.out; exact S1.out; omega; omega; omega; omega); rintro e w2 ⟨rfl, d1, S2, P2, Q2⟩)
          go_meet
          case rel => exact ⟨rfl, d1, S2, permIn_mono _ _ _ _ _ _ (by omega) (by omega) (by omega) P2, Lib.hid (after_rot hO HU.out HCUT.out (by omega) (by omega) (by omega) (by omega) (by omega) Q2)⟩
        | false =>
          have hr : ¬ (s < m ∧ m < e) := of_decide_eq_false TB.out.symm
          have HT : Hid (Turned lt a s mid e b d) := Lib.hid (after_rot hO HU.out HCUT.out (by omega) (by omega) (by omega) (by omega) (by omega) (fun p => by rw [rho_none hr (by omega) (by omega)]))
          go_wp2_with fail
          go_meet
          case rel => exact ⟨rfl, d, S1, permIn_refl _ _ _, HT⟩
      case rest =>
       as_aux_lemma =>
        obtain ⟨rfl, d1, S2, P1, HT⟩ := hcut
        clear S1 HCUT TB
        clear tb
        have D1 : Hid (d1.size = d.size) := P1.1
        obtain ⟨tb, htb⟩ : ∃ tb : Bool, tb = decide (a < s ∧ s < mid) := ⟨_, rfl⟩
        have TB := Lib.hid htb
        clear htb
        go_upto_region 41 with fail
        go_cut [199] (fun sx wx => sx = .bool tb ∧ wx = _)
        case first =>
          by_cases hr1 : a < s
          · have z1 : (a : Int) < (s : Int) := by omega
            by_cases hr2 : s < mid
            · have z2 : (s : Int) < (mid : Int) := by omega
              have et : tb = true := by rw [TB.out]; exact decide_eq_true ⟨hr1, hr2⟩
              have ET := Lib.hid et
              clear et
              go_wp2_with fail
              go_meet
              case rel => exact ⟨by rw [ET.out], rfl⟩
            · have z2 : ¬ (s : Int) < (mid : Int) := by omega
              have et : tb = false := by rw [TB.out]; exact decide_eq_false (fun h => hr2 h.2)
              have ET := Lib.hid et
              clear et
              go_wp2_with fail
              go_meet
              case rel => exact ⟨by rw [ET.out], rfl⟩
          · have z1 : ¬ (a : Int) < (s : Int) := by omega
            have et : tb = false := by rw [TB.out]; exact decide_eq_false (fun h => hr1 h.1)
            have ET := Lib.hid et
            clear et
            go_wp2_with fail
            go_meet
            case rel => exact ⟨by rw [ET.out], rfl⟩
        case rest =>
        obtain ⟨rfl, rfl⟩ := hcut
        go_upto_if 199 with fail
        go_cut [24] (fun s24 wx => s24 = .int .i64 e ∧ ∃ d2, Aside (SWK enc k w0 blk off d2 wx) ∧ Hid (Merged lt a mid d1 d2))
        case first =>
         as_aux_lemma =>
          cases tb with
          | true =>
            have hr := of_decide_eq_true TB.out.symm
            go_wp2_with (((with_reducible refine (HI0.out a s mid _ _ _ d1 _ d.size rfl rfl rfl ?_ ?_ ?_ ?_ ?_ ?_ ?_ ?_).mono ?_); exact D1.out.symm; omega; (rw [D1.out]; exact HS.out); exact S2.out; exact HT.out.l; omega; omega; (rw [D1.out]; omega)); rintro e w2 ⟨rfl, d2, S3, M2⟩)
            go_meet
            case rel => exact ⟨rfl, d2, S3, Lib.hid M2⟩
          | false =>
            have HM := Lib.hid (runs_one HT.out.l (of_decide_eq_false TB.out.symm) (by omega) (by omega))
            go_wp2_with fail
            go_meet
            case rel => exact ⟨rfl, d1, S2, HM⟩
        case rest =>
         as_aux_lemma =>
          obtain ⟨rfl, d2, S3, HM⟩ := hcut
          have D2 : Hid (d2.size = d.size) := by show _ = _; rw [HM.out.1.1, D1.out]
          have HT2 : Hid (Runs lt mid e b d2) := Lib.hid (HT.out.r.next HM.out.1 (by omega))
          clear S2 TB
          by_cases hr : mid < e ∧ e < b
          · obtain ⟨hr1, hr2⟩ := hr
            have z1 : (mid : Int) < (e : Int) := by omega
            have z2 : (e : Int) < (b : Int) := by omega
            go_wp2_with (((with_reducible refine (HI0.out mid e b _ _ _ d2 _ d.size rfl rfl rfl ?_ ?_ ?_ ?_ ?_ ?_ ?_ ?_).mono ?_); exact D2.out.symm; omega; (rw [D2.out]; exact HS.out); exact S3.out; exact HT2.out; omega; omega; (rw [D2.out]; omega)); rintro e w2 ⟨rfl, d3, S4, M3⟩)
            go_end0
            exact ⟨rfl, d3, S4, merge_all HT.out P1 HM.out M3 (by omega) (by omega) hb⟩
          · have HMF : Hid (Merged lt a b d d2) := Lib.hid (merge_all HT.out P1 HM.out (runs_one HT2.out hr (by omega) (by omega)) (by omega) (by omega) hb)
            by_cases hr1 : mid < e
            · have z1 : (mid : Int) < (e : Int) := by omega
              have z2 : ¬ (e : Int) < (b : Int) := by omega
              go_wp2_with fail
              go_end0
              exact ⟨rfl, d2, S3.out, HMF.out⟩
            · have z1 : ¬ (mid : Int) < (e : Int) := by omega
              go_wp2_with fail
              go_end0
              exact ⟨rfl, d2, S3.out, HMF.out⟩

set_option maxHeartbeats 4000000 in
set_option maxRecDepth 1000000 in
include aE zE hcf hO eg R hC in
/-- Both runs are more than one element; lo. -/
theorem sym_lo (a m b : Nat) (d : Array Dd) (w : World) (hs : d0.size = d.size) (S : SWK enc k w0 blk off d w) (U : Runs lt a m b d) (ham : a + 1 < m) (hmb : m + 1 < b) (hb : b ≤ d.size) (hsz : d.size < 4611686018427387904)
    (IH : ∀ (a' m' b' : Nat) (za zm zb : Int) (d' : Array Dd) (w' : World) (N : Nat), za = a' → zm = m' → zb = b' → N = d'.size → b' - a' < b - a → d0.size = d'.size → SWK enc k w0 blk off d' w' → Runs lt a' m' b' d' → a' < m' → m' < b' → b' ≤ d'.size →
      Calls Try.prog 102 #[.slice (some ⟨blk, off, none⟩) N cap, .int .i64 za, .int .i64 zm, .int .i64 zb, .func (.func g) #[] cb] w' fun e w'' => e = .returned (.tuple #[]) ∧ ∃ d'', SWK enc k w0 blk off d'' w'' ∧ Merged lt a' b' d' d'')
    (mid : Nat) (hmid : mid = (a + b) / 2) (hm : m ≤ mid) :
    Calls Try.prog 102 #[.slice (some ⟨blk, off, none⟩) d.size cap, .int .i64 a, .int .i64 m, .int .i64 b, .func (.func g) #[] cb] w fun e w' => e = .returned (.tuple #[]) ∧
      ∃ d', SWK enc k w0 blk off d' w' ∧ Merged lt a b d d' := by
  have mixed : Try.prog.follows .mixedOrders = true := by kernel_rfl
  have S0 : Aside (SWK enc k w0 blk off d w) := S
  have HU := Lib.hid U
  have HC : Aside (CmpLays Try.prog g cb enc k cf blk off d0.size w0) := hC
  have HF := Lib.hid hcf
  have HS := Lib.hid hs
  have HI0 : Aside _ := IH
  have e0 : ((m : Int) - (a : Int) == 1) = false := by rw [beq_eq_false_iff_ne]; omega
  have e1 : ((b : Int) - (m : Int) == 1) = false := by rw [beq_eq_false_iff_ne]; omega
  have hz : ((a : Int) + (b : Int)) / 2 = (mid : Int) := by omega
  have hmz : ¬ (mid : Int) < (m : Int) := by omega
  obtain ⟨n, hn⟩ : ∃ n, n = mid + m := ⟨_, rfl⟩
  have HN := Lib.hid hn
  have hnz : (mid : Int) + (m : Int) = (n : Int) := by omega
  obtain ⟨p, hp⟩ : ∃ p, n = p + 1 := ⟨n - 1, by omega⟩
  have HP := Lib.hid hp
  have hpz : (n : Int) - 1 = (p : Int) := by omega
  obtain ⟨lo, hlo⟩ : ∃ lo, lo = a := ⟨_, rfl⟩
  have HB : CutB a b m n lo m := by unfold CutB; omega
  have lo1 : a ≤ lo := by omega
  have lo2 : lo ≤ m := by omega
  have hi2 : m ≤ m := by omega
  have p1 : ∀ c, lo ≤ c → c < m → m ≤ p - c ∧ p - c < b ∧ c ≤ p := fun c h1 h2 => by omega
  have HP1 := Lib.hid p1
  have HROT := Lib.hid (rotate_z k aE zE enc (.func (.func g) #[] cb) blk off cap d0 w0 R)
  have HMD := Lib.hid hmid
  have HLO := Lib.hid hlo
  have MB : a < mid ∧ mid < b := by omega
  obtain ⟨mb1, mb2⟩ := MB
  have nb : n < 9223372036854775807 := by omega
  clear S hC hcf hs U IH hn hp hlo p1 hmid
  go_enter Try.func102, Try.ntmps102
  go_wp2
  go_loopg [20, 21] b (fun kx s20 s21 wr => ∃ (s r : Nat), s20 = .int .i64 s ∧ s21 = .int .i64 r ∧ lo ≤ s ∧ s ≤ r ∧ r ≤ m ∧ r - s ≤ kx ∧ Aside (SWK enc k w0 blk off d wr) ∧ Hid ((∀ c, lo ≤ c → c < s → lt (d[p - c]!).1 (d[c]!).1 = false) ∧ ∀ c, r ≤ c → c < m → lt (d[p - c]!).1 (d[c]!).1 = true))
  case atStart => exact ⟨lo, m, by first | rfl | rw [HLO.out], rfl, by omega, by omega, by omega, by omega, S0, Lib.hid ⟨fun q h1 h2 => by omega, fun q h1 h2 => by omega⟩⟩
  case round =>
    clear S0
    obtain ⟨s, r, rfl, rfl, hi1, hij, hjb, hkx, S1, HI⟩ := hrel
    by_cases hlt : s < r
    · as_aux_lemma =>
      have hltz : (s : Int) < (r : Int) := by omega
      obtain ⟨c, hh⟩ : ∃ c, c = (s + r) / 2 := ⟨_, rfl⟩
      have hcz : ((s : Int) + (r : Int)) / 2 = (c : Int) := by omega
      have h1 : s ≤ c := by omega
      have h2 : c < r := by omega
      clear hh
      obtain ⟨pc1, pc2, pc3⟩ := HP1.out c (by omega) (by omega)
      obtain ⟨q, hq⟩ : ∃ q, q = p - c := ⟨_, rfl⟩
      have hqz : IntKind.i64.wrap ((p : Int) - (c : Int)) = (q : Int) := by rw [IntKind.wrap_i64]; omega
      rw [← hq] at pc1 pc2
      have HQ := Lib.hid hq
      clear hq
      obtain ⟨x, hx⟩ : ∃ x, d[q]! = x := ⟨_, rfl⟩
      obtain ⟨y, hy⟩ : ∃ y, d[c]! = y := ⟨_, rfl⟩
      have lx := fun n' os' => S1.out.ld R (by first | exact HS.out.symm | rw [HS.out]) Try.prog (q) (by omega) n' os'
      have ly := fun n' os' => S1.out.ld R (by first | exact HS.out.symm | rw [HS.out]) Try.prog (c) (by omega) n' os'
      rw [hx] at lx
      rw [hy] at ly
      have hcg := fun n' os' => S1.out.cmp HC.out (by first | exact HS.out.symm | rw [HS.out]) x y n' os'
      have XY : Hid (d[q]! = x ∧ d[c]! = y) := ⟨hx, hy⟩
      clear hx hy
      have bp : ((q : Nat) : Int) < (d.size : Int) := by omega
      have bq : ((c : Nat) : Int) < (d.size : Int) := by omega
      by_cases hlv : cf x y < 0
      · as_aux_lemma =>
        have HNN : Hid (∀ c', c ≤ c' → c' < m → lt (d[p - c']!).1 (d[c']!).1 = true) := Lib.hid (fun c' h1' h2' => runs_yes hO HU.out (by omega : a ≤ c) h1' (by omega) (HP1.out c' (by omega) h2').1 (by have := HQ.out; omega : p - c' ≤ q) pc2 (by rw [XY.out.1, XY.out.2]; exact runs_w (r := fun x y : Dd => lt x.1 y.1) (HF.out x y) hlv))
        have hd : decide (cf x y < 0) = true := decide_eq_true hlv
        go_wp2_with fail
        go_quiet_grown (first | (go_at_fn g; refine Calls.grown_of (hcg _ _)))
        have S2 : Aside (SWK enc k w0 blk off d (grow (wr.drewN nq) osq)) := S1.out.grown nq osq
        clear lx ly hcg S1
        generalize grow (wr.drewN nq) osq = w2 at S2 ⊢
        go_wp2
        go_roundg (c - s)
        case measure => omega
        case rel => exact ⟨s, c, rfl, rfl, by omega, by omega, by omega, by omega, S2, Lib.hid ⟨HI.out.1, HNN.out⟩⟩
      · as_aux_lemma =>
        have HNN : Hid (∀ c', lo ≤ c' → c' < c + 1 → lt (d[p - c']!).1 (d[c']!).1 = false) := Lib.hid (fun c' h1' h2' => runs_no hO HU.out (by omega : a ≤ c') (by omega : c' ≤ c) (by omega) pc1 (by have := HQ.out; omega : q ≤ p - c') (HP1.out c' h1' (by omega)).2.1 (by rw [XY.out.1, XY.out.2]; exact runs_n (r := fun x y : Dd => lt x.1 y.1) (HF.out x y) hlv))
        have hd : decide (cf x y < 0) = false := decide_eq_false hlv
        go_wp2_with fail
        go_quiet_grown (first | (go_at_fn g; refine Calls.grown_of (hcg _ _)))
        have S2 : Aside (SWK enc k w0 blk off d (grow (wr.drewN nq) osq)) := S1.out.grown nq osq
        clear lx ly hcg S1
        generalize grow (wr.drewN nq) osq = w2 at S2 ⊢
        go_wp2
        go_roundg (r - (c + 1))
        case measure => omega
        case rel => exact ⟨c + 1, r, by go_num, rfl, by omega, by omega, by omega, by omega, S2, Lib.hid ⟨HNN.out, HI.out.2⟩⟩
    · as_aux_lemma =>
      have hltz : ¬ (s : Int) < (r : Int) := by omega
      obtain rfl : s = r := by omega
      clear hij
      have hpe : ∀ c, n - 1 - c = p - c := fun c => by have := HP.out; omega
      obtain ⟨c1, c2, c3, c4, c5, CUT⟩ := cut_of hO HU.out (s := s) (n := n) (lo := lo) (hi := m) (by rw [HN.out, HMD.out]) (by omega) (by omega) HB hi1 hjb (fun c h1 h2 => by rw [hpe]; exact HI.out.1 c h1 h2) (fun c h1 h2 => by rw [hpe]; exact HI.out.2 c h1 h2)
      rw [← HMD.out] at c5
      obtain ⟨e, he⟩ : ∃ e, e = n - s := ⟨_, rfl⟩
      rw [← he] at c3 c4 c5 CUT
      have hez : (n : Int) - (s : Int) = (e : Int) := by have := HN.out; omega
      have HCUT := Lib.hid CUT
      clear hpe he CUT HI HB HP1 hkx hjb lo1 lo2 hi1 hltz
      obtain ⟨tb, htb⟩ : ∃ tb : Bool, tb = decide (s < m ∧ m < e) := ⟨_, rfl⟩
      have TB := Lib.hid htb
      clear htb
      go_upto_region 39 with fail
      go_cut [185] (fun sx wx => sx = .bool tb ∧ wx = wr)
      case first =>
        by_cases hr1 : s < m
        · have z1 : (s : Int) < (m : Int) := by omega
          by_cases hr2 : m < e
          · have z2 : (m : Int) < (e : Int) := by omega
            have et : tb = true := by rw [TB.out]; exact decide_eq_true ⟨hr1, hr2⟩
            have ET := Lib.hid et
            clear et
            go_wp2_with fail
            go_meet
            case rel => exact ⟨by rw [ET.out], rfl⟩
          · have z2 : ¬ (m : Int) < (e : Int) := by omega
            have et : tb = false := by rw [TB.out]; exact decide_eq_false (fun h => hr2 h.2)
            have ET := Lib.hid et
            clear et
            go_wp2_with fail
            go_meet
            case rel => exact ⟨by rw [ET.out], rfl⟩
        · have z1 : ¬ (s : Int) < (m : Int) := by omega
          have et : tb = false := by rw [TB.out]; exact decide_eq_false (fun h => hr1 h.1)
          have ET := Lib.hid et
          clear et
          go_wp2_with fail
          go_meet
          case rel => exact ⟨by rw [ET.out], rfl⟩
      case rest =>
      obtain ⟨rfl, rfl⟩ := hcut
      go_upto_if 185 with fail
      go_cut [24] (fun s24 wx => s24 = .int .i64 e ∧ ∃ d1, Aside (SWK enc k w0 blk off d1 wx) ∧ PermIn a b d d1 ∧ Hid (Turned lt a s mid e b d1))
      case first =>
       as_aux_lemma =>
        cases tb with
        | true =>
          have hr := of_decide_eq_true TB.out.symm
          go_wp2_with (((with_reducible refine (HROT.out s m e _ _ _ rfl rfl rfl d _ d.size rfl ?_ ?_ ?_ ?_ ?_ ?_).mono ?_); exact HS.out; exact S1.out; omega; omega; omega; omega); rintro e w2 ⟨rfl, d1, S2, P2, Q2⟩)
          go_meet
          case rel => exact ⟨rfl, d1, S2, permIn_mono _ _ _ _ _ _ (by omega) (by omega) (by omega) P2, Lib.hid (after_rot hO HU.out HCUT.out (by omega) (by omega) (by omega) (by omega) (by omega) Q2)⟩
        | false =>
          have hr : ¬ (s < m ∧ m < e) := of_decide_eq_false TB.out.symm
          have HT : Hid (Turned lt a s mid e b d) := Lib.hid (after_rot hO HU.out HCUT.out (by omega) (by omega) (by omega) (by omega) (by omega) (fun p => by rw [rho_none hr (by omega) (by omega)]))
          go_wp2_with fail
          go_meet
          case rel => exact ⟨rfl, d, S1, permIn_refl _ _ _, HT⟩
      case rest =>
       as_aux_lemma =>
        obtain ⟨rfl, d1, S2, P1, HT⟩ := hcut
        clear S1 HCUT TB
        clear tb
        have D1 : Hid (d1.size = d.size) := P1.1
        obtain ⟨tb, htb⟩ : ∃ tb : Bool, tb = decide (a < s ∧ s < mid) := ⟨_, rfl⟩
        have TB := Lib.hid htb
        clear htb
        go_upto_region 41 with fail
        go_cut [199] (fun sx wx => sx = .bool tb ∧ wx = _)
        case first =>
          by_cases hr1 : a < s
          · have z1 : (a : Int) < (s : Int) := by omega
            by_cases hr2 : s < mid
            · have z2 : (s : Int) < (mid : Int) := by omega
              have et : tb = true := by rw [TB.out]; exact decide_eq_true ⟨hr1, hr2⟩
              have ET := Lib.hid et
              clear et
              go_wp2_with fail
              go_meet
              case rel => exact ⟨by rw [ET.out], rfl⟩
            · have z2 : ¬ (s : Int) < (mid : Int) := by omega
              have et : tb = false := by rw [TB.out]; exact decide_eq_false (fun h => hr2 h.2)
              have ET := Lib.hid et
              clear et
              go_wp2_with fail
              go_meet
              case rel => exact ⟨by rw [ET.out], rfl⟩
          · have z1 : ¬ (a : Int) < (s : Int) := by omega
            have et : tb = false := by rw [TB.out]; exact decide_eq_false (fun h => hr1 h.1)
            have ET := Lib.hid et
            clear et
            go_wp2_with fail
            go_meet
            case rel => exact ⟨by rw [ET.out], rfl⟩
        case rest =>
        obtain ⟨rfl, rfl⟩ := hcut
        go_upto_if 199 with fail
        go_cut [24] (fun s24 wx => s24 = .int .i64 e ∧ ∃ d2, Aside (SWK enc k w0 blk off d2 wx) ∧ Hid (Merged lt a mid d1 d2))
        case first =>
         as_aux_lemma =>
          cases tb with
          | true =>
            have hr := of_decide_eq_true TB.out.symm
            go_wp2_with (((with_reducible refine (HI0.out a s mid _ _ _ d1 _ d.size rfl rfl rfl ?_ ?_ ?_ ?_ ?_ ?_ ?_ ?_).mono ?_); exact D1.out.symm; omega; (rw [D1.out]; exact HS.out); exact S2.out; exact HT.out.l; omega; omega; (rw [D1.out]; omega)); rintro e w2 ⟨rfl, d2, S3, M2⟩)
            go_meet
            case rel => exact ⟨rfl, d2, S3, Lib.hid M2⟩
          | false =>
            have HM := Lib.hid (runs_one HT.out.l (of_decide_eq_false TB.out.symm) (by omega) (by omega))
            go_wp2_with fail
            go_meet
            case rel => exact ⟨rfl, d1, S2, HM⟩
        case rest =>
         as_aux_lemma =>
          obtain ⟨rfl, d2, S3, HM⟩ := hcut
          have D2 : Hid (d2.size = d.size) := by show _ = _; rw [HM.out.1.1, D1.out]
          have HT2 : Hid (Runs lt mid e b d2) := Lib.hid (HT.out.r.next HM.out.1 (by omega))
          clear S2 TB
          by_cases hr : mid < e ∧ e < b
          · obtain ⟨hr1, hr2⟩ := hr
            have z1 : (mid : Int) < (e : Int) := by omega
            have z2 : (e : Int) < (b : Int) := by omega
            go_wp2_with (((with_reducible refine (HI0.out mid e b _ _ _ d2 _ d.size rfl rfl rfl ?_ ?_ ?_ ?_ ?_ ?_ ?_ ?_).mono ?_); exact D2.out.symm; omega; (rw [D2.out]; exact HS.out); exact S3.out; exact HT2.out; omega; omega; (rw [D2.out]; omega)); rintro e w2 ⟨rfl, d3, S4, M3⟩)
            go_end0
            exact ⟨rfl, d3, S4, merge_all HT.out P1 HM.out M3 (by omega) (by omega) hb⟩
          · have HMF : Hid (Merged lt a b d d2) := Lib.hid (merge_all HT.out P1 HM.out (runs_one HT2.out hr (by omega) (by omega)) (by omega) (by omega) hb)
            by_cases hr1 : mid < e
            · have z1 : (mid : Int) < (e : Int) := by omega
              have z2 : ¬ (e : Int) < (b : Int) := by omega
              go_wp2_with fail
              go_end0
              exact ⟨rfl, d2, S3.out, HMF.out⟩
            · have z1 : ¬ (mid : Int) < (e : Int) := by omega
              go_wp2_with fail
              go_end0
              exact ⟨rfl, d2, S3.out, HMF.out⟩

include aE zE hcf hO eg R hC in
theorem symMerge_c : ∀ (N a m b : Nat) (za zm zb : Int) (d : Array Dd) (w : World) (n : Nat), b - a ≤ N → za = a → zm = m → zb = b → n = d.size → d0.size = d.size → SWK enc k w0 blk off d w → Runs lt a m b d → a < m → m < b → b ≤ d.size → d.size < 4611686018427387904 →
    Calls Try.prog 102 #[.slice (some ⟨blk, off, none⟩) n cap, .int .i64 za, .int .i64 zm, .int .i64 zb, .func (.func g) #[] cb] w fun e w' => e = .returned (.tuple #[]) ∧
      ∃ d', SWK enc k w0 blk off d' w' ∧ Merged lt a b d d'
  | 0, a, m, b, _, _, _, _, _, _, hN, _, _, _, _, _, _, _, ham, hmb, _, _ => by omega
  | N + 1, a, m, b, za, zm, zb, d, w, n, hN, ha, hm, hb', hn, hs, S, U, ham, hmb, hb, hsz => by
    subst ha hm hb' hn
    by_cases h1 : m = a + 1
    · subst h1
      have := sym_first k aE zE enc lt cf hcf hO g cb blk off cap d0 w0 eg R hC a b d w hs S U hmb hb hsz
      rw [← Int.natCast_add_one] at this
      exact this
    · by_cases h2 : b = m + 1
      · subst h2
        have := sym_last k aE zE enc lt cf hcf hO g cb blk off cap d0 w0 eg R hC a m d w hs S U (by omega) hb hsz
        rw [← Int.natCast_add_one] at this
        exact this
      · have IH : ∀ (a' m' b' : Nat) (za zm zb : Int) (d' : Array Dd) (w' : World) (N' : Nat), za = a' → zm = m' → zb = b' → N' = d'.size → b' - a' < b - a → d0.size = d'.size → SWK enc k w0 blk off d' w' → Runs lt a' m' b' d' → a' < m' → m' < b' → b' ≤ d'.size →
            Calls Try.prog 102 #[.slice (some ⟨blk, off, none⟩) N' cap, .int .i64 za, .int .i64 zm, .int .i64 zb, .func (.func g) #[] cb] w' fun e w'' => e = .returned (.tuple #[]) ∧ ∃ d'', SWK enc k w0 blk off d'' w'' ∧ Merged lt a' b' d' d'' :=
          fun a' m' b' za zm zb d' w' N' q1 q2 q3 q4 q5 q6 q7 q8 q9 q10 q11 => symMerge_c N a' m' b' za zm zb d' w' N' (by omega) q1 q2 q3 q4 q6 q7 q8 q9 q10 q11 (by omega)
        by_cases h3 : (a + b) / 2 < m
        · exact sym_hi k aE zE enc lt cf hcf hO g cb blk off cap d0 w0 eg R hC a m b d w hs S U (by omega) (by omega) hb hsz IH _ rfl h3
        · exact sym_lo k aE zE enc lt cf hcf hO g cb blk off cap d0 w0 eg R hC a m b d w hs S U (by omega) (by omega) hb hsz IH _ rfl (by omega)
end Go.Proofs.Ytdjbnnjcifgnlaa

namespace Go.Proofs
open Go.Shelf
def Try.insL_ren : Go.Shelf.Ren := ⟨fun | 20 => 101 | n => n, fun | 24 => 42 | 22 => 22 | 3 => 3 | 25 => 92 | 4 => 4 | 0 => 0 | n => n, fun | n => n⟩
theorem Try.insL : Go.Proofs.SlLaysF0.n20 Try.prog Try.insL_ren := {
  mixed := by kernel_rfl
  f20 := ⟨Try.f101.name, by decide, Try.func101.trans (congrArg some (by kernel_rfl))⟩
  t0 := Try.underlying0
  a0 := Try.isAgg0
  z0 := Try.sizeOf0
  v0 := Try.zeroValue0
  t3 := Try.underlying3
  a3 := Try.isAgg3
  z3 := Try.sizeOf3
  v3 := Try.zeroValue3
  t4 := Try.underlying4
  a4 := Try.isAgg4
  z4 := Try.sizeOf4
  v4 := Try.zeroValue4
  t22 := Try.underlying22
  a22 := Try.isAgg22
  z22 := Try.sizeOf22
  v22 := Try.zeroValue22
  t25 := Try.underlying92
  a25 := Try.isAgg92
  z25 := Try.sizeOf92
  v25 := Try.zeroValue92 }
def Try.cloneL_ren : Go.Shelf.Ren := ⟨fun | 41 => 50 | n => n, fun | 22 => 22 | 23 => 42 | 4 => 4 | n => n, fun | n => n⟩
theorem Try.cloneL : Go.Proofs.SlLaysE0.n41 Try.prog Try.cloneL_ren := {
  mixed := by kernel_rfl
  f41 := ⟨Try.f50.name, by decide, Try.func50.trans (congrArg some (by kernel_rfl))⟩
  t4 := Try.underlying4
  a4 := Try.isAgg4
  z4 := Try.sizeOf4
  v4 := Try.zeroValue4
  t22 := Try.underlying22
  a22 := Try.isAgg22
  z22 := Try.sizeOf22
  v22 := Try.zeroValue22 }
end Go.Proofs

namespace Go.Proofs.Ytdjbnnjcifgnlaa
open Go.RowKit Go.Sort Go.Lib Go.Shelf

variable (k : Nat) (aE : ∀ w, (isAgg 42).run Try.prog w = .ok true w) (zE : ∀ w, (Go.sizeOf 42).run Try.prog w = .ok k w) (enc : Dd → List Value) (lt : Od → Od → Bool) (cf : Dd → Dd → Int) (hcf : ∀ x y, decide (cf x y < 0) = lt x.1 y.1) (hO : SWO lt)
  (g : Nat) (cb : Array Value) (blk off cap : Nat) (d0 : Array Dd) (w0 : World) (eg : ∀ args w, (callFunc g args).run Try.prog w = .ok (.enter g args) w) (R : RowK enc k w0 blk off d0) (hC : CmpLays Try.prog g cb enc k cf blk off d0.size w0)
include aE zE hcf hO eg R hC
theorem ins_c (a b : Nat) (za zb : Int) (d : Array Dd) (w : World) (n : Nat) (ha : za = a) (hb' : zb = b) (hn : n = d.size) (hs : d0.size = d.size) (S : SWK enc k w0 blk off d w) (hab : a ≤ b) (hb : b ≤ d.size) (hsz : d.size < 4611686018427387904) (hi : ∀ p q, a ≤ p → p < q → q < b → (d[p]!).2 < (d[q]!).2) :
    Calls Try.prog 101 #[.slice (some ⟨blk, off, none⟩) n cap, .int .i64 za, .int .i64 zb, .func (.func g) #[] cb] w fun e w' => e = .returned (.tuple #[]) ∧
      ∃ d', SWK enc k w0 blk off d' w' ∧ Merged lt a b d d' := by
  subst ha hb' hn
  have hl : ltOf cf = ltS lt := by funext x y; exact hcf x y
  have M := ins_stable hO d a b hab hb hi
  have hs' : (Sort.insertionSort (ltS lt) d a b).size = d.size := M.1.1
  have hC' : CmpLays Try.prog g cb enc k cf blk off d.size w := fun m os dk hdk x y => by
    obtain ⟨n0, os0, rfl⟩ := S
    rw [sortWorldK_on enc k w0 blk off n0 m d dk os0 os R.hblk hdk]
    exact hC _ _ dk (by omega) x y
  refine (AnyQ.insertionSortCmpFunc (ρ := Try.insL_ren) Try.insL k aE zE enc R.hk R.h1 cf g cb blk off cap a b d w eg hC' (S.holds R.hblk R.hH hs.symm) (S.lt R.hblk) hab hb hsz).mono ?_
  rintro e w' ⟨rfl, n, os, rfl⟩
  rw [hl]
  exact ⟨rfl, _, S.on R.hblk n _ os hs', M⟩

end Go.Proofs.Ytdjbnnjcifgnlaa

namespace Go.Proofs.Ytdjbnnjcifgnlaa
open Go.RowKit Go.Sort Go.Lib Go.Shelf

variable (k : Nat) (aE : ∀ w, (isAgg 42).run Try.prog w = .ok true w) (zE : ∀ w, (Go.sizeOf 42).run Try.prog w = .ok k w) (enc : Dd → List Value) (lt : Od → Od → Bool) (cf : Dd → Dd → Int) (hcf : ∀ x y, decide (cf x y < 0) = lt x.1 y.1) (hO : SWO lt)
  (g : Nat) (cb : Array Value) (blk off cap : Nat) (d0 : Array Dd) (w0 : World) (eg : ∀ args w, (callFunc g args).run Try.prog w = .ok (.enter g args) w) (R : RowK enc k w0 blk off d0) (hC : CmpLays Try.prog g cb enc k cf blk off d0.size w0)
include aE zE hcf hO eg R hC
set_option maxHeartbeats 4000000 in
set_option maxRecDepth 1000000 in
theorem stable_c (d : Array Dd) (w : World) (hs : d0.size = d.size) (S : SWK enc k w0 blk off d w) (hsz : d.size ≤ 160) (hi : ∀ p, p < d.size → (d[p]!).2 = p) :
    Calls Try.prog 84 #[.slice (some ⟨blk, off, none⟩) d.size cap, .int .i64 d.size, .func (.func g) #[] cb] w fun e w' => e = .returned (.tuple #[]) ∧
      ∃ d', SWK enc k w0 blk off d' w' ∧ Merged lt 0 d.size d d' := by
  have mixed : Try.prog.follows .mixedOrders = true := by kernel_rfl
  have S0 : Aside (SWK enc k w0 blk off d w) := S
  have HI := Lib.hid (ins_c k aE zE enc lt cf hcf hO g cb blk off cap d0 w0 eg R hC)
  have HM := Lib.hid (fun N a m b za zm zb d w n => symMerge_c k aE zE enc lt cf hcf hO g cb blk off cap d0 w0 eg R hC N a m b za zm zb d w n)
  have HS := Lib.hid hs
  have H0 := Lib.hid (IInv.start (lt := lt) d d.size hi)
  clear S hC hcf hs aE zE hi
  go_enter Try.func84, Try.ntmps84
  go_wp2
  go_loopg [7, 8] d.size (fun kx s7 s8 wr => ∃ (a : Nat) (dk : Array Dd), s7 = .int .i64 a ∧ s8 = .int .i64 ((a : Int) + 20) ∧ a ≤ d.size ∧ d.size - a ≤ kx ∧ Aside (SWK enc k w0 blk off dk wr) ∧ Hid (IInv lt a d.size d dk))
  case atStart => exact ⟨0, d, rfl, rfl, by omega, by omega, S0, H0⟩
  case round =>
    clear S0 H0
    obtain ⟨a, dk, rfl, rfl, han, hkx, S1, I1⟩ := hrel
    have D1 : Hid (dk.size = d.size) := I1.out.perm.1
    by_cases hlt : a + 20 ≤ d.size
    · have hz : (a : Int) + 20 ≤ (d.size : Int) := by omega
      go_wp2_with (((with_reducible refine (HI.out a (a + 20) _ _ dk _ d.size ?_ ?_ D1.out.symm ?_ ?_ ?_ ?_ ?_ ?_).mono ?_); rfl; omega; (rw [D1.out]; exact HS.out); exact S1.out; omega; (rw [D1.out]; omega); (rw [D1.out]; omega); exact I1.out.up hlt); rintro e w2 ⟨rfl, d2, S2, M2⟩)
      obtain ⟨q1, q2, q3, q4⟩ := I1.out.step M2 (by omega) hlt (by omega) (Nat.le_refl _)
      have al := I1.out.al
      have I2 : Hid (IInv lt (a + 20) d.size d d2) := Lib.hid ⟨q1, q2, q3, q4, by omega⟩
      have S3 : Aside (SWK enc k w0 blk off d2 w2) := S2
      clear q1 q2 q3 q4 al M2 S2 S1 I1
      go_roundg (d.size - (a + 20))
      case measure => omega
      case rel => exact ⟨a + 20, d2, by go_num, by go_num, by omega, by omega, S3, I2⟩
    · have hz : ¬ (a : Int) + 20 ≤ (d.size : Int) := by omega
      go_wp2_with (((with_reducible refine (HI.out a d.size _ _ dk _ d.size rfl rfl D1.out.symm ?_ ?_ ?_ ?_ ?_ ?_).mono ?_); (rw [D1.out]; exact HS.out); exact S1.out; omega; (rw [D1.out]; omega); (rw [D1.out]; omega); exact I1.out.up (Nat.le_refl _)); rintro e w2 ⟨rfl, d2, S2, M2⟩)
      obtain ⟨q1, q2, q3, q4⟩ := I1.out.step M2 (by omega) (Nat.le_refl _) (by omega) (Nat.le_refl _)
      have I2 : Hid (SInv lt 20 d.size d d2) := Lib.hid ⟨.inl rfl, q1, q2, q3⟩
      have S3 : Aside (SWK enc k w0 blk off d2 w2) := S2
      clear q1 q2 q3 q4 M2 S2 S1 I1 D1
      go_loopg [6] 160 (fun kx s6 wr => ∃ (bs : Nat) (dk : Array Dd), s6 = .int .i64 bs ∧ bs ≤ 160 ∧ 0 < bs ∧ 160 - bs ≤ kx ∧ Aside (SWK enc k w0 blk off dk wr) ∧ Hid (SInv lt bs d.size d dk))
      case atStart => exact ⟨20, d2, rfl, by omega, by omega, by omega, S3, I2⟩
      case round =>
        clear S3 I2
        obtain ⟨bs, dk, rfl, hb1, hb0, hkx', S1, I1⟩ := hrel
        by_cases hlt2 : bs < d.size
        · have hz2 : (bs : Int) < (d.size : Int) := by omega
          have HB := Lib.hid (I1.out.less hlt2 hsz)
          have hb80 : bs ≤ 80 := by have := HB.out; omega
          have M0 : Hid (MInv lt bs 0 d.size d dk) := Lib.hid (MInv.start I1.out.perm I1.out.blk I1.out.ix)
          clear I1
          go_wp2
          go_loopg [7, 8] d.size (fun kx s7 s8 wr => ∃ (a : Nat) (dk : Array Dd), s7 = .int .i64 a ∧ s8 = .int .i64 ((a : Int) + 2 * (bs : Int)) ∧ a ≤ d.size ∧ d.size - a ≤ kx ∧ Aside (SWK enc k w0 blk off dk wr) ∧ Hid (MInv lt bs a d.size d dk))
          case atStart => exact ⟨0, dk, rfl, by simp, by omega, by omega, S1, M0⟩
          case round =>
            clear S1 M0
            obtain ⟨a, dk, rfl, rfl, han, hkx, S1, I1⟩ := hrel
            have D1 : Hid (dk.size = d.size) := I1.out.perm.1
            by_cases hlt3 : a + 2 * bs ≤ d.size
            · have hz3 : (a : Int) + 2 * (bs : Int) ≤ (d.size : Int) := by omega
              go_wp2_with (((with_reducible refine (HM.out d.size a (a + bs) (a + 2 * bs) _ _ _ dk _ d.size ?_ rfl ?_ ?_ D1.out.symm ?_ ?_ ?_ ?_ ?_ ?_ ?_).mono ?_); omega; omega; omega; (rw [D1.out]; exact HS.out); exact S1.out; exact I1.out.runs HB.out (by omega) (by omega) hlt3; omega; omega; (rw [D1.out]; exact hlt3); (rw [D1.out]; omega)); rintro e w2 ⟨rfl, d2, S2, M2⟩)
              obtain ⟨q1, q2, q3, q4, q5⟩ := I1.out.step HB.out M2 (by omega) (by omega) hlt3 (Nat.le_refl _)
              have al := I1.out.al
              have I2 : Hid (MInv lt bs (a + 2 * bs) d.size d d2) := Lib.hid ⟨q1, q2, q3, q4, q5, by rw [Nat.add_mod_right]; exact al⟩
              have S3 : Aside (SWK enc k w0 blk off d2 w2) := S2
              clear q1 q2 q3 q4 q5 al M2 S2 S1 I1
              go_roundg (d.size - (a + 2 * bs))
              case measure => omega
              case rel => exact ⟨a + 2 * bs, d2, by go_num, by go_num, by omega, by omega, S3, I2⟩
            · have hz3 : ¬ (a : Int) + 2 * (bs : Int) ≤ (d.size : Int) := by omega
              by_cases hlt4 : a + bs < d.size
              · have hz4 : (a : Int) + (bs : Int) < (d.size : Int) := by omega
                go_wp2_with (((with_reducible refine (HM.out d.size a (a + bs) d.size _ _ _ dk _ d.size ?_ rfl ?_ rfl D1.out.symm ?_ ?_ ?_ ?_ ?_ ?_ ?_).mono ?_); omega; omega; (rw [D1.out]; exact HS.out); exact S1.out; exact I1.out.runs HB.out hlt4 (by omega) (Nat.le_refl _); omega; omega; (rw [D1.out]; omega); (rw [D1.out]; omega)); rintro e w2 ⟨rfl, d2, S2, M2⟩)
                have I2 : Hid (SInv lt (2 * bs) d.size d d2) := Lib.hid (SInv.next HB.out (I1.out.step HB.out M2 (by omega) (by omega) (Nat.le_refl _) (Nat.le_refl _)))
                have S3 : Aside (SWK enc k w0 blk off d2 w2) := S2
                clear M2 S2 S1 I1
                go_roundg (160 - 2 * bs)
                case measure => omega
                case rel => exact ⟨2 * bs, d2, by go_num, by omega, by omega, by omega, S3, I2⟩
              · have hz4 : ¬ (a : Int) + (bs : Int) < (d.size : Int) := by omega
                have I2 : Hid (SInv lt (2 * bs) d.size d dk) := Lib.hid (SInv.next HB.out (I1.out.step HB.out (I1.out.one HB.out (by omega)) (by omega) (by omega) (Nat.le_refl _) (Nat.le_refl _)))
                clear I1
                go_wp2
                go_roundg (160 - 2 * bs)
                case measure => omega
                case rel => exact ⟨2 * bs, dk, by go_num, by omega, by omega, by omega, S1, I2⟩
        · have hz2 : ¬ (bs : Int) < (d.size : Int) := by omega
          have HF : Hid (Merged lt 0 d.size d dk) := Lib.hid ⟨I1.out.perm, blk_all I1.out.blk (by omega)⟩
          go_wp2
          go_end0
          exact ⟨rfl, dk, S1.out, HF.out⟩

set_option maxHeartbeats 4000000 in
set_option maxRecDepth 1000000 in
theorem sortStable_c (d : Array Dd) (w : World) (hs : d0.size = d.size) (S : SWK enc k w0 blk off d w) (hsz : d.size ≤ 160) (hi : ∀ p, p < d.size → (d[p]!).2 = p) :
    Calls Try.prog 51 #[.slice (some ⟨blk, off, none⟩) d.size cap, .func (.func g) #[] cb] w fun e w' => e = .returned (.tuple #[]) ∧
      ∃ d', SWK enc k w0 blk off d' w' ∧ Merged lt 0 d.size d d' := by
  have H := Lib.hid (stable_c k aE zE enc lt cf hcf hO g cb blk off cap d0 w0 eg R hC d w hs S hsz hi)
  clear S hC hcf hs aE zE hi
  go_enter Try.func51, Try.ntmps51
  go_wp2_with (((with_reducible refine (H.out).mono ?_)); rintro e w2 ⟨rfl, d2, S2, M2⟩)
  go_end0
  exact ⟨rfl, d2, S2, M2⟩
end Go.Proofs.Ytdjbnnjcifgnlaa

namespace Go.Proofs.Ytdjbnnjcifgnlaa
open Go.RowKit Go.Sort Go.Lib Go.Shelf

/-- Orders as cells, one behind the other. -/
def ol (L : List Od) : List Value := L.flatMap encO
theorem ol_len (L : List Od) : (ol L).length = L.length * 6 := by
  induction L with
  | nil => rfl
  | cons x l ih => rw [ol, List.flatMap_cons, List.length_append, ← ol, ih, List.length_cons]; show 6 + _ = _; omega
theorem ol_get : ∀ (L : List Od) (i c : Nat), i < L.length → c < 6 → (ol L)[i * 6 + c]? = (encO L[i]!)[c]?
  | [], i, c, hi, _ => by simp at hi
  | x :: l, 0, c, _, hc => by
    rw [ol, List.flatMap_cons, List.getElem?_append_left (by show _ < 6; omega), Nat.zero_mul, Nat.zero_add]; rfl
  | x :: l, i + 1, c, hi, hc => by
    rw [ol, List.flatMap_cons, List.getElem?_append_right (by show 6 ≤ _; omega), ← ol]
    have : (i + 1) * 6 + c - (encO x).length = i * 6 + c := by show _ - 6 = _; omega
    rw [this, ol_get l i c (by simpa using hi) hc]
    rfl
theorem ol_one (L : List Od) : ∀ u ∈ ol L, u.oneCell' = true := by
  intro u hu
  obtain ⟨x, _, hx⟩ := List.mem_flatMap.1 hu
  exact encD_one (x, 0) u hx
theorem at_cell {w : World} {x : Od} {b o c : Nat} {u : Value} (h : x.at w b o) (hc : (encO x)[c]? = some u) : w.cell? ⟨b, o + c, none⟩ = some u := by
  obtain ⟨h0, h1, h2, h3, h4, h5⟩ := h
  match c, hc with
  | 0, hc => rw [← hc]; exact h0
  | 1, hc => rw [← hc]; exact h1
  | 2, hc => rw [← hc]; exact h2
  | 3, hc => rw [← hc]; exact h3
  | 4, hc => rw [← hc]; exact h4
  | 5, hc => rw [← hc]; exact h5
theorem at_of {w : World} {x : Od} {b o : Nat} (h : ∀ c u, (encO x)[c]? = some u → w.cell? ⟨b, o + c, none⟩ = some u) : x.at w b o :=
  ⟨h 0 _ rfl, h 1 _ rfl, h 2 _ rfl, h 3 _ rfl, h 4 _ rfl, h 5 _ rfl⟩
theorem enc_some (x : Od) (c : Nat) (hc : c < 6) : (encO x)[c]? = some (encO x)[c]! := by
  rw [List.getElem?_eq_getElem (by show _ < 6; exact hc), getElem!_pos (encO x) c (by show _ < 6; exact hc)]
theorem ods_cells {w : World} {b off len : Nat} {L : List Od} (hl : L.length = len) (h : ∀ i, i < len → (L[i]!).at w b (off + i * 6)) : ∀ j u, (ol L)[j]? = some u → w.cell? ⟨b, off + j, none⟩ = some u := by
  intro j u hu
  have hj := (List.getElem?_eq_some_iff.1 hu).1
  rw [ol_len] at hj
  have e : j = j / 6 * 6 + j % 6 := by omega
  rw [e, ol_get L (j / 6) (j % 6) (by omega) (by omega)] at hu
  have := at_cell (h (j / 6) (by omega)) hu
  rw [show off + j / 6 * 6 + j % 6 = off + j by omega] at this
  exact this
theorem zip_fst (L : List Od) (i : Nat) (hi : i < L.length) : (L.zipIdx.toArray[i]!) = (L[i]!, i) := by
  rw [getElem!_pos L.zipIdx.toArray i (by simpa using hi), getElem!_pos L i hi]
  simp
/-- A row of the call's own, as the sort sees it. -/
theorem own_holds {w : World} {base n : Nat} {v : Value} {L : List Od} (h : w.ownsRow base 42 6 v n (ol L)) (hv : v ≠ .slice none 0 0) :
    L.length = n ∧ ∃ k cap, v = .slice (some ⟨k, 0, none⟩) n cap ∧ n ≤ cap ∧ base ≤ k ∧ k < w.heap.size ∧ HoldsK encD 6 w k 0 L.zipIdx.toArray := by
  obtain ⟨h1, h2⟩ := h
  rw [ol_len] at h1
  have hl : L.length = n := by omega
  rcases h2 with ⟨h0, _⟩ | ⟨k, cap, cur, hv', hb, hk, hc, hm, hs, ht⟩
  · exact absurd h0 hv
  · refine ⟨hl, k, cap, hv', hc, hb, blk_lt hk, fun j hj => ?_⟩
    rw [size_flatK] at hj
    have hz : L.zipIdx.toArray.size = n := by simp [hl]
    rw [hz] at hj
    refine ⟨?_, frozen_of_row _ _ _ _ _ hk⟩
    rw [get_flatK _ _ _ _ (by rw [hz]; exact hj), zip_fst L (j / 6) (by omega)]
    have hx : (ol L)[j]? = some (encO L[j / 6]!)[j % 6]! := by
      have e : j = j / 6 * 6 + j % 6 := by omega
      conv => lhs; rw [e]
      rw [ol_get L (j / 6) (j % 6) (by omega) (by omega)]
      exact enc_some _ _ (by omega)
    rw [Nat.zero_add, cell_of_row _ _ _ _ _ _ hk]
    rw [← ht, List.getElem?_take, if_pos (by omega), Array.getElem?_toList] at hx
    exact hx
/-- What the sort leaves. -/
theorem sw_gw {w0 w : World} {blk : Nat} {d : Array Dd} {B : Nat} (S : SW6 w0 blk d w) (hB : B ≤ blk) (hs : B ≤ w0.heap.size) : Below B w0 w ∧ w0.drawn ≤ w.drawn := by
  obtain ⟨n, os, rfl⟩ := S
  refine ⟨⟨rfl, rfl, rfl, ?_, fun j hj => ?_⟩, Nat.le_add_right _ _⟩
  · unfold sortWorldK; rw [size_grow, size_putRowK]; exact Nat.le_add_right _ _
  · unfold sortWorldK
    rw [heap_grow_old _ _ (by rw [size_putRowK]; show j < w0.heap.size; omega)]
    unfold putRowK putRow mapBlock
    show (w0.heap.modify blk _)[j]? = _
    rw [Array.getElem?_modify, if_neg (by omega)]
theorem ods_of_sort {w0 w : World} {blk n : Nat} {d0 d : Array Dd} {L : List Od} (S : SW6 w0 blk d w) (R : Rw6 w0 blk d0) (hs : d.size = d0.size) (hn : d.size = n) (h9 : n ≤ 9223372036854775807) (hL : d.toList.map Prod.fst = L) (hok : ∀ x ∈ L, Od.ok w x) : Ods w (some ⟨blk, 0, none⟩) n L := by
  have hl : L.length = n := by rw [← hL]; simp [hn]
  refine ⟨hl, h9, hok, .inr ⟨blk, 0, rfl, S.lt R.hblk, fun i hi => at_of fun c u hu => ?_⟩⟩
  have h := HoldsK.cells (S.holds R.hblk R.hH hs) R.hk (show i < d.size by omega) c u (by
    have e : L[i]! = (d[i]!).1 := by
      rw [getElem!_pos L i (by omega), getElem!_pos d i (by omega)]
      simp [← hL]
    rw [← hu, e]; rfl)
  rw [addr_add] at h
  exact h
theorem info_od : (Try.prog.info? 42).map (fun i => (i.zero, i.size, i.bytes)) = some (some (.agg #[.int .u64 0, .int .i64 0, .int .i64 0, .int .i64 0, .int .i64 0, .int .u64 0]), 6, 48) := by kernel_rfl
/-- slices.Clone at orders. -/
theorem clone_c (b off n c : Nat) (L : List Od) (w : World) (hl : L.length = n) (hn : n ≤ 1000) (hc : ∀ i, i < n → (L[i]!).at w b (off + i * 6)) :
    Calls Try.prog 50 #[.slice (some ⟨b, off, none⟩) n c] w fun e w' => ∃ v', e = .returned v' ∧ w'.ownsRow w.heap.size 42 6 v' n (ol L) ∧ v' ≠ .slice none 0 0 ∧ Below w.heap.size w w' := by
  cases hi : Try.prog.info? 42 with
  | none => have := info_od; rw [hi] at this; cases this
  | some i0 =>
    have := info_od
    rw [hi] at this
    simp only [Option.map_some, Option.some.injEq, Prod.mk.injEq] at this
    obtain ⟨h1, h2, h3⟩ := this
    exact AnyE.slices_Clone (ρ := Try.cloneL_ren) Try.cloneL i0 _ 6 48 hi h1 h2 h3 rfl (by omega) Try.sizeOf42 b off n c (ol L) w (by rw [ol_len, hl]) (by unfold maxLen; omega) (by omega) (ods_cells hl hc) (ol_one L)
theorem clone_nil (n c : Nat) (w : World) : Calls Try.prog 50 #[.slice none n c] w fun e w' => e = .returned (.slice none 0 0) ∧ w' = w :=
  AnyE.slices_Clone_nil (ρ := Try.cloneL_ren) Try.cloneL n c w

set_option maxHeartbeats 4000000 in
set_option maxRecDepth 100000 in
/-- slices.Clone at an empty slice, wherever it points. -/
theorem clone0_c (a : Addr) (c : Nat) (w : World) :
    Calls Try.prog 50 #[.slice (some a) 0 c] w fun e w' => ∃ v', e = .returned v' ∧ w'.ownsRow w.heap.size 42 6 v' 0 [] ∧ v' ≠ .slice none 0 0 ∧ Below w.heap.size w w' := by
  have mixed : Try.prog.follows .mixedOrders = true := by kernel_rfl
  have q22 : ∀ (w : World) (a : Option Addr) (n c n' c' : Nat), (binOp .eql 22 (.slice a n c) (.slice none n' c')).run Try.prog w = .ok (.bool a.isNone) w := fun w a n c n' c' => Lib.run_eql_slice_nil w _ _ a n c n' c' Try.underlying22
  cases hi : Try.prog.info? 42 with
  | none => have := info_od; rw [hi] at this; cases this
  | some i0 =>
    have := info_od
    rw [hi] at this
    simp only [Option.map_some, Option.some.injEq, Prod.mk.injEq] at this
    obtain ⟨h1, h2, h3⟩ := this
    have HI : Hid (Try.prog.info? 42 = some i0 ∧ i0.zero = some (.agg #[.int .u64 0, .int .i64 0, .int .i64 0, .int .i64 0, .int .i64 0, .int .u64 0]) ∧ i0.size = 6 ∧ i0.bytes = 48) := ⟨hi, h1, h2, h3⟩
    clear hi h1 h2 h3
    go_enter Try.func50, Try.ntmps50
    go_wp2_with (at_builtin; refine wpList_append_own _ rfl _ _ 22 rfl w.heap.size 42 i0 (.agg #[.int .u64 0, .int .i64 0, .int .i64 0, .int .i64 0, .int .i64 0, .int .u64 0]) 6 48 Try.underlying22 HI.out.1 HI.out.2.1 HI.out.2.2.1 HI.out.2.2.2 rfl (by omega) _ _ _ rfl (World.ownsRow_made w #[] 0 (Nat.le_refl _) (Nat.zero_le _) (by simp)) a 0 c [] rfl ?qc1 ?qc2 ?qc3 ?qc4 ?qc5 ?qc6 ?_)
    case qc1 => rfl
    case qc2 => intro j u hj; simp at hj
    case qc3 => intro u hu; simp at hu
    case qc4 => unfold maxLen; omega
    case qc5 => omega
    case qc6 => simp
    intro v' w1 hown hgrow hnil
    go_wp2
    go_ret
    refine ⟨v', rfl, by simpa using hown, ?_, ?_⟩
    · exact hnil
    · exact ((Below.refl _ w).alloc (Nat.le_refl _) _).grown hgrow (by simp) (by intro k hk; simp [Value.ownBlock] at hk; omega)
theorem eg_c : ∀ args w, (callFunc 52 args).run Try.prog w = .ok (.enter 52 args) w := enters_of Try.func52 (by kernel_rfl) rfl
theorem lays_c (blk size : Nat) (w : World) : CmpLays Try.prog 52 #[] encD 6 (fun x y => cmpO x.1 y.1) blk 0 size w := fun _ _ _ _ x y =>
  (closure_c x.1 y.1 _).mono fun _ _ ⟨h1, h2⟩ => ⟨h1, h2.grow⟩
set_option maxHeartbeats 4000000 in
set_option maxRecDepth 100000 in
theorem insNil_c (c : Nat) (f : Value) (w : World) : Calls Try.prog 101 #[.slice none 0 c, .int .i64 0, .int .i64 0, f] w fun e w' => e = .returned (.tuple #[]) ∧ w = w' := by
  go_enter Try.func101, Try.ntmps101
  go_wp2
  go_loop [8] (fun s => s = .int .i64 1) (fun _ => 0)
  case atStart => rfl
  case round =>
    subst hrel
    go_wp2
    go_end0
    exact ⟨rfl, rfl⟩
set_option maxHeartbeats 4000000 in
set_option maxRecDepth 100000 in
theorem stableNil_c (c : Nat) (f : Value) (w : World) : Calls Try.prog 84 #[.slice none 0 c, .int .i64 0, f] w fun e w' => e = .returned (.tuple #[]) ∧ w = w' := by
  have HI := Lib.hid (insNil_c c f)
  go_enter Try.func84, Try.ntmps84
  go_wp2
  go_loop [7, 8] (fun s t => s = .int .i64 0 ∧ t = .int .i64 20) (fun _ _ => 0)
  case atStart => exact ⟨rfl, rfl⟩
  case round =>
    obtain ⟨rfl, rfl⟩ := hrel
    go_wp2_with ((with_reducible refine (HI.out _).mono ?_); rintro e w' ⟨rfl, rfl⟩)
    go_loop [6] (fun s => s = .int .i64 20) (fun _ => 0)
    case atStart => rfl
    case round =>
      subst hrel
      go_wp2
      go_end0
      exact ⟨rfl, rfl⟩
set_option maxHeartbeats 4000000 in
set_option maxRecDepth 100000 in
theorem sortNil_c (c : Nat) (f : Value) (w : World) : Calls Try.prog 51 #[.slice none 0 c, f] w fun e w' => e = .returned (.tuple #[]) ∧ w = w' := by
  have HI := Lib.hid (stableNil_c c f)
  go_enter Try.func51, Try.ntmps51
  go_wp2_with ((with_reducible refine (HI.out _).mono ?_); rintro e w' ⟨rfl, rfl⟩)
  go_end0
  exact ⟨rfl, rfl⟩
/-- What order.Sorted tells. -/
def SortedIs (w : World) (L : List Od) (n : Nat) (e : Ending) (w' : World) : Prop := ∃ A c, e = .returned (.slice A n c) ∧ n ≤ c ∧ Ods w' A n (sortO L) ∧ Below w.heap.size w w'
set_option maxHeartbeats 4000000 in
set_option maxRecDepth 100000 in
theorem sortedNil_c (c : Nat) (w : World) : Calls Try.prog 34 #[.slice none 0 c] w (SortedIs w [] 0) := by
  have HC := Lib.hid (clone_nil 0 c)
  have HS := Lib.hid sortNil_c
  have HF : Hid (0 ≤ 0 ∧ Ods w none 0 (sortO []) ∧ Below w.heap.size w w) := ⟨Nat.le_refl _, ⟨sortO_len [], by omega, (by rw [List.eq_nil_of_length_eq_zero (sortO_len [])]; intro x hx; cases hx), .inl rfl⟩, Below.refl _ _⟩
  go_enter Try.func34, Try.ntmps34
  go_wp2_with (first | ((with_reducible refine (HC.out _).mono ?_); rintro e w' ⟨rfl, rfl⟩) | ((with_reducible refine (HS.out _ _ _).mono ?_); rintro e w' ⟨rfl, rfl⟩))
  go_ret
  exact ⟨_, _, rfl, HF.out⟩
end Go.Proofs.Ytdjbnnjcifgnlaa

namespace Go.Proofs.Ytdjbnnjcifgnlaa
open Go.RowKit Go.Sort Go.Lib Go.Shelf

theorem sortD_c (blk cap n : Nat) (L : List Od) (w : World) (hn : L.length = n) (h1 : n ≤ 160) (hb : blk < w.heap.size) (H : HoldsK encD 6 w blk 0 L.zipIdx.toArray) (hok : ∀ x ∈ L, Od.ok w x) :
    Calls Try.prog 51 #[.slice (some ⟨blk, 0, none⟩) n cap, .func (.func 52) #[] #[]] w fun e w' => e = .returned (.tuple #[]) ∧ Ods w' (some ⟨blk, 0, none⟩) n (sortO L) ∧ Below blk w w' := by
  have hz : L.zipIdx.toArray.size = n := by simp [hn]
  have R : Rw6 w blk L.zipIdx.toArray := ⟨encD_len, encD_one, H, hb⟩
  have := sortStable_c 6 Try.isAgg42 Try.sizeOf42 encD ltO (fun x y => cmpO x.1 y.1) (fun x y => cmpO_lt x.1 y.1) swo_ltO 52 #[] blk 0 cap L.zipIdx.toArray w eg_c R (lays_c blk _ w) L.zipIdx.toArray w rfl (SWK.start H) (by omega) (fun p hp => by rw [zip_fst L p (by omega)])
  rw [hz] at this
  refine this.mono ?_
  rintro e w' ⟨rfl, d', S, M⟩
  rw [← hz] at M
  have hs : d'.size = L.zipIdx.toArray.size := M.1.1
  have hso := sortO_merged (L := L) rfl M
  have hmem : ∀ x ∈ sortO L, x ∈ L := fun x hx => by
    unfold sortO at hx
    obtain ⟨y, hy, rfl⟩ := List.mem_map.1 hx
    have := (List.mergeSort_perm _ _).mem_iff.1 hy
    have := (List.mem_zipIdx' this).2
    rw [this]; exact List.getElem_mem _
  exact ⟨rfl, ods_of_sort S R hs (by rw [hs, hz]) (by omega) hso (fun x hx => hok x (hmem x hx)), (sw_gw S (Nat.le_refl _) (by omega)).1⟩

set_option maxHeartbeats 4000000 in
set_option maxRecDepth 100000 in
theorem sortedOwn_c (a : Addr) (n c : Nat) (L : List Od) (w : World) (hl : L.length = n) (hn : n ≤ 160) (hok : ∀ x ∈ L, Od.ok w x)
    (hcl : Calls Try.prog 50 #[.slice (some a) n c] w fun e w' => ∃ v', e = .returned v' ∧ w'.ownsRow w.heap.size 42 6 v' n (ol L) ∧ v' ≠ .slice none 0 0 ∧ Below w.heap.size w w') :
    Calls Try.prog 34 #[.slice (some a) n c] w (SortedIs w L n) := by
  have HC := Lib.hid hcl
  have HS := Lib.hid (fun blk cap W hb H hk => sortD_c blk cap n L W hl hn hb H hk)
  have HOK := Lib.hid hok
  clear hl hn hok hcl
  go_enter Try.func34, Try.ntmps34
  go_wp2_with fail
  refine HC.out.mono ?_
  rintro e w1 ⟨v', rfl, hown, hne, b1⟩
  obtain ⟨_, k, cap, rfl, hcap, hk1, hk2, hH⟩ := own_holds hown hne
  have HH : Aside (HoldsK encD 6 w1 k 0 L.zipIdx.toArray) := hH
  have B1 := Lib.hid b1
  clear hown hne hH b1
  go_wp2_with fail
  refine (HS.out k cap w1 hk2 HH.out HOK.out).mono ?_
  rintro e w2 ⟨rfl, O2, b2⟩
  have HF : Hid (n ≤ cap ∧ Ods w2 (some ⟨k, 0, none⟩) n (sortO L) ∧ Below w.heap.size w w2) := ⟨hcap, O2, B1.out.trans (b2.mono hk1)⟩
  clear O2 b2 B1 HH hcap
  go_wp2_with fail
  go_ret
  exact ⟨_, _, rfl, HF.out⟩
/-- order.Sorted, at any orders. -/
theorem sorted_c (A : Option Addr) (n c : Nat) (L : List Od) (w : World) (H : Ods w A n L) (hn : n ≤ 160) : Calls Try.prog 34 #[.slice A n c] w (SortedIs w L n) := by
  obtain ⟨hl, h9, hok, h⟩ := H
  match A, h with
  | none, h =>
    have h0 : n = 0 := by
      rcases h with h | ⟨_, _, h, _⟩
      · exact h
      · cases h
    subst h0
    have : L = [] := List.eq_nil_of_length_eq_zero hl
    subst this
    exact sortedNil_c c w
  | some ⟨b, off, sp⟩, h =>
    rcases h with h | ⟨b', off', h, hb, hc⟩
    · subst h
      have : L = [] := List.eq_nil_of_length_eq_zero hl
      subst this
      exact sortedOwn_c _ 0 c [] w rfl hn hok (clone0_c _ c w)
    · cases h
      exact sortedOwn_c _ n c L w hl hn hok (clone_c b off n c L w hl (by omega) hc)
end Go.Proofs.Ytdjbnnjcifgnlaa

namespace Go.Proofs.Ytdjbnnjcifgnlaa
open Go.RowKit

/-- Good orders. -/
def goodO (x : Od) : Bool := decide (0 ≤ x.acc) && (decide (x.acc < 8) && ((rkN x.side != 2) && (decide (1 ≤ x.price) && (decide (x.price ≤ 1099511627776) && (decide (1 ≤ x.qty) && decide (x.qty ≤ 1099511627776))))))
set_option maxHeartbeats 4000000 in
set_option maxRecDepth 100000 in
theorem good_w0 (x : Od) (w : World) (h0 : ¬ (0 ≤ x.acc)) : Calls Try.prog 30 #[.agg #[.int .u64 x.id, .int .i64 x.acc, .int .i64 x.side, .int .i64 x.price, .int .i64 x.qty, .int .u64 x.seq]] w fun e w' => e = .returned (.bool false) ∧ Gw w w' := by
  have HK := Lib.hid rank_c
  have g : decide (0 ≤ x.acc) = false := decide_eq_false h0
  go_enter Try.func30, Try.ntmps30
  go_wp2_with ((with_reducible refine (HK.out _ _).mono ?_); rintro e w' ⟨rfl, rfl⟩)
  go_ret
  exact ⟨rfl, (Gw.refl w).alloc _⟩
set_option maxHeartbeats 4000000 in
set_option maxRecDepth 100000 in
theorem good_w1 (x : Od) (w : World) (h0 : (0 ≤ x.acc)) (h1 : ¬ (x.acc < 8)) : Calls Try.prog 30 #[.agg #[.int .u64 x.id, .int .i64 x.acc, .int .i64 x.side, .int .i64 x.price, .int .i64 x.qty, .int .u64 x.seq]] w fun e w' => e = .returned (.bool false) ∧ Gw w w' := by
  have HK := Lib.hid rank_c
  have g : decide (x.acc < 8) = false := decide_eq_false h1
  go_enter Try.func30, Try.ntmps30
  go_wp2_with ((with_reducible refine (HK.out _ _).mono ?_); rintro e w' ⟨rfl, rfl⟩)
  go_ret
  exact ⟨rfl, (Gw.refl w).alloc _⟩
set_option maxHeartbeats 4000000 in
set_option maxRecDepth 100000 in
theorem good_w2 (x : Od) (w : World) (h0 : (0 ≤ x.acc)) (h1 : (x.acc < 8)) (h2 : (rkN x.side != 2) = false) : Calls Try.prog 30 #[.agg #[.int .u64 x.id, .int .i64 x.acc, .int .i64 x.side, .int .i64 x.price, .int .i64 x.qty, .int .u64 x.seq]] w fun e w' => e = .returned (.bool false) ∧ Gw w w' := by
  have HK := Lib.hid rank_c
  go_enter Try.func30, Try.ntmps30
  go_wp2_with ((with_reducible refine (HK.out _ _).mono ?_); rintro e w' ⟨rfl, rfl⟩)
  go_ret
  exact ⟨rfl, (Gw.refl w).alloc _⟩
set_option maxHeartbeats 4000000 in
set_option maxRecDepth 100000 in
theorem good_w3 (x : Od) (w : World) (h0 : (0 ≤ x.acc)) (h1 : (x.acc < 8)) (h2 : (rkN x.side != 2) = true) (h3 : ¬ (1 ≤ x.price)) : Calls Try.prog 30 #[.agg #[.int .u64 x.id, .int .i64 x.acc, .int .i64 x.side, .int .i64 x.price, .int .i64 x.qty, .int .u64 x.seq]] w fun e w' => e = .returned (.bool false) ∧ Gw w w' := by
  have HK := Lib.hid rank_c
  have g : decide (1 ≤ x.price) = false := decide_eq_false h3
  go_enter Try.func30, Try.ntmps30
  go_wp2_with ((with_reducible refine (HK.out _ _).mono ?_); rintro e w' ⟨rfl, rfl⟩)
  go_ret
  exact ⟨rfl, (Gw.refl w).alloc _⟩
set_option maxHeartbeats 4000000 in
set_option maxRecDepth 100000 in
theorem good_w4 (x : Od) (w : World) (h0 : (0 ≤ x.acc)) (h1 : (x.acc < 8)) (h2 : (rkN x.side != 2) = true) (h3 : (1 ≤ x.price)) (h4 : ¬ (x.price ≤ 1099511627776)) : Calls Try.prog 30 #[.agg #[.int .u64 x.id, .int .i64 x.acc, .int .i64 x.side, .int .i64 x.price, .int .i64 x.qty, .int .u64 x.seq]] w fun e w' => e = .returned (.bool false) ∧ Gw w w' := by
  have HK := Lib.hid rank_c
  have g : decide (x.price ≤ 1099511627776) = false := decide_eq_false h4
  go_enter Try.func30, Try.ntmps30
  go_wp2_with ((with_reducible refine (HK.out _ _).mono ?_); rintro e w' ⟨rfl, rfl⟩)
  go_ret
  exact ⟨rfl, (Gw.refl w).alloc _⟩
set_option maxHeartbeats 4000000 in
set_option maxRecDepth 100000 in
theorem good_w5 (x : Od) (w : World) (h0 : (0 ≤ x.acc)) (h1 : (x.acc < 8)) (h2 : (rkN x.side != 2) = true) (h3 : (1 ≤ x.price)) (h4 : (x.price ≤ 1099511627776)) (h5 : ¬ (1 ≤ x.qty)) : Calls Try.prog 30 #[.agg #[.int .u64 x.id, .int .i64 x.acc, .int .i64 x.side, .int .i64 x.price, .int .i64 x.qty, .int .u64 x.seq]] w fun e w' => e = .returned (.bool false) ∧ Gw w w' := by
  have HK := Lib.hid rank_c
  have g : decide (1 ≤ x.qty) = false := decide_eq_false h5
  go_enter Try.func30, Try.ntmps30
  go_wp2_with ((with_reducible refine (HK.out _ _).mono ?_); rintro e w' ⟨rfl, rfl⟩)
  go_ret
  exact ⟨rfl, (Gw.refl w).alloc _⟩
set_option maxHeartbeats 4000000 in
set_option maxRecDepth 100000 in
theorem good_w6 (x : Od) (w : World) (h0 : (0 ≤ x.acc)) (h1 : (x.acc < 8)) (h2 : (rkN x.side != 2) = true) (h3 : (1 ≤ x.price)) (h4 : (x.price ≤ 1099511627776)) (h5 : (1 ≤ x.qty)) (h6 : ¬ (x.qty ≤ 1099511627776)) : Calls Try.prog 30 #[.agg #[.int .u64 x.id, .int .i64 x.acc, .int .i64 x.side, .int .i64 x.price, .int .i64 x.qty, .int .u64 x.seq]] w fun e w' => e = .returned (.bool false) ∧ Gw w w' := by
  have HK := Lib.hid rank_c
  have g : decide (x.qty ≤ 1099511627776) = false := decide_eq_false h6
  go_enter Try.func30, Try.ntmps30
  go_wp2_with ((with_reducible refine (HK.out _ _).mono ?_); rintro e w' ⟨rfl, rfl⟩)
  go_ret
  exact ⟨rfl, (Gw.refl w).alloc _⟩
set_option maxHeartbeats 4000000 in
set_option maxRecDepth 100000 in
theorem good_w7 (x : Od) (w : World) (h0 : (0 ≤ x.acc)) (h1 : (x.acc < 8)) (h2 : (rkN x.side != 2) = true) (h3 : (1 ≤ x.price)) (h4 : (x.price ≤ 1099511627776)) (h5 : (1 ≤ x.qty)) (h6 : (x.qty ≤ 1099511627776)) : Calls Try.prog 30 #[.agg #[.int .u64 x.id, .int .i64 x.acc, .int .i64 x.side, .int .i64 x.price, .int .i64 x.qty, .int .u64 x.seq]] w fun e w' => e = .returned (.bool true) ∧ Gw w w' := by
  have HK := Lib.hid rank_c
  go_enter Try.func30, Try.ntmps30
  go_wp2_with ((with_reducible refine (HK.out _ _).mono ?_); rintro e w' ⟨rfl, rfl⟩)
  go_ret
  exact ⟨rfl, (Gw.refl w).alloc _⟩
theorem good_c (x : Od) (w : World) : Calls Try.prog 30 #[x.val] w fun e w' => e = .returned (.bool (goodO x)) ∧ Gw w w' := by
  unfold goodO
  by_cases h0 : 0 ≤ x.acc
  rotate_left
  · rw [decide_eq_false h0]; simp only [Bool.false_and]; exact good_w0 x w h0
  rw [decide_eq_true h0]
  rw [Bool.true_and]
  by_cases h1 : x.acc < 8
  rotate_left
  · rw [decide_eq_false h1]; simp only [Bool.false_and]; exact good_w1 x w h0 h1
  rw [decide_eq_true h1]
  rw [Bool.true_and]
  cases h2 : (rkN x.side != 2) with
  | false => simp only [Bool.false_and]; exact good_w2 x w h0 h1 h2
  | true =>
    rw [Bool.true_and]
    by_cases h3 : 1 ≤ x.price
    rotate_left
    · rw [decide_eq_false h3]; simp only [Bool.false_and]; exact good_w3 x w h0 h1 h2 h3
    rw [decide_eq_true h3]
    rw [Bool.true_and]
    by_cases h4 : x.price ≤ 1099511627776
    rotate_left
    · rw [decide_eq_false h4]; simp only [Bool.false_and]; exact good_w4 x w h0 h1 h2 h3 h4
    rw [decide_eq_true h4]
    rw [Bool.true_and]
    by_cases h5 : 1 ≤ x.qty
    rotate_left
    · rw [decide_eq_false h5]; simp only [Bool.false_and]; exact good_w5 x w h0 h1 h2 h3 h4 h5
    rw [decide_eq_true h5]
    rw [Bool.true_and]
    by_cases h6 : x.qty ≤ 1099511627776
    rotate_left
    · rw [decide_eq_false h6]; exact good_w6 x w h0 h1 h2 h3 h4 h5 h6
    rw [decide_eq_true h6]
    exact good_w7 x w h0 h1 h2 h3 h4 h5 h6

theorem eqf {P : Program} (w : World) (d : Nat) (xs ys : Array Value) (fs : List Field) (hn : ∀ f ∈ fs, f.name ≠ "_") (E : Field → Bool)
    (h : ∀ f ∈ fs, ∃ a b, (part f.type xs f.offset).run P w = .ok a w ∧ (part f.type ys f.offset).run P w = .ok b w ∧ (Op.equalIn d f.type a b).run P w = .ok (E f) w) :
    (Op.eqFields d xs ys fs).run P w = .ok (fs.all E) w := by
  induction fs with
  | nil => simp [Op.eqFields]
  | cons f fs ih =>
    obtain ⟨a, b, h1, h2, h3⟩ := h f List.mem_cons_self
    have ih' := ih (fun g hg => hn g (List.mem_cons_of_mem _ hg)) (fun g hg => h g (List.mem_cons_of_mem _ hg))
    simp only [Op.eqFields]
    rw [if_pos (hn f List.mem_cons_self)]
    simp only [Sem.run_bind, h1, h2, h3, Result.andThen_ok, Sem.run_ite, List.all_cons]
    cases hE : E f
    · simp
    · simpa using ih'
def fld (x : Od) : Nat → Int
  | 0 => x.id | 1 => x.acc | 2 => x.side | 3 => x.price | 4 => x.qty | _ => x.seq
def eqO (x y : Od) : Bool := [0, 1, 2, 3, 4, 5].all fun i => fld x i == fld y i
theorem eqO_iff (x y : Od) : eqO x y = true ↔ x = y := by
  unfold eqO
  simp only [List.all_cons, List.all_nil, Bool.and_true, Bool.and_eq_true, beq_iff_eq, fld]
  constructor
  · rintro ⟨h0, h1, h2, h3, h4, h5⟩
    cases x; cases y; simp only at *; subst h0 h1 h2 h3 h4 h5; rfl
  · rintro rfl; simp
abbrev OC (x : Od) : Array Value := #[.int .u64 x.id, .int .i64 x.acc, .int .i64 x.side, .int .i64 x.price, .int .i64 x.qty, .int .u64 x.seq]
theorem ptP0 (x : Od) (w : World) : (part 39 (OC x) 0).run Try.prog w = .ok (.int .u64 (fld x 0)) w := by kernel_rfl
theorem ptP1 (x : Od) (w : World) : (part 3 (OC x) 1).run Try.prog w = .ok (.int .i64 (fld x 1)) w := by kernel_rfl
theorem ptP2 (x : Od) (w : World) : (part 3 (OC x) 2).run Try.prog w = .ok (.int .i64 (fld x 2)) w := by kernel_rfl
theorem ptP3 (x : Od) (w : World) : (part 2 (OC x) 3).run Try.prog w = .ok (.int .i64 (fld x 3)) w := by kernel_rfl
theorem ptP4 (x : Od) (w : World) : (part 2 (OC x) 4).run Try.prog w = .ok (.int .i64 (fld x 4)) w := by kernel_rfl
theorem ptP5 (x : Od) (w : World) : (part 39 (OC x) 5).run Try.prog w = .ok (.int .u64 (fld x 5)) w := by kernel_rfl
theorem eq_ordP (x y : Od) (w : World) : (Op.equalIn 10000 42 (.agg (OC x)) (.agg (OC y))).run Try.prog w = .ok (eqO x y) w := by
  rw [run_equalIn_agg w 9999 42 _ _ (by unfold Program.fieldsOf; rw [Try.underlying42]) (by kernel_rfl)]
  have h1 : ∀ (a b : Int) (w : World), (Op.equalIn 9999 39 (.int .u64 a) (.int .u64 b)).run Try.prog w = .ok (a == b) w := fun a b w => run_equalIn_int w 9998 _ _ _ a b Try.underlying39
  have h2 : ∀ (a b : Int) (w : World), (Op.equalIn 9999 2 (.int .i64 a) (.int .i64 b)).run Try.prog w = .ok (a == b) w := fun a b w => run_equalIn_int w 9998 _ _ _ a b Try.underlying2
  have h3 : ∀ (a b : Int) (w : World), (Op.equalIn 9999 3 (.int .i64 a) (.int .i64 b)).run Try.prog w = .ok (a == b) w := fun a b w => run_equalIn_int w 9998 _ _ _ a b Try.underlying3
  unfold Program.fieldsOf
  rw [Try.underlying42]
  refine (eqf w 9999 _ _ _ ?_ (fun f => fld x f.offset == fld y f.offset) ?_).trans rfl
  · intro f hf
    simp only [List.mem_cons, List.not_mem_nil, or_false] at hf
    rcases hf with rfl | rfl | rfl | rfl | rfl | rfl <;> decide
  · intro f hf
    simp only [List.mem_cons, List.not_mem_nil, or_false] at hf
    rcases hf with rfl | rfl | rfl | rfl | rfl | rfl
    · exact ⟨_, _, ptP0 x w, ptP0 y w, h1 _ _ _⟩
    · exact ⟨_, _, ptP1 x w, ptP1 y w, h3 _ _ _⟩
    · exact ⟨_, _, ptP2 x w, ptP2 y w, h3 _ _ _⟩
    · exact ⟨_, _, ptP3 x w, ptP3 y w, h2 _ _ _⟩
    · exact ⟨_, _, ptP4 x w, ptP4 y w, h2 _ _ _⟩
    · exact ⟨_, _, ptP5 x w, ptP5 y w, h1 _ _ _⟩
theorem neqP (x y : Od) (w : World) : (binOp .neq 42 (.agg (OC x)) (.agg (OC y))).run Try.prog w = .ok (.bool (!eqO x y)) w := by
  rw [run_neq_struct, eq_ordP]; rfl
theorem ptR0 (x : Od) (w : World) : (part 39 (OC x) 0).run Try.prog w = .ok (.int .u64 (fld x 0)) w := by kernel_rfl
theorem ptR1 (x : Od) (w : World) : (part 3 (OC x) 1).run Try.prog w = .ok (.int .i64 (fld x 1)) w := by kernel_rfl
theorem ptR2 (x : Od) (w : World) : (part 3 (OC x) 2).run Try.prog w = .ok (.int .i64 (fld x 2)) w := by kernel_rfl
theorem ptR3 (x : Od) (w : World) : (part 2 (OC x) 3).run Try.prog w = .ok (.int .i64 (fld x 3)) w := by kernel_rfl
theorem ptR4 (x : Od) (w : World) : (part 2 (OC x) 4).run Try.prog w = .ok (.int .i64 (fld x 4)) w := by kernel_rfl
theorem ptR5 (x : Od) (w : World) : (part 39 (OC x) 5).run Try.prog w = .ok (.int .u64 (fld x 5)) w := by kernel_rfl
theorem eq_ordR (x y : Od) (w : World) : (Op.equalIn 10000 41 (.agg (OC x)) (.agg (OC y))).run Try.prog w = .ok (eqO x y) w := by
  rw [run_equalIn_agg w 9999 41 _ _ (by unfold Program.fieldsOf; rw [Try.underlying41]) (by kernel_rfl)]
  have h1 : ∀ (a b : Int) (w : World), (Op.equalIn 9999 39 (.int .u64 a) (.int .u64 b)).run Try.prog w = .ok (a == b) w := fun a b w => run_equalIn_int w 9998 _ _ _ a b Try.underlying39
  have h2 : ∀ (a b : Int) (w : World), (Op.equalIn 9999 2 (.int .i64 a) (.int .i64 b)).run Try.prog w = .ok (a == b) w := fun a b w => run_equalIn_int w 9998 _ _ _ a b Try.underlying2
  have h3 : ∀ (a b : Int) (w : World), (Op.equalIn 9999 3 (.int .i64 a) (.int .i64 b)).run Try.prog w = .ok (a == b) w := fun a b w => run_equalIn_int w 9998 _ _ _ a b Try.underlying3
  unfold Program.fieldsOf
  rw [Try.underlying41]
  refine (eqf w 9999 _ _ _ ?_ (fun f => fld x f.offset == fld y f.offset) ?_).trans rfl
  · intro f hf
    simp only [List.mem_cons, List.not_mem_nil, or_false] at hf
    rcases hf with rfl | rfl | rfl | rfl | rfl | rfl <;> decide
  · intro f hf
    simp only [List.mem_cons, List.not_mem_nil, or_false] at hf
    rcases hf with rfl | rfl | rfl | rfl | rfl | rfl
    · exact ⟨_, _, ptR0 x w, ptR0 y w, h1 _ _ _⟩
    · exact ⟨_, _, ptR1 x w, ptR1 y w, h3 _ _ _⟩
    · exact ⟨_, _, ptR2 x w, ptR2 y w, h3 _ _ _⟩
    · exact ⟨_, _, ptR3 x w, ptR3 y w, h2 _ _ _⟩
    · exact ⟨_, _, ptR4 x w, ptR4 y w, h2 _ _ _⟩
    · exact ⟨_, _, ptR5 x w, ptR5 y w, h1 _ _ _⟩
theorem neqR (x y : Od) (w : World) : (binOp .neq 41 (.agg (OC x)) (.agg (OC y))).run Try.prog w = .ok (.bool (!eqO x y)) w := by
  rw [run_neq_struct, eq_ordR]; rfl
end Go.Proofs.Ytdjbnnjcifgnlaa

namespace Go.Proofs.Ytdjbnnjcifgnlaa
open Go.RowKit Go.Sort Go.Lib Go.Shelf

def eqL : List Od → List Od → Bool
  | [], [] => true
  | x :: l, y :: m => eqO x y && eqL l m
  | _, _ => false
theorem eqL_iff : ∀ (l m : List Od), eqL l m = true ↔ l = m
  | [], [] => by simp [eqL]
  | x :: l, y :: m => by simp [eqL, eqO_iff, eqL_iff l m]
  | [], y :: m => by simp [eqL]
  | x :: l, [] => by simp [eqL]
theorem eqL_no {l m : List Od} {i : Nat} (_hi : i < l.length) (_hl : l.length = m.length) (h : eqO l[i]! m[i]! = false) : eqL l m = false := by
  cases e : eqL l m with
  | false => rfl
  | true =>
    rw [eqL_iff] at e
    subst e
    have := (eqO_iff l[i]! l[i]!).2 rfl
    rw [h] at this; cases this
theorem eqL_yes {l m : List Od} (hl : l.length = m.length) (h : ∀ i, i < l.length → l[i]! = m[i]!) : eqL l m = true := by
  rw [eqL_iff]
  apply List.ext_getElem hl
  intro i h1 h2
  have := h i h1
  rwa [getElem!_pos l i h1, getElem!_pos m i h2] at this
def EqIs (w : World) (b : Bool) (e : Ending) (w' : World) : Prop := e = .returned (.bool b) ∧ Gw w w'
set_option maxHeartbeats 4000000 in
set_option maxRecDepth 1000000 in
theorem equal_c (A B : Option Addr) (n c c' : Nat) (L M : List Od) (w : World) (H : Ods w A n L) (K : Ods w B n M) (hn : n ≤ 1000) :
    Calls Try.prog 33 #[.slice A n c, .slice B n c'] w (EqIs w (eqL L M)) := by
  have mixed : Try.prog.follows .mixedOrders = true := by kernel_rfl
  obtain ⟨hl, _, _, h⟩ := H
  obtain ⟨kl, _, _, k⟩ := K
  have HLn := Lib.hid hl
  have KLn := Lib.hid kl
  have HH := Lib.hid h
  have KK := Lib.hid k
  have HE := Lib.hid (fun q : Nat => (show EqIs w (eqL L M) (.returned (.bool (eqL L M))) (w.drewN q) from ⟨rfl, ⟨below_drewN (Below.refl _ _) _, Nat.le_add_right _ _⟩⟩))
  clear hl kl h k
  go_enter Try.func33, Try.ntmps33
  go_wp2
  go_loopg [13] n (fun kx s13 wr => ∃ i q : Nat, s13 = .int .i64 i ∧ i ≤ n ∧ n - i ≤ kx ∧ wr = w.drewN q ∧ Hid (∀ j, j < i → L[j]! = M[j]!))
  case atStart => exact ⟨0, 0, rfl, by omega, by omega, rfl, Lib.hid (fun j hj => by omega)⟩
  case round =>
    obtain ⟨i, q, rfl, hin, hkx, rfl, HI⟩ := hrel
    by_cases hlt : i < n
    · have hltz : (i : Int) < (n : Int) := by omega
      have h1 := HH.out
      have k1 := KK.out
      rcases h1 with h1 | ⟨b, off, rfl, _, hc⟩
      · omega
      rcases k1 with k1 | ⟨b', off', rfl, _, kc⟩
      · omega
      have hx := hc i hlt
      have hy := kc i hlt
      clear hc kc
      obtain ⟨x, ex⟩ : ∃ x, L[i]! = x := ⟨_, rfl⟩
      obtain ⟨y, ey⟩ : ∃ y, M[i]! = y := ⟨_, rfl⟩
      rw [ex] at hx
      rw [ey] at hy
      have XY : Hid (L[i]! = x ∧ M[i]! = y) := ⟨ex, ey⟩
      clear ex ey
      obtain ⟨x0, x1, x2, x3, x4, x5⟩ := hx
      obtain ⟨y0, y1, y2, y3, y4, y5⟩ := hy
      have hq := neqP x y
      cases he : eqO x y with
      | true =>
        rw [he] at hq
        have HN : Hid (∀ j, j < i + 1 → L[j]! = M[j]!) := Lib.hid (fun j hj => by
          by_cases e : j < i
          · exact HI.out j e
          · obtain rfl : j = i := by omega
            rw [XY.out.1, XY.out.2]; exact (eqO_iff x y).1 he)
        clear he
        go_wp2_with fail
        go_quiet (fail)
        go_wp2_with fail
        go_roundg (n - (i + 1))
        case measure => omega
        case rel => exact ⟨i + 1, q + nq, by go_num, by omega, by omega, (by first | rfl | exact World.drewN_drewN _ _ _), HN⟩
      | false =>
        rw [he] at hq
        have HF : Hid (eqL L M = false) := Lib.hid (eqL_no (i := i) (by rw [HLn.out]; exact hlt) (by rw [HLn.out, KLn.out]) (by rw [XY.out.1, XY.out.2]; exact he))
        clear he
        go_wp2_with fail
        go_quiet (fail)
        go_wp2_with fail
        go_ret
        try rw [World.drewN_drewN]
        have := HE.out (q + nq)
        rw [HF.out] at this
        rw [HF.out]
        exact this
    · have hltz : ¬ (i : Int) < (n : Int) := by omega
      obtain rfl : i = n := by omega
      have HF : Hid (eqL L M = true) := Lib.hid (eqL_yes (by rw [HLn.out, KLn.out]) (fun j hj => HI.out j (by rw [HLn.out] at hj; exact hj)))
      go_wp2
      go_ret
      have := HE.out q
      rw [HF.out] at this
      rw [HF.out]
      exact this
end Go.Proofs.Ytdjbnnjcifgnlaa

namespace Go.Proofs.Ytdjbnnjcifgnlaa
open Go.RowKit Go.Sort Go.Lib Go.Shelf

def eU (z : Int) : Value := .int .u64 z
theorem eU_one : OneCell eU := fun _ => rfl
set_option maxHeartbeats 4000000 in
set_option maxRecDepth 100000 in
theorem lessU_c (x y : Int) (W : World) : Calls Try.prog 79 #[.int .u64 x, .int .u64 y] W fun e w' => e = .returned (.bool (ltInt x y)) ∧ w' = W := by
  have HN := Lib.hid isNaN_c
  cases h : ltInt x y with
  | true =>
    have h1 : x < y := by unfold ltInt at h; simpa using h
    go_enter Try.func79, Try.ntmps79
    go_wp2_with ((with_reducible refine (HN.out _ _).mono ?_); rintro e w' ⟨rfl, rfl⟩)
    go_ret
    exact ⟨rfl, rfl⟩
  | false =>
    have h1 : ¬ x < y := by unfold ltInt at h; simpa using h
    have g1 : decide (x < y) = false := decide_eq_false h1
    go_enter Try.func79, Try.ntmps79
    go_wp2_with ((with_reducible refine (HN.out _ _).mono ?_); rintro e w' ⟨rfl, rfl⟩)
    go_ret
    exact ⟨rfl, rfl⟩

set_option maxHeartbeats 4000000 in
set_option maxRecDepth 1000000 in
theorem insU_c (blk off cap a b : Nat) (za zb : Int) (d0 d : Array Int) (w0 w : World) (n : Nat) (ha : za = a) (hb' : zb = b) (hn : n = d.size) (R : Row1 eU w0 blk off d0) (hs : d0.size = d.size) (S : SW eU w0 blk off d w) (hab : a ≤ b) (hb : b ≤ d.size) (hsz : d.size < 4611686018427387904) :
    Calls Try.prog 73 #[.slice (some ⟨blk, off, none⟩) n cap, .int .i64 za, .int .i64 zb] w fun e w' => e = .returned (.tuple #[]) ∧
      ∃ d', SW eU w0 blk off d' w' ∧ PermIn a b d d' ∧ SortedIn ltInt a b d' := by
  subst ha hb' hn
  have mixed : Try.prog.follows .mixedOrders = true := by kernel_rfl
  have S0 : Aside (SW eU w0 blk off d w) := S
  have HS := Lib.hid hs
  have HL := Lib.hid lessU_c
  clear S hs
  go_enter Try.func73, Try.ntmps73
  go_wp2
  go_loopg [6] (b - a) (fun kx s6 wr => ∃ (i : Nat) (dk : Array Int), s6 = .int .i64 i ∧ a < i ∧ i ≤ b + 1 ∧ b + 1 - i ≤ kx + 1 ∧ Aside (SW eU w0 blk off dk wr) ∧ PermIn a b d dk ∧ Hid (SortedIn ltInt a i dk))
  case atStart => exact ⟨a + 1, d, by go_num, by omega, by omega, by omega, S0, permIn_refl _ _ _, Lib.hid (fun i j h1 h2 h3 => by omega)⟩
  case round =>
    clear S0
    obtain ⟨i, dk, rfl, hai, hib, hkx, S1, HPm, HO⟩ := hrel
    have HD : Hid (dk.size = d.size) := HPm.1
    by_cases hlt : i < b
    · have hltz : (i : Int) < (b : Int) := by omega
      have HI0 : Hid (Ins ltInt a i i dk) := Lib.hid ⟨fun p q h1 h2 h3 h4 h5 => HO.out p q h1 h2 (by omega), fun q h1 h2 => by omega⟩
      clear HO
      go_wp2
      go_loopg [7] i (fun g2 s7 wr2 => ∃ (j : Nat) (dj : Array Int), s7 = .int .i64 j ∧ a ≤ j ∧ j ≤ i ∧ j ≤ g2 ∧ Aside (SW eU w0 blk off dj wr2) ∧ PermIn a b d dj ∧ Hid (Ins ltInt a j i dj))
      case atStart => exact ⟨i, dk, rfl, by omega, Nat.le_refl _, Nat.le_refl _, S1, HPm, HI0⟩
      case round =>
        clear S1 HI0 HPm HD
        obtain ⟨j1, dj, rfl, haj, hji, hg2, S1, HPm, HI⟩ := hrel
        have HD : Hid (dj.size = d.size) := HPm.1
        by_cases hja : a < j1
        · obtain ⟨j, rfl⟩ : ∃ j, j1 = j + 1 := ⟨j1 - 1, by omega⟩
          have hjz : (a : Int) < (j : Int) + 1 := by omega
          have wc : IntKind.i64.wrap ((j : Int) + 1 - 1) = (j : Int) := by rw [IntKind.wrap_i64]; omega
          have wc' : IntKind.i64.wrap (j : Int) = (j : Int) := by rw [IntKind.wrap_i64]; omega
          have bz : (j : Int) + 1 < (d.size : Int) := by omega
          have bt : ((j : Int) + 1).toNat = j + 1 := by omega
          have b0 : (0 : Int) ≤ (j : Int) + 1 := by omega
          have hsz2 := HD.out
          obtain ⟨x, hx⟩ : ∃ x, dj[j + 1]! = x := ⟨_, rfl⟩
          obtain ⟨y, hy⟩ : ∃ y, dj[j]! = y := ⟨_, rfl⟩
          have cx := S1.out.c1 R (by rw [HD.out]; exact HS.out.symm) (j + 1) (by omega)
          have cy := S1.out.c1 R (by rw [HD.out]; exact HS.out.symm) (j) (by omega)
          rw [hx] at cx
          rw [hy] at cy
          have cx' : wr.cell? ⟨blk, off + (j + 1), none⟩ = some (.int .u64 x) := cx
          have cy' : wr.cell? ⟨blk, off + (j), none⟩ = some (.int .u64 y) := cy
          clear cx cy
          have XY : Hid (dj[j + 1]! = x ∧ dj[j]! = y) := ⟨hx, hy⟩
          clear hx hy
          have bp : ((j + 1 : Nat) : Int) < (d.size : Int) := by omega
          have bq : ((j : Nat) : Int) < (d.size : Int) := by omega
          clear hsz2
          cases hl : ltInt x y with
          | true =>
            have HN : Hid (Ins ltInt a j i (swp dj (j + 1) j)) := Lib.hid (HI.out.step (by rw [XY.out.1, XY.out.2]; exact hl) (by omega) (by rw [HD.out]; omega))
            have HPn : PermIn a b d (swp dj (j + 1) j) := permIn_trans _ _ _ _ _ HPm (swp_permIn dj a b (j + 1) j (by omega) (by omega) (by omega) (by omega) (by rw [HD.out]; omega))
            go_wp2_with fail
            go_quiet ((go_at_call 79; with_reducible exact Calls.quiet_of_same (HL.out _ _ _)))
            go_wp2_with fail
            have S3 : Aside (SW eU w0 blk off dj (wr.drewN nq)) := S1.out.drewN nq
            clear cx' cy' S1 HPm HI hl
            generalize wr.drewN nq = wq at S3 ⊢
            have hsz2 := HD.out
            have S2 := S3.out.swapped R (j + 1) (j) (by omega) (by omega)
            have ca := S3.out.c1 R (by rw [HD.out]; exact HS.out.symm) (j + 1) (by omega)
            have cb := S3.out.c1 R (by rw [HD.out]; exact HS.out.symm) (j) (by omega)
            have fa := S3.out.f1 R (by rw [HD.out]; exact HS.out.symm) (j + 1) (by omega)
            have fb := S3.out.f1 R (by rw [HD.out]; exact HS.out.symm) (j) (by omega)
            obtain ⟨uc, cc⟩ := S3.out.c2 R (by rw [HD.out]; exact HS.out.symm) (j + 1) (j) (by omega) (by omega) (eU dj[j]!)
            generalize dj[j + 1]! = vI at S2 ca cc
            generalize dj[j]! = vJ at S2 cb cc
            replace S2 : Aside (SW eU w0 blk off (swp dj (j + 1) (j)) ((wq.setCell ⟨blk, off + (j + 1), none⟩ (.int .u64 vJ)).setCell ⟨blk, off + (j), none⟩ (.int .u64 vI)).drew) := S2
            replace ca : wq.cell? ⟨blk, off + (j + 1), none⟩ = some (.int .u64 vI) := ca
            replace cb : wq.cell? ⟨blk, off + (j), none⟩ = some (.int .u64 vJ) := cb
            replace cc : (wq.setCell ⟨blk, off + (j + 1), none⟩ (.int .u64 vJ)).cell? ⟨blk, off + (j), none⟩ = some uc := cc
            clear S3
            go_wp2_with fail
            go_big_region
            clear ca cb fa fb cc
            generalize ((wq.setCell ⟨blk, off + (j + 1), none⟩ (.int .u64 vJ)).setCell ⟨blk, off + (j), none⟩ (.int .u64 vI)).drew = w2 at S2 ⊢
            clear hsz2
            all_goals go_wp2
            go_roundg j
            case measure => omega
            case rel => exact ⟨j, swp dj (j + 1) j, by go_num, by omega, by omega, Nat.le_refl _, S2, HPn, HN⟩
          | false =>
            have HN : Hid (SortedIn ltInt a (i + 1) dj) := Lib.hid (HI.out.stop swo_ltInt (.inr (by simp only [Nat.add_sub_cancel]; rw [XY.out.1, XY.out.2]; exact hl)))
            go_wp2_with fail
            go_quiet ((go_at_call 79; with_reducible exact Calls.quiet_of_same (HL.out _ _ _)))
            have S3 : Aside (SW eU w0 blk off dj (wr.drewN nq)) := S1.out.drewN nq
            clear cx' cy' S1 HI
            generalize wr.drewN nq = wq at S3 ⊢
            go_wp2
            go_roundg (b - (i + 1))
            case measure => omega
            case rel => exact ⟨i + 1, dj, by go_num, by omega, by omega, by omega, S3, HPm, HN⟩
        · have hjz : ¬ (a : Int) < (j1 : Int) := by omega
          have hjd : decide ((j1 : Int) > (a : Int)) = false := decide_eq_false (by omega)
          have HN : Hid (SortedIn ltInt a (i + 1) dj) := Lib.hid (HI.out.stop swo_ltInt (.inl (by omega)))
          go_wp2_with fail
          go_quiet ((go_at_call 79; with_reducible exact Calls.quiet_of_same (HL.out _ _ _)))
          have S3 : Aside (SW eU w0 blk off dj (wr.drewN nq)) := S1.out.drewN nq
          clear S1 HI
          generalize wr.drewN nq = wq at S3 ⊢
          go_wp2
          go_roundg (b - (i + 1))
          case measure => omega
          case rel => exact ⟨i + 1, dj, by go_num, by omega, by omega, by omega, S3, HPm, HN⟩
    · have hltz : ¬ (i : Int) < (b : Int) := by omega
      have HF : Hid (SortedIn ltInt a b dk) := Lib.hid (fun p q h1 h2 h3 => HO.out p q h1 h2 (by omega))
      clear HO HD
      go_wp2
      go_end0
      exact ⟨rfl, dk, S1.out, HPm, HF.out⟩
end Go.Proofs.Ytdjbnnjcifgnlaa

namespace Go.Proofs
open Go.Shelf
def Try.compactL_ren : Go.Shelf.Ren := ⟨fun | 43 => 32 | n => n, fun | 22 => 65 | 23 => 39 | 3 => 3 | 4 => 4 | 0 => 0 | n => n, fun | n => n⟩
theorem Try.compactL : Go.Proofs.SlLaysE.n43 Try.prog Try.compactL_ren := {
  mixed := by kernel_rfl
  f43 := ⟨Try.f32.name, by decide, Try.func32.trans (congrArg some (by kernel_rfl))⟩
  t0 := Try.underlying0
  a0 := Try.isAgg0
  z0 := Try.sizeOf0
  v0 := Try.zeroValue0
  t3 := Try.underlying3
  a3 := Try.isAgg3
  z3 := Try.sizeOf3
  v3 := Try.zeroValue3
  t4 := Try.underlying4
  a4 := Try.isAgg4
  z4 := Try.sizeOf4
  v4 := Try.zeroValue4
  t22 := Try.underlying65
  a22 := Try.isAgg65
  z22 := Try.sizeOf65
  v22 := Try.zeroValue65
  a23 := Try.isAgg39
  z23 := Try.sizeOf39 }
def Try.bitsLenL_ren : Go.Shelf.Ren := ⟨fun | 125 => 49 | 128 => 82 | 129 => 83 | n => n, fun | 46 => 89 | 3 => 3 | 51 => 127 | 53 => 39 | 4 => 4 | 5 => 5 | 9 => 9 | n => n, fun | n => n⟩
theorem Try.bitsLenL : Go.Proofs.Lays.n125 Try.prog Try.bitsLenL_ren := {
  mixed := by kernel_rfl
  f125 := Try.func49.trans (congrArg some (by kernel_rfl))
  f128 := Try.func82.trans (congrArg some (by kernel_rfl))
  f129 := Try.func83.trans (congrArg some (by kernel_rfl))
  t3 := Try.underlying3
  a3 := Try.isAgg3
  z3 := Try.sizeOf3
  v3 := Try.zeroValue3
  t4 := Try.underlying4
  a4 := Try.isAgg4
  z4 := Try.sizeOf4
  v4 := Try.zeroValue4
  t5 := Try.underlying5
  a5 := Try.isAgg5
  z5 := Try.sizeOf5
  v5 := Try.zeroValue5
  t9 := Try.underlying9
  a9 := Try.isAgg9
  z9 := Try.sizeOf9
  v9 := Try.zeroValue9
  t46 := Try.underlying89
  a46 := Try.isAgg89
  z46 := Try.sizeOf89
  v46 := Try.zeroValue89
  t51 := Try.underlying127
  a51 := Try.isAgg127
  z51 := Try.sizeOf127
  v51 := Try.zeroValue127
  t53 := Try.underlying39
  a53 := Try.isAgg39
  z53 := Try.sizeOf39
  v53 := Try.zeroValue39 }
end Go.Proofs

namespace Go.Proofs.Ytdjbnnjcifgnlaa
open Go.RowKit Go.Sort Go.Lib Go.Shelf

theorem len_c (x : Int) (w : World) (h0 : 0 ≤ x) (h1 : x ≤ 18446744073709551615) : Calls Try.prog 49 #[.int .u64 x] w fun e w' => e = .returned (.int .i64 (Lib.bitLen x.toNat)) ∧ w' = w :=
  Any.bits_Len (ρ := Try.bitsLenL_ren) Try.bitsLenL x w h0 h1
/-- What slices.Sort does with a row. -/
def SortsU (n : Nat) : Prop := ∀ (blk off cap : Nat) (d : Array Int) (w : World), n = d.size → Holds eU w blk off d → blk < w.heap.size →
  Calls Try.prog 31 #[.slice (some ⟨blk, off, none⟩) n cap] w fun e w' => e = .returned (.tuple #[]) ∧ ∃ d', SW eU w blk off d' w' ∧ PermIn 0 n d d' ∧ SortedIn ltInt 0 n d'
/-- slices.Compact: how many are left. -/
theorem compact_c (blk off cap : Nat) (d : Array Int) (w : World) (hH : Holds eU w blk off d) (hsz : d.size ≤ 1000) (hcap : d.size ≤ cap) :
    Calls Try.prog 32 #[.slice (some ⟨blk, off, none⟩) d.size cap] w fun e w' => e = .returned (.slice (some ⟨blk, off, none⟩) (compactUpTo d d.size).length cap) ∧ ∃ d', SW eU w blk off d' w' := by
  refine (AnyE.slices_Compact (ρ := Try.compactL_ren) Try.compactL eU eU_one (EqlAt.intD _ _ _) (NeqAt.intD _ _ _) 0 Try.zeroValue39 blk off cap d w hH (by omega) hcap).mono ?_
  rintro e w' ⟨rfl, q, rfl⟩
  exact ⟨rfl, _, q, #[], by unfold sortWorld; rw [grow_empty]⟩
end Go.Proofs.Ytdjbnnjcifgnlaa

namespace Go.Proofs.Ytdjbnnjcifgnlaa
open Go.RowKit Go.Sort Go.Lib Go.Shelf

def bookO (L : List Od) : Bool := decide (L.length ≤ 64) && (L.all goodO && (decide ((L.map Od.id).Nodup) && eqL L (sortO L)))
theorem keeps_iff (d : Array Int) (j : Nat) : keeps d j = true ↔ j = 0 ∨ d[j - 1]! ≠ d[j]! := by
  unfold keeps; by_cases h : j = 0 <;> simp [h] <;> exact ⟨fun h e => h e.symm, fun h e => h e.symm⟩
/-- Of a sorted row none is left out just if no two are the same. -/
theorem compact_len {d d' : Array Int} {n : Nat} (hn : d.size = n) (P : PermIn 0 n d d') (S : SortedIn ltInt 0 n d') : (compactUpTo d' n).length = n ↔ d.toList.Nodup := by
  have hn' : d'.size = n := P.1.trans hn
  have e1 : d'.extract 0 n = d' := by rw [← hn']; exact Array.extract_size
  have e2 : d.extract 0 n = d := by rw [← hn]; exact Array.extract_size
  have hp := P.2.2
  rw [e1, e2] at hp
  rw [← hp.nodup_iff]
  unfold compactUpTo
  rw [List.length_map]
  have hl : ((List.range n).filter (keeps d')).length = n ↔ ∀ j, j < n → keeps d' j = true := by
    constructor
    · intro h j hj
      have := List.length_filter_eq_length_iff.1 (h.trans List.length_range.symm)
      exact this j (List.mem_range.2 hj)
    · intro h
      rw [List.filter_eq_self.2 (fun j hj => h j (List.mem_range.1 hj)), List.length_range]
  rw [hl]
  constructor
  · intro h
    have hs : ∀ i j, i < j → j < n → d'[i]! < d'[j]! := by
      intro i j hij hj
      induction j with
      | zero => omega
      | succ j ih =>
        have h1 := S j (j + 1) (Nat.zero_le _) (by omega) hj
        have h2 := (keeps_iff d' (j + 1)).1 (h (j + 1) hj)
        unfold ltInt at h1
        simp only [decide_eq_false_iff_not, Int.not_lt] at h1
        have h3 : d'[j]! < d'[j + 1]! := by
          rcases h2 with h2 | h2
          · omega
          · simp only [Nat.add_sub_cancel] at h2; omega
        by_cases e : i = j
        · subst e; exact h3
        · exact Int.lt_trans (ih (by omega) (by omega)) h3
    unfold List.Nodup
    rw [List.pairwise_iff_getElem]
    intro i j hi hj hij
    have := hs i j hij (by simpa [hn'] using hj)
    rw [getElem!_pos d' i (by simpa using hi), getElem!_pos d' j (by simpa using hj)] at this
    simp only [Array.getElem_toList]
    omega
  · intro h j hj
    rw [keeps_iff]
    by_cases e : j = 0
    · exact .inl e
    · right
      unfold List.Nodup at h
      rw [List.pairwise_iff_getElem] at h
      have := h (j - 1) j (by simp [hn']; omega) (by simp [hn']; omega) (by omega)
      rw [getElem!_pos d' (j - 1) (by omega), getElem!_pos d' j (by omega)]
      simpa using this
theorem su_below {w0 w : World} {blk : Nat} {d : Array Int} {B : Nat} (S : SW eU w0 blk 0 d w) (hB : B ≤ blk) (hs : B ≤ w0.heap.size) : Below B w0 w := by
  obtain ⟨n, os, rfl⟩ := S
  refine ⟨rfl, rfl, rfl, ?_, fun j hj => ?_⟩
  · unfold sortWorld; rw [size_grow, size_putRow]; exact Nat.le_add_right _ _
  · unfold sortWorld
    rw [heap_grow_old _ _ (by rw [size_putRow]; show j < w0.heap.size; omega)]
    unfold putRow mapBlock
    show (w0.heap.modify blk _)[j]? = _
    rw [Array.getElem?_modify, if_neg (by omega)]
/-- A row of numbers of the call's own, as the sort sees it. -/
theorem own_u {w : World} {base n g cap : Nat} {zs : List Int} (h : w.ownsRow base 39 1 (.slice (some ⟨g, 0, none⟩) n cap) n (zs.map eU)) : zs.length = n ∧ n ≤ cap ∧ g < w.heap.size ∧ Holds eU w g 0 zs.toArray := by
  obtain ⟨h1, h2⟩ := h
  rw [List.length_map, Nat.mul_one] at h1
  rcases h2 with ⟨h0, _⟩ | ⟨k, cap', cur, hv, hb, hk, hc, hm, hs, ht⟩
  · cases h0
  · injection hv with e1 e2 e3
    injection e1 with e1
    injection e1 with e1
    subst e1 e3
    refine ⟨h1, hc, blk_lt hk, fun j hj => ⟨?_, frozen_of_row _ _ _ _ _ hk⟩⟩
    have hj' : j < zs.length := by simpa using hj
    have hx : (zs.map eU)[j]? = some (eU zs.toArray[j]!) := by
      rw [List.getElem?_map, List.getElem?_eq_getElem hj', getElem!_pos zs.toArray j hj]
      rfl
    rw [Nat.zero_add, cell_of_row _ _ _ _ _ _ hk]
    rw [← ht, List.getElem?_take, if_pos (by omega), Array.getElem?_toList] at hx
    exact hx
theorem ids_one (z : Int) : ∀ u ∈ [Value.int .u64 z], u.oneCell' = true := by
  intro u hu; simp at hu; subst hu; rfl
/-- The cells of the first i orders' ids. -/
def idc (L : List Od) (i : Nat) : List Value := ((L.take i).map Od.id).map eU
theorem ids_snoc {L : List Od} {i : Nat} (h : i < L.length) : idc L (i + 1) = idc L i ++ [.int .u64 (L[i]!).id] := by
  unfold idc
  rw [List.take_succ_eq_append_getElem h, List.map_append, List.map_append, getElem!_pos L i h]; rfl
theorem info_u64 : (Try.prog.info? 39).map (fun i => (i.zero, i.size, i.bytes)) = some (some (.int .u64 0), 1, 8) := by kernel_rfl
def BookIs (w : World) (b : Bool) (e : Ending) (w' : World) : Prop := e = .returned (.bool b) ∧ Below w.heap.size w w'
theorem book_long {L : List Od} (h : ¬ L.length ≤ 64) : bookO L = false := by unfold bookO; rw [decide_eq_false h, Bool.false_and]
theorem book_bad {L : List Od} {i : Nat} (hi : i < L.length) (h : goodO L[i]! = false) : bookO L = false := by
  unfold bookO
  have : L.all goodO = false := by
    rw [List.all_eq_false]
    exact ⟨L[i]!, by rw [getElem!_pos L i hi]; exact List.getElem_mem _, by rw [h]; exact Bool.false_ne_true⟩
  rw [this, Bool.false_and, Bool.and_false]
theorem book_twice {L : List Od} (h : ¬ (L.map Od.id).Nodup) : bookO L = false := by
  unfold bookO
  rw [decide_eq_false h, Bool.false_and, Bool.and_false, Bool.and_false]
theorem book_else {L : List Od} (h1 : L.length ≤ 64) (h2 : ∀ i, i < L.length → goodO L[i]! = true) (h3 : (L.map Od.id).Nodup) : bookO L = eqL L (sortO L) := by
  unfold bookO
  have : L.all goodO = true := by
    rw [List.all_eq_true]
    intro x hx
    obtain ⟨i, hi, rfl⟩ := List.getElem_of_mem hx
    have := h2 i hi
    rwa [getElem!_pos L i hi] at this
  rw [decide_eq_true h1, this, decide_eq_true h3]
  rfl
end Go.Proofs.Ytdjbnnjcifgnlaa

namespace Go.Proofs.Ytdjbnnjcifgnlaa
open Go.RowKit Go.Sort Go.Lib Go.Shelf

section
variable {ops : Array Oper} {rest : List Oper} {o : Oper} {a : Act} {w : World} {Q : Exit → Act → World → Prop}
end
set_option maxHeartbeats 4000000 in
set_option maxRecDepth 100000 in
theorem bookLong_c (A : Option Addr) (n c : Nat) (L : List Od) (w : World) (hl : L.length = n) (h : ¬ n ≤ 64) : Calls Try.prog 16 #[.slice A n c] w (BookIs w (bookO L)) := by
  have e : bookO L = false := book_long (by omega)
  rw [e]
  have hz : (64 : Int) < (n : Int) := by omega
  clear h
  go_enter Try.func16, Try.ntmps16
  go_wp2_with fail
  go_ret
  exact ⟨rfl, Below.refl _ _⟩
end Go.Proofs.Ytdjbnnjcifgnlaa

namespace Go.Proofs.Ytdjbnnjcifgnlaa
open Go.RowKit Go.Sort Go.Lib Go.Shelf

section
variable {ops : Array Oper} {rest : List Oper} {o : Oper} {a : Act} {w : World} {Q : Exit → Act → World → Prop}
end
set_option maxHeartbeats 4000000 in
set_option maxRecDepth 100000 in
theorem book_c (A : Option Addr) (n c : Nat) (L : List Od) (w : World) (H : Ods w A n L) (h64 : n ≤ 64) (hS : SortsU n) : Calls Try.prog 16 #[.slice A n c] w (BookIs w (bookO L)) := by
  have mixed : Try.prog.follows .mixedOrders = true := by kernel_rfl
  have hl := H.1
  cases hi : Try.prog.info? 39 with
  | none => have := info_u64; rw [hi] at this; cases this
  | some i0 =>
    have := info_u64
    rw [hi] at this
    simp only [Option.map_some, Option.some.injEq, Prod.mk.injEq] at this
    obtain ⟨h1, h2, h3⟩ := this
    have HIn : Hid (Try.prog.info? 39 = some i0 ∧ i0.zero = some (.int .u64 0) ∧ i0.size = 1 ∧ i0.bytes = 8) := ⟨hi, h1, h2, h3⟩
    have HO : Aside (Ods w A n L) := H
    have HLn := Lib.hid hl
    have HS : Aside (SortsU n) := hS
    have HG : Aside (∀ (x : Od) (w : World), Calls Try.prog 30 #[.agg (OC x)] w fun e w' => e = .returned (.bool (goodO x)) ∧ Gw w w') := good_c
    have n64 : ¬ (64 : Int) < (n : Int) := by omega
    clear hi h1 h2 h3 H hl hS
    go_enter Try.func16, Try.ntmps16
    go_wp2_with (refine wpList_make_own _ rfl _ _ 65 rfl w.heap.size 39 i0 (.int .u64 0) 1 Try.underlying65 HIn.out.1 HIn.out.2.1 HIn.out.2.2.1 .i64 .i64 (n : Int) n rfl rfl rfl (by rw [HIn.out.2.2.2]; omega) (by unfold maxLen; omega) (Nat.le_refl _) ?_)
    intro w1 hown1 hg1
    have B1 : Hid (Below w.heap.size w w1) := Lib.hid (Below.grown (Below.refl _ _) hg1 (Nat.le_refl _) (by intro k hk; cases hk))
    clear hg1
    go_wp2_with fail
    go_loopg [3, 14] n (fun kx s3 s14 wr => ∃ i : Nat, s3 = .slice (some ⟨w.heap.size, 0, none⟩) i n ∧ s14 = .int .i64 i ∧ i ≤ n ∧ n - i ≤ kx ∧ wr.ownsRow w.heap.size 39 1 (.slice (some ⟨w.heap.size, 0, none⟩) i n) i (idc L i) ∧ Hid (Below w.heap.size w wr) ∧ Hid (∀ j, j < i → goodO L[j]! = true))
    case atStart => exact ⟨0, rfl, rfl, by omega, by omega, hown1, B1, Lib.hid (fun j hj => by omega)⟩
    case round =>
      clear hown1 B1
      obtain ⟨i, rfl, rfl, hin, hkx, hown, B1, HJ⟩ := hrel
      by_cases hlt : i < n
      · have hltz : (i : Int) < (n : Int) := by omega
        have h1 := (HO.out.below B1.out).2.2.2
        rcases h1 with h1 | ⟨b, off, rfl, _, hc⟩
        · omega
        have hx := hc i hlt
        clear hc
        obtain ⟨x, ex⟩ : ∃ x, L[i]! = x := ⟨_, rfl⟩
        rw [ex] at hx
        have EX := Lib.hid ex
        clear ex
        obtain ⟨x0, x1, x2, x3, x4, x5⟩ := hx
        cases hg : goodO x with
        | false =>
          have HB : Hid (bookO L = false) := Lib.hid (book_bad (i := i) (by rw [HLn.out]; exact hlt) (by rw [EX.out]; exact hg))
          have HGx := Lib.hid (HG.out x)
          rw [hg] at HGx
          clear hg
          go_wp2_with ((with_reducible refine (HGx.out _).mono ?_); rintro e w2 ⟨rfl, k2⟩)
          go_ret
          rw [HB.out]
          exact ⟨rfl, (B1.out.alloc B1.out.size _).trans (k2.b.mono (by have := B1.out.size; simp; omega))⟩
        | true =>
          have HJ2 : Hid (∀ j, j < i + 1 → goodO L[j]! = true) := Lib.hid (fun j hj => by
            by_cases e : j < i
            · exact HJ.out j e
            · obtain rfl : j = i := by omega
              rw [EX.out]; exact hg)
          have HGx := Lib.hid (HG.out x)
          rw [hg] at HGx
          have HN : Hid (idc L (i + 1) = idc L i ++ [.int .u64 x.id]) := by
            have := ids_snoc (L := L) (i := i) (by rw [HLn.out]; exact hlt)
            rw [EX.out] at this
            exact this
          clear hg HJ
          go_wp2_with fail
          refine (HGx.out _).mono ?_
          rintro e w2 ⟨rfl, k2⟩
          have BX : Hid (Below w.heap.size w w2) := Lib.hid ((B1.out.alloc B1.out.size _).trans (k2.b.mono (by have := B1.out.size; simp; omega)))
          have ci : w2.cell? ⟨wr.heap.size, 0, none⟩ = some (.int .u64 x.id) := by
            rw [World.cell?_of_block (w := wr.alloc (Obj.cells (OC x) 42)) (k2.b.block _ (by simp)), cell_of_row _ _ _ _ _ _ (heap_alloc_new wr _)]
            rfl
          have hown2 := own_fr (S := fun _ => False) (hown.alloc (Obj.cells (OC x) 42)) (Fr.of_below k2.b) (fun _ _ h => h)
          have hs2 := BX.out.size
          clear k2 hown x0 x1 x2 x3 x4 x5 B1
          go_wp2_with (at_builtin; refine wpList_append_fits _ rfl _ _ 65 rfl w.heap.size 39 i0 1 Try.underlying65 HIn.out.1 HIn.out.2.2.1 w.heap.size i n (idc L i) rfl (hown2.alloc _) ⟨w2.heap.size, 0, none⟩ 1 1 [.int .u64 x.id] rfl rfl ?c1 ?c2 ?c3 ?_)
          case c1 =>
            intro j u hu
            rw [addr_add, cell_of_row _ _ _ _ _ _ (heap_alloc_new w2 _)]
            match j, hu with
            | 0, hu => simpa using hu
          case c2 => exact ids_one _
          case c3 => omega
          intro w3 hown3 hg3
          have B3 : Hid (Below w.heap.size w w3) := Lib.hid (Below.grown (BX.out.alloc hs2 _) hg3 (by simp; omega) (by intro k hk; injection hk with hk; omega))
          rw [← HN.out] at hown3
          clear hg3 hown2 BX hs2 ci
          go_wp2_with fail
          go_roundg (n - (i + 1))
          case measure => omega
          case rel => exact ⟨i + 1, rfl, by go_num, by omega, by omega, hown3, B3, HJ2⟩
      · have hltz : ¬ (i : Int) < (n : Int) := by omega
        obtain rfl : i = n := by omega
        have e0 : idc L i = (L.map Od.id).map eU := by unfold idc; rw [List.take_of_length_le (by rw [HLn.out]; exact Nat.le_refl _)]
        rw [e0] at hown
        obtain ⟨_, _, hk, hH⟩ := own_u hown
        have hz : (L.map Od.id).toArray.size = i := by simp [HLn.out]
        have HSO := Lib.hid (HS.out w.heap.size 0 i (L.map Od.id).toArray wr hz.symm hH hk)
        have HHo : Aside (Holds eU wr w.heap.size 0 (L.map Od.id).toArray) := hH
        have HZ := Lib.hid hz
        clear hown e0 hH hz
        go_wp2_with fail
        refine HSO.out.mono ?_
        rintro e w2 ⟨rfl, d2, S2, P2, O2⟩
        have hd2 : d2.size = i := P2.1.trans HZ.out
        have HC := Lib.hid (compact_c w.heap.size 0 i d2 w2 (S2.holds hk HHo.out (by rw [hd2, HZ.out])) (by omega) (by omega))
        have HCL := Lib.hid (compact_len HZ.out P2 O2)
        have B2 : Hid (Below w.heap.size w w2) := Lib.hid (B1.out.trans (su_below S2 (Nat.le_refl _) B1.out.size))
        rw [hd2] at HC
        clear P2 O2 B1 S2 HSO HHo
        go_wp2_with fail
        refine HC.out.mono ?_
        rintro e w3 ⟨rfl, d3, S3⟩
        have B3 : Hid (Below w.heap.size w w3) := Lib.hid (B2.out.trans (su_below S3 (Nat.le_refl _) B2.out.size))
        have O3 : Aside (Ods w3 A i L) := HO.out.below B3.out
        clear S3 B2 HC
        obtain ⟨m, hm⟩ : ∃ m, (compactUpTo d2 i).length = m := ⟨_, rfl⟩
        have HM := Lib.hid hm
        rw [hm]
        clear hm
        by_cases hmn : m = i
        · subst hmn
          have em : ((m : Int) == (m : Int)) = true := by simp
          have HE : Hid (bookO L = eqL L (sortO L)) := Lib.hid (book_else (by rw [HLn.out]; exact h64) (fun j hj => HJ.out j (by rw [HLn.out] at hj; exact hj)) (HCL.out.1 HM.out))
          have HSd := Lib.hid (sorted_c A m c L w3 O3.out (by omega))
          go_wp2_with fail
          refine HSd.out.mono ?_
          rintro e w4 ⟨A', c', rfl, _, O4, b4⟩
          have HQ := Lib.hid (equal_c A A' m c c' L (sortO L) w4 (O3.out.below b4) O4 (by omega))
          have B4 : Hid (Below w.heap.size w w4) := Lib.hid (B3.out.trans (b4.mono B3.out.size))
          clear O4 b4 O3 B3
          go_wp2_with fail
          refine HQ.out.mono ?_
          rintro e w5 ⟨rfl, k5⟩
          have B5 : Hid (Below w.heap.size w w5) := Lib.hid (B4.out.trans (k5.b.mono B4.out.size))
          clear k5 B4
          go_wp2_with fail
          go_ret
          rw [HE.out]
          exact ⟨rfl, B5.out⟩
        · have em : ((m : Int) == (i : Int)) = false := by rw [beq_eq_false_iff_ne]; omega
          have HE : Hid (bookO L = false) := Lib.hid (book_twice (fun h => hmn (HM.out.symm.trans (HCL.out.2 h))))
          clear hmn
          go_wp2_with fail
          go_ret
          rw [HE.out]
          exact ⟨rfl, B3.out⟩
end Go.Proofs.Ytdjbnnjcifgnlaa

namespace Go.Proofs.Ytdjbnnjcifgnlaa
set_option linter.unusedVariables false

/-- Does an order want a price? -/
def wnO (x : Od) (p : Int) : Bool := croN x.side x.price p
def wnQ (x : Od) (s p : Int) : Int := if x.side = s ∧ wnO x p = true then x.qty else 0
/-- What those of a side want at a price. -/
def allS (s p : Int) : List Od → Int
  | [] => 0
  | x :: l => wnQ x s p + allS s p l
theorem allS_app (s p : Int) : ∀ A B : List Od, allS s p (A ++ B) = allS s p A + allS s p B
  | [], B => by simp [allS]
  | x :: A, B => by simp only [List.cons_append, allS, allS_app s p A B]; omega
theorem allS_take {L : List Od} {k : Nat} (s p : Int) (h : k < L.length) : allS s p (L.take (k + 1)) = allS s p (L.take k) + wnQ L[k]! s p := by
  rw [List.take_succ_eq_append_getElem h, allS_app, getElem!_pos L k h]; simp [allS]
/-- Orders whose quantities are those of good ones. -/
def QtyOk (L : List Od) : Prop := ∀ x ∈ L, 0 ≤ x.qty ∧ x.qty ≤ 1099511627776
theorem wnQ_bd {x : Od} (h : 0 ≤ x.qty ∧ x.qty ≤ 1099511627776) (s p : Int) : 0 ≤ wnQ x s p ∧ wnQ x s p ≤ 1099511627776 := by
  unfold wnQ; split <;> omega
theorem allS_bd (s p : Int) : ∀ {L : List Od}, QtyOk L → 0 ≤ allS s p L ∧ allS s p L ≤ 1099511627776 * L.length
  | [], _ => by simp [allS]
  | x :: l, h => by
    have h1 := wnQ_bd (h x List.mem_cons_self) s p
    have h2 := allS_bd s p (L := l) (fun y hy => h y (List.mem_cons_of_mem _ hy))
    simp only [allS, List.length_cons]
    omega
theorem QtyOk.take {L : List Od} (h : QtyOk L) (k : Nat) : QtyOk (L.take k) := fun x hx => h x (List.mem_of_mem_take hx)
theorem good_qty {x : Od} (h : goodO x = true) : (0 ≤ x.acc ∧ x.acc < 8) ∧ (x.side = 1 ∨ x.side = 2) ∧ (1 ≤ x.price ∧ x.price ≤ 1099511627776) ∧ (1 ≤ x.qty ∧ x.qty ≤ 1099511627776) := by
  unfold goodO rkN at h
  simp only [Bool.and_eq_true, decide_eq_true_eq, bne_iff_ne, ne_eq] at h
  obtain ⟨h1, h2, h3, h4, h5, h6, h7⟩ := h
  refine ⟨⟨h1, h2⟩, ?_, ⟨h4, h5⟩, h6, h7⟩
  by_cases e1 : x.side = 1
  · exact .inl e1
  by_cases e2 : x.side = 2
  · exact .inr e2
  rw [if_neg e1, if_neg e2] at h3
  exact absurd rfl h3
theorem good_all {L : List Od} (h : ∀ x ∈ L, goodO x = true) : QtyOk L := fun x hx => by
  have := (good_qty (h x hx)).2.2.2; omega

/-- What is traded at a price, what is left over, how far it is from the last one. -/
def volS (L : List Od) (p : Int) : Int := min (allS 1 p L) (allS 2 p L)
def farN (a b : Int) : Int := if a < b then b - a else a - b
def ovrS (L : List Od) (p : Int) : Int := farN (allS 1 p L) (allS 2 p L)
def wyN (p last : Int) : Int := if 0 < last then farN p last else 0
/-- Is a candidate better than another one? -/
def btc (v o w p v' o' w' p' : Int) : Bool := if v ≠ v' then decide (v' < v) else if o ≠ o' then decide (o < o') else if w ≠ w' then decide (w < w') else decide (p < p')
/-- Is the price p better than q? -/
def btr (L : List Od) (last p q : Int) : Bool := btc (volS L p) (ovrS L p) (wyN p last) p (volS L q) (ovrS L q) (wyN q last) q
/-- The best price of the first k that trade; 0: none. -/
def pB (L : List Od) (last : Int) : Nat → Int
  | 0 => 0
  | k + 1 => if 0 < volS L (L[k]!).price ∧ (pB L last k = 0 ∨ btr L last (L[k]!).price (pB L last k) = true) then (L[k]!).price else pB L last k
/-- The best price of the first k + 1. -/
def rB (L : List Od) (last : Int) : Nat → Int
  | 0 => (L[0]!).price
  | k + 1 => if btr L last (L[k + 1]!).price (rB L last k) = true then (L[k + 1]!).price else rB L last k
theorem volS_bd {L : List Od} (h : QtyOk L) (p : Int) : 0 ≤ volS L p ∧ volS L p ≤ 1099511627776 * L.length := by
  have h1 := allS_bd 1 p h; have h2 := allS_bd 2 p h
  unfold volS; omega
theorem btr_vol {L : List Od} {last p q : Int} (h : volS L p ≠ volS L q) : btr L last p q = decide (volS L q < volS L p) := by
  unfold btr btc; rw [if_pos h]
theorem pB_rB {L : List Od} (last : Int) (hq : QtyOk L) (hp : ∀ x ∈ L, 1 ≤ x.price) : ∀ k, k < L.length → pB L last (k + 1) = if 0 < volS L (rB L last k) then rB L last k else 0
  | 0, h => by
    show (if 0 < volS L (L[0]!).price ∧ (pB L last 0 = 0 ∨ btr L last (L[0]!).price (pB L last 0) = true) then (L[0]!).price else pB L last 0) = if 0 < volS L (L[0]!).price then (L[0]!).price else 0
    by_cases c : 0 < volS L (L[0]!).price
    · rw [if_pos c, if_pos ⟨c, .inl rfl⟩]
    · have : ¬ (0 < volS L (L[0]!).price ∧ (pB L last 0 = 0 ∨ btr L last (L[0]!).price (pB L last 0) = true)) := fun h => c h.1
      rw [if_neg c, if_neg this]; rfl
  | k + 1, h => by
    have ih := pB_rB last hq hp k (by omega)
    have hr : ∀ j, j < L.length → 1 ≤ rB L last j := by
      intro j hj
      induction j with
      | zero => exact hp _ (by rw [getElem!_pos L 0 hj]; exact List.getElem_mem _)
      | succ j ihj =>
        show 1 ≤ (if btr L last (L[j + 1]!).price (rB L last j) = true then (L[j + 1]!).price else rB L last j)
        split
        · exact hp _ (by rw [getElem!_pos L (j + 1) hj]; exact List.getElem_mem _)
        · exact ihj (by omega)
    have r1 := hr k (by omega)
    show (if 0 < volS L (L[k + 1]!).price ∧ (pB L last (k + 1) = 0 ∨ btr L last (L[k + 1]!).price (pB L last (k + 1)) = true) then (L[k + 1]!).price else pB L last (k + 1)) = if 0 < volS L (if btr L last (L[k + 1]!).price (rB L last k) = true then (L[k + 1]!).price else rB L last k) then (if btr L last (L[k + 1]!).price (rB L last k) = true then (L[k + 1]!).price else rB L last k) else 0
    rw [ih]
    generalize (L[k + 1]!).price = x at *
    generalize rB L last k = r at *
    have vx := (volS_bd hq x).1
    have vr := (volS_bd hq r).1
    by_cases c : 0 < volS L r
    · rw [if_pos c]
      by_cases cx : 0 < volS L x
      · by_cases b : btr L last x r = true
        · rw [if_pos ⟨cx, .inr b⟩, if_pos b, if_pos cx]
        · rw [if_neg (by rintro ⟨_, h | h⟩; exact absurd h (by omega); exact b h), if_neg b, if_pos c]
      · have b : ¬ btr L last x r = true := by rw [btr_vol (by omega)]; simp; omega
        rw [if_neg (fun h => cx h.1), if_neg b, if_pos c]
    · rw [if_neg c]
      by_cases cx : 0 < volS L x
      · have b : btr L last x r = true := by rw [btr_vol (by omega)]; simp; omega
        rw [if_pos ⟨cx, .inl rfl⟩, if_pos b, if_pos cx]
      · rw [if_neg (fun h => cx h.1)]
        split <;> rfl
/-- What Price tells. -/
def priS (L : List Od) (last : Int) : Int × Int :=
  if bookO L = true then (pB L last L.length, if pB L last L.length = 0 then 0 else volS L (pB L last L.length)) else (0, 0)
end Go.Proofs.Ytdjbnnjcifgnlaa

namespace Go.Proofs.Ytdjbnnjcifgnlaa
open Go.RowKit Go.Sort Go.Lib Go.Shelf

def x1 : Od := ⟨1, 0, 1, 10, 1, 2⟩
def x2 : Od := ⟨2, 0, 1, 11, 1, 3⟩
def x3 : Od := ⟨3, 0, 1, 10, 1, 1⟩
end Go.Proofs.Ytdjbnnjcifgnlaa

namespace Go.Proofs.Ytdjbnnjcifgnlaa
open Go.RowKit Go.Sort Go.Lib Go.Shelf

theorem gw_grow (w : World) (n : Nat) (os : Array Obj) : Gw w (grow (w.drewN n) os) :=
  ⟨⟨rfl, rfl, rfl, by rw [size_grow]; exact Nat.le_add_right _ _, fun j hj => by rw [heap_grow_old _ _ (by exact hj)]; rfl⟩, Nat.le_add_right _ _⟩
end Go.Proofs.Ytdjbnnjcifgnlaa

namespace Go.Proofs.Ytdjbnnjcifgnlaa
open Go.RowKit

def NCf (f : Nat → Bool) (s : Bool) : Array Value := ((List.range 136).map (fun i => Value.bool (f i)) ++ [Value.bool s]).toArray
theorem NCf_size (f : Nat → Bool) (s : Bool) : (NCf f s).size = 137 := by simp [NCf]
theorem NCf_get (f : Nat → Bool) (s : Bool) (i : Nat) (h : i < 136) : (NCf f s)[i]? = some (.bool (f i)) := by
  unfold NCf
  rw [List.getElem?_toArray, List.getElem?_append_left (by simpa using h)]
  simp [h]
theorem NCf_sign (f : Nat → Bool) (s : Bool) : (NCf f s)[136]? = some (.bool s) := by
  unfold NCf
  rw [List.getElem?_toArray, List.getElem?_append_right (by simp)]
  simp
theorem NCf_ext {x y : Array Value} (hx : x.size = 137) (hy : y.size = 137) (h : ∀ i, i < 136 → x[i]? = y[i]?) (hs : x[136]? = y[136]?) : x = y := by
  apply Array.ext_getElem?
  intro j
  by_cases h1 : j < 136
  · exact h j h1
  · by_cases h2 : j = 136
    · subst h2; exact hs
    · rw [Array.getElem?_eq_none (by omega), Array.getElem?_eq_none (by omega)]
theorem NCf_set (f : Nat → Bool) (s : Bool) (i : Nat) (v : Bool) (h : i < 136) : (NCf f s).setIfInBounds i (.bool v) = NCf (fun j => if j = i then v else f j) s := by
  apply NCf_ext (by simp [NCf_size]) (NCf_size _ _)
  · intro j hj
    rw [Array.getElem?_setIfInBounds, NCf_size, NCf_get _ _ _ hj, NCf_get _ _ _ hj]
    by_cases e : i = j
    · subst e; rw [if_pos rfl, if_pos (by omega), if_pos rfl]
    · rw [if_neg e, if_neg (fun e' => e e'.symm)]
  · rw [Array.getElem?_setIfInBounds, NCf_size, NCf_sign, NCf_sign, if_neg (by omega)]
theorem NCf_setSign (f : Nat → Bool) (s t : Bool) : (NCf f s).setIfInBounds 136 (.bool t) = NCf f t := by
  apply NCf_ext (by simp [NCf_size]) (NCf_size _ _)
  · intro j hj
    rw [Array.getElem?_setIfInBounds, NCf_get _ _ _ hj, NCf_get _ _ _ hj, if_neg (by omega)]
  · rw [Array.getElem?_setIfInBounds, NCf_size, NCf_sign, if_pos rfl, if_pos (by omega), NCf_sign]
theorem NCf_one (f : Nat → Bool) (s : Bool) : (NCf f s).all (·.oneCell') = true := by
  rw [Array.all_eq_true_iff_forall_mem]
  intro v hv
  simp [NCf] at hv
  rcases hv with ⟨i, _, rfl⟩ | rfl <;> rfl
theorem NCf_congr (f g : Nat → Bool) (s : Bool) (h : ∀ i, i < 136 → f i = g i) : NCf f s = NCf g s := by
  unfold NCf; congr 2; apply List.map_congr_left; intro i hi; rw [h i (by simpa using hi)]

/-- The bits of m, and a sign. -/
def NC (m : Nat) (s : Bool) : Array Value := NCf m.testBit s
theorem NC_get (m : Nat) (s : Bool) (i : Nat) (h : i < 136) : (NC m s)[i]? = some (.bool (m.testBit i)) := NCf_get _ _ _ h
theorem NC_sign (m : Nat) (s : Bool) : (NC m s)[136]? = some (.bool s) := NCf_sign _ _
theorem NC_size (m : Nat) (s : Bool) : (NC m s).size = 137 := NCf_size _ _
theorem NC_one (m : Nat) (s : Bool) : (NC m s).all (·.oneCell') = true := NCf_one _ _
theorem NC_setSign (m : Nat) (s t : Bool) : (NC m s).setIfInBounds 136 (.bool t) = NC m t := NCf_setSign _ _ _
theorem bit_eq (m i : Nat) : m.testBit i = decide (m / 2 ^ i % 2 = 1) := by rw [Nat.testBit_eq_decide_div_mod_eq]
/-- The bits below the place i. -/
theorem low_succ (m i : Nat) : m % 2 ^ (i + 1) = m % 2 ^ i + 2 ^ i * (if m.testBit i then 1 else 0) := by
  rw [Nat.pow_succ, Nat.mod_mul, bit_eq]
  have : m / 2 ^ i % 2 = 0 ∨ m / 2 ^ i % 2 = 1 := by omega
  rcases this with h | h <;> simp [h]
theorem zero_of_bits (m : Nat) (hm : m < 2 ^ 136) : m = 0 ↔ ∀ i, i < 136 → m.testBit i = false := by
  constructor
  · rintro rfl i _; simp
  · intro h
    apply Nat.eq_of_testBit_eq
    intro i
    by_cases hi : i < 136
    · rw [h i hi]; simp
    · rw [Nat.testBit_lt_two_pow (Nat.lt_of_lt_of_le hm (Nat.pow_le_pow_right (by omega) (by omega)))]; simp
/-- The carry into the place k. -/
def carry (a b k : Nat) : Bool := decide (2 ^ k ≤ a % 2 ^ k + b % 2 ^ k)
theorem carry_zero (a b : Nat) : carry a b 0 = false := by simp [carry, Nat.mod_one]
theorem add_step (a b k : Nat) : (a + b).testBit k = (a.testBit k ^^ b.testBit k ^^ carry a b k) ∧
    carry a b (k + 1) = (a.testBit k && b.testBit k || a.testBit k && carry a b k || b.testBit k && carry a b k) := by
  have hp : 0 < 2 ^ k := Nat.two_pow_pos k
  have ha := Nat.mod_lt a hp
  have hb := Nat.mod_lt b hp
  have e : (a + b) / 2 ^ k = a / 2 ^ k + b / 2 ^ k + if 2 ^ k ≤ a % 2 ^ k + b % 2 ^ k then 1 else 0 := Nat.add_div hp
  constructor
  · rw [bit_eq, bit_eq a, bit_eq b, e, carry]
    generalize a / 2 ^ k = x
    generalize b / 2 ^ k = y
    have hx : x % 2 = 0 ∨ x % 2 = 1 := by omega
    have hy : y % 2 = 0 ∨ y % 2 = 1 := by omega
    by_cases hc : 2 ^ k ≤ a % 2 ^ k + b % 2 ^ k <;> rcases hx with hx | hx <;> rcases hy with hy | hy <;> simp [hc, hx, hy] <;> omega
  · unfold carry
    rw [low_succ a k, low_succ b k, Nat.pow_succ]
    generalize a % 2 ^ k = x at *
    generalize b % 2 ^ k = y at *
    generalize 2 ^ k = p at *
    cases a.testBit k <;> cases b.testBit k <;> simp <;> omega
/-- The bits below k alone. -/
def below (f : Nat → Bool) (k : Nat) : Nat → Bool := fun j => decide (j < k) && f j
theorem NCf_below_set (f : Nat → Bool) (s : Bool) (k : Nat) (v : Bool) (h : k < 136) (hv : v = f k) :
    (NCf (below f k) s).setIfInBounds k (.bool v) = NCf (below f (k + 1)) s := by
  subst hv
  rw [NCf_set _ _ _ _ h]
  apply NCf_congr
  intro j _
  unfold below
  by_cases e : j = k
  · subst e; simp
  · rw [if_neg e]
    by_cases h1 : j < k
    · simp [h1, show j < k + 1 by omega]
    · simp [h1, show ¬ j < k + 1 by omega]
theorem NCf_below_zero (f : Nat → Bool) (s : Bool) : NCf (below f 0) s = NC 0 s := by
  apply NCf_congr; intro j _; simp [below]
theorem NCf_below_all (m : Nat) (s : Bool) : NCf (below m.testBit 136) s = NC m s := by
  apply NCf_congr; intro j hj; simp [below, hj]
/-- The borrow from the place k. -/
theorem sub_step (a b k : Nat) (h : b ≤ a) : (a - b).testBit k = (a.testBit k ^^ b.testBit k ^^ carry b (a - b) k) ∧
    carry b (a - b) (k + 1) = (!a.testBit k && b.testBit k || !a.testBit k && carry b (a - b) k || b.testBit k && carry b (a - b) k) := by
  have ⟨h1, h2⟩ := add_step b (a - b) k
  rw [show b + (a - b) = a by omega] at h1
  rw [h2, h1]
  cases b.testBit k <;> cases (a - b).testBit k <;> cases carry b (a - b) k <;> simp
def b2i : Bool → Int | true => 1 | false => 0

theorem div_succ (a j : Nat) : a / 2 ^ (j + 1) = a / 2 ^ j / 2 := by rw [Nat.pow_succ, Nat.div_div_eq_div_mul]
theorem top_step (a b j : Nat) (h : a / 2 ^ (j + 1) = b / 2 ^ (j + 1)) :
    (a.testBit j = b.testBit j → a / 2 ^ j = b / 2 ^ j) ∧ (a.testBit j ≠ b.testBit j → (a < b ↔ b.testBit j = true)) := by
  rw [div_succ, div_succ] at h
  rw [bit_eq, bit_eq]
  have hp : 0 < 2 ^ j := Nat.two_pow_pos j
  constructor
  · intro e
    simp only [decide_eq_decide] at e
    omega
  · intro e
    simp only [ne_eq, decide_eq_decide, decide_eq_true_eq] at e ⊢
    constructor
    · intro hl
      have := Nat.div_le_div_right (c := 2 ^ j) (Nat.le_of_lt hl)
      omega
    · intro hb
      have h1 : a / 2 ^ j < b / 2 ^ j := by omega
      rcases Nat.lt_or_ge a b with h2 | h2
      · exact h2
      · have := Nat.div_le_div_right (c := 2 ^ j) h2; omega
theorem top_start (a b : Nat) (ha : a < 2 ^ 136) (hb : b < 2 ^ 136) : a / 2 ^ 136 = b / 2 ^ 136 := by
  rw [Nat.div_eq_of_lt ha, Nat.div_eq_of_lt hb]
def up (f : Nat → Bool) (k : Nat) : Nat → Bool := fun j => if k < j then f (j - 1) else f j
theorem up_set (f : Nat → Bool) (s : Bool) (k : Nat) (hk : k + 1 < 136) (v : Bool) (hv : v = f k) : (NCf (up f (k + 1)) s).setIfInBounds (k + 1) (.bool v) = NCf (up f k) s := by
  subst hv
  rw [NCf_set _ _ _ _ hk]
  apply NCf_congr
  intro j _
  unfold up
  by_cases e : j = k + 1
  · subst e; simp
  · rw [if_neg e]
    by_cases h1 : k + 1 < j
    · rw [if_pos h1, if_pos (by omega)]
    · rw [if_neg h1, if_neg (by omega)]
theorem up_start (m : Nat) (s : Bool) : NCf (up m.testBit 135) s = NC m s := by
  apply NCf_congr; intro j hj; simp [up, show ¬ 135 < j by omega]
theorem two_bit (m j : Nat) : (2 * m).testBit j = if j = 0 then false else m.testBit (j - 1) := by
  cases j with
  | zero => simp
  | succ j => simp [bit_eq, div_succ, show 2 * m / 2 ^ j / 2 = m / 2 ^ j by rw [← div_succ, Nat.pow_succ, Nat.mul_comm (2 ^ j) 2, Nat.mul_div_mul_left _ _ (by omega)]]
theorem up_end (m : Nat) (s : Bool) : (NCf (up m.testBit 0) s).setIfInBounds 0 (.bool false) = NC (2 * m) s := by
  rw [NCf_set _ _ _ _ (by omega)]
  apply NCf_congr
  intro j _
  rw [two_bit]
  by_cases e : j = 0
  · simp [e]
  · rw [if_neg e, if_neg e]; simp [up, show 0 < j by omega]
theorem setBit0 (m : Nat) (s v : Bool) : (NC (2 * m) s).setIfInBounds 0 (.bool v) = NC (2 * m + if v then 1 else 0) s := by
  unfold NC
  rw [NCf_set _ _ _ _ (by omega)]
  apply NCf_congr
  intro j _
  by_cases e : j = 0
  · subst e; cases v <;> simp [bit_eq] <;> omega
  · rw [if_neg e, bit_eq, bit_eq]
    obtain ⟨i, rfl⟩ : ∃ i, j = i + 1 := ⟨j - 1, by omega⟩
    have hp : 2 ^ (i + 1) = 2 * 2 ^ i := by rw [Nat.pow_succ, Nat.mul_comm]
    rw [hp, ← Nat.div_div_eq_div_mul, ← Nat.div_div_eq_div_mul]
    have : 2 * m / 2 = (2 * m + if v = true then 1 else 0) / 2 := by cases v <;> simp <;> omega
    rw [this]
theorem of_all (m : Nat) (s : Bool) (h : m < 2 ^ 64) : NCf (below m.testBit 64) s = NC m s := by
  apply NCf_congr
  intro j _
  unfold below
  by_cases e : j < 64
  · simp [e]
  · rw [Nat.testBit_lt_two_pow (Nat.lt_of_lt_of_le h (Nat.pow_le_pow_right (by omega) (by omega)))]; simp
attribute [irreducible] NCf NC
/-- A number of 64 bits, with its sign. -/
def InR (x : Int) : Prop := -9223372036854775808 ≤ x ∧ x ≤ 9223372036854775807
/-- What is told of a whole number: it, or ErrBig. -/
def tv (x : Int) : Int := if -9223372036854775808 ≤ x ∧ x ≤ 9223372036854775807 then x else 0
def te (x : Int) : Int := if -9223372036854775808 ≤ x ∧ x ≤ 9223372036854775807 then 0 else 10
theorem tv_in {x : Int} (h : InR x) : tv x = x := if_pos h
theorem te_in {x : Int} (h : InR x) : te x = 0 := if_pos h
theorem tv_out {x : Int} (h : ¬ InR x) : tv x = 0 := if_neg h
theorem te_out {x : Int} (h : ¬ InR x) : te x = 10 := if_neg h
theorem ret_bool {a b : Bool} (h : a = b) : Ending.returned (.bool a) = .returned (.bool b) := by rw [h]
theorem heap_last {w : World} {o : Obj} {n : Nat} (h : n = w.heap.size) : (w.alloc o).heap[n]? = some o := by subst h; exact heap_alloc_new w o
theorem heap_prev {w : World} {o p : Obj} {n : Nat} (h : n < w.heap.size) (hp : w.heap[n]? = some p) : (w.alloc o).heap[n]? = some p := (heap_alloc_old (w := w) (o := o) h).trans hp
theorem drew_heap {w : World} {g : Nat} {p : Obj} (h : w.heap[g]? = some p) : w.drew.heap[g]? = some p := h
theorem cell_heap {w : World} {g j : Nat} {cs : Array Value} {t : TypeId} {v : Value} (h : w.heap[g]? = some (.cells cs t (0, 0))) (hv : cs[j]? = some v) : w.cell? ⟨g, j, none⟩ = some v := by
  rw [cell_of_row w g j cs t (0, 0) h]; exact hv
end Go.Proofs.Ytdjbnnjcifgnlaa
