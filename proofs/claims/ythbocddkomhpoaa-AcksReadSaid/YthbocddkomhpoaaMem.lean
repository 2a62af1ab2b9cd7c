/- Memory, in words for the walks: blocks, frames, slices of bytes that came in or were made. -/
import Derived.Test.YthbocddkomhpoaaRows
import Derived.WalkKit
import Derived.Laws.Bits64b
import Derived.Test.YthbocddkomhpoaaProg
import Derived.Test.YthbocddkomhpoaaChecked
import Derived.WalkSpells
import Derived.WalkLawsBesides
import Derived.Handy
import Derived.BigQuiet
import Derived.Deep.QuietTactic
import Derived.Maps.AppendAt
import Derived.Deep.Draws
import Derived.Lib.IndexBytes
import Derived.OwnWalk
import Derived.Deep.RegionHeld3
import Derived.Deep.RegionLaw
import Derived.Deep.AppendLies
import Derived.Lib.ConvBytes
import Derived.Lib.Hide
namespace Go.Proofs.Ythbocddkomhpoaa
open Go.RowKit

/-- Bytes as a string. -/
abbrev Str (l : List UInt8) : Value := .string ⟨l.toArray⟩
theorem blk_lt {w : World} {g : Nat} {o : Obj} (h : w.heap[g]? = some o) : g < w.heap.size := by
  rcases Nat.lt_or_ge g w.heap.size with h' | h'
  · exact h'
  · rw [Array.getElem?_eq_none h'] at h; cases h
theorem heap_set {w : World} {g k : Nat} {v : Value} {cs : Array Value} {t : TypeId} (h : w.heap[g]? = some (.cells cs t (0, 0))) : (w.setCell ⟨g, k, none⟩ v).heap[g]? = some (.cells (cs.setIfInBounds k v) t (0, 0)) :=
  heap_setCell_same _ _ _ _ _ _ h
theorem heap_far {w : World} {a : Addr} {v : Value} {k : Nat} (h : k ≠ a.block) : (w.setCell a v).heap[k]? = w.heap[k]? := Below.heap_setCell w a v k h
/-- Only block g, and what is new, has turned. -/
def Tch (g : Nat) (w w' : World) : Prop := w.grownBy w' (some g)
theorem Tch.refl (g : Nat) (w : World) : Tch g w w := World.grownBy.refl _ _
theorem Tch.trans {g : Nat} {a b c : World} (h : Tch g a b) (k : Tch g b c) : Tch g a c := World.grownBy.trans h k
theorem Tch.drew {g : Nat} {a b : World} (h : Tch g a b) : Tch g a b.drew := ⟨h.os, h.tape, h.output, h.size, h.block⟩
theorem Tch.drewN {g : Nat} {a b : World} (h : Tch g a b) (n : Nat) : Tch g a (b.drewN n) := ⟨h.os, h.tape, h.output, h.size, h.block⟩
theorem Tch.alloc {g : Nat} {a b : World} (h : Tch g a b) (o : Obj) : Tch g a (b.alloc o) := h.trans (World.grownBy_alloc b o _)
theorem Tch.set {g : Nat} {a b : World} (h : Tch g a b) (k : Nat) (v : Value) : Tch g a (b.setCell ⟨g, k, none⟩ v) :=
  h.trans ⟨rfl, rfl, rfl, by simp [World.setCell], fun i _ hne => heap_far (a := ⟨g, k, none⟩) (fun e => hne (by rw [e]))⟩
theorem Tch.size {g : Nat} {a b : World} (h : Tch g a b) : a.heap.size ≤ b.heap.size := World.grownBy.size h
theorem Tch.blk {g k : Nat} {a b : World} {o : Obj} (h : Tch g a b) (ho : a.heap[k]? = some o) (hne : k ≠ g) : b.heap[k]? = some o :=
  (World.grownBy.block h k (blk_lt ho) (fun e => hne (by injection e))).trans ho
theorem Tch.below {g B : Nat} {a b : World} (h : Tch g a b) (hB : B ≤ g) (hs : B ≤ a.heap.size) : Below B a b :=
  ⟨World.grownBy.os h, World.grownBy.tape h, World.grownBy.output h, h.size, fun k hk => World.grownBy.block h k (by omega) (fun e => by injection e; omega)⟩
theorem Tch.of_alloc {g : Nat} {a b : World} {o : Obj} (h : Tch g (a.alloc o) b) : Tch g a b := (World.grownBy_alloc a o (some g)).trans h
theorem ofNat_toNat {n : Nat} (h : n < 256) : (UInt8.ofNat n).toNat = n := by simp [UInt8.toNat_ofNat', Nat.mod_eq_of_lt h]
/-- A byte as a cell. -/
def byt (b : UInt8) : Value := .int .u8 (b.toNat : Int)
theorem byt_one (l : List UInt8) : ∀ u ∈ l.map byt, u.oneCell' = true := by
  intro u hu
  obtain ⟨b, _, rfl⟩ := List.mem_map.1 hu
  rfl
theorem info_u8 : (Try.prog.info? 5).map (fun i => (i.zero, i.size, i.bytes)) = some (some (.int .u8 0), 1, 1) := by kernel_rfl
/-- Only blocks of S, and what is new, have turned. -/
structure Fr (S : Nat → Prop) (w w' : World) : Prop where
  os : w'.os = w.os
  tape : w'.tape = w.tape
  output : w'.output = w.output
  size : w.heap.size ≤ w'.heap.size
  block : ∀ k, k < w.heap.size → ¬ S k → w'.heap[k]? = w.heap[k]?
theorem Fr.refl (S : Nat → Prop) (w : World) : Fr S w w := ⟨rfl, rfl, rfl, Nat.le_refl _, fun _ _ _ => rfl⟩
theorem Fr.trans {S S' : Nat → Prop} {a b c : World} (h : Fr S a b) (k : Fr S' b c) (hs : ∀ k, S' k → S k ∨ a.heap.size ≤ k) : Fr S a c :=
  ⟨k.os.trans h.os, k.tape.trans h.tape, k.output.trans h.output, Nat.le_trans h.size k.size, fun i hi hn =>
    (k.block i (Nat.lt_of_lt_of_le hi h.size) (fun hS => by rcases hs i hS with h1 | h1; exact hn h1; omega)).trans (h.block i hi hn)⟩
theorem Fr.drew {S : Nat → Prop} {a b : World} (h : Fr S a b) : Fr S a b.drew := ⟨h.os, h.tape, h.output, h.size, h.block⟩
theorem Fr.drewN {S : Nat → Prop} {a b : World} (h : Fr S a b) (n : Nat) : Fr S a (b.drewN n) := ⟨h.os, h.tape, h.output, h.size, h.block⟩
theorem Fr.alloc {S : Nat → Prop} {a b : World} (h : Fr S a b) (o : Obj) : Fr S a (b.alloc o) :=
  ⟨h.os, h.tape, h.output, Nat.le_trans h.size (by simp), fun k hk hn => (Below.heap_alloc b o k (Nat.lt_of_lt_of_le hk h.size)).trans (h.block k hk hn)⟩
theorem Fr.set {S : Nat → Prop} {a b : World} (h : Fr S a b) {p : Addr} (hp : S p.block ∨ a.heap.size ≤ p.block) (v : Value) : Fr S a (b.setCell p v) :=
  ⟨h.os, h.tape, h.output, by simpa [World.setCell] using h.size, fun k hk hn => (heap_far (fun e => by rcases hp with h1 | h1; exact hn (e ▸ h1); omega)).trans (h.block k hk hn)⟩
theorem Fr.grown {S : Nat → Prop} {a b c : World} {row : Option Nat} (h : Fr S a b) (k : b.grownBy c row) (hr : ∀ j, row = some j → S j ∨ a.heap.size ≤ j) : Fr S a c :=
  ⟨k.os.trans h.os, k.tape.trans h.tape, k.output.trans h.output, Nat.le_trans h.size k.size, fun i hi hn =>
    (k.block i (Nat.lt_of_lt_of_le hi h.size) (fun e => by rcases hr i e.symm with h1 | h1; exact hn h1; omega)).trans (h.block i hi hn)⟩
theorem Fr.below {S : Nat → Prop} {B : Nat} {a b : World} (h : Fr S a b) (hS : ∀ k, S k → B ≤ k) (hB : B ≤ a.heap.size) : Below B a b :=
  ⟨h.os, h.tape, h.output, h.size, fun k hk => h.block k (by omega) (fun hk' => by have := hS k hk'; omega)⟩
theorem Fr.of_below {S : Nat → Prop} {a b : World} (h : Below a.heap.size a b) : Fr S a b := ⟨h.os, h.tape, h.output, h.size, fun k hk _ => h.block k hk⟩
theorem Fr.mono {S S' : Nat → Prop} {a b : World} (h : Fr S a b) (hs : ∀ k, S k → S' k ∨ a.heap.size ≤ k) : Fr S' a b := (Fr.refl S' a).trans h hs
theorem Fr.tch {g : Nat} {a b : World} (h : Tch g a b) : Fr (· = g) a b := ⟨h.os, h.tape, h.output, h.size, fun k hk hn => World.grownBy.block h k hk (fun e => hn (by injection e))⟩
theorem Fr.blk {S : Nat → Prop} {a b : World} {k : Nat} {o : Obj} (h : Fr S a b) (ho : a.heap[k]? = some o) (hn : ¬ S k) : b.heap[k]? = some o := (h.block k (blk_lt ho) hn).trans ho
/-- A slice that reads as bytes. -/
def SlB (w : World) (A : Option Addr) (n : Nat) (l : List UInt8) : Prop :=
  l.length = n ∧ (n = 0 ∨ ∃ b off, A = some ⟨b, off, none⟩ ∧ b < w.heap.size ∧ ∀ i, i < n → w.cell? ⟨b, off + i, none⟩ = some (byt (l.getD i 0)))
theorem addr_add (b off j : Nat) : (⟨b, off, none⟩ : Addr).add j = ⟨b, off + j, none⟩ := by unfold Addr.add; split <;> simp_all
theorem SlB.news {w : World} {b off n : Nat} {l : List UInt8} (hl : l.length = n) (h : ∀ i, i < n → w.cell? ⟨b, off + i, none⟩ = some (byt (l.getD i 0))) :
    ∀ (j : Nat) (u : Value), (l.map byt)[j]? = some u → w.cell? ((⟨b, off, none⟩ : Addr).add j) = some u := by
  intro j u hu
  rw [List.getElem?_map, Option.map_eq_some_iff] at hu
  obtain ⟨x, hx, rfl⟩ := hu
  have hj := (List.getElem?_eq_some_iff.1 hx).1
  rw [addr_add, h j (by omega)]
  rw [List.getD_eq_getElem?_getD, hx]; rfl
theorem SlB.fr {S : Nat → Prop} {w w' : World} {A : Option Addr} {n : Nat} {l : List UInt8} (h : SlB w A n l) (hf : Fr S w w') (hn : ∀ b off, A = some ⟨b, off, none⟩ → ¬ S b) : SlB w' A n l := by
  refine ⟨h.1, ?_⟩
  rcases h.2 with h0 | ⟨b, off, rfl, hb, hc⟩
  · exact .inl h0
  · refine .inr ⟨b, off, rfl, Nat.lt_of_lt_of_le hb hf.size, fun i hi => ?_⟩
    rw [World.cell?_of_block (w := w) (hf.block b hb (hn b off rfl))]
    exact hc i hi
theorem own_ne {w : World} {base g n size : Nat} {e t : TypeId} {v : Value} {xs : List Value} {cs : Array Value} (h : w.ownsRow base e size v n xs) (hg : w.heap[g]? = some (.cells cs t (0, 0))) (hne : e ≠ t) : v.ownBlock ≠ some g := by
  rcases h.2 with ⟨rfl, _⟩ | ⟨k, cap, cur, rfl, _, hk, _⟩
  · simp [Value.ownBlock]
  · intro he
    simp [Value.ownBlock] at he
    subst he
    rw [hk] at hg
    injection hg with hg
    injection hg with _ hg
    exact hne hg
theorem blk_ne {w : World} {g g' : Nat} {e t : TypeId} {cs cs' : Array Value} (h : w.heap[g]? = some (.cells cs e (0, 0))) (h' : w.heap[g']? = some (.cells cs' t (0, 0))) (hne : e ≠ t) : g ≠ g' := by
  rintro rfl
  rw [h] at h'
  injection h' with h'
  injection h' with _ h'
  exact hne h'
/-- A row of the call's own reads as bytes; it lies at no block that was there. -/
theorem own_slb {w : World} {base n : Nat} {v : Value} {l : List UInt8} (h : w.ownsRow base 5 1 v n (l.map byt)) (hn : 0 < n) :
    ∃ k cap, v = .slice (some ⟨k, 0, none⟩) n cap ∧ base ≤ k ∧ k < w.heap.size ∧ SlB w (some ⟨k, 0, none⟩) n l := by
  obtain ⟨h1, h2⟩ := h
  rw [List.length_map, Nat.mul_one] at h1
  rcases h2 with ⟨_, h0⟩ | ⟨k, cap, cur, rfl, hb, hk, hc, hm, hs, ht⟩
  · omega
  · refine ⟨k, cap, rfl, hb, blk_lt hk, h1, .inr ⟨k, 0, rfl, blk_lt hk, fun i hi => ?_⟩⟩
    have hx : (l.map byt)[i]? = some (byt (l.getD i 0)) := by
      rw [List.getElem?_map, List.getD_eq_getElem?_getD, List.getElem?_eq_getElem (by omega)]; rfl
    rw [Nat.zero_add, cell_of_row _ _ _ _ _ _ hk]
    rw [← ht, List.getElem?_take] at hx
    split at hx
    · rw [Array.getElem?_toList] at hx; exact hx
    · cases hx
/-- 'string(b)' of a slice that reads as bytes. -/
theorem conv_str {w : World} {A : Option Addr} {n c : Nat} {l : List UInt8} (h : SlB w A n l) : (convert 53 9 (.slice A n c)).run Try.prog w = .ok (Str l) w := by
  obtain ⟨hl, h2⟩ := h
  rcases h2 with h0 | ⟨b, off, rfl, _, hc⟩
  · subst h0
    have : l = [] := List.eq_nil_of_length_eq_zero hl
    subst this
    rw [run_convert_bytes_string w 53 9 5 A 0 c Try.underlying53 Try.underlying5 Try.underlying9]
    have h1 : ∀ a : Addr, (loadCells a 0).run Try.prog w = .ok #[] w := fun a => run_loadCells_list (P := Try.prog) w a [] (fun j v h => by simp at h)
    cases A <;> simp [Conv.bytesToString, h1]
    all_goals rfl
  · subst hl
    exact run_convert_bytes_back (P := Try.prog) w 53 9 5 ⟨b, off, none⟩ c l Try.underlying53 Try.underlying5 Try.underlying9 (fun j hj => by
      rw [addr_add, hc j hj, List.getD_eq_getElem?_getD, List.getElem?_eq_getElem hj]; rfl)
/-- A row of the call's own, read as bytes, empty or not. -/
theorem own_slb0 {w : World} {base n c : Nat} {A : Option Addr} {l : List UInt8} (h : w.ownsRow base 5 1 (.slice A n c) n (l.map byt)) : SlB w A n l := by
  rcases Nat.eq_zero_or_pos n with h0 | h0
  · subst h0
    have h1 := h.1
    exact ⟨by simpa using h1, .inl rfl⟩
  · obtain ⟨k, cap, hv, _, _, hs⟩ := own_slb h h0
    injection hv with h1 _ _
    rw [h1]; exact hs
/-- A slice of bytes that came in. -/
theorem slB_of_row {w : World} {a : Option Addr} {len cap : Nat} {zs : List Int} (h : (a = none ∧ len = 0 ∧ cap = 0 ∧ zs = []) ∨
    ∃ x, a = some x ∧ len ≤ cap ∧ cap ≤ maxLen ∧ zs.length = cap ∧ (∀ i, i < zs.length → w.cell? (x.add i) = some (.int .u8 (zs.getD i 0))) ∧ ∀ n ∈ zs, (Lit.int .u8 n).wf = true) : ∃ l, SlB w a len l := by
  rcases h with ⟨rfl, rfl, _, _⟩ | ⟨x, rfl, hl, _, hz, hc, hwf⟩
  · exact ⟨[], rfl, .inl rfl⟩
  · by_cases h0 : len = 0
    · subst h0; exact ⟨[], rfl, .inl rfl⟩
    · obtain ⟨b, off, rfl, hc'⟩ := ints_at hc (by omega)
      refine ⟨(zs.take len).map fun z => UInt8.ofNat z.toNat, by simp; omega, .inr ⟨b, off, rfl, ?_, fun i hi => ?_⟩⟩
      · exact World.block_lt_of_cell? w ⟨b, off + 0, none⟩ (hc' 0 (by omega))
      · rw [hc' i (by omega)]
        have hmem : zs.getD i 0 ∈ zs := by
          rw [List.getD_eq_getElem?_getD, List.getElem?_eq_getElem (by omega)]; exact List.getElem_mem _
        have hb := bounds_u8 (hwf _ hmem)
        have e : ((zs.take len).map fun z => UInt8.ofNat z.toNat).getD i 0 = UInt8.ofNat (zs.getD i 0).toNat := by
          simp only [List.getD_eq_getElem?_getD, List.getElem?_map, List.getElem?_take, if_pos hi]
          rw [List.getElem?_eq_getElem (show i < zs.length by omega)]
          rfl
        rw [e]
        unfold byt
        rw [ofNat_toNat (by omega)]
        congr 2
        omega
theorem SlB.drop {w : World} {A : Option Addr} {n : Nat} {l : List UInt8} (h : SlB w A n l) (k : Nat) (hk : k ≤ n) : SlB w (A.map (·.add k)) (n - k) (l.drop k) := by
  obtain ⟨hl, h2⟩ := h
  refine ⟨by simp; omega, ?_⟩
  rcases h2 with h0 | ⟨b, off, rfl, hb, hc⟩
  · exact .inl (by omega)
  · refine .inr ⟨b, off + k, by simp [addr_add], hb, fun i hi => ?_⟩
    have := hc (k + i) (by omega)
    rw [show off + k + i = off + (k + i) by omega, this]
    simp [List.getD_eq_getElem?_getD, List.getElem?_drop]
theorem SlB.fr0 {S : Nat → Prop} {w w' : World} {A : Option Addr} {n : Nat} {l : List UInt8} (h : SlB w A n l) (hf : Fr S w w') (hn : ∀ a, A = some a → 0 < n → ¬ S a.block) : SlB w' A n l := by
  by_cases h0 : n = 0
  · exact ⟨h.1, .inl h0⟩
  · exact h.fr hf (fun b off e => hn _ e (by omega))
theorem SlB.take {w : World} {A : Option Addr} {n : Nat} {l : List UInt8} (h : SlB w A n l) (k : Nat) (hk : k ≤ n) : SlB w A k (l.take k) := by
  obtain ⟨hl, h2⟩ := h
  refine ⟨by simp; omega, ?_⟩
  rcases h2 with h0 | ⟨b, off, rfl, hb, hc⟩
  · exact .inl (by omega)
  · refine .inr ⟨b, off, rfl, hb, fun i hi => ?_⟩
    rw [hc i (by omega)]
    simp [List.getD_eq_getElem?_getD, hi]
theorem own_fr {S : Nat → Prop} {w w' : World} {base n : Nat} {v : Value} {xs : List Value} {e : TypeId} {size : Nat} (h : w.ownsRow base e size v n xs) (hf : Fr S w w') (hv : ∀ k, v.ownBlock = some k → ¬ S k) : w'.ownsRow base e size v n xs := by
  obtain ⟨h1, h2⟩ := h
  refine ⟨h1, ?_⟩
  rcases h2 with hn | ⟨k, cap, cur, rfl, hb, hk, rest⟩
  · exact .inl hn
  · exact .inr ⟨k, cap, cur, rfl, hb, hf.blk hk (hv k rfl), rest⟩
theorem own_lt {w : World} {base n : Nat} {v : Value} {xs : List Value} {e : TypeId} {size : Nat} (h : w.ownsRow base e size v n xs) : ∀ k, v.ownBlock = some k → base ≤ k ∧ k < w.heap.size := h.lt

/-- A box: a cell alone. -/
def Bx (T : TypeId) (w : World) (c : Nat) (v : Value) : Prop := w.heap[c]? = some (.cells #[v] T (0, 0))
theorem Bx.c0 {T : TypeId} {w : World} {c : Nat} {v : Value} (h : Bx T w c v) : w.cell? ⟨c, 0, none⟩ = some v := by rw [cell_of_row _ _ _ _ _ _ h]; rfl
theorem Bx.f0 {T : TypeId} {w : World} {c : Nat} {v : Value} (h : Bx T w c v) : w.frozen? ⟨c, 0, none⟩ = false := frozen_of_row _ _ _ _ _ h
theorem Bx.set {T : TypeId} {w : World} {c : Nat} {v : Value} (h : Bx T w c v) (u : Value) : Bx T (w.setCell ⟨c, 0, none⟩ u) c u := by unfold Bx at h ⊢; rw [heap_set h]; rfl
theorem Bx.alloc {T : TypeId} {w : World} {c : Nat} {v : Value} (h : Bx T w c v) (o : Obj) : Bx T (w.alloc o) c v := (Below.heap_alloc w o c (blk_lt h)).trans h
/-- What a call leaves that only makes memory. -/
def Got (w : World) (v : Value) (e : Ending) (w' : World) : Prop := e = .returned v ∧ Below w.heap.size w w'

end Go.Proofs.Ythbocddkomhpoaa
