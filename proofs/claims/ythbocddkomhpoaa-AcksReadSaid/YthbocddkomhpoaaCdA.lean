/- XCodP, XCodA, XCodB, XCodC, XCodD, XCodE, XCodF, XCodG, in one text. (By mkmerge.py.) -/
import Derived.Test.YthbocddkomhpoaaRows
import Derived.WalkKit
import Derived.Lib.Hide
import Derived.Laws.Bits64b
import Derived.Test.YthbocddkomhpoaaProg
import Derived.Test.YthbocddkomhpoaaChecked
import Derived.WalkSpells
import Derived.WalkLawsBesides
import Derived.Handy
import Derived.BigQuiet
import Derived.Deep.QuietTactic
import Derived.Maps.AppendAt
import Derived.Deep.Draws
import Derived.Lib.IndexBytes
import Derived.Deep.DeepCutAuto
import Derived.Deep.CutBlock
import Derived.OwnWalk
import Derived.Deep.RegionHeld3
import Derived.Deep.AppendLies
import Derived.Lib.ConvBytes
import Derived.Deep.RegionLaw

/- Numbers as bytes, in plain words: written, and read. No program. -/
namespace Go.Proofs.Ythbocddkomhpoaa.Co

/-- A natural number's bytes. -/
def natB (n : Nat) : List UInt8 := if n < 128 then [UInt8.ofNat n] else UInt8.ofNat (n % 128 + 128) :: natB (n / 128)
termination_by n
decreasing_by omega

theorem natB_small {n : Nat} (h : n < 128) : natB n = [UInt8.ofNat n] := by rw [natB, if_pos h]
theorem natB_big {n : Nat} (h : 128 ≤ n) : natB n = UInt8.ofNat (n % 128 + 128) :: natB (n / 128) := by rw [natB, if_neg (by omega)]

/-- What is read from the place i on, n having been read: the number, and what is left. -/
def natAt : Nat → Nat → List UInt8 → Option (Nat × List UInt8)
  | _, _, [] => none
  | i, n, b :: t =>
    if i = 9 ∧ 1 < b.toNat then none
    else if b.toNat < 128 then (if b.toNat = 0 ∧ i ≠ 0 then none else some (n + b.toNat % 128 * 128 ^ i, t))
    else natAt (i + 1) (n + b.toNat % 128 * 128 ^ i) t

/-- A number that is not above most. -/
def readNat (l : List UInt8) (most : Nat) : Option (Nat × List UInt8) :=
  match natAt 0 0 l with
  | some (n, t) => if n ≤ most then some (n, t) else none
  | none => none

theorem natAt_nil (i n : Nat) : natAt i n [] = none := rfl
theorem natAt_over {i n : Nat} {b : UInt8} {t : List UInt8} (h : i = 9 ∧ 1 < b.toNat) : natAt i n (b :: t) = none := by rw [natAt, if_pos h]
theorem natAt_last {i n : Nat} {b : UInt8} {t : List UInt8} (h : ¬ (i = 9 ∧ 1 < b.toNat)) (hb : b.toNat < 128) (h0 : ¬ (b.toNat = 0 ∧ i ≠ 0)) : natAt i n (b :: t) = some (n + b.toNat * 128 ^ i, t) := by
  rw [natAt, if_neg h, if_pos hb, if_neg h0, Nat.mod_eq_of_lt hb]
theorem natAt_long {i n : Nat} {b : UInt8} {t : List UInt8} (h : ¬ (i = 9 ∧ 1 < b.toNat)) (hb : b.toNat < 128) (h0 : b.toNat = 0 ∧ i ≠ 0) : natAt i n (b :: t) = none := by
  rw [natAt, if_neg h, if_pos hb, if_pos h0]
theorem natAt_more {i n : Nat} {b : UInt8} {t : List UInt8} (h : ¬ (i = 9 ∧ 1 < b.toNat)) (hb : 128 ≤ b.toNat) : natAt i n (b :: t) = natAt (i + 1) (n + (b.toNat - 128) * 128 ^ i) t := by
  have hlt := b.toNat_lt
  rw [natAt, if_neg h, if_neg (by omega), show b.toNat % 128 = b.toNat - 128 by omega]

theorem natAt_bound : ∀ (l : List UInt8) (i n : Nat), i ≤ 9 → n < 128 ^ i → ∀ m t, natAt i n l = some (m, t) → m < 2 ^ 64 ∧ t.length < l.length
  | [], _, _, _, _, _, _, h => by cases h
  | b :: l, i, n, hi, hn, m, t, h => by
    have hlt := b.toNat_lt
    by_cases h9 : i = 9 ∧ 1 < b.toNat
    · rw [natAt_over h9] at h; cases h
    · have hpow : ∀ k, b.toNat ≤ k → n + b.toNat * 128 ^ i < (k + 1) * 128 ^ i := fun k hk => by
        have := Nat.mul_le_mul_right (128 ^ i) hk
        rw [Nat.succ_mul]; omega
      by_cases hb : b.toNat < 128
      · by_cases h0 : b.toNat = 0 ∧ i ≠ 0
        · rw [natAt_long h9 hb h0] at h; cases h
        · rw [natAt_last h9 hb h0] at h
          injection h with h; injection h with h1 h2
          subst h1; subst h2
          refine ⟨?_, by simp⟩
          by_cases h10 : i = 9
          · subst h10
            have := hpow 1 (by omega)
            have e : (1 + 1) * 128 ^ 9 = 2 ^ 64 := by decide
            omega
          · have h2 := hpow 127 (by omega)
            have e : (127 + 1) * 128 ^ i = 128 ^ (i + 1) := by rw [Nat.pow_succ, Nat.mul_comm]
            have : 128 ^ (i + 1) ≤ 128 ^ 9 := Nat.pow_le_pow_right (by omega) (by omega)
            have e2 : 128 ^ 9 ≤ 2 ^ 64 := by decide
            omega
      · rw [natAt_more h9 (by omega)] at h
        have h2 := natAt_bound l (i + 1) _ (by omega) (by
          have : (b.toNat - 128) * 128 ^ i ≤ 127 * 128 ^ i := Nat.mul_le_mul_right _ (by omega)
          rw [Nat.pow_succ]; omega) m t h
        exact ⟨h2.1, by have := h2.2; simp; omega⟩

theorem readNat_bound {l : List UInt8} {most n : Nat} {t : List UInt8} (h : readNat l most = some (n, t)) : n ≤ most ∧ n < 2 ^ 64 ∧ t.length < l.length := by
  unfold readNat at h
  cases e : natAt 0 0 l with
  | none => rw [e] at h; cases h
  | some p =>
    obtain ⟨m, u⟩ := p
    rw [e] at h
    simp only at h
    split at h
    · injection h with h; injection h with h1 h2
      subst h1; subst h2
      have := natAt_bound l 0 0 (by omega) (by simp) _ _ e
      exact ⟨by assumption, this.1, this.2⟩
    · cases h

theorem ofNat_toNat {n : Nat} (h : n < 256) : (UInt8.ofNat n).toNat = n := by simp [UInt8.toNat_ofNat', Nat.mod_eq_of_lt h]

/-- What was written is read, whatever stands behind. -/
theorem natAt_natB : ∀ (n i a : Nat) (t : List UInt8), i ≤ 9 → a < 128 ^ i → (0 < i → 0 < n) → a + n * 128 ^ i < 2 ^ 64 → natAt i a (natB n ++ t) = some (a + n * 128 ^ i, t) := by
  intro n
  induction n using Nat.strongRecOn with
  | ind n ih =>
    intro i a t hi ha h0 hlt
    have h9 : i = 9 → n ≤ 1 := by
      rintro rfl
      have e : 2 ^ 64 = 2 * 128 ^ 9 := by decide
      rw [e] at hlt
      have : n * 128 ^ 9 < 2 * 128 ^ 9 := by omega
      have := Nat.lt_of_mul_lt_mul_right this
      omega
    by_cases hn : n < 128
    · rw [natB_small hn, List.singleton_append]
      have e : (UInt8.ofNat n).toNat = n := ofNat_toNat (by omega)
      rw [natAt_last (by rw [e]; intro h; have := h9 h.1; omega) (by rw [e]; omega) (by rw [e]; intro h; have := h0 (by omega); omega), e]
    · rw [natB_big (by omega), List.cons_append]
      have e : (UInt8.ofNat (n % 128 + 128)).toNat = n % 128 + 128 := ofNat_toNat (by omega)
      have hi9 : i ≠ 9 := fun h => by have := h9 h; omega
      rw [natAt_more (by intro h; exact hi9 h.1) (by rw [e]; omega), e]
      have e2 : n % 128 + 128 - 128 = n % 128 := by omega
      rw [e2]
      have e3 : a + n % 128 * 128 ^ i + n / 128 * 128 ^ (i + 1) = a + n * 128 ^ i := by
        have hd := Nat.div_add_mod n 128
        have : n * 128 ^ i = (128 * (n / 128) + n % 128) * 128 ^ i := by rw [hd]
        rw [this, Nat.add_mul, Nat.pow_succ, Nat.mul_comm 128 (n / 128), Nat.mul_assoc, Nat.mul_comm 128 (128 ^ i)]
        omega
      have ha2 : a + n % 128 * 128 ^ i < 128 ^ (i + 1) := by
        have : n % 128 * 128 ^ i ≤ 127 * 128 ^ i := Nat.mul_le_mul_right _ (by omega)
        rw [Nat.pow_succ]; omega
      rw [ih (n / 128) (by omega) (i + 1) _ t (by omega) ha2 (by intro _; omega) (by rw [e3]; exact hlt), e3]

/-- What is read, written again, is those bytes. -/
theorem natB_natAt : ∀ (l : List UInt8) (i a : Nat) (m : Nat) (t : List UInt8), natAt i a l = some (m, t) → ∃ n, m = a + n * 128 ^ i ∧ l = natB n ++ t ∧ (0 < i → 0 < n)
  | [], _, _, _, _, h => by cases h
  | b :: l, i, a, m, t, h => by
    have hlt := b.toNat_lt
    by_cases h9 : i = 9 ∧ 1 < b.toNat
    · rw [natAt_over h9] at h; cases h
    · by_cases hb : b.toNat < 128
      · by_cases h0 : b.toNat = 0 ∧ i ≠ 0
        · rw [natAt_long h9 hb h0] at h; cases h
        · rw [natAt_last h9 hb h0] at h
          injection h with h; injection h with h1 h2
          subst h1; subst h2
          refine ⟨b.toNat, rfl, ?_, fun hi => ?_⟩
          · rw [natB_small hb, UInt8.ofNat_toNat]; rfl
          · rcases Nat.eq_zero_or_pos b.toNat with h | h
            · exact absurd ⟨h, by omega⟩ h0
            · exact h
      · rw [natAt_more h9 (by omega)] at h
        obtain ⟨n, e1, e2, e3⟩ := natB_natAt l (i + 1) _ m t h
        have hn := e3 (by omega)
        refine ⟨b.toNat - 128 + 128 * n, ?_, ?_, fun _ => by omega⟩
        · rw [e1, Nat.add_mul, Nat.pow_succ, Nat.mul_comm 128 n, Nat.mul_assoc, Nat.mul_comm 128 (128 ^ i)]
          omega
        · rw [natB_big (by omega), show (b.toNat - 128 + 128 * n) / 128 = n by omega, show (b.toNat - 128 + 128 * n) % 128 + 128 = b.toNat by omega, UInt8.ofNat_toNat, List.cons_append, e2]

theorem readNat_natB {n most : Nat} (t : List UInt8) (h : n < 2 ^ 64) (hm : n ≤ most) : readNat (natB n ++ t) most = some (n, t) := by
  have := natAt_natB n 0 0 t (by omega) (by simp) (by omega) (by simpa using h)
  unfold readNat
  rw [this]
  simp [hm]
theorem natB_readNat {l t : List UInt8} {n most : Nat} (h : readNat l most = some (n, t)) : l = natB n ++ t := by
  unfold readNat at h
  cases e : natAt 0 0 l with
  | none => rw [e] at h; cases h
  | some p =>
    obtain ⟨m, u⟩ := p
    rw [e] at h
    simp only at h
    split at h
    · injection h with h; injection h with h1 h2
      subst h1; subst h2
      obtain ⟨n, e1, e2, _⟩ := natB_natAt l 0 0 _ _ e
      have : m = n := by simpa using e1
      rw [this]; exact e2
    · cases h

/-- A group joined to what has been read: in bits, and in numbers. -/
theorem join_or {n c i : Nat} (hi : i ≤ 9) (hn : n < 128 ^ i) (hc : c < 128) (h9 : i = 9 → c ≤ 1) :
    n ||| (c * 2 ^ (7 * i)) % 18446744073709551616 = n + c * 128 ^ i ∧ n + c * 128 ^ i < 18446744073709551616 := by
  have hb : c * 128 ^ i + 128 ^ i ≤ 18446744073709551616 := by
    have e9 : (128 : Nat) ^ 9 = 9223372036854775808 := by decide
    by_cases h : i = 9
    · have h1 := Nat.mul_le_mul_right (128 ^ i) (h9 h)
      have hp : 128 ^ i = 9223372036854775808 := by rw [h]
      clear hn h9 e9
      generalize 128 ^ i = p at *
      omega
    · have h1 := Nat.mul_le_mul_right (128 ^ i) (show c ≤ 127 by omega)
      have h2 : 128 ^ (i + 1) ≤ 128 ^ 9 := Nat.pow_le_pow_right (by omega) (by omega)
      rw [Nat.pow_succ, e9] at h2
      clear hn h9 e9
      generalize 128 ^ i = p at *
      omega
  have e : (2 : Nat) ^ (7 * i) = 128 ^ i := by rw [Nat.pow_mul]
  rw [Nat.mod_eq_of_lt (by rw [e]; have := Nat.pow_pos (n := i) (show 0 < 128 by omega); omega), e]
  refine ⟨?_, by omega⟩
  have hn' : n < 2 ^ (7 * i) := by rw [e]; exact hn
  rw [Nat.or_comm, ← e, Nat.mul_comm c, ← Nat.two_pow_add_eq_or_of_lt hn' c]
  omega
end Go.Proofs.Ythbocddkomhpoaa.Co

/- codec's reader: its state in memory; the closure that tells the next byte; a number. -/
namespace Go.Proofs.Ythbocddkomhpoaa.Co
open Go.RowKit

/-- Bytes as a string. -/
abbrev Str (l : List UInt8) : Value := .string ⟨l.toArray⟩
/-- A reader at block g: what is left; whether it is bad. -/
def RB (w : World) (g : Nat) (l : List UInt8) (bd : Bool) : Prop := w.heap[g]? = some (.cells #[Str l, .bool bd] 73 (0, 0))

theorem blk_lt {w : World} {g : Nat} {o : Obj} (h : w.heap[g]? = some o) : g < w.heap.size := by
  rcases Nat.lt_or_ge g w.heap.size with h' | h'
  · exact h'
  · rw [Array.getElem?_eq_none h'] at h; cases h
theorem RB.lt {w : World} {g : Nat} {l : List UInt8} {bd : Bool} (h : RB w g l bd) : g < w.heap.size := blk_lt h
theorem RB.c0 {w : World} {g : Nat} {l : List UInt8} {bd : Bool} (h : RB w g l bd) : w.cell? ⟨g, 0, none⟩ = some (Str l) := by rw [cell_of_row _ _ _ _ _ _ h]; rfl
theorem RB.c1 {w : World} {g : Nat} {l : List UInt8} {bd : Bool} (h : RB w g l bd) : w.cell? ⟨g, 1, none⟩ = some (.bool bd) := by rw [cell_of_row _ _ _ _ _ _ h]; rfl
theorem RB.f0 {w : World} {g : Nat} {l : List UInt8} {bd : Bool} (h : RB w g l bd) : w.frozen? ⟨g, 0, none⟩ = false := frozen_of_row _ _ _ _ _ h
theorem RB.f1 {w : World} {g : Nat} {l : List UInt8} {bd : Bool} (h : RB w g l bd) : w.frozen? ⟨g, 1, none⟩ = false := frozen_of_row _ _ _ _ _ h
theorem heap_set {w : World} {g k : Nat} {v : Value} {cs : Array Value} {t : TypeId} (h : w.heap[g]? = some (.cells cs t (0, 0))) : (w.setCell ⟨g, k, none⟩ v).heap[g]? = some (.cells (cs.setIfInBounds k v) t (0, 0)) :=
  heap_setCell_same _ _ _ _ _ _ h
theorem heap_far {w : World} {a : Addr} {v : Value} {k : Nat} (h : k ≠ a.block) : (w.setCell a v).heap[k]? = w.heap[k]? := Below.heap_setCell w a v k h
theorem RB.set0 {w : World} {g : Nat} {l : List UInt8} {bd : Bool} (h : RB w g l bd) (t : List UInt8) : RB (w.setCell ⟨g, 0, none⟩ (Str t)) g t bd := by
  unfold RB at h ⊢; rw [heap_set h]; rfl
theorem RB.set1 {w : World} {g : Nat} {l : List UInt8} {bd : Bool} (h : RB w g l bd) (b : Bool) : RB (w.setCell ⟨g, 1, none⟩ (.bool b)) g l b := by
  unfold RB at h ⊢; rw [heap_set h]; rfl
theorem RB.drew {w : World} {g : Nat} {l : List UInt8} {bd : Bool} (h : RB w g l bd) : RB w.drew g l bd := h
theorem RB.drewN {w : World} {g : Nat} {l : List UInt8} {bd : Bool} (h : RB w g l bd) (n : Nat) : RB (w.drewN n) g l bd := h
theorem RB.alloc {w : World} {g : Nat} {l : List UInt8} {bd : Bool} (h : RB w g l bd) (o : Obj) : RB (w.alloc o) g l bd := (Below.heap_alloc w o g h.lt).trans h

/-- Only block g, and what is new, has turned. -/
def Tch (g : Nat) (w w' : World) : Prop := w.grownBy w' (some g)
theorem Tch.refl (g : Nat) (w : World) : Tch g w w := World.grownBy.refl _ _
theorem Tch.trans {g : Nat} {a b c : World} (h : Tch g a b) (k : Tch g b c) : Tch g a c := World.grownBy.trans h k
theorem Tch.drew {g : Nat} {a b : World} (h : Tch g a b) : Tch g a b.drew := ⟨h.os, h.tape, h.output, h.size, h.block⟩
theorem Tch.drewN {g : Nat} {a b : World} (h : Tch g a b) (n : Nat) : Tch g a (b.drewN n) := ⟨h.os, h.tape, h.output, h.size, h.block⟩
theorem Tch.alloc {g : Nat} {a b : World} (h : Tch g a b) (o : Obj) : Tch g a (b.alloc o) := h.trans (World.grownBy_alloc b o _)
theorem Tch.set {g : Nat} {a b : World} (h : Tch g a b) (k : Nat) (v : Value) : Tch g a (b.setCell ⟨g, k, none⟩ v) :=
  h.trans ⟨rfl, rfl, rfl, by simp [World.setCell], fun i _ hne => heap_far (a := ⟨g, k, none⟩) (fun e => hne (by rw [e]))⟩
theorem Tch.size {g : Nat} {a b : World} (h : Tch g a b) : a.heap.size ≤ b.heap.size := World.grownBy.size h
theorem Tch.blk {g k : Nat} {a b : World} {o : Obj} (h : Tch g a b) (ho : a.heap[k]? = some o) (hne : k ≠ g) : b.heap[k]? = some o :=
  (World.grownBy.block h k (blk_lt ho) (fun e => hne (by injection e))).trans ho
theorem Tch.below {g B : Nat} {a b : World} (h : Tch g a b) (hB : B ≤ g) (hs : B ≤ a.heap.size) : Below B a b :=
  ⟨World.grownBy.os h, World.grownBy.tape h, World.grownBy.output h, h.size, fun k hk => World.grownBy.block h k (by omega) (fun e => by injection e; omega)⟩
theorem Tch.of_alloc {g : Nat} {a b : World} {o : Obj} (h : Tch g (a.alloc o) b) : Tch g a b := (World.grownBy_alloc a o (some g)).trans h

theorem str_tail (b : UInt8) (t : List UInt8) : (⟨(b :: t).toArray⟩ : ByteArray).extract 1 (t.length + 1) = ⟨t.toArray⟩ := by
  rw [ByteArray.extract_mk]; congr 1; simp

/-- The closure's variable: a block with the reader's address. -/
def Cap (w : World) (c g : Nat) : Prop := w.heap[c]? = some (.cells #[.pointer (some ⟨g, 0, none⟩)] 51 (0, 0))
theorem Cap.c0 {w : World} {c g : Nat} (h : Cap w c g) : w.cell? ⟨c, 0, none⟩ = some (.pointer (some ⟨g, 0, none⟩)) := by rw [cell_of_row _ _ _ _ _ _ h]; rfl

set_option maxHeartbeats 1000000 in
theorem next_nil (c g : Nat) (bd : Bool) (w : World) (hc : Cap w c g) (h : RB w g [] bd) :
    Calls Try.prog 43 #[.pointer (some ⟨c, 0, none⟩)] w fun e w' => e = .returned (.tuple #[.int .u8 0, .bool false]) ∧ w = w' := by
  have k0 := hc.c0
  have k1 := h.c0
  clear hc h
  go_enter Try.func43, Try.ntmps43
  go_wp2
  go_ret2
  exact ⟨rfl, rfl⟩

set_option maxHeartbeats 1000000 in
theorem next_cons (c g : Nat) (b : UInt8) (t : List UInt8) (bd : Bool) (w : World) (hc : Cap w c g) (h : RB w g (b :: t) bd) :
    Calls Try.prog 43 #[.pointer (some ⟨c, 0, none⟩)] w fun e w' => e = .returned (.tuple #[.int .u8 (b.toNat : Int), .bool true]) ∧ Tch g w w' ∧ RB w' g t bd := by
  have k0 := hc.c0
  have k1 := h.c0
  have k2 := h.f0
  have hst := str_tail b t
  go_enter Try.func43, Try.ntmps43
  go_wp2
  go_region
  all_goals
    go_wp2
    go_ret2
    exact ⟨rfl, ((Tch.refl g w).drew).set 0 _, h.set0 t⟩
end Go.Proofs.Ythbocddkomhpoaa.Co

/- codec's reader: number. -/
namespace Go.Proofs.Ythbocddkomhpoaa.Co
open Go.RowKit

/-- What number tells. -/
def NumTold (o : Option (Nat × List UInt8)) (g : Nat) (bd : Bool) (w : World) (e : Ending) (w' : World) : Prop :=
  Tch g w w' ∧ match o with
    | some (n, t) => e = .returned (.tuple #[.int .u64 (n : Int), .bool true]) ∧ RB w' g t bd
    | none => ∃ (v : Int) (t : List UInt8), e = .returned (.tuple #[.int .u64 v, .bool false]) ∧ RB w' g t bd
theorem NumTold.good {o : Option (Nat × List UInt8)} {g : Nat} {bd : Bool} {w w' : World} {n : Nat} {t : List UInt8} (ht : Tch g w w') (ho : o = some (n, t)) (h : RB w' g t bd) : NumTold o g bd w (.returned (.tuple #[.int .u64 (n : Int), .bool true])) w' := by
  subst ho; exact ⟨ht, rfl, h⟩
theorem NumTold.bad {o : Option (Nat × List UInt8)} {g : Nat} {bd : Bool} {w w' : World} {v : Int} {t : List UInt8} (ht : Tch g w w') (ho : o = none) (h : RB w' g t bd) : NumTold o g bd w (.returned (.tuple #[.int .u64 v, .bool false])) w' := by
  subst ho; exact ⟨ht, v, t, rfl, h⟩

theorem u64_nat {a : Int} {n : Nat} (h : a = (n : Int)) : Value.int .u64 a = .int .u64 (n : Int) := by rw [h]
theorem ret_tup {v w u x : Value} (h : v = w) (k : u = x) : Ending.returned (.tuple #[v, u]) = .returned (.tuple #[w, x]) := by rw [h, k]

theorem or_step {a B k : Nat} (hk : k ≤ 9) (ha : a < 128 ^ k) (h9 : k = 9 → B ≤ 1) :
    bits BinOp.or IntKind.u64 (a : Int) (IntKind.u64.wrap ((B : Int) % 128 * 2 ^ (7 * k))) = ((a + B % 128 * 128 ^ k : Nat) : Int) := by
  obtain ⟨h1, h2⟩ := join_or (c := B % 128) hk ha (by omega) (fun e => by have := h9 e; omega)
  have e : IntKind.u64.wrap ((B : Int) % 128 * 2 ^ (7 * k)) = ((B % 128 * 2 ^ (7 * k) % 18446744073709551616 : Nat) : Int) := by
    rw [IntKind.wrap_u64]
    have e2 : (B : Int) % 128 * 2 ^ (7 * k) = ((B % 128 * 2 ^ (7 * k) : Nat) : Int) := by simp
    rw [e2]; rfl
  rw [e, bits_or_u64_nat _ _ (by omega) (by omega), h1]
theorem or_step9 {a B : Nat} (ha : a < 128 ^ 9) (h9 : B ≤ 1) :
    bits BinOp.or IntKind.u64 (a : Int) ((B : Int) % 128 * 9223372036854775808) = ((a + B % 128 * 128 ^ 9 : Nat) : Int) := by
  rw [← or_step (by omega) ha (fun _ => h9)]
  congr 1
  rw [IntKind.wrap_u64, show (2 : Int) ^ (7 * 9) = 9223372036854775808 by decide]
  omega

set_option maxHeartbeats 4000000 in
set_option maxRecDepth 100000 in
theorem number_c (c g : Nat) (l : List UInt8) (bd : Bool) (w : World) (hcg : c ≠ g) (hc : Cap w c g) (h : RB w g l bd) :
    Calls Try.prog 44 #[.func (.func 43) #[] #[.pointer (some ⟨c, 0, none⟩)]] w (NumTold (natAt 0 0 l) g bd w) := by
  obtain ⟨o, ho⟩ : ∃ o, o = natAt 0 0 l := ⟨_, rfl⟩
  rw [← ho]
  have Ho := Lib.hid ho; clear ho
  have Hc := Lib.hid hc
  have Hh := Lib.hid h; clear h
  have Hcg := Lib.hid hcg; clear hcg
  go_enter Try.func44, Try.ntmps44
  go_wp2_with fail
  go_loopw [4, 8] (fun n i wr => ∃ (k a : Nat) (m : List UInt8), k ≤ 9 ∧ i = .int .i64 (k : Int) ∧ n = .int .u64 (a : Int) ∧ Hid (a < 128 ^ k ∧ natAt k a m = o ∧ RB wr g m bd ∧ Tch g w wr)) (fun _ i _ => 10 - (intOf i).toNat)
  case atStart => exact ⟨0, 0, l, by omega, rfl, rfl, by simp, Ho.out.symm, Hh.out, Tch.refl _ _⟩
  case round =>
    obtain ⟨k, a, m, hk, rfl, rfl, hh⟩ := hrel
    have hkI : (k : Int) < 10 := by omega
    have hcap : Cap wr c g := hh.out.2.2.2.blk Hc.out Hcg.out
    cases m with
    | nil =>
      have hrb : RB wr g [] bd := hh.out.2.2.1
      have hR : NumTold o g bd w (.returned (.tuple #[.int .u64 0, .bool false])) wr := NumTold.bad hh.out.2.2.2 (by rw [← hh.out.2.1]; exact natAt_nil _ _) hrb
      have HR := Lib.hid hR; clear hR
      go_wp2_with fail
      ((with_reducible refine (next_nil c g bd _ hcap hrb).mono ?_); rintro e w' ⟨rfl, rfl⟩)
      clear hcap hrb
      go_wp2_with fail
      go_ret2
      exact HR.out
    | cons b t =>
      have hrb : RB wr g (b :: t) bd := hh.out.2.2.1
      have hT := Lib.hid hh.out.2.2.2
      have ha := hh.out.1
      have hn := hh.out.2.1
      have Hn := Lib.hid hn; clear hn
      have Ha := Lib.hid ha; clear ha
      have hbl := b.toNat_lt
      go_wp2_with fail
      ((with_reducible refine (next_cons c g b t bd _ hcap hrb).mono ?_); rintro e w1 ⟨rfl, ht1, hr1⟩)
      have HT1 : Hid (Tch g w w1) := hT.out.trans ht1
      have HR1 := Lib.hid hr1; clear hr1 ht1 hcap hrb hT hh
      obtain ⟨B, hB⟩ : ∃ B : Nat, B = b.toNat := ⟨_, rfl⟩
      have HB := Lib.hid hB
      rw [← hB] at hbl ⊢
      clear hB
      have b0 : (B : Int) ≤ 255 := by omega
      by_cases h9 : k = 9 ∧ 1 < B
      · obtain ⟨rfl, h1⟩ := h9
        have h1' : (1 : Int) < (B : Int) := by omega
        have hR : NumTold o g bd w (.returned (.tuple #[.int .u64 0, .bool false])) w1 := NumTold.bad HT1.out (by rw [← Hn.out]; exact natAt_over ⟨rfl, by rw [← HB.out]; exact h1⟩) HR1.out
        have HR := Lib.hid hR; clear hR h1
        go_wp2_with fail
        go_ret2
        exact HR.out
      · by_cases hk9 : k = 9
        · subst hk9
          have hB1 : B ≤ 1 := by omega
          have hb1 : ¬ (1 : Int) < (B : Int) := by omega
          have hb2 : (B : Int) < 128 := by omega
          have Hor := Lib.hid (or_step9 Ha.out hB1)
          have hn9 : ¬ (9 = 9 ∧ 1 < b.toNat) := by have := HB.out; omega
          clear h9 hkI
          by_cases hz : B = 0
          · subst hz
            have hR : NumTold o g bd w (.returned (.tuple #[.int .u64 (bits BinOp.or IntKind.u64 (a : Int) (((0 : Nat) : Int) % 128 * 9223372036854775808)), .bool false])) w1 :=
              NumTold.bad HT1.out (by rw [← Hn.out]; exact natAt_long hn9 (by have := HB.out; omega) ⟨HB.out.symm, by omega⟩) HR1.out
            have HR := Lib.hid hR; clear hR
            clear hb1 hb2
            go_wp2_with fail
            go_ret2
            exact HR.out
          · have hb3 : (0 : Int) < (B : Int) := by omega
            have hR : NumTold o g bd w (.returned (.tuple #[.int .u64 (bits BinOp.or IntKind.u64 (a : Int) ((B : Int) % 128 * 9223372036854775808)), .bool true])) w1 := by
              rw [Hor.out]
              refine NumTold.good HT1.out ?_ HR1.out
              rw [← Hn.out, HB.out]
              have hlt : b.toNat < 128 := by have := HB.out; omega
              rw [natAt_last hn9 hlt (by have := HB.out; omega), Nat.mod_eq_of_lt hlt]
            have HR := Lib.hid hR; clear hR hz
            go_wp2_with fail
            go_ret2
            exact HR.out
        · have hk8 : ((k : Int) == 9) = false := by simp; omega
          have hn9 : ¬ (k = 9 ∧ 1 < b.toNat) := by omega
          have Hor := Lib.hid (or_step (B := B) hk Ha.out (by omega))
          clear h9
          by_cases hb : B < 128
          · have hb2 : (B : Int) < 128 := by omega
            have hlt : b.toNat < 128 := by have := HB.out; omega
            by_cases hz : B = 0 ∧ k ≠ 0
            · obtain ⟨rfl, hk0⟩ := hz
              have hk1 : ((k : Int) == 0) = false := by simp; omega
              have hR : ∀ v, NumTold o g bd w (.returned (.tuple #[.int .u64 v, .bool false])) w1 :=
                fun v => NumTold.bad HT1.out (by rw [← Hn.out]; exact natAt_long hn9 hlt ⟨HB.out.symm, hk0⟩) HR1.out
              have HR := Lib.hid hR; clear hR hb2 hb hk9 hn9 hlt hk0
              go_wp2_with fail
              go_ret2
              exact HR.out _
            · have hR : NumTold o g bd w (.returned (.tuple #[.int .u64 (bits BinOp.or IntKind.u64 (a : Int) (IntKind.u64.wrap ((B : Int) % 128 * 2 ^ (7 * k)))), .bool true])) w1 := by
                rw [Hor.out]
                refine NumTold.good HT1.out ?_ HR1.out
                rw [← Hn.out, HB.out, natAt_last hn9 hlt (by have := HB.out; omega), Nat.mod_eq_of_lt hlt]
              have HR := Lib.hid hR; clear hR
              by_cases hz0 : B = 0
              · have hk0 : k = 0 := by omega
                subst hz0; subst hk0
                clear hz hb2 hb hk9 hn9 hlt
                go_wp2_with fail
                go_ret2
                exact HR.out
              · have hb3 : (0 : Int) < (B : Int) := by omega
                clear hz hb hk9 hn9 hlt hz0
                go_wp2_with fail
                go_ret2
                exact HR.out
          · have hb2 : (128 : Int) ≤ (B : Int) := by omega
            have hrel : Hid (a + B % 128 * 128 ^ k < 128 ^ (k + 1) ∧ natAt (k + 1) (a + B % 128 * 128 ^ k) t = o) := by
              refine ⟨?_, ?_⟩
              · have h1 := Ha.out
                have h2 : B % 128 * 128 ^ k ≤ 127 * 128 ^ k := Nat.mul_le_mul_right _ (by omega)
                rw [Nat.pow_succ]; omega
              · rw [← Hn.out, HB.out, natAt_more hn9 (by have := HB.out; omega)]
                rw [show b.toNat % 128 = b.toNat - 128 by have := HB.out; omega]
            have hk9' : Hid (k + 1 ≤ 9) := by show _ ≤ _; omega
            clear hb hn9 hk9
            go_wp2_with fail
            refine ⟨⟨k + 1, a + B % 128 * 128 ^ k, t, hk9'.out, by go_num, u64_nat Hor.out, hrel.out.1, hrel.out.2, HR1.out, HT1.out⟩, by simp [intOf]; omega⟩
end Go.Proofs.Ythbocddkomhpoaa.Co

/- codec's reader: its calls. -/
namespace Go.Proofs.Ythbocddkomhpoaa.Co
open Go.RowKit

/-- A number is read: the number, what is left, whether it is bad then. -/
def rdN (l : List UInt8) (bd : Bool) (most : Nat) : Nat × List UInt8 × Bool :=
  match readNat l most with
  | some (n, t) => (n, t, bd)
  | none => (0, [], true)
/-- A text is read. -/
def rdT (l : List UInt8) (bd : Bool) (most : Int) : List UInt8 × List UInt8 × Bool :=
  if most < 0 then ([], [], true)
  else if (rdN l bd most.toNat).2.1.length < (rdN l bd most.toNat).1 then ([], [], true)
  else ((rdN l bd most.toNat).2.1.take (rdN l bd most.toNat).1, (rdN l bd most.toNat).2.1.drop (rdN l bd most.toNat).1, (rdN l bd most.toNat).2.2)
/-- The whole number that a natural one stands for. -/
def zz (n : Nat) : Int := if n % 2 = 0 then ((n / 2 : Nat) : Int) else -((n / 2 : Nat) : Int) - 1

theorem rdN_bound (l : List UInt8) (bd : Bool) (most : Nat) : (rdN l bd most).1 ≤ most ∧ (rdN l bd most).1 < 2 ^ 64 ∧ (rdN l bd most).2.1.length ≤ l.length := by
  unfold rdN
  cases h : readNat l most with
  | none => simp
  | some p => obtain ⟨n, t⟩ := p; have := readNat_bound h; exact ⟨this.1, this.2.1, by simp only; omega⟩

theorem Fail_c (g : Nat) (l : List UInt8) (bd : Bool) (w : World) (h : RB w g l bd) :
    Calls Try.prog 37 #[.pointer (some ⟨g, 0, none⟩)] w fun e w' => e = .returned (.tuple #[]) ∧ Tch g w w' ∧ RB w' g [] true := by
  have k0 := h.c0
  have k1 := h.c1
  have k2 := h.f0
  have k3 := h.f1
  have R : Hid (RB ((w.setCell ⟨g, 0, none⟩ (Str [])).setCell ⟨g, 1, none⟩ (.bool true)) g [] true) := (h.set0 []).set1 true
  have T : Hid (Tch g w ((w.setCell ⟨g, 0, none⟩ (Str [])).setCell ⟨g, 1, none⟩ (.bool true))) := ((Tch.refl g w).set 0 _).set 1 _
  clear h
  go_enter Try.func37, Try.ntmps37
  go_wp2
  go_end0
  exact ⟨rfl, T.out, R.out⟩

set_option maxHeartbeats 1000000 in
theorem rNat_good (g : Nat) (l : List UInt8) (bd : Bool) (most n : Nat) (t : List UInt8) (w : World) (h : RB w g l bd) (hr : readNat l most = some (n, t)) :
    Calls Try.prog 36 #[.pointer (some ⟨g, 0, none⟩), .int .u64 (most : Int)] w fun e w' => e = .returned (.int .u64 (n : Int)) ∧ Tch g w w' ∧ RB w' g t bd := by
  have hcap : Cap (w.alloc (.cells #[.pointer (some ⟨g, 0, none⟩)] 51)) w.heap.size g := heap_alloc_new w _
  have hrb := h.alloc (.cells #[.pointer (some ⟨g, 0, none⟩)] 51)
  have hne : w.heap.size ≠ g := by have := h.lt; omega
  have hnat : natAt 0 0 l = some (n, t) ∧ n ≤ most := by
    unfold readNat at hr
    cases e : natAt 0 0 l with
    | none => rw [e] at hr; cases hr
    | some p =>
      obtain ⟨n', t'⟩ := p
      rw [e] at hr
      simp only at hr
      split at hr
      · injection hr with hr; injection hr with h1 h2; subst h1; subst h2; exact ⟨rfl, by assumption⟩
      · cases hr
  have h0 := number_c w.heap.size g l bd _ hne hcap hrb
  rw [hnat.1] at h0
  have HN := Lib.hid h0; clear h0
  have hnm : (n : Int) ≤ (most : Int) := by omega
  clear hnat hr
  have k1 := hcap.c0
  clear hcap hrb hne
  go_enter Try.func36, Try.ntmps36
  go_wp2_with fail
  ((with_reducible refine HN.out.mono ?_); rintro e w' ⟨hT, rfl, hR⟩)
  go_wp2_with fail
  go_ret
  exact ⟨rfl, hT.of_alloc, hR⟩

set_option maxHeartbeats 1000000 in
theorem rNat_bad (g : Nat) (l : List UInt8) (bd : Bool) (most : Nat) (w : World) (h : RB w g l bd) (hr : readNat l most = none) :
    Calls Try.prog 36 #[.pointer (some ⟨g, 0, none⟩), .int .u64 (most : Int)] w fun e w' => e = .returned (.int .u64 0) ∧ Tch g w w' ∧ RB w' g [] true := by
  have hcap : Cap (w.alloc (.cells #[.pointer (some ⟨g, 0, none⟩)] 51)) w.heap.size g := heap_alloc_new w _
  have hrb := h.alloc (.cells #[.pointer (some ⟨g, 0, none⟩)] 51)
  have hne : w.heap.size ≠ g := by have := h.lt; omega
  obtain ⟨o, ho⟩ : ∃ o, o = natAt 0 0 l := ⟨_, rfl⟩
  have h0 := number_c w.heap.size g l bd _ hne hcap hrb
  rw [← ho] at h0
  have HN := Lib.hid h0; clear h0
  have Hne := Lib.hid hne
  have Hcap := Lib.hid hcap
  have k1 := hcap.c0
  clear hcap hrb hne
  cases o with
  | none =>
    clear hr ho
    go_enter Try.func36, Try.ntmps36
    go_wp2_with fail
    ((with_reducible refine HN.out.mono ?_); rintro e w1 ⟨hT, v, t, rfl, hR⟩)
    have k2 : w1.cell? ⟨w.heap.size, 0, none⟩ = some (.pointer (some ⟨g, 0, none⟩)) := Cap.c0 (hT.blk Hcap.out Hne.out)
    have HT := Lib.hid hT; clear hT k1
    go_wp2_with fail
    ((with_reducible refine (Fail_c g t bd _ hR).mono ?_); rintro e w2 ⟨rfl, hT2, hR2⟩)
    have HT2 := Lib.hid hT2; clear hT2 hR
    have HR2 := Lib.hid hR2; clear hR2
    go_wp2_with fail
    go_ret
    exact ⟨rfl, HT.out.of_alloc.trans HT2.out, HR2.out⟩
  | some p =>
    obtain ⟨n, t⟩ := p
    have hn : (most : Int) < (n : Int) := by
      unfold readNat at hr
      rw [← ho] at hr
      simp only at hr
      split at hr
      · cases hr
      · omega
    clear hr ho
    go_enter Try.func36, Try.ntmps36
    go_wp2_with fail
    ((with_reducible refine HN.out.mono ?_); rintro e w1 ⟨hT, rfl, hR⟩)
    have k2 : w1.cell? ⟨w.heap.size, 0, none⟩ = some (.pointer (some ⟨g, 0, none⟩)) := Cap.c0 (hT.blk Hcap.out Hne.out)
    have HT := Lib.hid hT; clear hT k1
    go_wp2_with fail
    ((with_reducible refine (Fail_c g t bd _ hR).mono ?_); rintro e w2 ⟨rfl, hT2, hR2⟩)
    have HT2 := Lib.hid hT2; clear hT2 hR
    have HR2 := Lib.hid hR2; clear hR2
    go_wp2_with fail
    go_ret
    exact ⟨rfl, HT.out.of_alloc.trans HT2.out, HR2.out⟩

theorem rNat_c (g : Nat) (l : List UInt8) (bd : Bool) (most : Nat) (w : World) (h : RB w g l bd) (n : Nat) (t : List UInt8) (b : Bool) (hr : rdN l bd most = (n, t, b)) :
    Calls Try.prog 36 #[.pointer (some ⟨g, 0, none⟩), .int .u64 (most : Int)] w fun e w' => e = .returned (.int .u64 (n : Int)) ∧ Tch g w w' ∧ RB w' g t b := by
  unfold rdN at hr
  cases e : readNat l most with
  | none => rw [e] at hr; injection hr with h1 h2; injection h2 with h2 h3; subst h1; subst h2; subst h3; exact rNat_bad g l bd most w h e
  | some p => obtain ⟨m, u⟩ := p; rw [e] at hr; injection hr with h1 h2; injection h2 with h2 h3; subst h1; subst h2; subst h3; exact rNat_good g l _ most m u w h e
end Go.Proofs.Ythbocddkomhpoaa.Co

/- codec's reader: whole numbers, flags, texts; what is left; its end; one that is nil. -/
namespace Go.Proofs.Ythbocddkomhpoaa.Co
open Go.RowKit

theorem xor_all (n : Int) (h0 : -9223372036854775808 ≤ n) (h1 : n ≤ 9223372036854775807) : bits .xor .i64 (-1) n = -n - 1 := by
  have e : BitVec.ofInt 64 (-1) = BitVec.allOnes 64 := by decide
  have hx : (BitVec.ofInt 64 n).toNat = (n % 18446744073709551616).toNat := by rw [BitVec.toNat_ofInt]; rfl
  show IntKind.i64.wrap ((BitVec.ofInt 64 (-1) ^^^ BitVec.ofInt 64 n).toNat : Int) = _
  rw [e, BitVec.allOnes_xor, BitVec.toNat_not, hx, IntKind.wrap_i64]
  omega
theorem ret_i64 {a b : Int} (h : a = b) : Ending.returned (.int .i64 a) = .returned (.int .i64 b) := by rw [h]
theorem zz_bd {n : Nat} (h : n < 2 ^ 64) : -9223372036854775808 ≤ zz n ∧ zz n ≤ 9223372036854775807 := by unfold zz; split <;> omega
theorem and_bit {n : Nat} (h : n < 18446744073709551616) : bits .and .u64 (n : Int) 1 = ((n % 2 : Nat) : Int) := by
  have := bits_and_u64_nat n 1 h (by omega)
  rw [show ((1 : Nat) : Int) = 1 from rfl] at this
  rw [this, Nat.and_one_is_mod]

theorem Left_c (g : Nat) (l : List UInt8) (bd : Bool) (w : World) (h : RB w g l bd) :
    Calls Try.prog 24 #[.pointer (some ⟨g, 0, none⟩)] w fun e w' => e = .returned (.int .i64 (l.length : Int)) ∧ w = w' := by
  have k0 := h.c0
  clear h
  go_enter Try.func24, Try.ntmps24
  go_wp2
  go_ret
  exact ⟨rfl, rfl⟩

theorem Bad_c (g : Nat) (l : List UInt8) (bd : Bool) (w : World) (h : RB w g l bd) :
    Calls Try.prog 25 #[.pointer (some ⟨g, 0, none⟩)] w fun e w' => e = .returned (.bool bd) ∧ w = w' := by
  have k0 := h.c1
  clear h
  go_enter Try.func25, Try.ntmps25
  go_wp2
  go_ret
  exact ⟨rfl, rfl⟩

/-- What End tells. -/
def endE (l : List UInt8) (bd : Bool) : Int := if bd = true ∨ l ≠ [] then 20 else 0
theorem End_c (g : Nat) (l : List UInt8) (bd : Bool) (w : World) (h : RB w g l bd) :
    Calls Try.prog 22 #[.pointer (some ⟨g, 0, none⟩)] w fun e w' => e = .returned (.int .i64 (endE l bd)) ∧ w = w' := by
  have k0 := h.c0
  have k1 := h.c1
  clear h
  obtain ⟨v, hv⟩ : ∃ v, v = endE l bd := ⟨_, rfl⟩
  rw [← hv]
  cases bd <;> cases l
  all_goals
    simp [endE] at hv
    subst hv
    go_enter Try.func22, Try.ntmps22
    go_wp2
    go_ret
    exact ⟨rfl, rfl⟩

/-! ### A reader that is nil -/
theorem nilFail_c (w : World) : Calls Try.prog 37 #[.pointer none] w fun e w' => e = .returned (.tuple #[]) ∧ w = w' := by
  go_enter Try.func37, Try.ntmps37
  go_wp2
  go_end0
  exact ⟨rfl, rfl⟩
theorem nilNat_c (n : Nat) (w : World) : Calls Try.prog 36 #[.pointer none, .int .u64 (n : Int)] w fun e w' => e = .returned (.int .u64 0) ∧ Below w.heap.size w w' := by
  go_enter Try.func36, Try.ntmps36
  go_wp2
  go_ret
  exact ⟨rfl, (Below.refl _ _).alloc (Nat.le_refl _) _⟩
theorem nilLeft_c (w : World) : Calls Try.prog 24 #[.pointer none] w fun e w' => e = .returned (.int .i64 0) ∧ w = w' := by
  go_enter Try.func24, Try.ntmps24
  go_wp2
  go_ret
  exact ⟨rfl, rfl⟩
theorem nilBad_c (w : World) : Calls Try.prog 25 #[.pointer none] w fun e w' => e = .returned (.bool false) ∧ w = w' := by
  go_enter Try.func25, Try.ntmps25
  go_wp2
  go_ret
  exact ⟨rfl, rfl⟩
theorem nilEnd_c (w : World) : Calls Try.prog 22 #[.pointer none] w fun e w' => e = .returned (.int .i64 1) ∧ w = w' := by
  go_enter Try.func22, Try.ntmps22
  go_wp2
  go_ret
  exact ⟨rfl, rfl⟩

/-! ### A text -/
theorem str_drop (l : List UInt8) (n : Nat) : (⟨l.toArray⟩ : ByteArray).extract n l.length = ⟨(l.drop n).toArray⟩ := by
  rw [ByteArray.extract_mk]; congr 1; simp [List.take_of_length_le]
theorem str_take (l : List UInt8) (n : Nat) : (⟨l.toArray⟩ : ByteArray).extract 0 n = ⟨(l.take n).toArray⟩ := by
  rw [ByteArray.extract_mk]; simp
theorem str_size (l : List UInt8) : (⟨l.toArray⟩ : ByteArray).size = l.length := rfl

end Go.Proofs.Ythbocddkomhpoaa.Co

/- codec's writer: a number's groups. -/
namespace Go.Proofs.Ythbocddkomhpoaa.Co
open Go.RowKit

/-- A byte as a cell. -/
def byt (b : UInt8) : Value := .int .u8 (b.toNat : Int)
theorem byt_one (l : List UInt8) : ∀ u ∈ l.map byt, u.oneCell' = true := by
  intro u hu
  obtain ⟨b, _, rfl⟩ := List.mem_map.1 hu
  rfl
theorem info_u8 : (Try.prog.info? 5).map (fun i => (i.zero, i.size, i.bytes)) = some (some (.int .u8 0), 1, 1) := by kernel_rfl

theorem natB_len : ∀ (k n : Nat), n < 128 ^ (k + 1) → (natB n).length ≤ k + 1
  | 0, n, h => by rw [natB_small (by simpa using h)]; simp
  | k + 1, n, h => by
    by_cases hn : n < 128
    · rw [natB_small hn]; simp
    · rw [natB_big (by omega), List.length_cons]
      have := natB_len k (n / 128) (by rw [Nat.div_lt_iff_lt_mul (by omega)]; rw [Nat.pow_succ] at h; exact h)
      omega
theorem natB_len10 {n : Nat} (h : n < 2 ^ 64) : (natB n).length ≤ 10 :=
  natB_len 9 n (Nat.lt_of_lt_of_le h (by decide))
theorem natB_pos (n : Nat) : 0 < (natB n).length := by rw [natB]; split <;> simp

theorem byte_more (m : Nat) : bits .or .u8 ((m : Int) % 256) 128 = ((UInt8.ofNat (m % 128 + 128)).toNat : Int) := by
  rw [ofNat_toNat (by omega)]
  have key : ∀ x : Fin 256, bits .or .u8 ((x.val : Nat) : Int) 128 = ((x.val % 128 + 128 : Nat) : Int) := by decide +kernel
  have h2 := key ⟨m % 256, by omega⟩
  simp only at h2
  rw [show (m : Int) % 256 = ((m % 256 : Nat) : Int) from rfl, h2]
  omega
theorem one_news (w : World) (b : UInt8) : ∀ (j : Nat) (u : Value), [byt b][j]? = some u → (w.alloc (Obj.cells #[Value.int IntKind.u8 (b.toNat : Int)] 5)).cell? ((⟨w.heap.size, 0, none⟩ : Addr).add j) = some u := by
  intro j u hu
  cases j with
  | zero =>
    simp at hu
    subst hu
    have hadd : (⟨w.heap.size, 0, none⟩ : Addr).add 0 = ⟨w.heap.size, 0, none⟩ := by unfold Addr.add; split <;> simp_all
    rw [hadd, cell_of_row _ _ _ _ _ _ (heap_alloc_new w _)]
    rfl
  | succ j => simp at hu
set_option maxHeartbeats 2000000 in
set_option maxRecDepth 100000 in
theorem groups_c (n : Nat) (h : n < 18446744073709551616) (w : World) :
    Calls Try.prog 42 #[.int .u64 (n : Int)] w fun e w' => ∃ v, e = .returned v ∧ w'.ownsRow w.heap.size 5 1 v (natB n).length ((natB n).map byt) ∧ Below w.heap.size w w' := by
  obtain ⟨i0, hi0, hz0, hz1, hz2⟩ := info_parts info_u8
  have Hh := Lib.hid h; clear h
  go_enter Try.func42, Try.ntmps42
  go_wp2_with fail
  go_loopw [0, 3] (fun x v wr => ∃ (m : Nat) (pre : List UInt8), x = .int .u64 (m : Int) ∧ Hid (m < 18446744073709551616 ∧ pre ++ natB m = natB n) ∧ wr.ownsRow w.heap.size 5 1 v pre.length (pre.map byt) ∧ Below w.heap.size w wr) (fun x _ _ => (intOf x).toNat)
  case atStart => exact ⟨n, [], rfl, ⟨Hh.out, rfl⟩, World.ownsRow_nil _ _ _ _, Below.refl _ _⟩
  case round =>
    obtain ⟨m, pre, rfl, hm, hown, hB⟩ := hrel
    have hm' : (m : Int) ≤ 18446744073709551615 := by have := hm.out.1; omega
    have hlen : Hid ((natB n).length ≤ 10) := natB_len10 Hh.out
    have hpl : pre.length + (natB m).length = (natB n).length := by rw [← hm.out.2]; simp
    have hpos := natB_pos m
    have hp9 : pre.length ≤ 9 := by have := hlen.out; omega
    have HB := Lib.hid hB
    have hsz := hB.size
    clear hpl hpos hB
    by_cases hc : 128 ≤ m
    · have hc' : (128 : Int) ≤ (m : Int) := by omega
      have he := byte_more m
      have hnx : Hid (m / 128 < 18446744073709551616 ∧ (pre ++ [UInt8.ofNat (m % 128 + 128)]) ++ natB (m / 128) = natB n) := by
        refine ⟨by have := hm.out.1; omega, ?_⟩
        rw [← hm.out.2, natB_big hc, List.append_assoc]; rfl
      obtain ⟨b, hb⟩ : ∃ b, b = UInt8.ofNat (m % 128 + 128) := ⟨_, rfl⟩
      rw [← hb] at he hnx
      clear hb hc
      go_wp2_with (at_builtin; refine wpList_append_own _ rfl _ _ 53 rfl w.heap.size 5 i0 (.int .u8 0) 1 1 Try.underlying53 hi0 hz0 hz1 hz2 rfl (by decide) _ _ _ rfl (hown.alloc _) ⟨wr.heap.size, 0, none⟩ 1 1 [byt b] rfl rfl ?c1 ?c2 ?c3 ?c4 ?c5 ?_)
      case c1 => exact one_news _ b
      case c2 => exact byt_one [b]
      case c3 => unfold maxLen; omega
      case c4 => omega
      case c5 => simp; omega
      intro v1 w1 hown1 hg1 _
      have hB1 : Hid (Below w.heap.size w w1) := Below.grown (HB.out.alloc hsz _) hg1 (by simp; omega) (fun k hk => (hown.lt k hk).1)
      clear hg1 hown he HB
      go_wp2_with fail
      refine ⟨⟨m / 128, pre ++ [b], by go_num, hnx, ?_, hB1.out⟩, ?_⟩
      · simpa using hown1
      · simp [intOf]; omega
    · have hc' : ¬ (128 : Int) ≤ (m : Int) := by omega
      have hnx : Hid (pre ++ [UInt8.ofNat m] = natB n) := by
        show _ = _
        rw [← hm.out.2, natB_small (by omega)]
      obtain ⟨b, hb⟩ : ∃ b, b = UInt8.ofNat m := ⟨_, rfl⟩
      rw [← hb] at hnx
      obtain rfl : m = b.toNat := by rw [hb, ofNat_toNat (by omega)]
      have hc2 : (b.toNat : Int) ≤ 127 := by omega
      clear hb hc hm' hm
      go_wp2_with (at_builtin; refine wpList_append_own _ rfl _ _ 53 rfl w.heap.size 5 i0 (.int .u8 0) 1 1 Try.underlying53 hi0 hz0 hz1 hz2 rfl (by decide) _ _ _ rfl (hown.alloc _) ⟨wr.heap.size, 0, none⟩ 1 1 [byt b] rfl rfl ?c1 ?c2 ?c3 ?c4 ?c5 ?_)
      case c1 => exact fun j u h => h
      case c2 => rfl
      case c3 => unfold maxLen; omega
      case c4 => omega
      case c5 => omega
      intro v1 w1 hown1 hg1 _
      have hB1 : Hid (Below w.heap.size w w1) := Below.grown (HB.out.alloc hsz _) hg1 (by simp; omega) (fun k hk => (hown.lt k hk).1)
      have hown2 : Hid (w1.ownsRow w.heap.size 5 1 v1 (natB n).length ((natB n).map byt)) := by
        show World.ownsRow _ _ _ _ _ _ _
        rw [← hnx.out]
        simpa using hown1
      clear hg1 hown hown1 HB
      go_wp2_with fail
      go_ret
      exact ⟨v1, rfl, hown2.out, hB1.out⟩
end Go.Proofs.Ythbocddkomhpoaa.Co

/- codec's writer: its state in memory; bytes are added. -/

namespace Go.Proofs.Ythbocddkomhpoaa.Co
open Go.RowKit

/-- Only blocks of S, and what is new, have turned. -/
structure Fr (S : Nat → Prop) (w w' : World) : Prop where
  os : w'.os = w.os
  tape : w'.tape = w.tape
  output : w'.output = w.output
  size : w.heap.size ≤ w'.heap.size
  block : ∀ k, k < w.heap.size → ¬ S k → w'.heap[k]? = w.heap[k]?
theorem Fr.refl (S : Nat → Prop) (w : World) : Fr S w w := ⟨rfl, rfl, rfl, Nat.le_refl _, fun _ _ _ => rfl⟩
theorem Fr.trans {S S' : Nat → Prop} {a b c : World} (h : Fr S a b) (k : Fr S' b c) (hs : ∀ k, S' k → S k ∨ a.heap.size ≤ k) : Fr S a c :=
  ⟨k.os.trans h.os, k.tape.trans h.tape, k.output.trans h.output, Nat.le_trans h.size k.size, fun i hi hn =>
    (k.block i (Nat.lt_of_lt_of_le hi h.size) (fun hS => by rcases hs i hS with h1 | h1; exact hn h1; omega)).trans (h.block i hi hn)⟩
theorem Fr.drew {S : Nat → Prop} {a b : World} (h : Fr S a b) : Fr S a b.drew := ⟨h.os, h.tape, h.output, h.size, h.block⟩
theorem Fr.drewN {S : Nat → Prop} {a b : World} (h : Fr S a b) (n : Nat) : Fr S a (b.drewN n) := ⟨h.os, h.tape, h.output, h.size, h.block⟩
theorem Fr.alloc {S : Nat → Prop} {a b : World} (h : Fr S a b) (o : Obj) : Fr S a (b.alloc o) :=
  ⟨h.os, h.tape, h.output, Nat.le_trans h.size (by simp), fun k hk hn => (Below.heap_alloc b o k (Nat.lt_of_lt_of_le hk h.size)).trans (h.block k hk hn)⟩
theorem Fr.set {S : Nat → Prop} {a b : World} (h : Fr S a b) {p : Addr} (hp : S p.block ∨ a.heap.size ≤ p.block) (v : Value) : Fr S a (b.setCell p v) :=
  ⟨h.os, h.tape, h.output, by simpa [World.setCell] using h.size, fun k hk hn => (heap_far (fun e => by rcases hp with h1 | h1; exact hn (e ▸ h1); omega)).trans (h.block k hk hn)⟩
theorem Fr.grown {S : Nat → Prop} {a b c : World} {row : Option Nat} (h : Fr S a b) (k : b.grownBy c row) (hr : ∀ j, row = some j → S j ∨ a.heap.size ≤ j) : Fr S a c :=
  ⟨k.os.trans h.os, k.tape.trans h.tape, k.output.trans h.output, Nat.le_trans h.size k.size, fun i hi hn =>
    (k.block i (Nat.lt_of_lt_of_le hi h.size) (fun e => by rcases hr i e.symm with h1 | h1; exact hn h1; omega)).trans (h.block i hi hn)⟩
theorem Fr.below {S : Nat → Prop} {B : Nat} {a b : World} (h : Fr S a b) (hS : ∀ k, S k → B ≤ k) (hB : B ≤ a.heap.size) : Below B a b :=
  ⟨h.os, h.tape, h.output, h.size, fun k hk => h.block k (by omega) (fun hk' => by have := hS k hk'; omega)⟩
theorem Fr.of_below {S : Nat → Prop} {a b : World} (h : Below a.heap.size a b) : Fr S a b := ⟨h.os, h.tape, h.output, h.size, fun k hk _ => h.block k hk⟩
theorem Fr.mono {S S' : Nat → Prop} {a b : World} (h : Fr S a b) (hs : ∀ k, S k → S' k ∨ a.heap.size ≤ k) : Fr S' a b := (Fr.refl S' a).trans h hs
theorem Fr.tch {g : Nat} {a b : World} (h : Tch g a b) : Fr (· = g) a b := ⟨h.os, h.tape, h.output, h.size, fun k hk hn => World.grownBy.block h k hk (fun e => hn (by injection e))⟩
theorem Fr.blk {S : Nat → Prop} {a b : World} {k : Nat} {o : Obj} (h : Fr S a b) (ho : a.heap[k]? = some o) (hn : ¬ S k) : b.heap[k]? = some o := (h.block k (blk_lt ho) hn).trans ho

/-- A slice that reads as bytes. -/
def SlB (w : World) (A : Option Addr) (n : Nat) (l : List UInt8) : Prop :=
  l.length = n ∧ (n = 0 ∨ ∃ b off, A = some ⟨b, off, none⟩ ∧ b < w.heap.size ∧ ∀ i, i < n → w.cell? ⟨b, off + i, none⟩ = some (byt (l.getD i 0)))
theorem addr_add (b off j : Nat) : (⟨b, off, none⟩ : Addr).add j = ⟨b, off + j, none⟩ := by unfold Addr.add; split <;> simp_all
theorem SlB.news {w : World} {b off n : Nat} {l : List UInt8} (hl : l.length = n) (h : ∀ i, i < n → w.cell? ⟨b, off + i, none⟩ = some (byt (l.getD i 0))) :
    ∀ (j : Nat) (u : Value), (l.map byt)[j]? = some u → w.cell? ((⟨b, off, none⟩ : Addr).add j) = some u := by
  intro j u hu
  rw [List.getElem?_map, Option.map_eq_some_iff] at hu
  obtain ⟨x, hx, rfl⟩ := hu
  have hj := (List.getElem?_eq_some_iff.1 hx).1
  rw [addr_add, h j (by omega)]
  rw [List.getD_eq_getElem?_getD, hx]; rfl
theorem SlB.fr {S : Nat → Prop} {w w' : World} {A : Option Addr} {n : Nat} {l : List UInt8} (h : SlB w A n l) (hf : Fr S w w') (hn : ∀ b off, A = some ⟨b, off, none⟩ → ¬ S b) : SlB w' A n l := by
  refine ⟨h.1, ?_⟩
  rcases h.2 with h0 | ⟨b, off, rfl, hb, hc⟩
  · exact .inl h0
  · refine .inr ⟨b, off, rfl, Nat.lt_of_lt_of_le hb hf.size, fun i hi => ?_⟩
    rw [World.cell?_of_block (w := w) (hf.block b hb (hn b off rfl))]
    exact hc i hi

/-- A writer at block g, with the blocks S of its own: its bytes. -/
def WS (w : World) (g : Nat) (S : Nat → Prop) (bs : List UInt8) : Prop :=
  S g ∧ (∀ k, S k → k < w.heap.size) ∧
  ((bs = [] ∧ w.heap[g]? = some (.cells #[.pointer none, .int .i64 0] 48 (0, 0))) ∨
   ∃ t v, 0 < bs.length ∧ w.heap[g]? = some (.cells #[.pointer (some ⟨t, 0, none⟩), .int .i64 (bs.length : Int)] 48 (0, 0)) ∧ w.heap[t]? = some (.cells #[v] 76 (0, 0)) ∧ S t ∧
     (∀ k, v.ownBlock = some k → S k) ∧ w.ownsRow 0 5 1 v bs.length (bs.map byt))

theorem own_ne {w : World} {base g n size : Nat} {e t : TypeId} {v : Value} {xs : List Value} {cs : Array Value} (h : w.ownsRow base e size v n xs) (hg : w.heap[g]? = some (.cells cs t (0, 0))) (hne : e ≠ t) : v.ownBlock ≠ some g := by
  rcases h.2 with ⟨rfl, _⟩ | ⟨k, cap, cur, rfl, _, hk, _⟩
  · simp [Value.ownBlock]
  · intro he
    simp [Value.ownBlock] at he
    subst he
    rw [hk] at hg
    injection hg with hg
    injection hg with _ hg
    exact hne hg
theorem blk_ne {w : World} {g g' : Nat} {e t : TypeId} {cs cs' : Array Value} (h : w.heap[g]? = some (.cells cs e (0, 0))) (h' : w.heap[g']? = some (.cells cs' t (0, 0))) (hne : e ≠ t) : g ≠ g' := by
  rintro rfl
  rw [h] at h'
  injection h' with h'
  injection h' with _ h'
  exact hne h'

theorem WS.fr {S S' : Nat → Prop} {w w' : World} {g : Nat} {bs : List UInt8} (h : WS w g S bs) (hf : Fr S' w w') (hn : ∀ k, S k → ¬ S' k) : WS w' g S bs := by
  obtain ⟨h1, h2, h3⟩ := h
  refine ⟨h1, fun k hk => Nat.lt_of_lt_of_le (h2 k hk) hf.size, ?_⟩
  rcases h3 with ⟨rfl, hg⟩ | ⟨t, v, hpos, hg, ht, hSt, hv, hown⟩
  · exact .inl ⟨rfl, hf.blk hg (hn g h1)⟩
  · refine .inr ⟨t, v, hpos, hf.blk hg (hn g h1), hf.blk ht (hn t hSt), hSt, hv, ?_⟩
    obtain ⟨ho1, ho2⟩ := hown
    refine ⟨ho1, ?_⟩
    rcases ho2 with hnil | ⟨k, cap, cur, rfl, hb, hk, rest⟩
    · exact .inl hnil
    · exact .inr ⟨k, cap, cur, rfl, hb, hf.blk hk (hn k (hv k rfl)), rest⟩

/-- What an addition leaves. -/
def Added (g : Nat) (S : Nat → Prop) (bs : List UInt8) (w : World) (e : Ending) (w' : World) : Prop :=
  e = .returned (.tuple #[]) ∧ ∃ S', WS w' g S' bs ∧ Fr S w w' ∧ ∀ k, S' k → S k ∨ w.heap.size ≤ k

theorem ownsRow_set {w : World} {base n size : Nat} {e : TypeId} {v : Value} {xs : List Value} (h : w.ownsRow base e size v n xs) {p : Addr} (hp : v.ownBlock ≠ some p.block) (u : Value) : (w.setCell p u).ownsRow base e size v n xs := by
  obtain ⟨h1, h2⟩ := h
  refine ⟨h1, ?_⟩
  rcases h2 with hn | ⟨k, cap, cur, rfl, hb, hk, rest⟩
  · exact .inl hn
  · exact .inr ⟨k, cap, cur, rfl, hb, (heap_far (fun e => hp (by simp [Value.ownBlock, e]))).trans hk, rest⟩

theorem added_of {g t gg m cp : Nat} {S : Nat → Prop} {bs l : List UInt8} {w w1 : World} {v : Value} {x : Value}
    (hSg : S g) (hSt : S t) (hSk : ∀ k, v.ownBlock = some k → S k) (hS : ∀ k, S k → k < w.heap.size) (hl : l.length = m) (hm : 0 < m) (hgt : g ≠ t)
    (ht1 : w1.heap[t]? = some (.cells #[v] 76 (0, 0))) (hg1 : w1.heap[g]? = some (.cells #[.pointer (some ⟨t, 0, none⟩), x] 48 (0, 0)))
    (hown : w1.ownsRow 0 5 1 (.slice (some ⟨gg, 0, none⟩) (bs.length + m) cp) (bs.length + m) (bs.map byt ++ l.map byt)) (hgr : w.grownBy w1 v.ownBlock) (hat : v.ownBlock = some gg ∨ gg = w.heap.size) (hlt : gg < w1.heap.size) :
    Added g S (bs ++ l) w (.returned (.tuple #[])) ((w1.setCell ⟨t, 0, none⟩ (.slice (some ⟨gg, 0, none⟩) (bs.length + m) cp)).setCell ⟨g, 1, none⟩ (.int .i64 ((bs.length + m : Nat) : Int))) := by
  have ng := own_ne hown hg1 (by decide)
  have nt := own_ne hown ht1 (by decide)
  have hlen : (bs ++ l).length = bs.length + m := by rw [List.length_append, hl]
  have hsz : w.heap.size ≤ w1.heap.size := hgr.size
  refine ⟨rfl, fun k => S k ∨ k = gg, ⟨.inl hSg, fun k hk => ?_, .inr ⟨t, .slice (some ⟨gg, 0, none⟩) (bs.length + m) cp, by omega, ?_, ?_, .inl hSt, fun k hk => ?_, ?_⟩⟩, ?_, fun k hk => ?_⟩
  · have e : ((w1.setCell ⟨t, 0, none⟩ (.slice (some ⟨gg, 0, none⟩) (bs.length + m) cp)).setCell ⟨g, 1, none⟩ (.int .i64 ((bs.length + m : Nat) : Int))).heap.size = w1.heap.size := by simp [World.setCell]
    rw [e]
    rcases hk with h | rfl
    · have := hS k h; omega
    · exact hlt
  · rw [hlen, heap_set (cs := #[.pointer (some ⟨t, 0, none⟩), x]) (t := 48) ((heap_far (by simpa using hgt)).trans hg1)]
    rfl
  · rw [heap_far (by simpa using Ne.symm hgt), heap_set ht1]
    rfl
  · right; simp [Value.ownBlock] at hk; exact hk.symm
  · rw [hlen, List.map_append]
    exact ownsRow_set (ownsRow_set hown nt _) ng _
  · exact (((Fr.refl S w).grown hgr (fun j hj => .inl (hSk j hj))).set (p := ⟨t, 0, none⟩) (.inl hSt) _).set (p := ⟨g, 1, none⟩) (.inl hSg) _
  · rcases hk with h | rfl
    · exact .inl h
    · rcases hat with h | h
      · exact .inl (hSk _ h)
      · right; omega

set_option maxHeartbeats 4000000 in
set_option maxRecDepth 100000 in
theorem add_more (g t b off m c k cap : Nat) (S : Nat → Prop) (bs l : List UInt8) (w : World) (hg : w.heap[g]? = some (.cells #[.pointer (some ⟨t, 0, none⟩), .int .i64 (bs.length : Int)] 48 (0, 0)))
    (ht : w.heap[t]? = some (.cells #[.slice (some ⟨k, 0, none⟩) bs.length cap] 76 (0, 0))) (hown : w.ownsRow 0 5 1 (.slice (some ⟨k, 0, none⟩) bs.length cap) bs.length (bs.map byt))
    (hSg : S g) (hSt : S t) (hSk : S k) (hS : ∀ k, S k → k < w.heap.size) (hl : l.length = m) (hm : 0 < m) (hsum : bs.length + m ≤ 1000000000)
    (hc : ∀ i, i < m → w.cell? ⟨b, off + i, none⟩ = some (byt (l.getD i 0))) :
    Calls Try.prog 41 #[.pointer (some ⟨g, 0, none⟩), .slice (some ⟨b, off, none⟩) m c] w (Added g S (bs ++ l) w) := by
  obtain ⟨i0, hi0, hz0, hz1, hz2⟩ := info_parts info_u8
  have g0 : w.cell? ⟨g, 0, none⟩ = some (.pointer (some ⟨t, 0, none⟩)) := by rw [cell_of_row _ _ _ _ _ _ hg]; rfl
  have g1 : w.cell? ⟨g, 1, none⟩ = some (.int .i64 (bs.length : Int)) := by rw [cell_of_row _ _ _ _ _ _ hg]; rfl
  have t0 : w.cell? ⟨t, 0, none⟩ = some (.slice (some ⟨k, 0, none⟩) bs.length cap) := by rw [cell_of_row _ _ _ _ _ _ ht]; rfl
  have lg := blk_lt hg
  have lt := blk_lt ht
  have Hng := Lib.hid (own_ne hown hg (by decide))
  have Hnt := Lib.hid (own_ne hown ht (by decide))
  have Hngt := Lib.hid (blk_ne hg ht (by decide))
  have Hg := Lib.hid hg; clear hg
  have Ht := Lib.hid ht; clear ht
  have Hnews := Lib.hid (SlB.news hl hc); clear hc
  have Hl := Lib.hid hl; clear hl
  have HO := Lib.hid hown; clear hown
  have HSg := Lib.hid hSg; clear hSg
  have HSt := Lib.hid hSt; clear hSt
  have HSk := Lib.hid hSk; clear hSk
  have HS := Lib.hid hS; clear hS
  go_enter Try.func41, Try.ntmps41
  go_wp2_with fail
  go_quiet (fail)
  go_wp2_with fail
  go_region_law
    ((refine step_append_lies _ (by rfl) _ _ _ (by rfl) 0 5 i0 _ 1 1 Try.underlying53 hi0 hz0 hz1 hz2 rfl (by omega) (.slice (some ⟨k, 0, none⟩) bs.length cap) bs.length (bs.map byt) (by rfl) HO.out
        ⟨b, off, none⟩ m c (l.map byt) (by rfl) (by rw [List.length_map, Hl.out, Nat.mul_one]) Hnews.out (byt_one l)
        hm (by unfold maxLen; omega) (by omega) (by omega) w.heap.size (by simp) ?_; intro gg cp w1 hown1 hgrow hat hlt; have ht1 : w1.heap[t]? = some (.cells #[.slice (some ⟨k, 0, none⟩) bs.length cap] 76 (0, 0)) := (hgrow.block t lt (Ne.symm Hnt.out)).trans Ht.out; have hg1 : w1.heap[g]? = some (.cells #[.pointer (some ⟨t, 0, none⟩), .int .i64 (bs.length : Int)] 48 (0, 0)) := (hgrow.block g lg (Ne.symm Hng.out)).trans Hg.out; have HT1 := Lib.hid ht1; have HG1 := Lib.hid hg1; have cg1 : w1.cell? ⟨g, 0, none⟩ = some (.pointer (some ⟨t, 0, none⟩)) := cell_of_row _ _ _ _ _ _ hg1; have ct1 : w1.cell? ⟨t, 0, none⟩ = some (.slice (some ⟨k, 0, none⟩) bs.length cap) := cell_of_row _ _ _ _ _ _ ht1; have ft1 : w1.frozen? ⟨t, 0, none⟩ = false := frozen_of_row _ _ _ _ _ ht1; have HO1 := Lib.hid hown1; have HGR := Lib.hid hgrow; have HAT := Lib.hid hat; clear ht1 hg1))
  all_goals
    have hfin := added_of (l := l) (S := S) (x := .int .i64 (bs.length : Int)) (w := w) HSg.out HSt.out (fun j hj => by simp [Value.ownBlock] at hj; subst hj; exact HSk.out) HS.out Hl.out hm Hngt.out HT1.out HG1.out HO1.out ⟨HGR.out.os, HGR.out.tape, HGR.out.output, HGR.out.size, HGR.out.block⟩ HAT.out hlt
    have HF := Lib.hid hfin
    have kg0 : (w1.setCell ⟨t, 0, none⟩ (.slice (some ⟨gg, 0, none⟩) (bs.length + m) cp)).cell? ⟨g, 0, none⟩ = some (.pointer (some ⟨t, 0, none⟩)) := by
      rw [World.cell?_of_block (w := w1) (heap_far (by simpa using Hngt.out))]; exact cg1
    have kg1 : (w1.setCell ⟨t, 0, none⟩ (.slice (some ⟨gg, 0, none⟩) (bs.length + m) cp)).cell? ⟨g, 1, none⟩ = some (.int .i64 (bs.length : Int)) := by
      rw [World.cell?_of_block (w := w1) (heap_far (by simpa using Hngt.out)), cell_of_row _ _ _ _ _ _ HG1.out]; rfl
    have kf1 : (w1.setCell ⟨t, 0, none⟩ (.slice (some ⟨gg, 0, none⟩) (bs.length + m) cp)).frozen? ⟨g, 1, none⟩ = false := by
      rw [World.frozen?_of_block (w := w1) (heap_far (by simpa using Hngt.out))]; exact frozen_of_row _ _ _ _ _ HG1.out
    have kt0 : (w1.setCell ⟨t, 0, none⟩ (.slice (some ⟨gg, 0, none⟩) (bs.length + m) cp)).cell? ⟨t, 0, none⟩ = some (.slice (some ⟨gg, 0, none⟩) (bs.length + m) cp) := by
      rw [cell_of_row _ _ _ _ _ _ (heap_set HT1.out)]; rfl
    obtain ⟨W, hW⟩ : ∃ W, W = w1.setCell ⟨t, 0, none⟩ (.slice (some ⟨gg, 0, none⟩) (bs.length + m) cp) := ⟨_, rfl⟩
    rw [← hW] at kg0 kg1 kf1 kt0 HF ⊢
    clear hfin hgrow hat hW hown1 cg1 ct1 ft1 g0 g1 t0 hlt
    go_wp2_with fail
    go_end0
    exact HF.out

theorem Bytes_none (g : Nat) (w : World) (hg : w.heap[g]? = some (.cells #[.pointer none, .int .i64 0] 48 (0, 0))) :
    Calls Try.prog 19 #[.pointer (some ⟨g, 0, none⟩)] w fun e w' => e = .returned (.slice none 0 0) ∧ w = w' := by
  have g0 : w.cell? ⟨g, 0, none⟩ = some (.pointer none) := by rw [cell_of_row _ _ _ _ _ _ hg]; rfl
  clear hg
  go_enter Try.func19, Try.ntmps19
  go_wp2
  go_ret
  exact ⟨rfl, rfl⟩

theorem Added.back {g : Nat} {S S1 : Nat → Prop} {bs : List UInt8} {w w1 w' : World} {e : Ending} (h : Added g S1 bs w1 e w') (hf : Fr S w w1) (hs : ∀ k, S1 k → S k ∨ w.heap.size ≤ k) : Added g S bs w e w' := by
  obtain ⟨h1, S', h2, h3, h4⟩ := h
  refine ⟨h1, S', h2, hf.trans h3 hs, fun k hk => ?_⟩
  rcases h4 k hk with h | h
  · exact hs k h
  · right; have := hf.size; omega

set_option maxHeartbeats 4000000 in
set_option maxRecDepth 100000 in
theorem add_first (g b off m c : Nat) (S : Nat → Prop) (l : List UInt8) (w : World) (hg : w.heap[g]? = some (.cells #[.pointer none, .int .i64 0] 48 (0, 0)))
    (hSg : S g) (hS : ∀ k, S k → k < w.heap.size) (hl : l.length = m) (hm : 0 < m) (hsum : m ≤ 1000000000) (hb : b < w.heap.size) (hbg : b ≠ g)
    (hc : ∀ i, i < m → w.cell? ⟨b, off + i, none⟩ = some (byt (l.getD i 0))) :
    Calls Try.prog 41 #[.pointer (some ⟨g, 0, none⟩), .slice (some ⟨b, off, none⟩) m c] w (Added g S l w) := by
  obtain ⟨i0, hi0, hz0, hz1, hz2⟩ := info_parts info_u8
  have g0 : w.cell? ⟨g, 0, none⟩ = some (.pointer none) := by rw [cell_of_row _ _ _ _ _ _ hg]; rfl
  have f0 : w.frozen? ⟨g, 0, none⟩ = false := frozen_of_row _ _ _ _ _ hg
  have lg := blk_lt hg
  have HB := Lib.hid (fun n => Bytes_none g (w.drewN n) hg)
  have Hg := Lib.hid hg; clear hg
  have Hc := Lib.hid hc; clear hc
  have Hl := Lib.hid hl; clear hl
  have HSg := Lib.hid hSg; clear hSg
  have HS := Lib.hid hS; clear hS
  have Hbg := Lib.hid hbg; clear hbg
  go_enter Try.func41, Try.ntmps41
  go_wp2_with fail
  go_quiet (fail)
  go_wp2_with fail
  ((with_reducible refine (HB.out _).mono ?_); rintro e w' ⟨rfl, rfl⟩)
  clear HB
  have kb : ∀ n, ((w.drewN n).alloc (.cells #[.slice none 0 0] 76)).heap[g]? = some (.cells #[.pointer none, .int .i64 0] 48 (0, 0)) := fun n => (Below.heap_alloc (w.drewN n) _ g lg).trans Hg.out
  have kc : ∀ n, ((w.drewN n).alloc (.cells #[.slice none 0 0] 76)).cell? ⟨g, 0, none⟩ = some (.pointer none) := fun n => cell_of_row _ _ _ _ _ _ (kb n)
  have kf : ∀ n, ((w.drewN n).alloc (.cells #[.slice none 0 0] 76)).frozen? ⟨g, 0, none⟩ = false := fun n => frozen_of_row _ _ _ _ _ (kb n)
  have KB := Lib.hid kb; clear kb
  go_wp2_with fail
  clear kc kf
  obtain ⟨t, ht⟩ : ∃ t, t = w.heap.size := ⟨_, rfl⟩
  rw [← ht]
  generalize hW : ((w.drewN _).alloc (.cells #[.slice none 0 0] 76)).setCell ⟨g, 0, none⟩ (.pointer (some ⟨t, 0, none⟩)) = W
  have hgt : g ≠ t := by omega
  have hg1 : W.heap[g]? = some (.cells #[.pointer (some ⟨t, 0, none⟩), .int .i64 0] 48 (0, 0)) := by rw [← hW, heap_set (KB.out _)]; rfl
  have ht1 : W.heap[t]? = some (.cells #[.slice none 0 0] 76 (0, 0)) := by
    rw [← hW, heap_far (by simpa using Ne.symm hgt), ht]; exact heap_alloc_new (w.drewN _) _
  have hsz : W.heap.size = w.heap.size + 1 := by rw [← hW]; simp [World.setCell]
  have hfr : Fr S w W := by rw [← hW]; exact (((Fr.refl S w).drewN _).alloc _).set (p := ⟨g, 0, none⟩) (.inl HSg.out) _
  have hnews : ∀ (j : Nat) (u : Value), (l.map byt)[j]? = some u → W.cell? ((⟨b, off, none⟩ : Addr).add j) = some u :=
    SlB.news Hl.out (fun i hi => by
      rw [← Hc.out i hi, ← hW]
      exact World.cell?_of_block (w := w) ((heap_far (by simpa using Hbg.out)).trans (Below.heap_alloc (w.drewN _) _ b hb)))
  have HT := Lib.hid ht; clear ht hW KB
  have g0' : W.cell? ⟨g, 0, none⟩ = some (.pointer (some ⟨t, 0, none⟩)) := by rw [cell_of_row _ _ _ _ _ _ hg1]; rfl
  have t0' : W.cell? ⟨t, 0, none⟩ = some (.slice none 0 0) := by rw [cell_of_row _ _ _ _ _ _ ht1]; rfl
  have lt1 := blk_lt ht1
  have lg1 := blk_lt hg1
  have Hgt := Lib.hid hgt; clear hgt
  have HG0 := Lib.hid hg1; clear hg1
  have HT0 := Lib.hid ht1; clear ht1
  have Hsz := Lib.hid hsz; clear hsz
  have Hfr := Lib.hid hfr; clear hfr
  have Hnews := Lib.hid hnews; clear hnews g0 f0
  have HO : Hid (W.ownsRow 0 5 1 (.slice none 0 0) 0 []) := World.ownsRow_nil _ _ _ _
  go_region_law
    ((refine step_append_lies _ (by rfl) _ _ _ (by rfl) 0 5 i0 _ 1 1 Try.underlying53 hi0 hz0 hz1 hz2 rfl (by omega) (.slice none 0 0) 0 [] (by rfl) HO.out
        ⟨b, off, none⟩ m c (l.map byt) (by rfl) (by rw [List.length_map, Hl.out, Nat.mul_one]) Hnews.out (byt_one l)
        hm (by unfold maxLen; omega) (by omega) (by omega) W.heap.size (by simp) ?_; intro gg cp w1 hown1 hgrow hat hlt; have ht1 : w1.heap[t]? = some (.cells #[.slice none 0 0] 76 (0, 0)) := (hgrow.block t lt1 (by simp [Value.ownBlock])).trans HT0.out; have hg1 : w1.heap[g]? = some (.cells #[.pointer (some ⟨t, 0, none⟩), .int .i64 0] 48 (0, 0)) := (hgrow.block g lg1 (by simp [Value.ownBlock])).trans HG0.out; have HT1 := Lib.hid ht1; have HG1 := Lib.hid hg1; have cg1 : w1.cell? ⟨g, 0, none⟩ = some (.pointer (some ⟨t, 0, none⟩)) := cell_of_row _ _ _ _ _ _ hg1; have ct1 : w1.cell? ⟨t, 0, none⟩ = some (.slice none 0 0) := cell_of_row _ _ _ _ _ _ ht1; have ft1 : w1.frozen? ⟨t, 0, none⟩ = false := frozen_of_row _ _ _ _ _ ht1; have HO1 := Lib.hid hown1; have HGR := Lib.hid hgrow; have HAT := Lib.hid hat; clear ht1 hg1))
  all_goals
    have hfin := added_of (bs := []) (l := l) (S := fun k => S k ∨ k = t) (x := .int .i64 0) (w := W) (.inl HSg.out) (.inr rfl) (fun j hj => by simp [Value.ownBlock] at hj) (fun k hk => by rcases hk with h | rfl; (have := HS.out k h; have := Hsz.out; omega); exact lt1) Hl.out hm Hgt.out HT1.out HG1.out HO1.out ⟨HGR.out.os, HGR.out.tape, HGR.out.output, HGR.out.size, HGR.out.block⟩ HAT.out hlt
    have hfin2 : Added g S l w _ _ := hfin.back Hfr.out (fun k hk => by rcases hk with h | rfl; exact .inl h; right; rw [HT.out]; exact Nat.le_refl _)
    rw [show ([] : List UInt8).length + m = m from by simp] at hfin2
    have HF := Lib.hid hfin2
    have kg0 : (w1.setCell ⟨t, 0, none⟩ (.slice (some ⟨gg, 0, none⟩) m cp)).cell? ⟨g, 0, none⟩ = some (.pointer (some ⟨t, 0, none⟩)) := by
      rw [World.cell?_of_block (w := w1) (heap_far (by simpa using Hgt.out))]; exact cg1
    have kg1 : (w1.setCell ⟨t, 0, none⟩ (.slice (some ⟨gg, 0, none⟩) m cp)).cell? ⟨g, 1, none⟩ = some (.int .i64 0) := by
      rw [World.cell?_of_block (w := w1) (heap_far (by simpa using Hgt.out)), cell_of_row _ _ _ _ _ _ HG1.out]; rfl
    have kf1 : (w1.setCell ⟨t, 0, none⟩ (.slice (some ⟨gg, 0, none⟩) m cp)).frozen? ⟨g, 1, none⟩ = false := by
      rw [World.frozen?_of_block (w := w1) (heap_far (by simpa using Hgt.out))]; exact frozen_of_row _ _ _ _ _ HG1.out
    have kt0 : (w1.setCell ⟨t, 0, none⟩ (.slice (some ⟨gg, 0, none⟩) m cp)).cell? ⟨t, 0, none⟩ = some (.slice (some ⟨gg, 0, none⟩) m cp) := by
      rw [cell_of_row _ _ _ _ _ _ (heap_set HT1.out)]; rfl
    obtain ⟨W2, hW2⟩ : ∃ W2, W2 = w1.setCell ⟨t, 0, none⟩ (.slice (some ⟨gg, 0, none⟩) m cp) := ⟨_, rfl⟩
    rw [← hW2] at kg0 kg1 kf1 kt0 HF ⊢
    clear hfin hfin2 hgrow hat hW2 hown1 cg1 ct1 ft1 hlt g0' t0'
    go_wp2_with fail
    go_end0
    exact HF.out
end Go.Proofs.Ythbocddkomhpoaa.Co

/- codec's writer: nothing is added; any bytes are; one that is nil. -/
namespace Go.Proofs.Ythbocddkomhpoaa.Co
open Go.RowKit

theorem append_zero (k n cap b off c : Nat) (h : n ≤ cap) (w : World) :
    (Builtin.append_ #[53, 53] 53 #[.slice (some ⟨k, 0, none⟩) n cap, .slice (some ⟨b, off, none⟩) 0 c]).run Try.prog w = .ok (.slice (some ⟨k, 0, none⟩) n cap) w := by
  obtain ⟨i0, hi0, hz0, hz1, hz2⟩ := info_parts info_u8
  have h0 : (loadCells ⟨b, off, none⟩ 0).run Try.prog w = .ok #[] w := run_loadCells_list (P := Try.prog) w ⟨b, off, none⟩ [] (fun j v h => by simp at h)
  simp [Builtin.append_, run_underlying Try.underlying53, sizeOf, typeInfo, hi0, Builtin.lenOf, Builtin.firstCells, h, storeCells, hz1, hz2, Builtin.mayShare, h0, storeCells]

set_option maxHeartbeats 4000000 in
set_option maxRecDepth 100000 in
theorem add_zero_ (g t b off c k cap : Nat) (S : Nat → Prop) (bs : List UInt8) (w : World) (hg : w.heap[g]? = some (.cells #[.pointer (some ⟨t, 0, none⟩), .int .i64 (bs.length : Int)] 48 (0, 0)))
    (ht : w.heap[t]? = some (.cells #[.slice (some ⟨k, 0, none⟩) bs.length cap] 76 (0, 0))) (hn : bs.length ≤ cap) (hpos : 0 < bs.length) (hown : w.ownsRow 0 5 1 (.slice (some ⟨k, 0, none⟩) bs.length cap) bs.length (bs.map byt))
    (hSg : S g) (hSt : S t) (hSk : S k) (hS : ∀ k, S k → k < w.heap.size) :
    Calls Try.prog 41 #[.pointer (some ⟨g, 0, none⟩), .slice (some ⟨b, off, none⟩) 0 c] w (Added g S bs w) := by
  have g0 : w.cell? ⟨g, 0, none⟩ = some (.pointer (some ⟨t, 0, none⟩)) := by rw [cell_of_row _ _ _ _ _ _ hg]; rfl
  have g1 : w.cell? ⟨g, 1, none⟩ = some (.int .i64 (bs.length : Int)) := by rw [cell_of_row _ _ _ _ _ _ hg]; rfl
  have gf : w.frozen? ⟨g, 1, none⟩ = false := frozen_of_row _ _ _ _ _ hg
  have t0 : w.cell? ⟨t, 0, none⟩ = some (.slice (some ⟨k, 0, none⟩) bs.length cap) := by rw [cell_of_row _ _ _ _ _ _ ht]; rfl
  have tf : w.frozen? ⟨t, 0, none⟩ = false := frozen_of_row _ _ _ _ _ ht
  have hgt := blk_ne hg ht (by decide)
  have Hng := Lib.hid (own_ne hown hg (by decide))
  have Hnt := Lib.hid (own_ne hown ht (by decide))
  have Hg := Lib.hid hg; clear hg
  have Ht := Lib.hid ht; clear ht
  have HO := Lib.hid hown; clear hown
  have HSg := Lib.hid hSg; clear hSg
  have HSt := Lib.hid hSt; clear hSt
  have HSk := Lib.hid hSk; clear hSk
  have HS := Lib.hid hS; clear hS
  have hap := append_zero k bs.length cap b off c hn
  go_enter Try.func41, Try.ntmps41
  go_wp2_with fail
  go_quiet (fail)
  go_wp2_with fail
  go_region
  all_goals
    generalize hW : (w.drewN _).setCell ⟨t, 0, none⟩ (.slice (some ⟨k, 0, none⟩) bs.length cap) = W
    have kg : W.heap[g]? = some (.cells #[.pointer (some ⟨t, 0, none⟩), .int .i64 (bs.length : Int)] 48 (0, 0)) := by rw [← hW, heap_far (by simpa using hgt)]; exact Hg.out
    have kt : W.heap[t]? = some (.cells #[.slice (some ⟨k, 0, none⟩) bs.length cap] 76 (0, 0)) := by rw [← hW, heap_set (w := w.drewN _) Ht.out]; rfl
    have hfin : Hid (Added g S bs w (.returned (.tuple #[])) (W.setCell ⟨g, 1, none⟩ (.int .i64 (bs.length : Int)))) := by
      refine ⟨rfl, S, ⟨HSg.out, fun k hk => ?_, .inr ⟨t, .slice (some ⟨k, 0, none⟩) bs.length cap, hpos, ?_, ?_, HSt.out, fun j hj => ?_, ?_⟩⟩, ?_, fun k hk => .inl hk⟩
      · have := HS.out k hk; rw [← hW]; simpa [World.setCell] using this
      · exact (heap_set kg).trans rfl
      · exact (heap_far (by simpa using Ne.symm hgt)).trans kt
      · simp [Value.ownBlock] at hj; subst hj; exact HSk.out
      · have h1 := ownsRow_set HO.out (p := ⟨t, 0, none⟩) Hnt.out (.slice (some ⟨k, 0, none⟩) bs.length cap)
        have h2 : W.ownsRow 0 5 1 (.slice (some ⟨k, 0, none⟩) bs.length cap) bs.length (bs.map byt) := by rw [← hW]; exact h1
        exact ownsRow_set h2 (p := ⟨g, 1, none⟩) Hng.out _
      · rw [← hW]; exact (((Fr.refl S w).drewN _).set (p := ⟨t, 0, none⟩) (.inl HSt.out) _).set (p := ⟨g, 1, none⟩) (.inl HSg.out) _
    have c0 : W.cell? ⟨g, 0, none⟩ = some (.pointer (some ⟨t, 0, none⟩)) := by rw [cell_of_row _ _ _ _ _ _ kg]; rfl
    have c1 : W.cell? ⟨g, 1, none⟩ = some (.int .i64 (bs.length : Int)) := by rw [cell_of_row _ _ _ _ _ _ kg]; rfl
    have c2 : W.frozen? ⟨g, 1, none⟩ = false := frozen_of_row _ _ _ _ _ kg
    have c3 : W.cell? ⟨t, 0, none⟩ = some (.slice (some ⟨k, 0, none⟩) bs.length cap) := by rw [cell_of_row _ _ _ _ _ _ kt]; rfl
    clear kg kt hW g0 g1 gf t0 tf hap
    go_wp2_with fail
    go_end0
    exact hfin.out

/-- Bytes are added: some, or none behind others. -/
theorem add_c (g m c : Nat) (A : Option Addr) (S : Nat → Prop) (bs l : List UInt8) (w : World) (h : WS w g S bs) (hl : SlB w A m l) (hA : ∃ b off, A = some ⟨b, off, none⟩ ∧ ¬ S b) (hm : 0 < m ∨ bs ≠ []) (hsum : bs.length + m ≤ 1000000000) :
    Calls Try.prog 41 #[.pointer (some ⟨g, 0, none⟩), .slice A m c] w (Added g S (bs ++ l) w) := by
  obtain ⟨b, off, rfl, hb⟩ := hA
  obtain ⟨hSg, hS, hx⟩ := h
  have hll := hl.1
  rcases hx with ⟨rfl, hg⟩ | ⟨t, v, hpos, hg, ht, hSt, hv, hown⟩
  · have hm0 : 0 < m := by rcases hm with h | h; exact h; exact absurd rfl h
    rcases hl.2 with h0 | ⟨b', off', hA', hlt, hc⟩
    · omega
    · injection hA' with hA'
      injection hA' with h1 h2 _
      subst h1; subst h2
      rw [List.nil_append]
      exact add_first g b off m c S l w hg hSg hS hll hm0 (by simpa using hsum) hlt (fun e => hb (e ▸ hSg)) hc
  · obtain ⟨ho1, ho2⟩ := hown
    rcases ho2 with ⟨_, hz⟩ | ⟨k, cap, cur, rfl, hk0, hk, hcap, rest⟩
    · omega
    · have hSk := hv k rfl
      rcases Nat.eq_zero_or_pos m with h0 | h0
      · subst h0
        have : l = [] := List.eq_nil_of_length_eq_zero hll
        subst this
        rw [List.append_nil]
        exact add_zero_ g t b off c k cap S bs w hg ht hcap hpos ⟨ho1, .inr ⟨k, cap, cur, rfl, hk0, hk, hcap, rest⟩⟩ hSg hSt hSk hS
      · rcases hl.2 with h1 | ⟨b', off', hA', hlt, hc⟩
        · omega
        · injection hA' with hA'
          injection hA' with h1 h2 _
          subst h1; subst h2
          exact add_more g t b off m c k cap S bs l w hg ht ⟨ho1, .inr ⟨k, cap, cur, rfl, hk0, hk, hcap, rest⟩⟩ hSg hSt hSk hS hll h0 hsum hc

theorem nilAdd_c (v : Value) (w : World) : Calls Try.prog 41 #[.pointer none, v] w fun e w' => e = .returned (.tuple #[]) ∧ w = w' := by
  go_enter Try.func41, Try.ntmps41
  go_wp2_with fail
  refine bodyPost_ret (results_none rfl _ _ _) rfl ?_
  exact ⟨rfl, rfl⟩
theorem nilBytes_c (w : World) : Calls Try.prog 19 #[.pointer none] w fun e w' => e = .returned (.slice none 0 0) ∧ w = w' := by
  go_enter Try.func19, Try.ntmps19
  go_wp2
  go_ret
  exact ⟨rfl, rfl⟩
end Go.Proofs.Ythbocddkomhpoaa.Co
