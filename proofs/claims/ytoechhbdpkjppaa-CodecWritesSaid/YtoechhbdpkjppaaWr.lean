/- codec: items are written by the writer, and by the reference beside it. -/
import Derived.Test.YtoechhbdpkjppaaRefW
namespace Go.Proofs.Ytoechhbdpkjppaa
open Go.RowKit

/-- A writer with the bytes l; an item's copy; and a row with the bytes m. -/
def WB (base : Nat) (w0 w : World) (g : Nat) (l : List UInt8) (q : Nat) (x : Itm) (A : Option Addr) (n c : Nat) (m : List UInt8) : Prop :=
  Below base w0 w ∧ base ≤ w.heap.size ∧ Cpy w q x ∧ (∃ S, WS w g S l ∧ (∀ k, S k → base ≤ k) ∧ ¬ S q ∧ ∀ k, (Value.slice A n c).ownBlock = some k → ¬ S k) ∧ w.ownsRow base 5 1 (.slice A n c) n (m.map byt)

theorem own_fr {S : Nat → Prop} {w w' : World} {base n : Nat} {v : Value} {xs : List Value} {e : TypeId} {size : Nat} (h : w.ownsRow base e size v n xs) (hf : Fr S w w') (hv : ∀ k, v.ownBlock = some k → ¬ S k) : w'.ownsRow base e size v n xs := by
  obtain ⟨h1, h2⟩ := h
  refine ⟨h1, ?_⟩
  rcases h2 with hn | ⟨k, cap, cur, rfl, hb, hk, rest⟩
  · exact .inl hn
  · exact .inr ⟨k, cap, cur, rfl, hb, hf.blk hk (hv k rfl), rest⟩
theorem own_lt {w : World} {base n : Nat} {v : Value} {xs : List Value} {e : TypeId} {size : Nat} (h : w.ownsRow base e size v n xs) : ∀ k, v.ownBlock = some k → base ≤ k ∧ k < w.heap.size := h.lt

section
variable {base g q n c : Nat} {w0 w w' : World} {l m : List UInt8} {x : Itm} {A : Option Addr}
theorem WB.added {l' : List UInt8} {S : Nat → Prop} (hb : Below base w0 w) (hB : base ≤ w.heap.size) (hc : Cpy w q x) (hS : ∀ k, S k → base ≤ k) (hq : ¬ S q) (hv : ∀ k, (Value.slice A n c).ownBlock = some k → ¬ S k)
    (ho : w.ownsRow base 5 1 (.slice A n c) n (m.map byt)) (h : Added g S l' w (.returned (.tuple #[])) w') : WB base w0 w' g l' q x A n c m := by
  obtain ⟨_, S2, hws2, hfr, hsub⟩ := h
  refine ⟨hb.trans (hfr.below hS hB), Nat.le_trans hB hfr.size, hfr.blk hc hq, ⟨S2, hws2, fun k hk => ?_, fun hk => ?_, fun k hk hk2 => ?_⟩, own_fr ho hfr hv⟩
  · rcases hsub k hk with h | h
    · exact hS k h
    · omega
  · rcases hsub q hk with h | h
    · exact hq h
    · have := blk_lt hc; omega
  · rcases hsub k hk2 with h | h
    · exact hv k hk h
    · have := (own_lt ho k hk).2; omega
theorem WB.below (h : WB base w0 w g l q x A n c m) (hb : Below w.heap.size w w') : WB base w0 w' g l q x A n c m := by
  obtain ⟨h1, h2, h3, ⟨S, h4, h5, h6, h7⟩, h8⟩ := h
  exact ⟨h1.trans (hb.mono h2), Nat.le_trans h2 hb.size, (hb.block q (blk_lt h3)).trans h3, ⟨S, h4.below hb, h5, h6, h7⟩, own_fr (S := fun _ => False) h8 (Fr.of_below hb) (fun _ _ h => h)⟩
theorem WB.drew (h : WB base w0 w g l q x A n c m) : WB base w0 w.drew g l q x A n c m := h.below (Below.refl _ _).drew
theorem WB.all (h : WB base w0 w g l q x A n c m) : CpyC w q x := h.2.2.1.all

theorem wb_nat2 {a b : Nat} (h : WB base w0 w g l q x A n c m) (ha : a < 2 ^ 64) (hb : b < 2 ^ 64) (hsum : l.length ≤ 200000) :
    Calls Try.prog 15 #[.pointer (some ⟨g, 0, none⟩), .slice (some ⟨w.heap.size, 0, none⟩) 2 2] (w.alloc (.cells #[.int .u64 (a : Int), .int .u64 (b : Int)] 29)) fun e w' => e = .returned (.tuple #[]) ∧ CpyC w' q x ∧ Hid (WB base w0 w' g (l ++ (natB a ++ natB b)) q x A n c m) := by
  obtain ⟨h1, h2, h3, ⟨S, h4, h5, h6, h7⟩, h8⟩ := h
  have hbl : Below w.heap.size w (w.alloc (.cells #[.int .u64 (a : Int), .int .u64 (b : Int)] 29)) := (Below.refl _ _).alloc (Nat.le_refl _) _
  have := wNat_c g 2 2 (some ⟨w.heap.size, 0, none⟩) S l [a, b] _ (h4.below hbl) rfl (by intro y hy; simp at hy; rcases hy with rfl | rfl <;> assumption)
    (.inr ⟨w.heap.size, 0, rfl, by simp, fun hS => by have := h4.lt _ hS; omega, fun i hi => by
      rw [cell_of_row _ _ _ _ _ _ (heap_alloc_new w _)]
      match i, hi with
      | 0, _ => rfl
      | 1, _ => rfl⟩) (by omega)
  rw [show natsB [a, b] = natB a ++ natB b by simp [natsB]] at this
  refine this.mono fun e w2 hh => ?_
  have h9 := hh.back (Fr.of_below hbl) (fun j hj => .inl hj)
  have he := h9.1
  subst he
  have hk := WB.added h1 h2 h3 h5 h6 h7 h8 h9
  exact ⟨rfl, hk.all, hk⟩
theorem wb_int {i : Int} (h : WB base w0 w g l q x A n c m) (hi : -9223372036854775808 ≤ i ∧ i ≤ 9223372036854775807) (hsum : l.length ≤ 200000) :
    Calls Try.prog 17 #[.pointer (some ⟨g, 0, none⟩), .slice (some ⟨w.heap.size, 0, none⟩) 1 1] (w.alloc (.cells #[.int .i64 i] 2)) fun e w' => e = .returned (.tuple #[]) ∧ CpyC w' q x ∧ Hid (WB base w0 w' g (l ++ natB (fz i)) q x A n c m) := by
  obtain ⟨h1, h2, h3, ⟨S, h4, h5, h6, h7⟩, h8⟩ := h
  refine (wInt1_c g i S l w h4 hi (by omega)).mono fun e w' hh => ?_
  have hk := WB.added h1 h2 h3 h5 h6 h7 h8 hh.2
  exact ⟨hh.1, hk.all, hk⟩
theorem wb_flag {is : Bool} (h : WB base w0 w g l q x A n c m) (hsum : l.length ≤ 200000) :
    Calls Try.prog 19 #[.pointer (some ⟨g, 0, none⟩), .bool is] w fun e w' => e = .returned (.tuple #[]) ∧ CpyC w' q x ∧ Hid (WB base w0 w' g (l ++ natB (if is then 1 else 0)) q x A n c m) := by
  obtain ⟨h1, h2, h3, ⟨S, h4, h5, h6, h7⟩, h8⟩ := h
  refine (wFlag_c g is S l w h4 (by omega)).mono fun e w' hh => ?_
  have hk := WB.added h1 h2 h3 h5 h6 h7 h8 hh.2
  exact ⟨hh.1, hk.all, hk⟩
theorem wb_text {s : ByteArray} (h : WB base w0 w g l q x A n c m) (hsum : l.length ≤ 200000) (hs : s.size ≤ 1000) :
    Calls Try.prog 21 #[.pointer (some ⟨g, 0, none⟩), .string s] w fun e w' => e = .returned (.tuple #[]) ∧ CpyC w' q x ∧ Hid (WB base w0 w' g (l ++ (natB s.size ++ s.data.toList)) q x A n c m) := by
  obtain ⟨h1, h2, h3, ⟨S, h4, h5, h6, h7⟩, h8⟩ := h
  refine (wText_c g s S l w h4 (by omega)).mono fun e w' hh => ?_
  have h9 := hh.2.out
  rw [List.append_assoc] at h9
  have hk := WB.added h1 h2 h3 h5 h6 h7 h8 h9
  exact ⟨hh.1, hk.all, hk⟩

/-- New bytes, beside the row. -/
def Sep (w : World) (A : Option Addr) (n c : Nat) (p k : Nat) (t : List UInt8) : Prop := SlB w (some ⟨p, 0, none⟩) k t ∧ (Value.slice A n c).ownBlock ≠ some p
theorem Sep.below {p k : Nat} {t : List UInt8} (h : Sep w A n c p k t) (hb : Below w.heap.size w w') : Sep w' A n c p k t := ⟨h.1.fr (S := fun _ => False) (Fr.of_below hb) (fun _ _ _ h => h), h.2⟩
theorem Sep.news {p k : Nat} {t : List UInt8} (h : Sep w A n c p k t) (hk : 0 < k) : ∀ (j : Nat) (u : Value), (t.map byt)[j]? = some u → w.cell? ((⟨p, 0, none⟩ : Addr).add j) = some u := by
  rcases h.1.2 with h0 | ⟨b', off', hA, _, hc⟩
  · omega
  · injection hA with hA
    injection hA with h1 h2 _
    subst h1; subst h2
    exact SlB.news h.1.1 hc

/-- The reference's bytes, told beside all that. -/
theorem wb_ref {f : FuncId} {args : Array Value} {k : Nat} {t : List UInt8} (h : WB base w0 w g l q x A n c m)
    (hc : Calls Try.prog f args w fun e w' => ∃ p d, e = .returned (.slice (some ⟨p, 0, none⟩) k d) ∧ Hid (NewB w w' p k d t)) :
    Calls Try.prog f args w fun e w' => ∃ p d, e = .returned (.slice (some ⟨p, 0, none⟩) k d) ∧ CpyC w' q x ∧ Hid (WB base w0 w' g l q x A n c m ∧ Sep w' A n c p k t ∧ Below w.heap.size w w') := by
  refine hc.mono fun e w' ⟨p, d, he, hq, hs, _, hb⟩ => ?_
  have hk := h.below hb
  exact ⟨p, d, he, hk.all, hk, ⟨hs, fun e => by have := (own_lt h.2.2.2.2 p e).2; omega⟩, hb⟩

/-- Bytes are put behind the row. -/
theorem WB.append {gg cap k : Nat} {t : List UInt8} (h : WB base w0 w g l q x A n c m) (hown : w'.ownsRow base 5 1 (.slice (some ⟨gg, 0, none⟩) (n + k) cap) (n + k) (m.map byt ++ t.map byt))
    (hgr : w.grownBy w' (Value.slice A n c).ownBlock) (hat : (Value.slice A n c).ownBlock = some gg ∨ gg = w.heap.size) : WB base w0 w' g l q x (some ⟨gg, 0, none⟩) (n + k) cap (m ++ t) := by
  obtain ⟨h1, h2, h3, ⟨S, h4, h5, h6, h7⟩, h8⟩ := h
  have hlt := own_lt h8
  have hfr : Fr (fun k => (Value.slice A n c).ownBlock = some k) w w' := ⟨hgr.os, hgr.tape, hgr.output, hgr.size, fun k hk hn => hgr.block k hk (fun e => hn e.symm)⟩
  have hqn : ¬ (Value.slice A n c).ownBlock = some q := own_ne h8 h3 (by decide)
  refine ⟨h1.grown hgr h2 (fun k hk => (hlt k hk).1), Nat.le_trans h2 hgr.size, hfr.blk h3 hqn, ⟨S, h4.fr hfr (fun k hk e => h7 k e hk), h5, h6, fun k hk hS => ?_⟩, by rw [List.map_append]; exact hown⟩
  simp [Value.ownBlock] at hk
  subst hk
  rcases hat with e | e
  · exact h7 gg e hS
  · have := h4.lt gg hS; omega
theorem Sep.append {gg cap k p j : Nat} {t : List UInt8} (h : Sep w A n c p j t) (hlt : p < w.heap.size) (hgr : w.grownBy w' (Value.slice A n c).ownBlock) (hat : (Value.slice A n c).ownBlock = some gg ∨ gg = w.heap.size) : Sep w' (some ⟨gg, 0, none⟩) (n + k) cap p j t := by
  have hfr : Fr (fun k => (Value.slice A n c).ownBlock = some k) w w' := ⟨hgr.os, hgr.tape, hgr.output, hgr.size, fun k hk hn => hgr.block k hk (fun e => hn e.symm)⟩
  refine ⟨h.1.fr hfr (fun b off hA e => ?_), fun e => ?_⟩
  · injection hA with hA
    injection hA with h1 _ _
    subst h1
    exact h.2 e
  · simp [Value.ownBlock] at e
    subst e
    rcases hat with e | e
    · exact h.2 e
    · omega
theorem Sep.lt {p k : Nat} {t : List UInt8} (h : Sep w A n c p k t) (hk : 0 < k) : p < w.heap.size := by
  rcases h.1.2 with h0 | ⟨b', off', hA, hl, _⟩
  · omega
  · injection hA with hA
    injection hA with h1 _ _
    rw [h1]; exact hl
end

/-- An item's bytes, as the law writes it. -/
def wrB (x : Itm) : List UInt8 := if x.k = 0 then natB x.n.toNat ++ natB (x.n.toNat / 2) else if x.k = 1 then natB (fz x.i) else if x.k = 2 then natB (if x.is then 1 else 0) else natB x.s.size ++ x.s.data.toList
def wrsB (l : List Itm) : List UInt8 := l.flatMap wrB
theorem wrsB_take {l : List Itm} {k : Nat} (h : k < l.length) : wrsB (l.take (k + 1)) = wrsB (l.take k) ++ wrB l[k]! := by
  unfold wrsB
  rw [List.take_succ_eq_append_getElem h, List.flatMap_append, List.getElem!_eq_getElem?_getD, List.getElem?_eq_getElem h]
  simp
theorem wrB_len {x : Itm} (h : x.ok) (hs : x.s.size ≤ 1000) : (wrB x).length ≤ 1040 := by
  obtain ⟨_, h1, h2, _, _⟩ := h
  have a := natB_len10 (n := x.n.toNat) (by omega)
  have a2 := natB_len10 (n := x.n.toNat / 2) (by omega)
  have b := natB_len10 (n := fz x.i) (fz_lt h2.1 h2.2)
  have c := natB_len10 (n := if x.is then 1 else 0) (by split <;> omega)
  have d := natB_len10 (n := x.s.size) (by omega)
  have e : x.s.data.toList.length = x.s.size := rfl
  unfold wrB
  split
  · rw [List.length_append]; omega
  · split
    · omega
    · split
      · omega
      · rw [List.length_append]; omega
theorem wrsB_len : ∀ (l : List Itm), (∀ x ∈ l, x.ok ∧ x.s.size ≤ 1000) → (wrsB l).length ≤ 1040 * l.length
  | [], _ => by simp [wrsB]
  | x :: l, h => by
    have h1 := wrB_len (h x (by simp)).1 (h x (by simp)).2
    have h2 := wrsB_len l (fun y hy => h y (by simp [hy]))
    have e : wrsB (x :: l) = wrB x ++ wrsB l := by simp [wrsB]
    rw [e, List.length_append, List.length_cons]
    omega
theorem refFlag_l (is : Bool) (w : World) :
    Calls Try.prog 20 #[.bool is] w fun e w' => ∃ q c, e = .returned (.slice (some ⟨q, 0, none⟩) (natB (if is then 1 else 0)).length c) ∧ Hid (NewB w w' q (natB (if is then 1 else 0)).length c (natB (if is then 1 else 0))) := by
  have h := refFlag_c is w
  have e : (natB (if is then 1 else 0)).length = 1 := by cases is <;> simp [natB_zero, natB_one]
  rw [e]; exact h
theorem refText_l (s : ByteArray) (hs : s.size ≤ 1000) (w : World) :
    Calls Try.prog 22 #[.string s] w fun e w' => ∃ q c, e = .returned (.slice (some ⟨q, 0, none⟩) (natB s.size ++ s.data.toList).length c) ∧ Hid (NewB w w' q (natB s.size ++ s.data.toList).length c (natB s.size ++ s.data.toList)) := by
  have h := refText_c s hs w
  have e : (natB s.size ++ s.data.toList).length = (natB s.size).length + s.size := by rw [List.length_append]; rfl
  rw [e]; exact h

/-- .. without the copy. -/
def WB0 (base : Nat) (w0 w : World) (g : Nat) (l : List UInt8) (A : Option Addr) (n c : Nat) (m : List UInt8) : Prop :=
  Below base w0 w ∧ base ≤ w.heap.size ∧ (∃ S, WS w g S l ∧ (∀ k, S k → base ≤ k) ∧ ∀ k, (Value.slice A n c).ownBlock = some k → ¬ S k) ∧ w.ownsRow base 5 1 (.slice A n c) n (m.map byt)
theorem WB.wb0 {base g q n c : Nat} {w0 w : World} {l m : List UInt8} {x : Itm} {A : Option Addr} (h : WB base w0 w g l q x A n c m) : WB0 base w0 w g l A n c m := by
  obtain ⟨h1, h2, _, ⟨S, h4, h5, _, h7⟩, h8⟩ := h
  exact ⟨h1, h2, ⟨S, h4, h5, h7⟩, h8⟩
theorem WB0.copy {base g n c : Nat} {w0 w : World} {l m : List UInt8} {A : Option Addr} (h : WB0 base w0 w g l A n c m) (x : Itm) :
    WB base w0 (w.alloc (.cells #[.int .i64 x.k, .int .u64 x.n, .int .i64 x.i, .bool x.is, .string x.s, .int .i64 x.m] 31)) g l w.heap.size x A n c m := by
  obtain ⟨h1, h2, ⟨S, h4, h5, h7⟩, h8⟩ := h
  have hb : Below w.heap.size w (w.alloc (.cells #[.int .i64 x.k, .int .u64 x.n, .int .i64 x.i, .bool x.is, .string x.s, .int .i64 x.m] 31)) := (Below.refl _ _).alloc (Nat.le_refl _) _
  exact ⟨h1.trans (hb.mono h2), by simp; omega, heap_alloc_new w _, ⟨S, h4.below hb, h5, fun hS => by have := h4.lt _ hS; omega, h7⟩, own_fr (S := fun _ => False) h8 (Fr.of_below hb) (fun _ _ h => h)⟩
end Go.Proofs.Ytoechhbdpkjppaa
