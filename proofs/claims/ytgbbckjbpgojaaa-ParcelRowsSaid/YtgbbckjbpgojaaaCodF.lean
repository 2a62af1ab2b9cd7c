/- codec's writer: its state in memory; bytes are added. -/
import Derived.Test.YtgbbckjbpgojaaaCodE

import Derived.Deep.RegionLaw
namespace Go.Proofs.Ytgbbckjbpgojaaa
open Go.RowKit

/-- Only blocks of S, and what is new, have turned. -/
structure Fr (S : Nat → Prop) (w w' : World) : Prop where
  os : w'.os = w.os
  tape : w'.tape = w.tape
  output : w'.output = w.output
  size : w.heap.size ≤ w'.heap.size
  block : ∀ k, k < w.heap.size → ¬ S k → w'.heap[k]? = w.heap[k]?
theorem Fr.refl (S : Nat → Prop) (w : World) : Fr S w w := ⟨rfl, rfl, rfl, Nat.le_refl _, fun _ _ _ => rfl⟩
theorem Fr.trans {S S' : Nat → Prop} {a b c : World} (h : Fr S a b) (k : Fr S' b c) (hs : ∀ k, S' k → S k ∨ a.heap.size ≤ k) : Fr S a c :=
  ⟨k.os.trans h.os, k.tape.trans h.tape, k.output.trans h.output, Nat.le_trans h.size k.size, fun i hi hn =>
    (k.block i (Nat.lt_of_lt_of_le hi h.size) (fun hS => by rcases hs i hS with h1 | h1; exact hn h1; omega)).trans (h.block i hi hn)⟩
theorem Fr.drew {S : Nat → Prop} {a b : World} (h : Fr S a b) : Fr S a b.drew := ⟨h.os, h.tape, h.output, h.size, h.block⟩
theorem Fr.drewN {S : Nat → Prop} {a b : World} (h : Fr S a b) (n : Nat) : Fr S a (b.drewN n) := ⟨h.os, h.tape, h.output, h.size, h.block⟩
theorem Fr.alloc {S : Nat → Prop} {a b : World} (h : Fr S a b) (o : Obj) : Fr S a (b.alloc o) :=
  ⟨h.os, h.tape, h.output, Nat.le_trans h.size (by simp), fun k hk hn => (Below.heap_alloc b o k (Nat.lt_of_lt_of_le hk h.size)).trans (h.block k hk hn)⟩
theorem Fr.set {S : Nat → Prop} {a b : World} (h : Fr S a b) {p : Addr} (hp : S p.block ∨ a.heap.size ≤ p.block) (v : Value) : Fr S a (b.setCell p v) :=
  ⟨h.os, h.tape, h.output, by simpa [World.setCell] using h.size, fun k hk hn => (heap_far (fun e => by rcases hp with h1 | h1; exact hn (e ▸ h1); omega)).trans (h.block k hk hn)⟩
theorem Fr.grown {S : Nat → Prop} {a b c : World} {row : Option Nat} (h : Fr S a b) (k : b.grownBy c row) (hr : ∀ j, row = some j → S j ∨ a.heap.size ≤ j) : Fr S a c :=
  ⟨k.os.trans h.os, k.tape.trans h.tape, k.output.trans h.output, Nat.le_trans h.size k.size, fun i hi hn =>
    (k.block i (Nat.lt_of_lt_of_le hi h.size) (fun e => by rcases hr i e.symm with h1 | h1; exact hn h1; omega)).trans (h.block i hi hn)⟩
theorem Fr.below {S : Nat → Prop} {B : Nat} {a b : World} (h : Fr S a b) (hS : ∀ k, S k → B ≤ k) (hB : B ≤ a.heap.size) : Below B a b :=
  ⟨h.os, h.tape, h.output, h.size, fun k hk => h.block k (by omega) (fun hk' => by have := hS k hk'; omega)⟩
theorem Fr.of_below {S : Nat → Prop} {a b : World} (h : Below a.heap.size a b) : Fr S a b := ⟨h.os, h.tape, h.output, h.size, fun k hk _ => h.block k hk⟩
theorem Fr.mono {S S' : Nat → Prop} {a b : World} (h : Fr S a b) (hs : ∀ k, S k → S' k ∨ a.heap.size ≤ k) : Fr S' a b := (Fr.refl S' a).trans h hs
theorem Fr.tch {g : Nat} {a b : World} (h : Tch g a b) : Fr (· = g) a b := ⟨h.os, h.tape, h.output, h.size, fun k hk hn => World.grownBy.block h k hk (fun e => hn (by injection e))⟩
theorem Fr.blk {S : Nat → Prop} {a b : World} {k : Nat} {o : Obj} (h : Fr S a b) (ho : a.heap[k]? = some o) (hn : ¬ S k) : b.heap[k]? = some o := (h.block k (blk_lt ho) hn).trans ho

/-- A slice that reads as bytes. -/
def SlB (w : World) (A : Option Addr) (n : Nat) (l : List UInt8) : Prop :=
  l.length = n ∧ (n = 0 ∨ ∃ b off, A = some ⟨b, off, none⟩ ∧ b < w.heap.size ∧ ∀ i, i < n → w.cell? ⟨b, off + i, none⟩ = some (byt (l.getD i 0)))
theorem addr_add (b off j : Nat) : (⟨b, off, none⟩ : Addr).add j = ⟨b, off + j, none⟩ := by unfold Addr.add; split <;> simp_all
theorem SlB.news {w : World} {b off n : Nat} {l : List UInt8} (hl : l.length = n) (h : ∀ i, i < n → w.cell? ⟨b, off + i, none⟩ = some (byt (l.getD i 0))) :
    ∀ (j : Nat) (u : Value), (l.map byt)[j]? = some u → w.cell? ((⟨b, off, none⟩ : Addr).add j) = some u := by
  intro j u hu
  rw [List.getElem?_map, Option.map_eq_some_iff] at hu
  obtain ⟨x, hx, rfl⟩ := hu
  have hj := (List.getElem?_eq_some_iff.1 hx).1
  rw [addr_add, h j (by omega)]
  rw [List.getD_eq_getElem?_getD, hx]; rfl
theorem SlB.fr {S : Nat → Prop} {w w' : World} {A : Option Addr} {n : Nat} {l : List UInt8} (h : SlB w A n l) (hf : Fr S w w') (hn : ∀ b off, A = some ⟨b, off, none⟩ → ¬ S b) : SlB w' A n l := by
  refine ⟨h.1, ?_⟩
  rcases h.2 with h0 | ⟨b, off, rfl, hb, hc⟩
  · exact .inl h0
  · refine .inr ⟨b, off, rfl, Nat.lt_of_lt_of_le hb hf.size, fun i hi => ?_⟩
    rw [World.cell?_of_block (w := w) (hf.block b hb (hn b off rfl))]
    exact hc i hi

/-- A writer at block g, with the blocks S of its own: its bytes. -/
def WS (w : World) (g : Nat) (S : Nat → Prop) (bs : List UInt8) : Prop :=
  S g ∧ (∀ k, S k → k < w.heap.size) ∧
  ((bs = [] ∧ w.heap[g]? = some (.cells #[.pointer none, .int .i64 0] 58 (0, 0))) ∨
   ∃ t v, 0 < bs.length ∧ w.heap[g]? = some (.cells #[.pointer (some ⟨t, 0, none⟩), .int .i64 (bs.length : Int)] 58 (0, 0)) ∧ w.heap[t]? = some (.cells #[v] 76 (0, 0)) ∧ S t ∧
     (∀ k, v.ownBlock = some k → S k) ∧ w.ownsRow 0 5 1 v bs.length (bs.map byt))

theorem own_ne {w : World} {base g n size : Nat} {e t : TypeId} {v : Value} {xs : List Value} {cs : Array Value} (h : w.ownsRow base e size v n xs) (hg : w.heap[g]? = some (.cells cs t (0, 0))) (hne : e ≠ t) : v.ownBlock ≠ some g := by
  rcases h.2 with ⟨rfl, _⟩ | ⟨k, cap, cur, rfl, _, hk, _⟩
  · simp [Value.ownBlock]
  · intro he
    simp [Value.ownBlock] at he
    subst he
    rw [hk] at hg
    injection hg with hg
    injection hg with _ hg
    exact hne hg
theorem blk_ne {w : World} {g g' : Nat} {e t : TypeId} {cs cs' : Array Value} (h : w.heap[g]? = some (.cells cs e (0, 0))) (h' : w.heap[g']? = some (.cells cs' t (0, 0))) (hne : e ≠ t) : g ≠ g' := by
  rintro rfl
  rw [h] at h'
  injection h' with h'
  injection h' with _ h'
  exact hne h'

theorem WS.fr {S S' : Nat → Prop} {w w' : World} {g : Nat} {bs : List UInt8} (h : WS w g S bs) (hf : Fr S' w w') (hn : ∀ k, S k → ¬ S' k) : WS w' g S bs := by
  obtain ⟨h1, h2, h3⟩ := h
  refine ⟨h1, fun k hk => Nat.lt_of_lt_of_le (h2 k hk) hf.size, ?_⟩
  rcases h3 with ⟨rfl, hg⟩ | ⟨t, v, hpos, hg, ht, hSt, hv, hown⟩
  · exact .inl ⟨rfl, hf.blk hg (hn g h1)⟩
  · refine .inr ⟨t, v, hpos, hf.blk hg (hn g h1), hf.blk ht (hn t hSt), hSt, hv, ?_⟩
    obtain ⟨ho1, ho2⟩ := hown
    refine ⟨ho1, ?_⟩
    rcases ho2 with hnil | ⟨k, cap, cur, rfl, hb, hk, rest⟩
    · exact .inl hnil
    · exact .inr ⟨k, cap, cur, rfl, hb, hf.blk hk (hn k (hv k rfl)), rest⟩

/-- What an addition leaves. -/
def Added (g : Nat) (S : Nat → Prop) (bs : List UInt8) (w : World) (e : Ending) (w' : World) : Prop :=
  e = .returned (.tuple #[]) ∧ ∃ S', WS w' g S' bs ∧ Fr S w w' ∧ ∀ k, S' k → S k ∨ w.heap.size ≤ k

theorem ownsRow_set {w : World} {base n size : Nat} {e : TypeId} {v : Value} {xs : List Value} (h : w.ownsRow base e size v n xs) {p : Addr} (hp : v.ownBlock ≠ some p.block) (u : Value) : (w.setCell p u).ownsRow base e size v n xs := by
  obtain ⟨h1, h2⟩ := h
  refine ⟨h1, ?_⟩
  rcases h2 with hn | ⟨k, cap, cur, rfl, hb, hk, rest⟩
  · exact .inl hn
  · exact .inr ⟨k, cap, cur, rfl, hb, (heap_far (fun e => hp (by simp [Value.ownBlock, e]))).trans hk, rest⟩

theorem added_of {g t gg m cp : Nat} {S : Nat → Prop} {bs l : List UInt8} {w w1 : World} {v : Value} {x : Value}
    (hSg : S g) (hSt : S t) (hSk : ∀ k, v.ownBlock = some k → S k) (hS : ∀ k, S k → k < w.heap.size) (hl : l.length = m) (hm : 0 < m) (hgt : g ≠ t)
    (ht1 : w1.heap[t]? = some (.cells #[v] 76 (0, 0))) (hg1 : w1.heap[g]? = some (.cells #[.pointer (some ⟨t, 0, none⟩), x] 58 (0, 0)))
    (hown : w1.ownsRow 0 5 1 (.slice (some ⟨gg, 0, none⟩) (bs.length + m) cp) (bs.length + m) (bs.map byt ++ l.map byt)) (hgr : w.grownBy w1 v.ownBlock) (hat : v.ownBlock = some gg ∨ gg = w.heap.size) (hlt : gg < w1.heap.size) :
    Added g S (bs ++ l) w (.returned (.tuple #[])) ((w1.setCell ⟨t, 0, none⟩ (.slice (some ⟨gg, 0, none⟩) (bs.length + m) cp)).setCell ⟨g, 1, none⟩ (.int .i64 ((bs.length + m : Nat) : Int))) := by
  have ng := own_ne hown hg1 (by decide)
  have nt := own_ne hown ht1 (by decide)
  have hlen : (bs ++ l).length = bs.length + m := by rw [List.length_append, hl]
  have hsz : w.heap.size ≤ w1.heap.size := hgr.size
  refine ⟨rfl, fun k => S k ∨ k = gg, ⟨.inl hSg, fun k hk => ?_, .inr ⟨t, .slice (some ⟨gg, 0, none⟩) (bs.length + m) cp, by omega, ?_, ?_, .inl hSt, fun k hk => ?_, ?_⟩⟩, ?_, fun k hk => ?_⟩
  · have e : ((w1.setCell ⟨t, 0, none⟩ (.slice (some ⟨gg, 0, none⟩) (bs.length + m) cp)).setCell ⟨g, 1, none⟩ (.int .i64 ((bs.length + m : Nat) : Int))).heap.size = w1.heap.size := by simp [World.setCell]
    rw [e]
    rcases hk with h | rfl
    · have := hS k h; omega
    · exact hlt
  · rw [hlen, heap_set (cs := #[.pointer (some ⟨t, 0, none⟩), x]) (t := 58) ((heap_far (by simpa using hgt)).trans hg1)]
    rfl
  · rw [heap_far (by simpa using Ne.symm hgt), heap_set ht1]
    rfl
  · right; simp [Value.ownBlock] at hk; exact hk.symm
  · rw [hlen, List.map_append]
    exact ownsRow_set (ownsRow_set hown nt _) ng _
  · exact (((Fr.refl S w).grown hgr (fun j hj => .inl (hSk j hj))).set (p := ⟨t, 0, none⟩) (.inl hSt) _).set (p := ⟨g, 1, none⟩) (.inl hSg) _
  · rcases hk with h | rfl
    · exact .inl h
    · rcases hat with h | h
      · exact .inl (hSk _ h)
      · right; omega

set_option maxHeartbeats 4000000 in
set_option maxRecDepth 100000 in
theorem add_more (g t b off m c k cap : Nat) (S : Nat → Prop) (bs l : List UInt8) (w : World) (hg : w.heap[g]? = some (.cells #[.pointer (some ⟨t, 0, none⟩), .int .i64 (bs.length : Int)] 58 (0, 0)))
    (ht : w.heap[t]? = some (.cells #[.slice (some ⟨k, 0, none⟩) bs.length cap] 76 (0, 0))) (hown : w.ownsRow 0 5 1 (.slice (some ⟨k, 0, none⟩) bs.length cap) bs.length (bs.map byt))
    (hSg : S g) (hSt : S t) (hSk : S k) (hS : ∀ k, S k → k < w.heap.size) (hl : l.length = m) (hm : 0 < m) (hsum : bs.length + m ≤ 1000000000)
    (hc : ∀ i, i < m → w.cell? ⟨b, off + i, none⟩ = some (byt (l.getD i 0))) :
    Calls Try.prog 28 #[.pointer (some ⟨g, 0, none⟩), .slice (some ⟨b, off, none⟩) m c] w (Added g S (bs ++ l) w) := by
  obtain ⟨i0, hi0, hz0, hz1, hz2⟩ := info_parts info_u8
  have g0 : w.cell? ⟨g, 0, none⟩ = some (.pointer (some ⟨t, 0, none⟩)) := by rw [cell_of_row _ _ _ _ _ _ hg]; rfl
  have g1 : w.cell? ⟨g, 1, none⟩ = some (.int .i64 (bs.length : Int)) := by rw [cell_of_row _ _ _ _ _ _ hg]; rfl
  have t0 : w.cell? ⟨t, 0, none⟩ = some (.slice (some ⟨k, 0, none⟩) bs.length cap) := by rw [cell_of_row _ _ _ _ _ _ ht]; rfl
  have lg := blk_lt hg
  have lt := blk_lt ht
  have Hng := Lib.hid (own_ne hown hg (by decide))
  have Hnt := Lib.hid (own_ne hown ht (by decide))
  have Hngt := Lib.hid (blk_ne hg ht (by decide))
  have Hg := Lib.hid hg; clear hg
  have Ht := Lib.hid ht; clear ht
  have Hnews := Lib.hid (SlB.news hl hc); clear hc
  have Hl := Lib.hid hl; clear hl
  have HO := Lib.hid hown; clear hown
  have HSg := Lib.hid hSg; clear hSg
  have HSt := Lib.hid hSt; clear hSt
  have HSk := Lib.hid hSk; clear hSk
  have HS := Lib.hid hS; clear hS
  go_enter Try.func28, Try.ntmps28
  go_wp2_with fail
  go_quiet (fail)
  go_wp2_with fail
  go_region_law
    ((refine step_append_lies _ (by rfl) _ _ _ (by rfl) 0 5 i0 _ 1 1 Try.underlying22 hi0 hz0 hz1 hz2 rfl (by omega) (.slice (some ⟨k, 0, none⟩) bs.length cap) bs.length (bs.map byt) (by rfl) HO.out
        ⟨b, off, none⟩ m c (l.map byt) (by rfl) (by rw [List.length_map, Hl.out, Nat.mul_one]) Hnews.out (byt_one l)
        hm (by unfold maxLen; omega) (by omega) (by omega) w.heap.size (by simp) ?_; intro gg cp w1 hown1 hgrow hat hlt; have ht1 : w1.heap[t]? = some (.cells #[.slice (some ⟨k, 0, none⟩) bs.length cap] 76 (0, 0)) := (hgrow.block t lt (Ne.symm Hnt.out)).trans Ht.out; have hg1 : w1.heap[g]? = some (.cells #[.pointer (some ⟨t, 0, none⟩), .int .i64 (bs.length : Int)] 58 (0, 0)) := (hgrow.block g lg (Ne.symm Hng.out)).trans Hg.out; have HT1 := Lib.hid ht1; have HG1 := Lib.hid hg1; have cg1 : w1.cell? ⟨g, 0, none⟩ = some (.pointer (some ⟨t, 0, none⟩)) := cell_of_row _ _ _ _ _ _ hg1; have ct1 : w1.cell? ⟨t, 0, none⟩ = some (.slice (some ⟨k, 0, none⟩) bs.length cap) := cell_of_row _ _ _ _ _ _ ht1; have ft1 : w1.frozen? ⟨t, 0, none⟩ = false := frozen_of_row _ _ _ _ _ ht1; have HO1 := Lib.hid hown1; have HGR := Lib.hid hgrow; have HAT := Lib.hid hat; clear ht1 hg1))
  all_goals
    have hfin := added_of (l := l) (S := S) (x := .int .i64 (bs.length : Int)) (w := w) HSg.out HSt.out (fun j hj => by simp [Value.ownBlock] at hj; subst hj; exact HSk.out) HS.out Hl.out hm Hngt.out HT1.out HG1.out HO1.out ⟨HGR.out.os, HGR.out.tape, HGR.out.output, HGR.out.size, HGR.out.block⟩ HAT.out hlt
    have HF := Lib.hid hfin
    have kg0 : (w1.setCell ⟨t, 0, none⟩ (.slice (some ⟨gg, 0, none⟩) (bs.length + m) cp)).cell? ⟨g, 0, none⟩ = some (.pointer (some ⟨t, 0, none⟩)) := by
      rw [World.cell?_of_block (w := w1) (heap_far (by simpa using Hngt.out))]; exact cg1
    have kg1 : (w1.setCell ⟨t, 0, none⟩ (.slice (some ⟨gg, 0, none⟩) (bs.length + m) cp)).cell? ⟨g, 1, none⟩ = some (.int .i64 (bs.length : Int)) := by
      rw [World.cell?_of_block (w := w1) (heap_far (by simpa using Hngt.out)), cell_of_row _ _ _ _ _ _ HG1.out]; rfl
    have kf1 : (w1.setCell ⟨t, 0, none⟩ (.slice (some ⟨gg, 0, none⟩) (bs.length + m) cp)).frozen? ⟨g, 1, none⟩ = false := by
      rw [World.frozen?_of_block (w := w1) (heap_far (by simpa using Hngt.out))]; exact frozen_of_row _ _ _ _ _ HG1.out
    have kt0 : (w1.setCell ⟨t, 0, none⟩ (.slice (some ⟨gg, 0, none⟩) (bs.length + m) cp)).cell? ⟨t, 0, none⟩ = some (.slice (some ⟨gg, 0, none⟩) (bs.length + m) cp) := by
      rw [cell_of_row _ _ _ _ _ _ (heap_set HT1.out)]; rfl
    obtain ⟨W, hW⟩ : ∃ W, W = w1.setCell ⟨t, 0, none⟩ (.slice (some ⟨gg, 0, none⟩) (bs.length + m) cp) := ⟨_, rfl⟩
    rw [← hW] at kg0 kg1 kf1 kt0 HF ⊢
    clear hfin hgrow hat hW hown1 cg1 ct1 ft1 g0 g1 t0 hlt
    go_wp2_with fail
    go_end0
    exact HF.out

theorem Bytes_none (g : Nat) (w : World) (hg : w.heap[g]? = some (.cells #[.pointer none, .int .i64 0] 58 (0, 0))) :
    Calls Try.prog 21 #[.pointer (some ⟨g, 0, none⟩)] w fun e w' => e = .returned (.slice none 0 0) ∧ w = w' := by
  have g0 : w.cell? ⟨g, 0, none⟩ = some (.pointer none) := by rw [cell_of_row _ _ _ _ _ _ hg]; rfl
  clear hg
  go_enter Try.func21, Try.ntmps21
  go_wp2
  go_ret
  exact ⟨rfl, rfl⟩

theorem Added.back {g : Nat} {S S1 : Nat → Prop} {bs : List UInt8} {w w1 w' : World} {e : Ending} (h : Added g S1 bs w1 e w') (hf : Fr S w w1) (hs : ∀ k, S1 k → S k ∨ w.heap.size ≤ k) : Added g S bs w e w' := by
  obtain ⟨h1, S', h2, h3, h4⟩ := h
  refine ⟨h1, S', h2, hf.trans h3 hs, fun k hk => ?_⟩
  rcases h4 k hk with h | h
  · exact hs k h
  · right; have := hf.size; omega

set_option maxHeartbeats 4000000 in
set_option maxRecDepth 100000 in
theorem add_first (g b off m c : Nat) (S : Nat → Prop) (l : List UInt8) (w : World) (hg : w.heap[g]? = some (.cells #[.pointer none, .int .i64 0] 58 (0, 0)))
    (hSg : S g) (hS : ∀ k, S k → k < w.heap.size) (hl : l.length = m) (hm : 0 < m) (hsum : m ≤ 1000000000) (hb : b < w.heap.size) (hbg : b ≠ g)
    (hc : ∀ i, i < m → w.cell? ⟨b, off + i, none⟩ = some (byt (l.getD i 0))) :
    Calls Try.prog 28 #[.pointer (some ⟨g, 0, none⟩), .slice (some ⟨b, off, none⟩) m c] w (Added g S l w) := by
  obtain ⟨i0, hi0, hz0, hz1, hz2⟩ := info_parts info_u8
  have g0 : w.cell? ⟨g, 0, none⟩ = some (.pointer none) := by rw [cell_of_row _ _ _ _ _ _ hg]; rfl
  have f0 : w.frozen? ⟨g, 0, none⟩ = false := frozen_of_row _ _ _ _ _ hg
  have lg := blk_lt hg
  have HB := Lib.hid (fun n => Bytes_none g (w.drewN n) hg)
  have Hg := Lib.hid hg; clear hg
  have Hc := Lib.hid hc; clear hc
  have Hl := Lib.hid hl; clear hl
  have HSg := Lib.hid hSg; clear hSg
  have HS := Lib.hid hS; clear hS
  have Hbg := Lib.hid hbg; clear hbg
  go_enter Try.func28, Try.ntmps28
  go_wp2_with fail
  go_quiet (fail)
  go_wp2_with fail
  ((with_reducible refine (HB.out _).mono ?_); rintro e w' ⟨rfl, rfl⟩)
  clear HB
  have kb : ∀ n, ((w.drewN n).alloc (.cells #[.slice none 0 0] 76)).heap[g]? = some (.cells #[.pointer none, .int .i64 0] 58 (0, 0)) := fun n => (Below.heap_alloc (w.drewN n) _ g lg).trans Hg.out
  have kc : ∀ n, ((w.drewN n).alloc (.cells #[.slice none 0 0] 76)).cell? ⟨g, 0, none⟩ = some (.pointer none) := fun n => cell_of_row _ _ _ _ _ _ (kb n)
  have kf : ∀ n, ((w.drewN n).alloc (.cells #[.slice none 0 0] 76)).frozen? ⟨g, 0, none⟩ = false := fun n => frozen_of_row _ _ _ _ _ (kb n)
  have KB := Lib.hid kb; clear kb
  go_wp2_with fail
  clear kc kf
  obtain ⟨t, ht⟩ : ∃ t, t = w.heap.size := ⟨_, rfl⟩
  rw [← ht]
  generalize hW : ((w.drewN _).alloc (.cells #[.slice none 0 0] 76)).setCell ⟨g, 0, none⟩ (.pointer (some ⟨t, 0, none⟩)) = W
  have hgt : g ≠ t := by omega
  have hg1 : W.heap[g]? = some (.cells #[.pointer (some ⟨t, 0, none⟩), .int .i64 0] 58 (0, 0)) := by rw [← hW, heap_set (KB.out _)]; rfl
  have ht1 : W.heap[t]? = some (.cells #[.slice none 0 0] 76 (0, 0)) := by
    rw [← hW, heap_far (by simpa using Ne.symm hgt), ht]; exact heap_alloc_new (w.drewN _) _
  have hsz : W.heap.size = w.heap.size + 1 := by rw [← hW]; simp [World.setCell]
  have hfr : Fr S w W := by rw [← hW]; exact (((Fr.refl S w).drewN _).alloc _).set (p := ⟨g, 0, none⟩) (.inl HSg.out) _
  have hnews : ∀ (j : Nat) (u : Value), (l.map byt)[j]? = some u → W.cell? ((⟨b, off, none⟩ : Addr).add j) = some u :=
    SlB.news Hl.out (fun i hi => by
      rw [← Hc.out i hi, ← hW]
      exact World.cell?_of_block (w := w) ((heap_far (by simpa using Hbg.out)).trans (Below.heap_alloc (w.drewN _) _ b hb)))
  have HT := Lib.hid ht; clear ht hW KB
  have g0' : W.cell? ⟨g, 0, none⟩ = some (.pointer (some ⟨t, 0, none⟩)) := by rw [cell_of_row _ _ _ _ _ _ hg1]; rfl
  have t0' : W.cell? ⟨t, 0, none⟩ = some (.slice none 0 0) := by rw [cell_of_row _ _ _ _ _ _ ht1]; rfl
  have lt1 := blk_lt ht1
  have lg1 := blk_lt hg1
  have Hgt := Lib.hid hgt; clear hgt
  have HG0 := Lib.hid hg1; clear hg1
  have HT0 := Lib.hid ht1; clear ht1
  have Hsz := Lib.hid hsz; clear hsz
  have Hfr := Lib.hid hfr; clear hfr
  have Hnews := Lib.hid hnews; clear hnews g0 f0
  have HO : Hid (W.ownsRow 0 5 1 (.slice none 0 0) 0 []) := World.ownsRow_nil _ _ _ _
  go_region_law
    ((refine step_append_lies _ (by rfl) _ _ _ (by rfl) 0 5 i0 _ 1 1 Try.underlying22 hi0 hz0 hz1 hz2 rfl (by omega) (.slice none 0 0) 0 [] (by rfl) HO.out
        ⟨b, off, none⟩ m c (l.map byt) (by rfl) (by rw [List.length_map, Hl.out, Nat.mul_one]) Hnews.out (byt_one l)
        hm (by unfold maxLen; omega) (by omega) (by omega) W.heap.size (by simp) ?_; intro gg cp w1 hown1 hgrow hat hlt; have ht1 : w1.heap[t]? = some (.cells #[.slice none 0 0] 76 (0, 0)) := (hgrow.block t lt1 (by simp [Value.ownBlock])).trans HT0.out; have hg1 : w1.heap[g]? = some (.cells #[.pointer (some ⟨t, 0, none⟩), .int .i64 0] 58 (0, 0)) := (hgrow.block g lg1 (by simp [Value.ownBlock])).trans HG0.out; have HT1 := Lib.hid ht1; have HG1 := Lib.hid hg1; have cg1 : w1.cell? ⟨g, 0, none⟩ = some (.pointer (some ⟨t, 0, none⟩)) := cell_of_row _ _ _ _ _ _ hg1; have ct1 : w1.cell? ⟨t, 0, none⟩ = some (.slice none 0 0) := cell_of_row _ _ _ _ _ _ ht1; have ft1 : w1.frozen? ⟨t, 0, none⟩ = false := frozen_of_row _ _ _ _ _ ht1; have HO1 := Lib.hid hown1; have HGR := Lib.hid hgrow; have HAT := Lib.hid hat; clear ht1 hg1))
  all_goals
    have hfin := added_of (bs := []) (l := l) (S := fun k => S k ∨ k = t) (x := .int .i64 0) (w := W) (.inl HSg.out) (.inr rfl) (fun j hj => by simp [Value.ownBlock] at hj) (fun k hk => by rcases hk with h | rfl; (have := HS.out k h; have := Hsz.out; omega); exact lt1) Hl.out hm Hgt.out HT1.out HG1.out HO1.out ⟨HGR.out.os, HGR.out.tape, HGR.out.output, HGR.out.size, HGR.out.block⟩ HAT.out hlt
    have hfin2 : Added g S l w _ _ := hfin.back Hfr.out (fun k hk => by rcases hk with h | rfl; exact .inl h; right; rw [HT.out]; exact Nat.le_refl _)
    rw [show ([] : List UInt8).length + m = m from by simp] at hfin2
    have HF := Lib.hid hfin2
    have kg0 : (w1.setCell ⟨t, 0, none⟩ (.slice (some ⟨gg, 0, none⟩) m cp)).cell? ⟨g, 0, none⟩ = some (.pointer (some ⟨t, 0, none⟩)) := by
      rw [World.cell?_of_block (w := w1) (heap_far (by simpa using Hgt.out))]; exact cg1
    have kg1 : (w1.setCell ⟨t, 0, none⟩ (.slice (some ⟨gg, 0, none⟩) m cp)).cell? ⟨g, 1, none⟩ = some (.int .i64 0) := by
      rw [World.cell?_of_block (w := w1) (heap_far (by simpa using Hgt.out)), cell_of_row _ _ _ _ _ _ HG1.out]; rfl
    have kf1 : (w1.setCell ⟨t, 0, none⟩ (.slice (some ⟨gg, 0, none⟩) m cp)).frozen? ⟨g, 1, none⟩ = false := by
      rw [World.frozen?_of_block (w := w1) (heap_far (by simpa using Hgt.out))]; exact frozen_of_row _ _ _ _ _ HG1.out
    have kt0 : (w1.setCell ⟨t, 0, none⟩ (.slice (some ⟨gg, 0, none⟩) m cp)).cell? ⟨t, 0, none⟩ = some (.slice (some ⟨gg, 0, none⟩) m cp) := by
      rw [cell_of_row _ _ _ _ _ _ (heap_set HT1.out)]; rfl
    obtain ⟨W2, hW2⟩ : ∃ W2, W2 = w1.setCell ⟨t, 0, none⟩ (.slice (some ⟨gg, 0, none⟩) m cp) := ⟨_, rfl⟩
    rw [← hW2] at kg0 kg1 kf1 kt0 HF ⊢
    clear hfin hfin2 hgrow hat hW2 hown1 cg1 ct1 ft1 hlt g0' t0'
    go_wp2_with fail
    go_end0
    exact HF.out
end Go.Proofs.Ytgbbckjbpgojaaa
