/- parcel: the parcels with which bytes begin, gone over. -/
import Derived.Test.YtgbbckjbpgojaaaPcS
import Derived.RangeFuncNested
import Derived.RangeFuncBound
import Derived.RangeFuncCalls
import Derived.RangeFuncLeaves
import Derived.Shelf.Abstract
import Derived.Shelf.RegionOpen
import Derived.OwnWalkIn
import Derived.TacticsInMore
import Derived.LoopNIn
import Derived.LoopIn
namespace Go.Proofs.Ytgbbckjbpgojaaa
open Go.RowKit Go.Shelf

attribute [local go_sem] Oper.semAt_some

/-- What comes: a parcel, as the code has it. -/
structure Par where
  kd : Nat
  A : Option Addr
  n : Nat
  c : Nat
  sz : Nat
def Par.val (x : Par) : Value := .agg #[.int .u8 (x.kd : Int), .slice x.A x.n x.c, .int .i64 (x.sz : Int)]
/-- The sizes of the parcels with which bytes begin. -/
def sizesF : Nat → List UInt8 → List Nat
  | 0, _ => []
  | f + 1, l => if (firstF l).er = 0 then parN l :: sizesF f (l.drop (parN l)) else []
def sizes (l : List UInt8) : List Nat := sizesF (l.length + 1) l
/-- All blocks of cells but one are as they were. -/
def KeepE (g : Nat) (W W' : World) : Prop := W.heap.size ≤ W'.heap.size ∧ ∀ k cs T fz, k ≠ g → W.heap[k]? = some (.cells cs T fz) → W'.heap[k]? = some (.cells cs T fz)
theorem KeepE.trans {g : Nat} {A B C : World} (h : KeepE g A B) (h' : KeepE g B C) : KeepE g A C := ⟨Nat.le_trans h.1 h'.1, fun k cs T fz hk hc => h'.2 k cs T fz hk (h.2 k cs T fz hk hc)⟩

theorem KeepE.cell {g : Nat} {W W' : World} (h : KeepE g W W') {b o : Nat} {v : Value} (hb : b ≠ g) (hc : W.cell? ⟨b, o, none⟩ = some v) : W'.cell? ⟨b, o, none⟩ = some v := by
  cases e : W.heap[b]? with
  | none => simp [World.cell?, e] at hc
  | some ob =>
    cases ob with
    | cells cs T fz =>
      have := h.2 b cs T fz hb e
      rw [World.cell?_of_block (w := W) (this.trans e.symm)]
      exact hc
    | _ => simp [World.cell?, e] at hc
theorem SlB.keep {g : Nat} {W W' : World} {A : Option Addr} {n : Nat} {l : List UInt8} (h : SlB W A n l) (hk : KeepE g W W') (hA : ∀ a, A = some a → 0 < n → a.block ≠ g) : SlB W' A n l := by
  refine ⟨h.1, ?_⟩
  rcases h.2 with h0 | ⟨b, off, rfl, hb, hc⟩
  · exact .inl h0
  · exact .inr ⟨b, off, rfl, Nat.lt_of_lt_of_le hb hk.1, fun i hi => hk.cell (hA _ rfl (by omega)) (hc i hi)⟩

set_option maxHeartbeats 1000000 in
theorem allOf_in (n : Nat) (A : Option Addr) (len cap : Nat) (w : World) :
    CallsIn Fence.wide n Try.prog 12 #[.slice A len cap] w fun e w' => e = .returned (.func (.func 24) #[] #[.pointer (some ⟨w.heap.size, 0, none⟩)]) ∧ w' = w.alloc (.cells #[.slice A len cap] 22) := by
  refine callsIn_of_wp Try.func12 rfl trivial ?_ rfl
  simp only [Try.ntmps12, List.size_toArray, List.length_cons, List.length_nil, Nat.reduceAdd, Nat.reduceSub, Array.replicate_succ, Array.replicate_zero, List.push_toArray, List.append_toArray, List.nil_append, List.cons_append]
  gi_wp2
  go_ret
  exact ⟨rfl, rfl⟩

theorem sizesF_fuel : ∀ (f f' : Nat) (l : List UInt8), l.length < f → l.length < f' → sizesF f l = sizesF f' l
  | 0, _, _, h, _ => absurd h (Nat.not_lt_zero _)
  | f + 1, 0, _, _, h => absurd h (Nat.not_lt_zero _)
  | f + 1, f' + 1, l, h, h' => by
    unfold sizesF
    by_cases he : (firstF l).er = 0
    · have h5 := (parN_le l).2 he
      have hl := (parN_le l).1
      rw [if_pos he, if_pos he, sizesF_fuel f f' (l.drop (parN l)) (by rw [List.length_drop]; omega) (by rw [List.length_drop]; omega)]
    · rw [if_neg he, if_neg he]
theorem sizes_yes {l : List UInt8} (h : (firstF l).er = 0) : sizes l = parN l :: sizes (l.drop (parN l)) := by
  have h5 := (parN_le l).2 h
  have hl := (parN_le l).1
  show sizesF (l.length + 1) l = _
  unfold sizesF
  rw [if_pos h]
  congr 1
  exact sizesF_fuel _ _ _ (by rw [List.length_drop]; omega) (by rw [List.length_drop]; omega)
theorem sizes_no {l : List UInt8} (h : ¬ (firstF l).er = 0) : sizes l = [] := by
  show sizesF (l.length + 1) l = _
  unfold sizesF
  rw [if_neg h]
theorem sizesF_len : ∀ (f : Nat) (l : List UInt8), (sizesF f l).length ≤ f
  | 0, _ => Nat.le_refl _
  | f + 1, l => by
    unfold sizesF
    split
    · rw [List.length_cons]; have := sizesF_len f (l.drop (parN l)); omega
    · exact Nat.zero_le _

/-- What 'first' tells, as a parcel that may come. -/
def parOf (A : Option Addr) (cap : Nat) (l : List UInt8) : Par := if (firstF l).er = 0 then ⟨(firstF l).kd, A.map (·.add (firstF l).fr), (firstF l).tz - (firstF l).fr, cap - (firstF l).fr, (firstF l).tz + 4⟩ else ⟨0, none, 0, 0, 0⟩
theorem parOf_val (A : Option Addr) (cap : Nat) (l : List UInt8) : fstV A cap (firstF l) = (parOf A cap l).val := by
  unfold fstV parOf
  split <;> rfl
theorem parOf_sz (A : Option Addr) (cap : Nat) (l : List UInt8) : (parOf A cap l).sz = parN l := by
  unfold parOf parN
  split <;> rfl
theorem first_p (n : Nat) (A : Option Addr) (len cap : Nat) (l : List UInt8) (w : World) (h : SlB w A len l) (hn : len ≤ 1000000) (hc : len ≤ cap) (hc2 : cap ≤ 9223372036854775807) (k : Nat) (A0 : Option Addr) (n0 c0 s0 er : Nat) (hp : parOf A cap l = ⟨k, A0, n0, c0, s0⟩) (he : (firstF l).er = er) :
    CallsIn Fence.wide n Try.prog 13 #[.slice A len cap] w fun e w' => e = .returned (.tuple #[.agg #[.int .u8 (k : Int), .slice A0 n0 c0, .int .i64 (s0 : Int)], .int .i64 (er : Int)]) ∧ Hid (Below w.heap.size w w') := by
  have := first_c A len cap l w h hn hc hc2
  rw [parOf_val, hp, he] at this
  exact callsIn_wide.2 this

/-- What holds between two rounds. -/
def AW (J : List Par → World → Prop) (W0 : World) (g : Nat) (l0 : List UInt8) (pre : List Par) (A : Option Addr) (len cap : Nat) (l : List UInt8) (pb : Nat) (W : World) : Prop :=
  J pre W ∧ W0.heap.size ≤ W.heap.size ∧ SlB W A len l ∧ (∀ a, A = some a → 0 < len → a.block ≠ g) ∧ pb ≠ g ∧ len ≤ 1000000 ∧ len ≤ cap ∧ cap ≤ 9223372036854775807 ∧ pre.map (·.sz) ++ sizes l = sizes l0 ∧ ∃ T k A0 n0 c0 s0, parOf A cap l = ⟨k, A0, n0, c0, s0⟩ ∧ T = 45 ∧ B3 T W pb (.int .u8 (k : Int)) (.slice A0 n0 c0) (.int .i64 (s0 : Int))

set_option maxRecDepth 100000 in
set_option maxHeartbeats 4000000 in
theorem all1_in (n : Nat) (hn : 1 ≤ n) (ll Bs g : Nat) (A : Option Addr) (len cap : Nat) (l : List UInt8) (hlen : len ≤ 1000000) (hlc : len ≤ cap) (hcap : cap ≤ 9223372036854775807) (J Jx : List Par → World → Prop)
    (W : World) (hg : g < W.heap.size) (hJ : AbidesFrom W.heap.size J)
    (hY : ∀ pre x W1, J pre W1 → pre.length < l.length + 1 → YieldAt Fence.wide (n - 1) Try.prog ll #[Par.val x] W1 fun e W' =>
      (e = .returned (.bool true) ∧ J (pre ++ [x]) W' ∧ KeepE g W1 W') ∨ (e = .returned (.bool false) ∧ Jx (pre ++ [x]) W'))
    (hBs : W.cell? ⟨Bs, 0, none⟩ = some (.slice A len cap)) (hS : SlB W A len l) (hA : ∀ a, A = some a → 0 < len → a.block ≠ g) (h0 : J [] W) :
    CallsIn Fence.wide n Try.prog 24 #[.func (.yield ll) #[] #[], .pointer (some ⟨Bs, 0, none⟩)] W fun e W' => (∃ v, e = .returned v) ∧
      ((∃ ys : List Par, ys.map (·.sz) = sizes l ∧ J ys W') ∨ (∃ pre : List Par, pre.map (·.sz) <+: sizes l ∧ Jx pre W')) := by
  have HGr : Hid (∀ pre W1 W2, J pre W1 → Below W1.heap.size W1 W2 → J pre W2) := fun pre W1 W2 h hb =>
    hJ pre W1 W2 none h ⟨hb.os, hb.tape, hb.output, hb.size, fun i hi _ => hb.block i hi⟩ (fun r e => by cases e)
  obtain ⟨k, A0, n0, c0, s0, hp⟩ : ∃ k A0 n0 c0 s0, parOf A cap l = ⟨k, A0, n0, c0, s0⟩ := ⟨_, _, _, _, _, rfl⟩
  obtain ⟨er, her⟩ : ∃ er, er = (firstF l).er := ⟨_, rfl⟩
  have H1 := Lib.hid (first_p (n - 1) A len cap l W hS hlen hlc hcap k A0 n0 c0 s0 er hp her.symm)
  have HP := Lib.hid hp
  have HE := Lib.hid her
  have HS := Lib.hid hS
  have HA := Lib.hid hA
  have HY := Lib.hid hY
  have H0 := Lib.hid h0
  have HN := Lib.hid (And.intro hlen (And.intro hlc hcap))
  clear hp her hS hA hY h0 hlen hlc hcap hJ
  refine callsIn_of_wp Try.func24 rfl trivial ?_ rfl
  simp only [Try.ntmps24, List.size_toArray, List.length_cons, List.length_nil, Nat.reduceAdd, Nat.reduceSub, Array.replicate_succ, Array.replicate_zero, List.push_toArray, List.append_toArray, List.nil_append, List.cons_append]
  gi_wp2_with fail
  refine ⟨trivial, ?_⟩
  ((with_reducible refine H1.out.mono ?_); rintro e w1 ⟨rfl, hd1⟩)
  have HAW : Hid (AW J W g l [] A len cap l w1.heap.size (w1.alloc (.cells #[.int .u8 (k : Int), .slice A0 n0 c0, .int .i64 (s0 : Int)] 45))) := by
    have hb := hd1.out.alloc hd1.out.size (.cells #[.int .u8 (k : Int), .slice A0 n0 c0, .int .i64 (s0 : Int)] 45)
    exact ⟨HGr.out _ _ _ H0.out hb, hb.size, HS.out.below hb, HA.out, by have := hd1.out.size; omega, HN.out.1, HN.out.2.1, HN.out.2.2, by simp, _, _, _, _, _, _, HP.out, rfl, heap_alloc_new w1 _⟩
  clear hd1 H1 H0 HS HA HN HP
  gi_wp2_with fail
  obtain ⟨pb0, hpb0⟩ : ∃ pb0, pb0 = w1.heap.size := ⟨_, rfl⟩
  rw [← hpb0] at HAW ⊢
  clear hpb0
  gi_loopw [3, 4, 5] (fun s p e wr => ∃ (pre : List Par) (A' : Option Addr) (len' cap' : Nat) (l' : List UInt8) (pb er' : Nat), s = .slice A' len' cap' ∧ p = .pointer (some ⟨pb, 0, none⟩) ∧ e = .int .i64 (er' : Int) ∧ Hid (er' = (firstF l').er ∧ AW J W g l pre A' len' cap' l' pb wr)) (fun s _ _ _ => match s with | .slice _ n _ => n | _ => 0)
  case atStart => exact ⟨[], A, len, cap, l, pb0, er, rfl, rfl, rfl, HE.out, HAW.out⟩
  case round =>
    clear HAW HE
    obtain ⟨pre, A', len', cap', l', pb, er', rfl, rfl, rfl, hd⟩ := hrel
    obtain ⟨hJ', hz, hS', hA', hpb, hl1, hl2, hl3, hsz, T, k, A0, n0, c0, s0, hp, rfl, hB3⟩ := hd.out.2
    by_cases he : er' = 0
    · have hel : (firstF l').er = 0 := by rw [← hd.out.1]; exact he
      have hs0 : s0 = parN l' := by have := parOf_sz A' cap' l'; rw [hp] at this; exact this
      have hsy := sizes_yes hel
      have hb5 := (parN_le l').2 hel
      have hbl := (parN_le l').1
      have hpl : pre.length < l.length + 1 := by
        have h1 : (sizes l).length ≤ l.length + 1 := sizesF_len _ _
        rw [← hsz, hsy] at h1
        simp at h1
        omega
      obtain ⟨fn, tmps, assign, body, hy, hR⟩ := HY.out pre ⟨k, A0, n0, c0, s0⟩ wr hJ' hpl
      dsimp only [Par.val] at hy
      obtain ⟨p0, p1, p2⟩ := hB3.three
      have HR := Lib.hid hR
      have HSz := Lib.hid hsz
      have Hsy := Lib.hid hsy
      have HB := Lib.hid hB3
      have HSl := Lib.hid hS'
      have Hs0 := Lib.hid hs0
      have HA' := Lib.hid (And.intro hA' hpb)
      have HJ' := Lib.hid hJ'
      have HN := Lib.hid (And.intro hl1 (And.intro hl2 (And.intro hl3 (And.intro hz (And.intro hb5 hbl)))))
      have hll := hS'.1
      subst he
      clear hJ' hz hS' hA' hpb hl1 hl2 hl3 hsz hp hB3 hd hel hs0 hsy hR hpl
      gi_wp2_with fail
      refine HR.out.mono ?_
      rintro e W3 (⟨rfl, hJ3, hk3⟩ | ⟨rfl, hJx3⟩)
      · have hn5 : 5 ≤ len' := by have := HN.out.2.2.2.2; omega
        obtain ⟨b', o', rfl⟩ : ∃ b' o', A' = some ⟨b', o', none⟩ := by
          rcases HSl.out.2 with h | ⟨b', o', h, _⟩
          · omega
          · exact ⟨b', o', h⟩
        have HB3 : Hid (B3 45 W3 pb (.int .u8 (k : Int)) (.slice A0 n0 c0) (.int .i64 (s0 : Int))) := hk3.2 _ _ _ _ HA'.out.2 HB.out
        have HS3 := Lib.hid (HSl.out.keep hk3 HA'.out.1)
        have HJ3 := Lib.hid hJ3
        have HZ3 : Hid (g < W3.heap.size ∧ W.heap.size ≤ W3.heap.size) := ⟨by have := hk3.1; have := HN.out.2.2.2.1; omega, by have := hk3.1; have := HN.out.2.2.2.1; omega⟩
        obtain ⟨p0, p1, p2⟩ := HB3.out.three
        have hs1 : s0 ≤ len' := by have := HN.out.2.2.2.2.2; rw [Hs0.out, ← hll]; exact this
        have hs1I : (s0 : Int) ≤ (len' : Int) := by omega
        have hlcI : (len' : Int) ≤ (cap' : Int) := by have := HN.out.2.1; omega
        have hcI : (cap' : Int) ≤ 9223372036854775807 := by have := HN.out.2.2.1; omega
        have hs0I : (0 : Int) ≤ (s0 : Int) := by omega
        have HLe : Hid (len' - s0 ≤ 1000000 ∧ len' - s0 ≤ cap' - s0 ∧ cap' - s0 ≤ 9223372036854775807 ∧ len' - s0 < len') := by
          have h1 := HN.out.1
          have h2 := HN.out.2.1
          have h3 := HN.out.2.2.1
          have h4 := HN.out.2.2.2.2.1
          rw [← Hs0.out] at h4
          exact ⟨by omega, by omega, by omega, by omega⟩
        clear hJ3 hk3 HR hy HSl HB
        by_cases hcs : cap' = s0
        · have hl0 : len' - s0 = 0 := by have := HN.out.2.1; omega
          have hcsN : cap' - s0 = 0 := by omega
          have Hl0 := Lib.hid hl0
          have HcsN := Lib.hid hcsN
          have hcsI : (cap' : Int) = (s0 : Int) := by omega
          clear hl0 hcsN hcsI
          obtain ⟨k2, A2, n2, c2, s2, hp2⟩ : ∃ k2 A2 n2 c2 s2, parOf (some ⟨b', o', none⟩) 0 (l'.drop s0) = ⟨k2, A2, n2, c2, s2⟩ := ⟨_, _, _, _, _, rfl⟩
          obtain ⟨er2, her2⟩ : ∃ er, er = (firstF (l'.drop s0)).er := ⟨_, rfl⟩
          have HP2 := Lib.hid hp2
          have HE2 := Lib.hid her2
          have HS4 : Hid (SlB (W3.alloc (.cells #[.int .u8 (k : Int), .slice A0 n0 c0, .int .i64 (s0 : Int)] 45)) (some ⟨b', o', none⟩) (len' - s0) (l'.drop s0)) := by
            show SlB _ _ _ _
            exact ⟨by rw [List.length_drop, hll], .inl (by have := HN.out.2.1; omega)⟩
          have HF4 := Lib.hid (first_p (n - 1) (some ⟨b', o', none⟩) (len' - s0) 0 (l'.drop s0) _ HS4.out HLe.out.1 (by rw [Hl0.out]; exact Nat.le_refl _) (by omega) k2 A2 n2 c2 s2 er2 hp2 her2.symm)
          clear hp2 her2
          gi_wp2_with fail
          refine ⟨trivial, ?_⟩
          ((with_reducible refine HF4.out.mono ?_); rintro e W5 ⟨rfl, hd5⟩)
          have hB5 : B3 45 W5 W3.heap.size (.int .u8 (k : Int)) (.slice A0 n0 c0) (.int .i64 (s0 : Int)) := B3.below (heap_alloc_new W3 _) hd5.out
          obtain ⟨q0, q1, q2⟩ := hB5.three
          obtain ⟨f0, f1, f2, fl⟩ := hB5.fr
          have HAW5 : Hid (AW J W g l (pre ++ [⟨k, A0, n0, c0, s0⟩]) (some ⟨b', o', none⟩) (len' - s0) 0 (l'.drop s0) W3.heap.size (put3 W5 W3.heap.size (.int .u8 (k2 : Int)) (.slice A2 n2 c2) (.int .i64 (s2 : Int)))) := by
            have hz5 := hd5.out.size
            rw [World.size_alloc] at hz5
            have hb3 : Below W3.heap.size W3 W5 := ((Below.refl W3.heap.size W3).alloc (Nat.le_refl _) (.cells #[.int .u8 (k : Int), .slice A0 n0 c0, .int .i64 (s0 : Int)] 45)).trans (hd5.out.mono (by simp))
            have hb6 : Below W3.heap.size W3 (put3 W5 W3.heap.size (.int .u8 (k2 : Int)) (.slice A2 n2 c2) (.int .i64 (s2 : Int))) := put3_low hb3 (Nat.le_refl _) _ _ _
            have hsl : SlB (put3 W5 W3.heap.size (.int .u8 (k2 : Int)) (.slice A2 n2 c2) (.int .i64 (s2 : Int))) (some ⟨b', o', none⟩) (len' - s0) (l'.drop s0) := by
              exact ⟨by rw [List.length_drop, hll], .inl (by have := HN.out.2.1; omega)⟩
            refine ⟨HGr.out _ _ _ HJ3.out hb6, by have := hb6.size; have := HZ3.out.2; omega, hsl, fun a ha _ => ?_, by have := HZ3.out.1; omega, HLe.out.1, by rw [Hl0.out]; exact Nat.le_refl _, by omega, ?_, _, k2, A2, n2, c2, s2, HP2.out, rfl, hB5.set _ _ _⟩
            · injection ha with ha
              rw [← ha]
              exact HA'.out.1 ⟨b', o', none⟩ rfl (by omega)
            · rw [List.map_append, List.append_assoc, ← HSz.out, Hsy.out, ← Hs0.out]
              rfl
          clear hd5 hB5 HF4 HS4 HP2 HS3 HB3 HJ3 p0 p1 p2
          gi_wp2_with fail
          exact ⟨⟨pre ++ [⟨k, A0, n0, c0, s0⟩], some ⟨b', o', none⟩, len' - s0, 0, l'.drop s0, W3.heap.size, er2, rfl, rfl, rfl, HE2.out, HAW5.out⟩, HLe.out.2.2.2⟩
        · have hcsI : (s0 : Int) < (cap' : Int) := by omega
          obtain ⟨k2, A2, n2, c2, s2, hp2⟩ : ∃ k2 A2 n2 c2 s2, parOf (some ⟨b', o' + s0, none⟩) (cap' - s0) (l'.drop s0) = ⟨k2, A2, n2, c2, s2⟩ := ⟨_, _, _, _, _, rfl⟩
          obtain ⟨er2, her2⟩ : ∃ er, er = (firstF (l'.drop s0)).er := ⟨_, rfl⟩
          have HP2 := Lib.hid hp2
          have HE2 := Lib.hid her2
          have HS4 : Hid (SlB (W3.alloc (.cells #[.int .u8 (k : Int), .slice A0 n0 c0, .int .i64 (s0 : Int)] 45)) (some ⟨b', o' + s0, none⟩) (len' - s0) (l'.drop s0)) := by
            have := (HS3.out.below ((Below.refl _ _).alloc (Nat.le_refl _) (.cells #[.int .u8 (k : Int), .slice A0 n0 c0, .int .i64 (s0 : Int)] 45))).drop s0 (by omega)
            show SlB _ _ _ _
            simpa [addr_add] using this
          have HF4 := Lib.hid (first_p (n - 1) (some ⟨b', o' + s0, none⟩) (len' - s0) (cap' - s0) (l'.drop s0) _ HS4.out HLe.out.1 HLe.out.2.1 HLe.out.2.2.1 k2 A2 n2 c2 s2 er2 hp2 her2.symm)
          clear hp2 her2
          gi_wp2_with fail
          refine ⟨trivial, ?_⟩
          ((with_reducible refine HF4.out.mono ?_); rintro e W5 ⟨rfl, hd5⟩)
          have hB5 : B3 45 W5 W3.heap.size (.int .u8 (k : Int)) (.slice A0 n0 c0) (.int .i64 (s0 : Int)) := B3.below (heap_alloc_new W3 _) hd5.out
          obtain ⟨q0, q1, q2⟩ := hB5.three
          obtain ⟨f0, f1, f2, fl⟩ := hB5.fr
          have HAW5 : Hid (AW J W g l (pre ++ [⟨k, A0, n0, c0, s0⟩]) (some ⟨b', o' + s0, none⟩) (len' - s0) (cap' - s0) (l'.drop s0) W3.heap.size (put3 W5 W3.heap.size (.int .u8 (k2 : Int)) (.slice A2 n2 c2) (.int .i64 (s2 : Int)))) := by
            have hz5 := hd5.out.size
            rw [World.size_alloc] at hz5
            have hb3 : Below W3.heap.size W3 W5 := ((Below.refl W3.heap.size W3).alloc (Nat.le_refl _) (.cells #[.int .u8 (k : Int), .slice A0 n0 c0, .int .i64 (s0 : Int)] 45)).trans (hd5.out.mono (by simp))
            have hb6 : Below W3.heap.size W3 (put3 W5 W3.heap.size (.int .u8 (k2 : Int)) (.slice A2 n2 c2) (.int .i64 (s2 : Int))) := put3_low hb3 (Nat.le_refl _) _ _ _
            have hsl : SlB (put3 W5 W3.heap.size (.int .u8 (k2 : Int)) (.slice A2 n2 c2) (.int .i64 (s2 : Int))) (some ⟨b', o' + s0, none⟩) (len' - s0) (l'.drop s0) := by
              have := (HS3.out.below hb6).drop s0 (by omega)
              simpa [addr_add] using this
            refine ⟨HGr.out _ _ _ HJ3.out hb6, by have := hb6.size; have := HZ3.out.2; omega, hsl, fun a ha _ => ?_, by have := HZ3.out.1; omega, HLe.out.1, HLe.out.2.1, HLe.out.2.2.1, ?_, _, k2, A2, n2, c2, s2, HP2.out, rfl, hB5.set _ _ _⟩
            · injection ha with ha
              rw [← ha]
              exact HA'.out.1 ⟨b', o', none⟩ rfl (by omega)
            · rw [List.map_append, List.append_assoc, ← HSz.out, Hsy.out, ← Hs0.out]
              rfl
          clear hd5 hB5 HF4 HS4 HP2 HS3 HB3 HJ3 p0 p1 p2
          gi_wp2_with fail
          exact ⟨⟨pre ++ [⟨k, A0, n0, c0, s0⟩], some ⟨b', o' + s0, none⟩, len' - s0, cap' - s0, l'.drop s0, W3.heap.size, er2, rfl, rfl, rfl, HE2.out, HAW5.out⟩, HLe.out.2.2.2⟩
      · gi_wp2_with fail
        go_end0
        refine ⟨⟨_, rfl⟩, .inr ⟨pre ++ [⟨k, A0, n0, c0, s0⟩], ?_, hJx3⟩⟩
        rw [List.map_append, ← HSz.out, Hsy.out, ← Hs0.out]
        exact List.prefix_append_right_inj _ |>.2 ⟨sizes (l'.drop s0), rfl⟩
    · have heb : ((er' : Int) == 0) = false := by simp; omega
      have HF : Hid (pre.map (·.sz) = sizes l ∧ J pre wr) := by
        refine ⟨?_, hJ'⟩
        rw [sizes_no (by rw [← hd.out.1]; exact he), List.append_nil] at hsz
        exact hsz
      clear hJ' hz hS' hA' hpb hl1 hl2 hl3 hsz hp hB3 hd HY HGr he
      gi_wp2_with fail
      all_goals
        refine ⟨fun _ h => (by cases h), ?_⟩
        gi_wp2_with fail
        go_end0
        exact ⟨⟨_, rfl⟩, .inl ⟨pre, HF.out.1, HF.out.2⟩⟩
end Go.Proofs.Ytgbbckjbpgojaaa
