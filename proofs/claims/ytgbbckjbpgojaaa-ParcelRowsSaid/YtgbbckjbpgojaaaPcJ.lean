/- parcel: the first one. -/
import Derived.Test.YtgbbckjbpgojaaaPcI
import Derived.Deep.RegionHeld3
namespace Go.Proofs.Ytgbbckjbpgojaaa
open Go.RowKit

/-- Three cells of a block. -/
def B3 (T : TypeId) (w : World) (c : Nat) (x y z : Value) : Prop := w.heap[c]? = some (.cells #[x, y, z] T (0, 0))
theorem B3.three {T : TypeId} {w : World} {c : Nat} {x y z : Value} (h : B3 T w c x y z) : w.cell? ⟨c, 0, none⟩ = some x ∧ w.cell? ⟨c, 1, none⟩ = some y ∧ w.cell? ⟨c, 2, none⟩ = some z :=
  ⟨by rw [cell_of_row _ _ _ _ _ _ h]; rfl, by rw [cell_of_row _ _ _ _ _ _ h]; rfl, by rw [cell_of_row _ _ _ _ _ _ h]; rfl⟩
theorem B3.fr {T : TypeId} {w : World} {c : Nat} {x y z : Value} (h : B3 T w c x y z) : w.frozen? ⟨c, 0, none⟩ = false ∧ w.frozen? ⟨c, 1, none⟩ = false ∧ w.frozen? ⟨c, 2, none⟩ = false ∧ c < w.heap.size :=
  ⟨frozen_of_row _ _ _ _ _ h, frozen_of_row _ _ _ _ _ h, frozen_of_row _ _ _ _ _ h, blk_lt h⟩
theorem B3.below {T : TypeId} {w w' : World} {c : Nat} {x y z : Value} (h : B3 T w c x y z) (hb : Below w.heap.size w w') : B3 T w' c x y z := (hb.block c (blk_lt h)).trans h
theorem B3.alloc {T : TypeId} {w : World} {c : Nat} {x y z : Value} (h : B3 T w c x y z) (o : Obj) : B3 T (w.alloc o) c x y z := (Below.heap_alloc w o c (blk_lt h)).trans h
abbrev put3 (w : World) (c : Nat) (x y z : Value) : World := ((w.setCell ⟨c, 0, none⟩ x).setCell ⟨c, 1, none⟩ y).setCell ⟨c, 2, none⟩ z
theorem B3.set {T : TypeId} {w : World} {c : Nat} {x y z : Value} (h : B3 T w c x y z) (x' y' z' : Value) : B3 T (put3 w c x' y' z') c x' y' z' :=
  heap_set (k := 2) (v := z') (heap_set (k := 1) (v := y') (heap_set (k := 0) (v := x') h))
theorem put3_low {w : World} {c : Nat} {B : Nat} {w0 : World} (hb : Below B w0 w) (hB : B ≤ c) (x y z : Value) : Below B w0 (put3 w c x y z) :=
  ((hb.setCell (p := ⟨c, 0, none⟩) (by simp; omega) _).setCell (p := ⟨c, 1, none⟩) (by simp; omega) _).setCell (p := ⟨c, 2, none⟩) (by simp; omega) _

theorem put3_far {w : World} {c b o : Nat} (x y z : Value) (h : b ≠ c) : (put3 w c x y z).cell? ⟨b, o, none⟩ = w.cell? ⟨b, o, none⟩ :=
  World.cell?_of_block (w := w) (by
    show (put3 w c x y z).heap[b]? = _
    rw [heap_far (a := ⟨c, 2, none⟩) h, heap_far (a := ⟨c, 1, none⟩) h, heap_far (a := ⟨c, 0, none⟩) h])
theorem readNat_strict {l : List UInt8} {bd : Bool} {most : Nat} (h : (rdN l bd most).2.2 = false) : (rdN l bd most).2.1.length < l.length := by
  unfold rdN at h ⊢
  cases e : readNat l most with
  | none => rw [e] at h; simp at h
  | some p => obtain ⟨n, t⟩ := p; have := readNat_bound e; simp only; omega
theorem lenF_bd (l : List UInt8) : (lenF l).1 ≤ 65536 ∧ (lenF l).2.1 ≤ 10 ∧ (lenF l).2.1 ≤ l.length ∧ ((lenF l).2.2 = 0 → 1 ≤ (lenF l).2.1) := by
  have hl : (l.take 10).length = min 10 l.length := List.length_take
  have hs := readNat_strict (l := l.take 10) (bd := false) (most := 18446744073709551615)
  unfold lenF
  generalize rdN (l.take 10) false 18446744073709551615 = r at *
  obtain ⟨x, t, b⟩ := r
  cases b
  · have := hs rfl
    simp only at this ⊢
    simp only [Bool.false_eq_true, if_false]
    split
    · simp
    · simp only; omega
  · simp only [if_true]
    split <;> simp

/-- What is told of the first one: its kind; where its body is; what is wrong. -/
structure Fst where
  kd : Nat
  fr : Nat
  tz : Nat
  er : Nat
def firstF (l : List UInt8) : Fst :=
  if l.length = 0 then ⟨0, 0, 0, 31⟩
  else if (l.getD 0 0).toNat = 0 then ⟨0, 0, 0, 20⟩
  else if ¬ (lenF (l.drop 1)).2.2 = 0 then ⟨0, 0, 0, (lenF (l.drop 1)).2.2⟩
  else if l.length < 1 + (lenF (l.drop 1)).2.1 + (lenF (l.drop 1)).1 + 4 then ⟨0, 0, 0, 31⟩
  else if four (sumN (l.take (1 + (lenF (l.drop 1)).2.1 + (lenF (l.drop 1)).1))) = (l.drop (1 + (lenF (l.drop 1)).2.1 + (lenF (l.drop 1)).1)).take 4 then ⟨(l.getD 0 0).toNat, 1 + (lenF (l.drop 1)).2.1, 1 + (lenF (l.drop 1)).2.1 + (lenF (l.drop 1)).1, 0⟩
  else ⟨0, 0, 0, 30⟩
/-- The parcel that is told. -/
def fstV (A : Option Addr) (cap : Nat) (F : Fst) : Value :=
  if F.er = 0 then .agg #[.int .u8 (F.kd : Int), .slice (A.map (·.add F.fr)) (F.tz - F.fr) (cap - F.fr), .int .i64 ((F.tz + 4 : Nat) : Int)] else .agg #[.int .u8 0, .slice none 0 0, .int .i64 0]

/-- The result's cells, new. -/
abbrev resW (w : World) : World := w.alloc (.cells #[.int .u8 0, .slice none 0 0, .int .i64 0] 45)
theorem resW_B3 (w : World) : B3 45 (resW w) w.heap.size (.int .u8 0) (.slice none 0 0) (.int .i64 0) := heap_alloc_new w _
theorem resW_below (w : World) : Below w.heap.size w (resW w) := (Below.refl _ w).alloc (Nat.le_refl _) _
/-- An error is told. -/
def Bad1 (w : World) (er : Nat) (e : Ending) (w' : World) : Prop := e = .returned (.tuple #[.agg #[.int .u8 0, .slice none 0 0, .int .i64 0], .int .i64 (er : Int)]) ∧ Hid (Below w.heap.size w w')

set_option maxHeartbeats 4000000 in
set_option maxRecDepth 100000 in
theorem first_nil (A : Option Addr) (cap : Nat) (w : World) :
    Calls Try.prog 13 #[.slice A 0 cap] w (Bad1 w 31) := by
  have hfin := Lib.hid (put3_low (c := w.heap.size) (resW_below w) (Nat.le_refl _) (.int .u8 0) (.slice none 0 0) (.int .i64 0))
  go_enter Try.func13, Try.ntmps13
  go_wp2_with fail
  refine bodyPost_ret (v := .tuple #[.agg #[.int .u8 0, .slice none 0 0, .int .i64 0], .int .i64 31]) (by simp [results, Try.results13, go_sem]) rfl ⟨rfl, ?_⟩
  exact Lib.hid ((Below.refl _ w).alloc (Nat.le_refl _) _)

set_option maxHeartbeats 4000000 in
set_option maxRecDepth 100000 in
theorem first_zero (b off n cap : Nat) (w : World) (hn : 0 < n) (hc : w.cell? ⟨b, off, none⟩ = some (.int .u8 0)) (hb : b < w.heap.size) :
    Calls Try.prog 13 #[.slice (some ⟨b, off, none⟩) n cap] w (Bad1 w 20) := by
  have hnI : (0 : Int) < (n : Int) := by omega
  have hn0 : ((n : Int) == 0) = false := by simp; omega
  go_enter Try.func13, Try.ntmps13
  go_wp2_with fail
  refine bodyPost_ret (v := .tuple #[.agg #[.int .u8 0, .slice none 0 0, .int .i64 0], .int .i64 20]) (by simp [results, Try.results13, go_sem]) rfl ⟨rfl, ?_⟩
  exact Lib.hid ((Below.refl _ w).alloc (Nat.le_refl _) _)

/-- What 'length' tells here. -/
def LenH (w : World) (b off n cap : Nat) (x y er : Nat) : Prop :=
  (cap = 1 → Calls Try.prog 25 #[.slice (some ⟨b, off, none⟩) (n - 1) 0] (resW w) fun e w' => e = .returned (.tuple #[.int .i64 (x : Int), .int .i64 (y : Int), .int .i64 (er : Int)]) ∧ Hid (Below (resW w).heap.size (resW w) w')) ∧
  Calls Try.prog 25 #[.slice (some ⟨b, off + 1, none⟩) (n - 1) (cap - 1)] (resW w) fun e w' => e = .returned (.tuple #[.int .i64 (x : Int), .int .i64 (y : Int), .int .i64 (er : Int)]) ∧ Hid (Below (resW w).heap.size (resW w) w')
theorem LenH.of {w : World} {b off n cap : Nat} {l : List UInt8} (h : SlB w (some ⟨b, off, none⟩) n l) (hn0 : 0 < n) (hn : n ≤ 1000000) (hc : n ≤ cap) (hc2 : cap ≤ 9223372036854775807) : LenH w b off n cap (lenF (l.drop 1)).1 (lenF (l.drop 1)).2.1 (lenF (l.drop 1)).2.2 := by
  have h1 : SlB (resW w) (some ⟨b, off, none⟩) n l := h.fr0 (S := fun _ => False) (Fr.of_below (resW_below w)) (fun _ _ _ h => h)
  have h2 := h1.drop 1 (by omega)
  refine ⟨fun hc1 => ?_, length_c _ _ _ _ _ (by simpa [addr_add] using h2) (by omega) (by omega) (by omega)⟩
  refine length_c _ _ _ _ _ ⟨by rw [List.length_drop, h.1], .inl (by omega)⟩ (by omega) (by omega) (by omega)

set_option maxHeartbeats 4000000 in
set_option maxRecDepth 100000 in
theorem first_len (b off n cap : Nat) (c0 : Nat) (w : World) (hn : 0 < n) (hnc : n ≤ cap) (hcap : cap ≤ 9223372036854775807) (hc : w.cell? ⟨b, off, none⟩ = some (.int .u8 (c0 : Int))) (hc0 : 0 < c0) (hb : b < w.heap.size) (x y er : Nat) (her : ¬ er = 0) (hL : LenH w b off n cap x y er) :
    Calls Try.prog 13 #[.slice (some ⟨b, off, none⟩) n cap] w (Bad1 w er) := by
  have hnI : (0 : Int) < (n : Int) := by omega
  have hn0 : ((n : Int) == 0) = false := by simp; omega
  have hz : ((c0 : Int) == 0) = false := by simp; omega
  have hze : ((er : Int) == 0) = false := by simp; omega
  have hze2 : ((er : Int) != 0) = true := by simp; omega
  have hncI : (n : Int) ≤ (cap : Int) := by omega
  have hcapI : (cap : Int) ≤ 9223372036854775807 := by omega
  have HX := Lib.hid (resW_B3 w)
  have H0 := Lib.hid (resW_below w)
  have HL := Lib.hid hL
  clear hL
  by_cases hc1 : cap = 1
  · subst hc1
    have H1 := Lib.hid (HL.out.1 rfl)
    obtain rfl : n = 1 := by omega
    clear HL
    go_enter Try.func13, Try.ntmps13
    go_wp2_with fail
    ((with_reducible refine H1.out.mono ?_); rintro e w1 ⟨rfl, hd1⟩)
    have hb1 := Lib.hid (H0.out.trans (hd1.out.mono H0.out.size))
    have HX1 := Lib.hid (HX.out.below hd1.out)
    obtain ⟨c0, c1, c2⟩ := HX1.out.three
    obtain ⟨f0, f1, f2, cl⟩ := HX1.out.fr
    have hfin := Lib.hid (put3_low (c := w.heap.size) hb1.out (Nat.le_refl _) (.int .u8 0) (.slice none 0 0) (.int .i64 0))
    obtain ⟨d0, d1, d2⟩ := (HX1.out.set (.int .u8 0) (.slice none 0 0) (.int .i64 0)).three
    clear hd1 H1 H0 HX
    go_wp2_with fail
    refine bodyPost_ret (v := .tuple #[.agg #[.int .u8 0, .slice none 0 0, .int .i64 0], .int .i64 (er : Int)]) (by simp [results, Try.results13, go_sem, d0, d1, d2]) rfl ⟨rfl, hfin⟩
  · have hc1N : 1 < cap := by omega
    have hc1I : (1 : Int) < (cap : Int) := by omega
    have hn1 : (1 : Int) ≤ (n : Int) := by omega
    have H1 := Lib.hid HL.out.2
    have e1 : ((n : Int) - 1).toNat = n - 1 := by omega
    have e2 : ((cap : Int) - 1).toNat = cap - 1 := by omega
    clear HL hc1
    go_enter Try.func13, Try.ntmps13
    go_wp2_with fail
    ((with_reducible refine H1.out.mono ?_); rintro e w1 ⟨rfl, hd1⟩)
    have hb1 := Lib.hid (H0.out.trans (hd1.out.mono H0.out.size))
    have HX1 := Lib.hid (HX.out.below hd1.out)
    obtain ⟨c0, c1, c2⟩ := HX1.out.three
    obtain ⟨f0, f1, f2, cl⟩ := HX1.out.fr
    have hfin := Lib.hid (put3_low (c := w.heap.size) hb1.out (Nat.le_refl _) (.int .u8 0) (.slice none 0 0) (.int .i64 0))
    obtain ⟨d0, d1, d2⟩ := (HX1.out.set (.int .u8 0) (.slice none 0 0) (.int .i64 0)).three
    clear hd1 H1 H0 HX
    go_wp2_with fail
    refine bodyPost_ret (v := .tuple #[.agg #[.int .u8 0, .slice none 0 0, .int .i64 0], .int .i64 (er : Int)]) (by simp [results, Try.results13, go_sem, d0, d1, d2]) rfl ⟨rfl, hfin⟩

set_option maxHeartbeats 4000000 in
set_option maxRecDepth 100000 in
theorem first_torn (b off n cap : Nat) (c0 : Nat) (w : World) (hn : 1 < n) (hnc : n ≤ cap) (hcap : cap ≤ 9223372036854775807) (hc : w.cell? ⟨b, off, none⟩ = some (.int .u8 (c0 : Int))) (hc0 : 0 < c0) (hb : b < w.heap.size) (x y : Nat) (hx : x ≤ 65536) (hy : y ≤ 10) (hlt : n < 1 + y + x + 4) (hL : LenH w b off n cap x y 0) :
    Calls Try.prog 13 #[.slice (some ⟨b, off, none⟩) n cap] w (Bad1 w 31) := by
  have hnI : (0 : Int) < (n : Int) := by omega
  have hn0 : ((n : Int) == 0) = false := by simp; omega
  have hz : ((c0 : Int) == 0) = false := by simp; omega
  have hncI : (n : Int) ≤ (cap : Int) := by omega
  have hcapI : (cap : Int) ≤ 9223372036854775807 := by omega
  have HX := Lib.hid (resW_B3 w)
  have H0 := Lib.hid (resW_below w)
  have H1 := Lib.hid hL.2
  clear hL
  have hc1N : 1 < cap := by omega
  have hc1I : (1 : Int) < (cap : Int) := by omega
  have hn1 : (1 : Int) ≤ (n : Int) := by omega
  have e1 : ((n : Int) - 1).toNat = n - 1 := by omega
  have e2 : ((cap : Int) - 1).toNat = cap - 1 := by omega
  have hxI : (x : Int) ≤ 65536 := by omega
  have hyI : (y : Int) ≤ 10 := by omega
  have hltI : (n : Int) < 1 + (y : Int) + (x : Int) + 4 := by omega
  go_enter Try.func13, Try.ntmps13
  go_wp2_with fail
  ((with_reducible refine H1.out.mono ?_); rintro e w1 ⟨rfl, hd1⟩)
  have hb1 := Lib.hid (H0.out.trans (hd1.out.mono H0.out.size))
  have HX1 := Lib.hid (HX.out.below hd1.out)
  obtain ⟨c0, c1, c2⟩ := HX1.out.three
  obtain ⟨f0, f1, f2, cl⟩ := HX1.out.fr
  have hfin := Lib.hid (put3_low (c := w.heap.size) hb1.out (Nat.le_refl _) (.int .u8 0) (.slice none 0 0) (.int .i64 0))
  obtain ⟨d0, d1, d2⟩ := (HX1.out.set (.int .u8 0) (.slice none 0 0) (.int .i64 0)).three
  clear hd1 H1 H0 HX
  go_wp2_with fail
  refine bodyPost_ret (v := .tuple #[.agg #[.int .u8 0, .slice none 0 0, .int .i64 0], .int .i64 (31 : Int)]) (by simp [results, Try.results13, go_sem, d0, d1, d2]) rfl ⟨rfl, hfin⟩

/-- What holds of the world beside the three calls. -/
def FW (w : World) (b off n : Nat) (l : List UInt8) (W : World) : Prop := Below w.heap.size w W ∧ w.heap.size ≤ W.heap.size ∧ SlB W (some ⟨b, off, none⟩) n l ∧ B3 45 W w.heap.size (.int .u8 0) (.slice none 0 0) (.int .i64 0)
theorem FW.below {w : World} {b off n : Nat} {l : List UInt8} {W W' : World} (h : FW w b off n l W) (hb : Below W.heap.size W W') : FW w b off n l W' :=
  ⟨h.1.trans (hb.mono h.2.1), Nat.le_trans h.2.1 hb.size, h.2.2.1.fr0 (S := fun _ => False) (Fr.of_below hb) (fun _ _ _ h => h), h.2.2.2.below hb⟩
theorem FW.drew {w : World} {b off n : Nat} {l : List UInt8} {W : World} (h : FW w b off n l W) : FW w b off n l W.drew := ⟨h.1.drew, h.2.1, h.2.2.1, h.2.2.2⟩
theorem sum_k {w : World} {b off n : Nat} {l : List UInt8} (tz c : Nat) (hto : tz ≤ n) (hn : n ≤ 1000000) (W : World) (h : FW w b off n l W) :
    Calls Try.prog 11 #[.slice (some ⟨b, off, none⟩) tz c] W fun e w' => e = .returned (.int .u32 (sumN (l.take tz) : Int)) ∧ Hid (FW w b off n l w') :=
  (sum_c _ tz c _ W (h.2.2.1.upTo tz hto) (by omega)).mono fun _ _ ⟨he, hw⟩ => ⟨he, h.below hw⟩
theorem low_k {w : World} {b off n : Nat} {l : List UInt8} (s : Nat) (hs : s < 4294967296) (W : World) (h : FW w b off n l W) :
    Calls Try.prog 22 #[.int .u32 (s : Int)] W fun e w' => ∃ A c, e = .returned (.slice A 4 c) ∧ Hid (FW w b off n l w' ∧ SlB w' A 4 (four s)) :=
  (low_c s hs W).mono fun _ _ ⟨A, c, he, hw⟩ => ⟨A, c, he, h.below hw.out.1, hw.out.2.1⟩

set_option maxHeartbeats 8000000 in
set_option maxRecDepth 100000 in
theorem first_sum (b off n cap : Nat) (c0 : Nat) (l : List UInt8) (w : World) (hn : 1 < n) (hn2 : n ≤ 1000000) (hnc : n ≤ cap) (hcap : cap ≤ 9223372036854775807) (hS : SlB w (some ⟨b, off, none⟩) n l) (hc : w.cell? ⟨b, off, none⟩ = some (.int .u8 (c0 : Int))) (hc0 : 0 < c0) (hb : b < w.heap.size) (x y : Nat) (hx : x ≤ 65536) (hy : y ≤ 10) (hlt : 1 + y + x + 4 ≤ n) (hL : LenH w b off n cap x y 0)
    (hne : (four (sumN (l.take (1 + y + x))) == (l.drop (1 + y + x)).take 4) = false) :
    Calls Try.prog 13 #[.slice (some ⟨b, off, none⟩) n cap] w (Bad1 w 30) := by
  have hnI : (0 : Int) < (n : Int) := by omega
  have hn0 : ((n : Int) == 0) = false := by simp; omega
  have hz : ((c0 : Int) == 0) = false := by simp; omega
  have hncI : (n : Int) ≤ (cap : Int) := by omega
  have hcapI : (cap : Int) ≤ 9223372036854775807 := by omega
  have H0 : Hid (FW w b off n l (resW w)) := ⟨resW_below w, (resW_below w).size, hS.fr0 (S := fun _ => False) (Fr.of_below (resW_below w)) (fun _ _ _ h => h), resW_B3 w⟩
  have H1 := Lib.hid hL.2
  have hc1N : 1 < cap := by omega
  have hc1I : (1 : Int) < (cap : Int) := by omega
  have hn1 : (1 : Int) ≤ (n : Int) := by omega
  have e1 : ((n : Int) - 1).toNat = n - 1 := by omega
  have e2 : ((cap : Int) - 1).toNat = cap - 1 := by omega
  obtain ⟨tz, hto⟩ : ∃ tz, tz = 1 + y + x := ⟨_, rfl⟩
  rw [← hto] at hne hlt
  have t1 : IntKind.i64.wrap (1 + (y : Int)) = 1 + (y : Int) := by rw [IntKind.wrap_i64]; omega
  have t2 : 1 + (y : Int) + (x : Int) = (tz : Int) := by omega
  have hxI : (x : Int) ≤ 65536 := by omega
  have hyI : (y : Int) ≤ 10 := by omega
  have htoI : (tz : Int) + 4 ≤ (n : Int) := by omega
  have hHS := Lib.hid (fun c W h => sum_k (w := w) (b := b) (off := off) (l := l) tz c (by omega) hn2 W h)
  have hHL := Lib.hid (fun W h => low_k (w := w) (b := b) (off := off) (n := n) (l := l) (sumN (l.take tz)) (sumN_lt _) W h)
  have hHE := Lib.hid (fun A c c2 W (h : FW w b off n l W ∧ SlB W A 4 (four (sumN (l.take tz)))) => equal_c A (some ⟨b, off + tz, none⟩) 4 4 c c2 (four (sumN (l.take tz))) ((l.drop tz).take 4) W h.2 (by
    have := (h.1.2.2.1.drop tz (by omega)).upTo 4 (by omega)
    simpa [addr_add] using this))
  rw [hne] at hHE
  clear hL hS hto hn2
  go_enter Try.func13, Try.ntmps13
  go_wp2_with fail
  ((with_reducible refine H1.out.mono ?_); rintro e w1 ⟨rfl, hd1⟩)
  have HF := Lib.hid (H0.out.below hd1.out)
  clear hd1 H1 H0
  have HF1 := Lib.hid HF.out.drew
  clear HF
  have s1 : IntKind.i64.wrap ((tz : Int) + 4) = (tz : Int) + 4 := by rw [IntKind.wrap_i64]; omega
  have s2 : (0 : Int) ≤ (tz : Int) := by omega
  have s3 : (tz : Int) ≤ (cap : Int) := by omega
  have s4 : ((tz : Int) + 4).toNat = tz + 4 := by omega
  have s5 : (0 : Int) ≤ (tz : Int) + 4 := by omega
  have s6 : (tz : Int) + 4 ≤ (cap : Int) := by omega
  have s7 : tz + 4 - tz = 4 := by omega
  have s8 : ¬ cap = tz := by omega
  have s9 : ¬ cap - tz = 0 := by omega
  go_wp2_with fail
  refine wp_region_held_drew (S := (fun _ => True)) (by kernel_rfl) (by first | (dsimp only; exact trivial) | exact trivial) (fun hHeld => ?_)
  refine wpAnyH_take (i := 0) (oi := ⟨some 40, _, _, _, _, _⟩) (v := ?_) rfl (by kernel_rfl) (by kernel_rfl) (by kernel_rfl) (fun _ _ _ h => h) (Or.inl ⟨by kernel_rfl, ?_⟩) (by assumption) ?_
  rotate_left
  · (intro w hSw; (try dsimp only at hSw); go_simp; try with_reducible rfl)
  (repeat (first | simp only [Act.put] | simp only [List.setIfInBounds_toArray] | simp only [List.set_cons_succ] | simp only [List.set_cons_zero]))
  refine wpAnyH_take (i := 1) (oi := ⟨some 41, _, _, _, _, _⟩) (v := ?_) rfl (by kernel_rfl) (by kernel_rfl) (by kernel_rfl) (fun _ _ _ h => h) (Or.inl ⟨by kernel_rfl, ?_⟩) (by assumption) ?_
  rotate_left
  · (intro w hSw; (try dsimp only at hSw); go_simp; try with_reducible rfl)
  (repeat (first | simp only [Act.put] | simp only [List.setIfInBounds_toArray] | simp only [List.set_cons_succ] | simp only [List.set_cons_zero]))
  refine wpAnyH_take (i := 2) (oi := ⟨some 42, _, _, _, _, _⟩) (v := ?_) rfl (by kernel_rfl) (by kernel_rfl) (by kernel_rfl) (fun _ _ _ h => h) (Or.inl ⟨by kernel_rfl, ?_⟩) (by assumption) ?_
  rotate_left
  · (intro w hSw; (try dsimp only at hSw); go_simp; try with_reducible rfl)
  (repeat (first | simp only [Act.put] | simp only [List.setIfInBounds_toArray] | simp only [List.set_cons_succ] | simp only [List.set_cons_zero]))
  refine wpAnyH_take (i := 5) (oi := ⟨some 45, _, _, _, _, _⟩) (v := ?_) rfl (by kernel_rfl) (by kernel_rfl) (by kernel_rfl) (fun _ _ _ h => h) (Or.inl ⟨by kernel_rfl, ?_⟩) (by assumption) ?_
  rotate_left
  · (intro w hSw; (try dsimp only at hSw); go_simp; try with_reducible rfl)
  (repeat (first | simp only [Act.put] | simp only [List.setIfInBounds_toArray] | simp only [List.set_cons_succ] | simp only [List.set_cons_zero]))
  refine wpAnyH_take (i := 6) (oi := ⟨some 46, _, _, _, _, _⟩) (v := ?_) rfl (by kernel_rfl) (by kernel_rfl) (by kernel_rfl) (fun _ _ _ h => h) (Or.inl ⟨by kernel_rfl, ?_⟩) (by assumption) ?_
  rotate_left
  · (intro w hSw; (try dsimp only at hSw); go_simp; try with_reducible rfl)
  (repeat (first | simp only [Act.put] | simp only [List.setIfInBounds_toArray] | simp only [List.set_cons_succ] | simp only [List.set_cons_zero]))
  refine wpAnyH_take (i := 7) (oi := ⟨some 47, _, _, _, _, _⟩) (v := ?_) rfl (by kernel_rfl) (by kernel_rfl) (by kernel_rfl) (fun _ _ _ h => h) (Or.inl ⟨by kernel_rfl, ?_⟩) (by assumption) ?_
  rotate_left
  · (intro w hSw; (try dsimp only at hSw); go_simp; try with_reducible rfl)
  (repeat (first | simp only [Act.put] | simp only [List.setIfInBounds_toArray] | simp only [List.set_cons_succ] | simp only [List.set_cons_zero]))
  refine wpAnyH_take (i := 8) (oi := ⟨some 48, _, _, _, _, _⟩) (v := ?_) rfl (by kernel_rfl) (by kernel_rfl) (by kernel_rfl) (fun _ _ _ h => h) (Or.inl ⟨by kernel_rfl, ?_⟩) (by assumption) ?_
  rotate_left
  · (intro w hSw; (try dsimp only at hSw); go_simp; try with_reducible rfl)
  (repeat (first | simp only [Act.put] | simp only [List.setIfInBounds_toArray] | simp only [List.set_cons_succ] | simp only [List.set_cons_zero]))
  refine wpAnyH_take (i := 9) (oi := ⟨some 49, _, _, _, _, _⟩) (v := ?_) rfl (by kernel_rfl) (by kernel_rfl) (by kernel_rfl) (fun _ _ _ h => h) (Or.inl ⟨by kernel_rfl, ?_⟩) (by assumption) ?_
  rotate_left
  · (intro w hSw; (try dsimp only at hSw); go_simp; try with_reducible rfl)
  (repeat (first | simp only [Act.put] | simp only [List.setIfInBounds_toArray] | simp only [List.set_cons_succ] | simp only [List.set_cons_zero]))
  refine wpAnyH_ready (rs := [3]) (by kernel_rfl) (by simp) ?_
  refine AllReadyH.cons (o := ⟨some 43, _, _, _, _, _⟩) rfl (fun K hK => ?_) AllReadyH.nil
  go_simp
  ((with_reducible refine (hHS.out _ _ HF1.out).mono ?_); rintro e y1 ⟨rfl, G1⟩; clear HF1)
  (try go_wp2_with fail)
  refine hK.out _ _ (by first | (dsimp only; exact trivial) | exact trivial | assumption) (fun hHeld => ?_)
  clear hK K
  (repeat (first | simp only [Act.put] | simp only [List.setIfInBounds_toArray] | simp only [List.set_cons_succ] | simp only [List.set_cons_zero]))
  refine wpAnyH_ready (rs := [4]) (by kernel_rfl) (by simp) ?_
  refine AllReadyH.cons (o := ⟨some 44, _, _, _, _, _⟩) rfl (fun K hK => ?_) AllReadyH.nil
  go_simp
  ((with_reducible refine (hHL.out _ G1.out).mono ?_); rintro e y2 ⟨A2, c2, rfl, G2⟩; clear G1)
  (try go_wp2_with fail)
  refine hK.out _ _ (by first | (dsimp only; exact trivial) | exact trivial | assumption) (fun hHeld => ?_)
  clear hK K
  (repeat (first | simp only [Act.put] | simp only [List.setIfInBounds_toArray] | simp only [List.set_cons_succ] | simp only [List.set_cons_zero]))
  refine wpAnyH_ready (rs := [10]) (by kernel_rfl) (by simp) ?_
  refine AllReadyH.cons (o := ⟨some 50, _, _, _, _, _⟩) rfl (fun K hK => ?_) AllReadyH.nil
  go_simp
  ((with_reducible refine (hHE.out _ _ _ _ G2.out).mono ?_); rintro e y3 ⟨rfl, rfl⟩)
  (try go_wp2_with fail)
  refine hK.out _ _ (by first | (dsimp only; exact trivial) | exact trivial | assumption) (fun hHeld => ?_)
  clear hK K
  (repeat (first | simp only [Act.put] | simp only [List.setIfInBounds_toArray] | simp only [List.set_cons_succ] | simp only [List.set_cons_zero]))
  refine wpAnyH_take (i := 11) (oi := ⟨some 51, _, _, _, _, _⟩) (v := ?_) rfl (by kernel_rfl) (by kernel_rfl) (by kernel_rfl) (fun _ _ _ h => h) (Or.inl ⟨by kernel_rfl, ?_⟩) (by assumption) ?_
  rotate_left
  · (intro w hSw; (try dsimp only at hSw); go_simp; try with_reducible rfl)
  (repeat (first | simp only [Act.put] | simp only [List.setIfInBounds_toArray] | simp only [List.set_cons_succ] | simp only [List.set_cons_zero]))
  refine wpAnyH_done (by kernel_rfl) ?_ _
  have HG := Lib.hid G2.out.1
  obtain ⟨r0, r1, r2⟩ := HG.out.2.2.2.three
  obtain ⟨f0, f1, f2, cl⟩ := HG.out.2.2.2.fr
  have hfin := Lib.hid (put3_low (c := w.heap.size) HG.out.1 (Nat.le_refl _) (.int .u8 0) (.slice none 0 0) (.int .i64 0))
  obtain ⟨d0, d1, d2⟩ := (HG.out.2.2.2.set (.int .u8 0) (.slice none 0 0) (.int .i64 0)).three
  clear G2 hHS hHL hHE s1 s2 s3 s4 s5 s6 s7 s8 s9 t1 t2
  go_wp2_with fail
  refine bodyPost_ret (v := .tuple #[.agg #[.int .u8 0, .slice none 0 0, .int .i64 0], .int .i64 30]) (by simp [results, Try.results13, go_sem, d0, d1, d2]) rfl ⟨rfl, hfin⟩
set_option maxHeartbeats 8000000 in
set_option maxRecDepth 100000 in
theorem first_ok (b off n cap : Nat) (c0 : Nat) (l : List UInt8) (w : World) (hn : 1 < n) (hn2 : n ≤ 1000000) (hnc : n ≤ cap) (hcap : cap ≤ 9223372036854775807) (hS : SlB w (some ⟨b, off, none⟩) n l) (hc : w.cell? ⟨b, off, none⟩ = some (.int .u8 (c0 : Int))) (hc0 : 0 < c0) (hb : b < w.heap.size) (x y : Nat) (hx : x ≤ 65536) (hy : y ≤ 10) (hlt : 1 + y + x + 4 ≤ n) (hL : LenH w b off n cap x y 0)
    (hne : (four (sumN (l.take (1 + y + x))) == (l.drop (1 + y + x)).take 4) = true) :
    Calls Try.prog 13 #[.slice (some ⟨b, off, none⟩) n cap] w fun e w' => e = .returned (.tuple #[.agg #[.int .u8 (c0 : Int), .slice (some ⟨b, off + (1 + y), none⟩) x (cap - (1 + y)), .int .i64 ((1 + y + x + 4 : Nat) : Int)], .int .i64 0]) ∧ Hid (Below w.heap.size w w') := by
  have hnI : (0 : Int) < (n : Int) := by omega
  have hn0 : ((n : Int) == 0) = false := by simp; omega
  have hz : ((c0 : Int) == 0) = false := by simp; omega
  have hncI : (n : Int) ≤ (cap : Int) := by omega
  have hcapI : (cap : Int) ≤ 9223372036854775807 := by omega
  have H0 : Hid (FW w b off n l (resW w)) := ⟨resW_below w, (resW_below w).size, hS.fr0 (S := fun _ => False) (Fr.of_below (resW_below w)) (fun _ _ _ h => h), resW_B3 w⟩
  have H1 := Lib.hid hL.2
  have hc1N : 1 < cap := by omega
  have hc1I : (1 : Int) < (cap : Int) := by omega
  have hn1 : (1 : Int) ≤ (n : Int) := by omega
  have e1 : ((n : Int) - 1).toNat = n - 1 := by omega
  have e2 : ((cap : Int) - 1).toNat = cap - 1 := by omega
  obtain ⟨tz, hto⟩ : ∃ tz, tz = 1 + y + x := ⟨_, rfl⟩
  rw [← hto] at hne hlt
  have t1 : IntKind.i64.wrap (1 + (y : Int)) = 1 + (y : Int) := by rw [IntKind.wrap_i64]; omega
  have t2 : 1 + (y : Int) + (x : Int) = (tz : Int) := by omega
  have hxI : (x : Int) ≤ 65536 := by omega
  have hyI : (y : Int) ≤ 10 := by omega
  have htoI : (tz : Int) + 4 ≤ (n : Int) := by omega
  have hHS := Lib.hid (fun c W h => sum_k (w := w) (b := b) (off := off) (l := l) tz c (by omega) hn2 W h)
  have hHL := Lib.hid (fun W h => low_k (w := w) (b := b) (off := off) (n := n) (l := l) (sumN (l.take tz)) (sumN_lt _) W h)
  have hHE := Lib.hid (fun A c c2 W (h : FW w b off n l W ∧ SlB W A 4 (four (sumN (l.take tz)))) => equal_c A (some ⟨b, off + tz, none⟩) 4 4 c c2 (four (sumN (l.take tz))) ((l.drop tz).take 4) W h.2 (by
    have := (h.1.2.2.1.drop tz (by omega)).upTo 4 (by omega)
    simpa [addr_add] using this))
  rw [hne] at hHE
  have Hto := Lib.hid hto
  clear hL hS hto hn2
  go_enter Try.func13, Try.ntmps13
  go_wp2_with fail
  ((with_reducible refine H1.out.mono ?_); rintro e w1 ⟨rfl, hd1⟩)
  have HF := Lib.hid (H0.out.below hd1.out)
  clear hd1 H1 H0
  have HF1 := Lib.hid HF.out.drew
  clear HF
  have s1 : IntKind.i64.wrap ((tz : Int) + 4) = (tz : Int) + 4 := by rw [IntKind.wrap_i64]; omega
  have s2 : (0 : Int) ≤ (tz : Int) := by omega
  have s3 : (tz : Int) ≤ (cap : Int) := by omega
  have s4 : ((tz : Int) + 4).toNat = tz + 4 := by omega
  have s5 : (0 : Int) ≤ (tz : Int) + 4 := by omega
  have s6 : (tz : Int) + 4 ≤ (cap : Int) := by omega
  have s7 : tz + 4 - tz = 4 := by omega
  have s8 : ¬ cap = tz := by omega
  have s9 : ¬ cap - tz = 0 := by omega
  go_wp2_with fail
  refine wp_region_held_drew (S := (fun _ => True)) (by kernel_rfl) (by first | (dsimp only; exact trivial) | exact trivial) (fun hHeld => ?_)
  refine wpAnyH_take (i := 0) (oi := ⟨some 40, _, _, _, _, _⟩) (v := ?_) rfl (by kernel_rfl) (by kernel_rfl) (by kernel_rfl) (fun _ _ _ h => h) (Or.inl ⟨by kernel_rfl, ?_⟩) (by assumption) ?_
  rotate_left
  · (intro w hSw; (try dsimp only at hSw); go_simp; try with_reducible rfl)
  (repeat (first | simp only [Act.put] | simp only [List.setIfInBounds_toArray] | simp only [List.set_cons_succ] | simp only [List.set_cons_zero]))
  refine wpAnyH_take (i := 1) (oi := ⟨some 41, _, _, _, _, _⟩) (v := ?_) rfl (by kernel_rfl) (by kernel_rfl) (by kernel_rfl) (fun _ _ _ h => h) (Or.inl ⟨by kernel_rfl, ?_⟩) (by assumption) ?_
  rotate_left
  · (intro w hSw; (try dsimp only at hSw); go_simp; try with_reducible rfl)
  (repeat (first | simp only [Act.put] | simp only [List.setIfInBounds_toArray] | simp only [List.set_cons_succ] | simp only [List.set_cons_zero]))
  refine wpAnyH_take (i := 2) (oi := ⟨some 42, _, _, _, _, _⟩) (v := ?_) rfl (by kernel_rfl) (by kernel_rfl) (by kernel_rfl) (fun _ _ _ h => h) (Or.inl ⟨by kernel_rfl, ?_⟩) (by assumption) ?_
  rotate_left
  · (intro w hSw; (try dsimp only at hSw); go_simp; try with_reducible rfl)
  (repeat (first | simp only [Act.put] | simp only [List.setIfInBounds_toArray] | simp only [List.set_cons_succ] | simp only [List.set_cons_zero]))
  refine wpAnyH_take (i := 5) (oi := ⟨some 45, _, _, _, _, _⟩) (v := ?_) rfl (by kernel_rfl) (by kernel_rfl) (by kernel_rfl) (fun _ _ _ h => h) (Or.inl ⟨by kernel_rfl, ?_⟩) (by assumption) ?_
  rotate_left
  · (intro w hSw; (try dsimp only at hSw); go_simp; try with_reducible rfl)
  (repeat (first | simp only [Act.put] | simp only [List.setIfInBounds_toArray] | simp only [List.set_cons_succ] | simp only [List.set_cons_zero]))
  refine wpAnyH_take (i := 6) (oi := ⟨some 46, _, _, _, _, _⟩) (v := ?_) rfl (by kernel_rfl) (by kernel_rfl) (by kernel_rfl) (fun _ _ _ h => h) (Or.inl ⟨by kernel_rfl, ?_⟩) (by assumption) ?_
  rotate_left
  · (intro w hSw; (try dsimp only at hSw); go_simp; try with_reducible rfl)
  (repeat (first | simp only [Act.put] | simp only [List.setIfInBounds_toArray] | simp only [List.set_cons_succ] | simp only [List.set_cons_zero]))
  refine wpAnyH_take (i := 7) (oi := ⟨some 47, _, _, _, _, _⟩) (v := ?_) rfl (by kernel_rfl) (by kernel_rfl) (by kernel_rfl) (fun _ _ _ h => h) (Or.inl ⟨by kernel_rfl, ?_⟩) (by assumption) ?_
  rotate_left
  · (intro w hSw; (try dsimp only at hSw); go_simp; try with_reducible rfl)
  (repeat (first | simp only [Act.put] | simp only [List.setIfInBounds_toArray] | simp only [List.set_cons_succ] | simp only [List.set_cons_zero]))
  refine wpAnyH_take (i := 8) (oi := ⟨some 48, _, _, _, _, _⟩) (v := ?_) rfl (by kernel_rfl) (by kernel_rfl) (by kernel_rfl) (fun _ _ _ h => h) (Or.inl ⟨by kernel_rfl, ?_⟩) (by assumption) ?_
  rotate_left
  · (intro w hSw; (try dsimp only at hSw); go_simp; try with_reducible rfl)
  (repeat (first | simp only [Act.put] | simp only [List.setIfInBounds_toArray] | simp only [List.set_cons_succ] | simp only [List.set_cons_zero]))
  refine wpAnyH_take (i := 9) (oi := ⟨some 49, _, _, _, _, _⟩) (v := ?_) rfl (by kernel_rfl) (by kernel_rfl) (by kernel_rfl) (fun _ _ _ h => h) (Or.inl ⟨by kernel_rfl, ?_⟩) (by assumption) ?_
  rotate_left
  · (intro w hSw; (try dsimp only at hSw); go_simp; try with_reducible rfl)
  (repeat (first | simp only [Act.put] | simp only [List.setIfInBounds_toArray] | simp only [List.set_cons_succ] | simp only [List.set_cons_zero]))
  refine wpAnyH_ready (rs := [3]) (by kernel_rfl) (by simp) ?_
  refine AllReadyH.cons (o := ⟨some 43, _, _, _, _, _⟩) rfl (fun K hK => ?_) AllReadyH.nil
  go_simp
  ((with_reducible refine (hHS.out _ _ HF1.out).mono ?_); rintro e y1 ⟨rfl, G1⟩; clear HF1)
  (try go_wp2_with fail)
  refine hK.out _ _ (by first | (dsimp only; exact trivial) | exact trivial | assumption) (fun hHeld => ?_)
  clear hK K
  (repeat (first | simp only [Act.put] | simp only [List.setIfInBounds_toArray] | simp only [List.set_cons_succ] | simp only [List.set_cons_zero]))
  refine wpAnyH_ready (rs := [4]) (by kernel_rfl) (by simp) ?_
  refine AllReadyH.cons (o := ⟨some 44, _, _, _, _, _⟩) rfl (fun K hK => ?_) AllReadyH.nil
  go_simp
  ((with_reducible refine (hHL.out _ G1.out).mono ?_); rintro e y2 ⟨A2, c2, rfl, G2⟩; clear G1)
  (try go_wp2_with fail)
  refine hK.out _ _ (by first | (dsimp only; exact trivial) | exact trivial | assumption) (fun hHeld => ?_)
  clear hK K
  (repeat (first | simp only [Act.put] | simp only [List.setIfInBounds_toArray] | simp only [List.set_cons_succ] | simp only [List.set_cons_zero]))
  refine wpAnyH_ready (rs := [10]) (by kernel_rfl) (by simp) ?_
  refine AllReadyH.cons (o := ⟨some 50, _, _, _, _, _⟩) rfl (fun K hK => ?_) AllReadyH.nil
  go_simp
  ((with_reducible refine (hHE.out _ _ _ _ G2.out).mono ?_); rintro e y3 ⟨rfl, rfl⟩)
  (try go_wp2_with fail)
  refine hK.out _ _ (by first | (dsimp only; exact trivial) | exact trivial | assumption) (fun hHeld => ?_)
  clear hK K
  (repeat (first | simp only [Act.put] | simp only [List.setIfInBounds_toArray] | simp only [List.set_cons_succ] | simp only [List.set_cons_zero]))
  refine wpAnyH_take (i := 11) (oi := ⟨some 51, _, _, _, _, _⟩) (v := ?_) rfl (by kernel_rfl) (by kernel_rfl) (by kernel_rfl) (fun _ _ _ h => h) (Or.inl ⟨by kernel_rfl, ?_⟩) (by assumption) ?_
  rotate_left
  · (intro w hSw; (try dsimp only at hSw); go_simp; try with_reducible rfl)
  (repeat (first | simp only [Act.put] | simp only [List.setIfInBounds_toArray] | simp only [List.set_cons_succ] | simp only [List.set_cons_zero]))
  refine wpAnyH_done (by kernel_rfl) ?_ _
  have HG := Lib.hid G2.out.1
  have k0 : y2.cell? ⟨b, off, none⟩ = some (.int .u8 (c0 : Int)) := by rw [HG.out.1.cell (p := ⟨b, off, none⟩) hb]; exact hc
  have k1 : y2.drew.cell? ⟨b, off, none⟩ = some (.int .u8 (c0 : Int)) := k0
  have k2 : (put3 y2 w.heap.size (.int .u8 (c0 : Int)) (.slice (some ⟨b, off + (1 + y), none⟩) x (cap - (1 + y))) (.int .i64 ((tz : Int) + 4))).drew.cell? ⟨b, off, none⟩ = some (.int .u8 (c0 : Int)) := (put3_far _ _ _ (by omega)).trans k0
  have HG1 := Lib.hid HG.out.drew
  obtain ⟨r0, r1, r2⟩ := HG.out.2.2.2.three
  obtain ⟨f0, f1, f2, cl⟩ := HG.out.2.2.2.fr
  have hnN : 0 < n := by omega
  have u1 : (0 : Int) ≤ 1 + (y : Int) := by omega
  have u2 : 1 + (y : Int) ≤ (tz : Int) := by omega
  have u3 : (1 + (y : Int)).toNat = 1 + y := by omega
  have u4 : ¬ cap = 1 + y := by omega
  have u5 : tz - (1 + y) = x := by omega
  clear G2 hHS hHL hHE t1 t2 hc
  go_wp2_with fail
  go_region_held3 (fun w' => w'.cell? ⟨b, off, none⟩ = some (.int .u8 (c0 : Int))) (first | exact k1 | exact k2 | go_keep) (first | fail)
  obtain ⟨d0, d1, d2⟩ := (HG.out.2.2.2.set (.int .u8 (c0 : Int)) (.slice (some ⟨b, off + (1 + y), none⟩) x (cap - (1 + y))) (.int .i64 ((tz : Int) + 4))).three
  have hfin := Lib.hid (put3_low (c := w.heap.size) HG.out.1 (Nat.le_refl _) (.int .u8 (c0 : Int)) (.slice (some ⟨b, off + (1 + y), none⟩) x (cap - (1 + y))) (.int .i64 ((tz : Int) + 4))).drew
  have HE : Hid (((1 + y + x + 4 : Nat) : Int) = (tz : Int) + 4) := by show _ = _; rw [Hto.out]; omega
  clear k1 k2 HG HG1 s1 s2 s3 s4 s5 s6 s7 s8 s9 u1 u2 u3 u4 u5
  go_wp2_with fail
  refine bodyPost_ret (v := .tuple #[.agg #[.int .u8 (c0 : Int), .slice (some ⟨b, off + (1 + y), none⟩) x (cap - (1 + y)), .int .i64 ((tz : Int) + 4)], .int .i64 0]) (by simp [results, Try.results13, go_sem, d0, d1, d2]) rfl ⟨?_, hfin⟩
  rw [HE.out]

theorem fstV_ok (b off cap kd y x : Nat) : fstV (some ⟨b, off, none⟩) cap ⟨kd, 1 + y, 1 + y + x, 0⟩ = .agg #[.int .u8 (kd : Int), .slice (some ⟨b, off + (1 + y), none⟩) x (cap - (1 + y)), .int .i64 ((1 + y + x + 4 : Nat) : Int)] := by
  unfold fstV
  simp only [if_true, Option.map_some, addr_add]
  rw [Nat.add_sub_cancel_left]
/-- What 'first' tells of any slice. -/
theorem first_c (A : Option Addr) (n cap : Nat) (l : List UInt8) (w : World) (h : SlB w A n l) (hn : n ≤ 1000000) (hc : n ≤ cap) (hc2 : cap ≤ 9223372036854775807) :
    Calls Try.prog 13 #[.slice A n cap] w fun e w' => e = .returned (.tuple #[fstV A cap (firstF l), .int .i64 ((firstF l).er : Int)]) ∧ Hid (Below w.heap.size w w') := by
  have hl := h.1
  unfold firstF
  by_cases h0 : l.length = 0
  · rw [if_pos h0]
    obtain rfl : n = 0 := by omega
    exact first_nil A cap w
  rw [if_neg h0]
  rcases h.2 with hx | ⟨b, off, rfl, hb, hcell⟩
  · omega
  have p0 : w.cell? ⟨b, off, none⟩ = some (.int .u8 ((l.getD 0 0).toNat : Int)) := hcell 0 (by omega)
  by_cases hz : (l.getD 0 0).toNat = 0
  · rw [if_pos hz]
    rw [hz] at p0
    exact first_zero b off n cap w (by omega) p0 hb
  rw [if_neg hz]
  have hL := LenH.of h (by omega) hn hc hc2
  obtain ⟨b1, b2, b3, b4⟩ := lenF_bd (l.drop 1)
  rw [List.length_drop] at b3
  by_cases he : (lenF (l.drop 1)).2.2 = 0
  · rw [if_neg (fun h => h he)]
    have hn1 : 1 < n := by have := b4 he; omega
    rw [he] at hL
    by_cases ht : l.length < 1 + (lenF (l.drop 1)).2.1 + (lenF (l.drop 1)).1 + 4
    · rw [if_pos ht]
      exact first_torn b off n cap _ w hn1 hc hc2 p0 (by omega) hb _ _ b1 b2 (by omega) hL
    · rw [if_neg ht]
      by_cases hs : four (sumN (l.take (1 + (lenF (l.drop 1)).2.1 + (lenF (l.drop 1)).1))) = (l.drop (1 + (lenF (l.drop 1)).2.1 + (lenF (l.drop 1)).1)).take 4
      · rw [if_pos hs]
        refine (first_ok b off n cap _ l w hn1 hn hc hc2 h p0 (by omega) hb _ _ b1 b2 (by omega) hL (beq_iff_eq.2 hs)).mono fun e w' ⟨he, hw⟩ => ⟨?_, hw⟩
        rw [he, fstV_ok]
        rfl
      · rw [if_neg hs]
        exact first_sum b off n cap _ l w hn1 hn hc hc2 h p0 (by omega) hb _ _ b1 b2 (by omega) hL (beq_eq_false_iff_ne.2 hs)
  · rw [if_pos he]
    have := first_len b off n cap _ w (by omega) hc hc2 p0 (by omega) hb _ _ _ he hL
    refine this.mono fun e w' ⟨he2, hw⟩ => ⟨?_, hw⟩
    rw [he2]
    unfold fstV
    rw [if_neg he]
end Go.Proofs.Ytgbbckjbpgojaaa
