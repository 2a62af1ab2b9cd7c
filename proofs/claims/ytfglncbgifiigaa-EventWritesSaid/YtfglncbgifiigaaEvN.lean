/- event.next: an event is read. (By mkevn.py.) -/
import Derived.Test.YtfglncbgifiigaaEvA
namespace Go.Proofs.Ytfglncbgifiigaa
open Go.RowKit Go.Sort Go.Lib
set_option linter.unusedVariables false

/-- A reader of block g, with the box that the closures have of it. -/
def Nx (w0 w : World) (c g : Nat) (l : List UInt8) (b : Bool) : Prop := Co.Tch g w0 w ∧ w.cell? ⟨c, 0, none⟩ = some (.pointer (some ⟨g, 0, none⟩)) ∧ Co.RB w g l b
theorem tch_cell {g : Nat} {w w' : World} (h : Co.Tch g w w') {p : Addr} {v : Value} (hc : w.cell? p = some v) (hn : p.block ≠ g) : w'.cell? p = some v := by
  rw [World.cell?_of_block (w := w) (h.block _ (World.block_lt_of_cell? w p hc) (fun e => hn (by injection e)))]
  exact hc
theorem Nx.next {w0 w w' : World} {c g : Nat} {l l' : List UInt8} {b b' : Bool} (h : Nx w0 w c g l b) (hn : c ≠ g) (ht : Co.Tch g w w') (hr : Co.RB w' g l' b') : Nx w0 w' c g l' b' :=
  ⟨h.1.trans ht, tch_cell ht h.2.1 hn, hr⟩
set_option maxHeartbeats 4000000 in
set_option maxRecDepth 100000 in
theorem nx_nat {w0 W : World} {c g n : Nat} {l t : List UInt8} {b b' : Bool} (h : Nx w0 W c g l b) (hn : c ≠ g) (hr : Co.rdN l b big = (n, t, b')) :
    Calls Try.prog 43 #[.pointer (some ⟨c, 0, none⟩)] W fun e w' => e = .returned (.int .u64 (n : Int)) ∧ Hid (Nx w0 w' c g t b') := by
  have h1 := Co.rNat_c g l b big W h.2.2 n t b' hr
  rw [show ((big : Nat) : Int) = 18446744073709551615 from rfl] at h1
  have H1 := Lib.hid h1
  have hc := h.2.1
  have HX := Lib.hid h
  clear h1 h hr
  go_enter Try.func43, Try.ntmps43
  go_wp2_with fail
  refine H1.out.mono ?_
  rintro e w1 ⟨rfl, ht, hr⟩
  have HR : Hid (Nx w0 w1 c g t b') := HX.out.next hn ht hr
  clear ht hr H1
  go_wp2_with fail
  go_ret
  exact ⟨rfl, HR⟩
set_option maxHeartbeats 4000000 in
set_option maxRecDepth 100000 in
theorem nx_small {w0 W : World} {c g n : Nat} {l t : List UInt8} {b b' : Bool} (h : Nx w0 W c g l b) (hn : c ≠ g) (hr : Co.rdN l b big = (n, t, b')) :
    Calls Try.prog 41 #[.pointer (some ⟨c, 0, none⟩)] W fun e w' => e = .returned (.int .i64 (Co.zz n)) ∧ Hid (Nx w0 w' c g t b') := by
  have H1 := Lib.hid (Co.rInt_c g l b W h.2.2 n t b' hr)
  have hc := h.2.1
  have HX := Lib.hid h
  have hlt : n < 2 ^ 64 := by have := rdN_lt l b big; rw [hr] at this; exact this
  obtain ⟨z1, z2⟩ := Co.zz_bd hlt
  clear h hr hlt
  generalize Co.zz n = z at H1 z1 z2 ⊢
  go_enter Try.func41, Try.ntmps41
  go_wp2_with fail
  refine H1.out.mono ?_
  rintro e w1 ⟨rfl, ht, hr⟩
  have HR : Hid (Nx w0 w1 c g t b') := HX.out.next hn ht hr
  clear ht hr H1
  go_wp2_with fail
  go_ret
  exact ⟨rfl, HR⟩
theorem nx_int {w0 W : World} {c g n : Nat} {l t : List UInt8} {b b' : Bool} (h : Nx w0 W c g l b) (hn : c ≠ g) (hr : Co.rdN l b big = (n, t, b')) :
    Calls Try.prog 42 #[.pointer (some ⟨g, 0, none⟩)] W fun e w' => e = .returned (.int .i64 (Co.zz n)) ∧ Hid (Nx w0 w' c g t b') :=
  (Co.rInt_c g l b W h.2.2 n t b' hr).mono fun _ _ ⟨he, ht, hr'⟩ => ⟨he, h.next hn ht hr'⟩
theorem row_cell {w : World} {q : Nat} {cs : Array Value} {a : Addr} {v : Value} (h : w.cell? a = some v) (hn : a.block ≠ q) : (w.setRow q cs).cell? a = some v := (cell_setRow_other w q cs a hn).trans h
theorem row_tch {w z y : World} {g c : Nat} {l : List UInt8} {b : Bool} {cs : Array Value} (h : Co.Tch g w z) (k : Nx z y c g l b) (hg : g < w.heap.size) : Co.Tch g w (y.setRow (w.heap.size + 1) cs) ∧ Co.RB (y.setRow (w.heap.size + 1) cs) g l b := by
  have t : w.grownBy y (some g) := h.trans k.1
  have u : w.grownBy (y.setRow (w.heap.size + 1) cs) (some g) := by
    refine ⟨t.os, t.tape, t.output, ?_, fun j hj hn => ?_⟩
    · rw [size_setRow]; exact t.size
    · rw [setRow_other _ _ _ _ (by omega)]; exact t.block j hj hn
  exact ⟨u, (setRow_other _ _ _ _ (by omega)).trans k.2.2⟩
set_option maxHeartbeats 4000000 in
set_option maxRecDepth 100000 in
theorem enext_c (g : Nat) (l : List UInt8) (bd : Bool) (w : World) (h : Co.RB w g l bd) :
    Calls Try.prog 28 #[.pointer (some ⟨g, 0, none⟩)] w fun e w' => e = .returned (.agg (EC (rdE l bd).1)) ∧ Hid (Co.Tch g w w' ∧ Co.RB w' g (rdE l bd).2.1 (rdE l bd).2.2) := by
  have mixed : Try.prog.follows .mixedOrders = true := by kernel_rfl
  obtain ⟨⟨n1, l1, b1⟩, r1⟩ : ∃ q, Co.rdN l bd big = q := ⟨_, rfl⟩
  obtain ⟨⟨n2, l2, b2⟩, r2⟩ : ∃ q, Co.rdN l1 b1 big = q := ⟨_, rfl⟩
  obtain ⟨⟨n3, l3, b3⟩, r3⟩ : ∃ q, Co.rdN l2 b2 big = q := ⟨_, rfl⟩
  obtain ⟨⟨n4, l4, b4⟩, r4⟩ : ∃ q, Co.rdN l3 b3 big = q := ⟨_, rfl⟩
  obtain ⟨⟨n5, l5, b5⟩, r5⟩ : ∃ q, Co.rdN l4 b4 big = q := ⟨_, rfl⟩
  obtain ⟨⟨n6, l6, b6⟩, r6⟩ : ∃ q, Co.rdN l5 b5 big = q := ⟨_, rfl⟩
  obtain ⟨⟨n7, l7, b7⟩, r7⟩ : ∃ q, Co.rdN l6 b6 big = q := ⟨_, rfl⟩
  obtain ⟨⟨n8, l8, b8⟩, r8⟩ : ∃ q, Co.rdN l7 b7 big = q := ⟨_, rfl⟩
  obtain ⟨⟨n9, l9, b9⟩, r9⟩ : ∃ q, Co.rdN l8 b8 big = q := ⟨_, rfl⟩
  obtain ⟨⟨n10, l10, b10⟩, r10⟩ : ∃ q, Co.rdN l9 b9 big = q := ⟨_, rfl⟩
  obtain ⟨⟨n11, l11, b11⟩, r11⟩ : ∃ q, Co.rdN l10 b10 big = q := ⟨_, rfl⟩
  obtain ⟨⟨n12, l12, b12⟩, r12⟩ : ∃ q, Co.rdN l11 b11 big = q := ⟨_, rfl⟩
  have e : rdE l bd = (⟨Co.zz n1, Co.zz n2, (n3 : Int), (n4 : Int), Co.zz n5, Co.zz n6, Co.zz n7, Co.zz n8, Co.zz n9, Co.zz n10, Co.zz n11, (n12 : Int)⟩, l12, b12) := by
    unfold rdE
    simp only [r1, r2, r3, r4, r5, r6, r7, r8, r9, r10, r11, r12]
  rw [e]
  clear e
  have hg := blk_lt h
  have hn : w.heap.size ≠ g := by omega
  have N0 : Hid (∀ z', z' = ((w.alloc (.cells #[.pointer (some ⟨g, 0, none⟩)] 37)).alloc (.cells (EC ⟨0, 0, 0, 0, 0, 0, 0, 0, 0, 0, 0, 0⟩) 51)).drew → Nx z' z' w.heap.size g l bd ∧ Co.Tch g w z' ∧ z'.heap[w.heap.size + 1]? = some (.cells (EC ⟨0, 0, 0, 0, 0, 0, 0, 0, 0, 0, 0, 0⟩) 51 (0, 0))) := Lib.hid (fun z' hz' => by
    rw [hz']
    refine ⟨⟨Co.Tch.refl _ _, ?_, ?_⟩, ?_, ?_⟩
    · have h1 : (w.alloc (.cells #[.pointer (some ⟨g, 0, none⟩)] 37)).heap[w.heap.size]? = some (.cells #[.pointer (some ⟨g, 0, none⟩)] 37 (0, 0)) := heap_alloc_new w _
      rw [cell_of_row _ _ _ _ _ _ (hd_drew (hd_prev (by simp) h1))]
      rfl
    · exact hd_drew (hd_prev (by simp; omega) (hd_prev hg h))
    · exact (((Co.Tch.refl g w).alloc _).alloc _).drew
    · exact hd_drew (hd_last (by simp)))
  have R1 := Lib.hid r1
  have R2 := Lib.hid r2
  have R3 := Lib.hid r3
  have R4 := Lib.hid r4
  have R5 := Lib.hid r5
  have R6 := Lib.hid r6
  have R7 := Lib.hid r7
  have R8 := Lib.hid r8
  have R9 := Lib.hid r9
  have R10 := Lib.hid r10
  have R11 := Lib.hid r11
  have R12 := Lib.hid r12
  have HN := Lib.hid (fun (z W : World) (n : Nat) (l t : List UInt8) (b b' : Bool) (h : Nx z W w.heap.size g l b) (hr : Co.rdN l b big = (n, t, b')) => nx_nat h hn hr)
  have HS := Lib.hid (fun (z W : World) (n : Nat) (l t : List UInt8) (b b' : Bool) (h : Nx z W w.heap.size g l b) (hr : Co.rdN l b big = (n, t, b')) => nx_small h hn hr)
  have HI := Lib.hid (fun (z W : World) (n : Nat) (l t : List UInt8) (b b' : Bool) (h : Nx z W w.heap.size g l b) (hr : Co.rdN l b big = (n, t, b')) => nx_int h hn hr)
  clear r1 r2 r3 r4 r5 r6 r7 r8 r9 r10 r11 r12 h
  go_enter Try.func28, Try.ntmps28
  go_upto_region 3 with fail
  refine wp_region_held_drew (S := fun w' => w'.cell? ⟨w.heap.size, 0, none⟩ = some (.pointer (some ⟨g, 0, none⟩))) (by kernel_rfl) (by exact (N0.out _ rfl).1.2.1) (fun hHeld => ?_)
  generalize hz1 : World.drew _ = z1 at hHeld ⊢
  obtain ⟨nx, t0, k0⟩ := N0.out z1 hz1.symm
  have T0 := Lib.hid t0
  have K0 := Lib.hid k0
  have X0 := Lib.hid nx
  clear N0 hz1 nx t0 k0
  refine wpAnyH_take (i := 0) (oi := ⟨some 7, _, _, _, _, _⟩) (v := ?_) rfl (by kernel_rfl) (by kernel_rfl) (by kernel_rfl) (fun _ _ _ h => h) (Or.inl ⟨by kernel_rfl, ?_⟩) (by assumption) ?_
  rotate_left
  · (intro w hSw; (try dsimp only at hSw); go_simp; try with_reducible rfl)
  (repeat (first | simp only [Act.put] | simp only [List.setIfInBounds_toArray] | simp only [List.set_cons_succ] | simp only [List.set_cons_zero]))
  refine wpAnyH_take (i := 2) (oi := ⟨some 9, _, _, _, _, _⟩) (v := ?_) rfl (by kernel_rfl) (by kernel_rfl) (by kernel_rfl) (fun _ _ _ h => h) (Or.inl ⟨by kernel_rfl, ?_⟩) (by assumption) ?_
  rotate_left
  · (intro w hSw; (try dsimp only at hSw); go_simp; try with_reducible rfl)
  (repeat (first | simp only [Act.put] | simp only [List.setIfInBounds_toArray] | simp only [List.set_cons_succ] | simp only [List.set_cons_zero]))
  refine wpAnyH_take (i := 4) (oi := ⟨some 11, _, _, _, _, _⟩) (v := ?_) rfl (by kernel_rfl) (by kernel_rfl) (by kernel_rfl) (fun _ _ _ h => h) (Or.inl ⟨by kernel_rfl, ?_⟩) (by assumption) ?_
  rotate_left
  · (intro w hSw; (try dsimp only at hSw); go_simp; try with_reducible rfl)
  (repeat (first | simp only [Act.put] | simp only [List.setIfInBounds_toArray] | simp only [List.set_cons_succ] | simp only [List.set_cons_zero]))
  refine wpAnyH_take (i := 6) (oi := ⟨some 13, _, _, _, _, _⟩) (v := ?_) rfl (by kernel_rfl) (by kernel_rfl) (by kernel_rfl) (fun _ _ _ h => h) (Or.inl ⟨by kernel_rfl, ?_⟩) (by assumption) ?_
  rotate_left
  · (intro w hSw; (try dsimp only at hSw); go_simp; try with_reducible rfl)
  (repeat (first | simp only [Act.put] | simp only [List.setIfInBounds_toArray] | simp only [List.set_cons_succ] | simp only [List.set_cons_zero]))
  refine wpAnyH_take (i := 8) (oi := ⟨some 15, _, _, _, _, _⟩) (v := ?_) rfl (by kernel_rfl) (by kernel_rfl) (by kernel_rfl) (fun _ _ _ h => h) (Or.inl ⟨by kernel_rfl, ?_⟩) (by assumption) ?_
  rotate_left
  · (intro w hSw; (try dsimp only at hSw); go_simp; try with_reducible rfl)
  (repeat (first | simp only [Act.put] | simp only [List.setIfInBounds_toArray] | simp only [List.set_cons_succ] | simp only [List.set_cons_zero]))
  refine wpAnyH_take (i := 10) (oi := ⟨some 17, _, _, _, _, _⟩) (v := ?_) rfl (by kernel_rfl) (by kernel_rfl) (by kernel_rfl) (fun _ _ _ h => h) (Or.inl ⟨by kernel_rfl, ?_⟩) (by assumption) ?_
  rotate_left
  · (intro w hSw; (try dsimp only at hSw); go_simp; try with_reducible rfl)
  (repeat (first | simp only [Act.put] | simp only [List.setIfInBounds_toArray] | simp only [List.set_cons_succ] | simp only [List.set_cons_zero]))
  refine wpAnyH_take (i := 12) (oi := ⟨some 19, _, _, _, _, _⟩) (v := ?_) rfl (by kernel_rfl) (by kernel_rfl) (by kernel_rfl) (fun _ _ _ h => h) (Or.inl ⟨by kernel_rfl, ?_⟩) (by assumption) ?_
  rotate_left
  · (intro w hSw; (try dsimp only at hSw); go_simp; try with_reducible rfl)
  (repeat (first | simp only [Act.put] | simp only [List.setIfInBounds_toArray] | simp only [List.set_cons_succ] | simp only [List.set_cons_zero]))
  refine wpAnyH_take (i := 14) (oi := ⟨some 21, _, _, _, _, _⟩) (v := ?_) rfl (by kernel_rfl) (by kernel_rfl) (by kernel_rfl) (fun _ _ _ h => h) (Or.inl ⟨by kernel_rfl, ?_⟩) (by assumption) ?_
  rotate_left
  · (intro w hSw; (try dsimp only at hSw); go_simp; try with_reducible rfl)
  (repeat (first | simp only [Act.put] | simp only [List.setIfInBounds_toArray] | simp only [List.set_cons_succ] | simp only [List.set_cons_zero]))
  refine wpAnyH_take (i := 16) (oi := ⟨some 23, _, _, _, _, _⟩) (v := ?_) rfl (by kernel_rfl) (by kernel_rfl) (by kernel_rfl) (fun _ _ _ h => h) (Or.inl ⟨by kernel_rfl, ?_⟩) (by assumption) ?_
  rotate_left
  · (intro w hSw; (try dsimp only at hSw); go_simp; try with_reducible rfl)
  (repeat (first | simp only [Act.put] | simp only [List.setIfInBounds_toArray] | simp only [List.set_cons_succ] | simp only [List.set_cons_zero]))
  refine wpAnyH_take (i := 18) (oi := ⟨some 25, _, _, _, _, _⟩) (v := ?_) rfl (by kernel_rfl) (by kernel_rfl) (by kernel_rfl) (fun _ _ _ h => h) (Or.inl ⟨by kernel_rfl, ?_⟩) (by assumption) ?_
  rotate_left
  · (intro w hSw; (try dsimp only at hSw); go_simp; try with_reducible rfl)
  (repeat (first | simp only [Act.put] | simp only [List.setIfInBounds_toArray] | simp only [List.set_cons_succ] | simp only [List.set_cons_zero]))
  refine wpAnyH_take (i := 20) (oi := ⟨some 27, _, _, _, _, _⟩) (v := ?_) rfl (by kernel_rfl) (by kernel_rfl) (by kernel_rfl) (fun _ _ _ h => h) (Or.inl ⟨by kernel_rfl, ?_⟩) (by assumption) ?_
  rotate_left
  · (intro w hSw; (try dsimp only at hSw); go_simp; try with_reducible rfl)
  (repeat (first | simp only [Act.put] | simp only [List.setIfInBounds_toArray] | simp only [List.set_cons_succ] | simp only [List.set_cons_zero]))
  refine wpAnyH_take (i := 22) (oi := ⟨some 29, _, _, _, _, _⟩) (v := ?_) rfl (by kernel_rfl) (by kernel_rfl) (by kernel_rfl) (fun _ _ _ h => h) (Or.inl ⟨by kernel_rfl, ?_⟩) (by assumption) ?_
  rotate_left
  · (intro w hSw; (try dsimp only at hSw); go_simp; try with_reducible rfl)
  (repeat (first | simp only [Act.put] | simp only [List.setIfInBounds_toArray] | simp only [List.set_cons_succ] | simp only [List.set_cons_zero]))
  refine wpAnyH_ready (rs := [1]) (by kernel_rfl) (by simp) ?_
  refine AllReadyH.cons (o := ⟨some 8, _, _, _, _, _⟩) rfl (fun K hK => ?_) AllReadyH.nil
  go_simp
  refine (HS.out _ _ _ _ _ _ _ X0.out R1.out).mono ?_
  rintro e y1 ⟨rfl, X1⟩
  clear X0
  refine hK.out _ _ (by exact X1.out.2.1) (fun hHeld => ?_)
  clear hK K
  (repeat (first | simp only [Act.put] | simp only [List.setIfInBounds_toArray] | simp only [List.set_cons_succ] | simp only [List.set_cons_zero]))
  refine wpAnyH_ready (rs := [3]) (by kernel_rfl) (by simp) ?_
  refine AllReadyH.cons (o := ⟨some 10, _, _, _, _, _⟩) rfl (fun K hK => ?_) AllReadyH.nil
  go_simp
  refine (HS.out _ _ _ _ _ _ _ X1.out R2.out).mono ?_
  rintro e y2 ⟨rfl, X2⟩
  clear X1
  refine hK.out _ _ (by exact X2.out.2.1) (fun hHeld => ?_)
  clear hK K
  (repeat (first | simp only [Act.put] | simp only [List.setIfInBounds_toArray] | simp only [List.set_cons_succ] | simp only [List.set_cons_zero]))
  refine wpAnyH_ready (rs := [5]) (by kernel_rfl) (by simp) ?_
  refine AllReadyH.cons (o := ⟨some 12, _, _, _, _, _⟩) rfl (fun K hK => ?_) AllReadyH.nil
  go_simp
  refine (HN.out _ _ _ _ _ _ _ X2.out R3.out).mono ?_
  rintro e y3 ⟨rfl, X3⟩
  clear X2
  refine hK.out _ _ (by exact X3.out.2.1) (fun hHeld => ?_)
  clear hK K
  (repeat (first | simp only [Act.put] | simp only [List.setIfInBounds_toArray] | simp only [List.set_cons_succ] | simp only [List.set_cons_zero]))
  refine wpAnyH_ready (rs := [7]) (by kernel_rfl) (by simp) ?_
  refine AllReadyH.cons (o := ⟨some 14, _, _, _, _, _⟩) rfl (fun K hK => ?_) AllReadyH.nil
  go_simp
  refine (HN.out _ _ _ _ _ _ _ X3.out R4.out).mono ?_
  rintro e y4 ⟨rfl, X4⟩
  clear X3
  refine hK.out _ _ (by exact X4.out.2.1) (fun hHeld => ?_)
  clear hK K
  (repeat (first | simp only [Act.put] | simp only [List.setIfInBounds_toArray] | simp only [List.set_cons_succ] | simp only [List.set_cons_zero]))
  refine wpAnyH_ready (rs := [9]) (by kernel_rfl) (by simp) ?_
  refine AllReadyH.cons (o := ⟨some 16, _, _, _, _, _⟩) rfl (fun K hK => ?_) AllReadyH.nil
  go_simp
  refine (HS.out _ _ _ _ _ _ _ X4.out R5.out).mono ?_
  rintro e y5 ⟨rfl, X5⟩
  clear X4
  refine hK.out _ _ (by exact X5.out.2.1) (fun hHeld => ?_)
  clear hK K
  (repeat (first | simp only [Act.put] | simp only [List.setIfInBounds_toArray] | simp only [List.set_cons_succ] | simp only [List.set_cons_zero]))
  refine wpAnyH_ready (rs := [11]) (by kernel_rfl) (by simp) ?_
  refine AllReadyH.cons (o := ⟨some 18, _, _, _, _, _⟩) rfl (fun K hK => ?_) AllReadyH.nil
  go_simp
  refine (HI.out _ _ _ _ _ _ _ X5.out R6.out).mono ?_
  rintro e y6 ⟨rfl, X6⟩
  clear X5
  refine hK.out _ _ (by exact X6.out.2.1) (fun hHeld => ?_)
  clear hK K
  (repeat (first | simp only [Act.put] | simp only [List.setIfInBounds_toArray] | simp only [List.set_cons_succ] | simp only [List.set_cons_zero]))
  refine wpAnyH_ready (rs := [13]) (by kernel_rfl) (by simp) ?_
  refine AllReadyH.cons (o := ⟨some 20, _, _, _, _, _⟩) rfl (fun K hK => ?_) AllReadyH.nil
  go_simp
  refine (HI.out _ _ _ _ _ _ _ X6.out R7.out).mono ?_
  rintro e y7 ⟨rfl, X7⟩
  clear X6
  refine hK.out _ _ (by exact X7.out.2.1) (fun hHeld => ?_)
  clear hK K
  (repeat (first | simp only [Act.put] | simp only [List.setIfInBounds_toArray] | simp only [List.set_cons_succ] | simp only [List.set_cons_zero]))
  refine wpAnyH_ready (rs := [15]) (by kernel_rfl) (by simp) ?_
  refine AllReadyH.cons (o := ⟨some 22, _, _, _, _, _⟩) rfl (fun K hK => ?_) AllReadyH.nil
  go_simp
  refine (HI.out _ _ _ _ _ _ _ X7.out R8.out).mono ?_
  rintro e y8 ⟨rfl, X8⟩
  clear X7
  refine hK.out _ _ (by exact X8.out.2.1) (fun hHeld => ?_)
  clear hK K
  (repeat (first | simp only [Act.put] | simp only [List.setIfInBounds_toArray] | simp only [List.set_cons_succ] | simp only [List.set_cons_zero]))
  refine wpAnyH_ready (rs := [17]) (by kernel_rfl) (by simp) ?_
  refine AllReadyH.cons (o := ⟨some 24, _, _, _, _, _⟩) rfl (fun K hK => ?_) AllReadyH.nil
  go_simp
  refine (HI.out _ _ _ _ _ _ _ X8.out R9.out).mono ?_
  rintro e y9 ⟨rfl, X9⟩
  clear X8
  refine hK.out _ _ (by exact X9.out.2.1) (fun hHeld => ?_)
  clear hK K
  (repeat (first | simp only [Act.put] | simp only [List.setIfInBounds_toArray] | simp only [List.set_cons_succ] | simp only [List.set_cons_zero]))
  refine wpAnyH_ready (rs := [19]) (by kernel_rfl) (by simp) ?_
  refine AllReadyH.cons (o := ⟨some 26, _, _, _, _, _⟩) rfl (fun K hK => ?_) AllReadyH.nil
  go_simp
  refine (HS.out _ _ _ _ _ _ _ X9.out R10.out).mono ?_
  rintro e y10 ⟨rfl, X10⟩
  clear X9
  refine hK.out _ _ (by exact X10.out.2.1) (fun hHeld => ?_)
  clear hK K
  (repeat (first | simp only [Act.put] | simp only [List.setIfInBounds_toArray] | simp only [List.set_cons_succ] | simp only [List.set_cons_zero]))
  refine wpAnyH_ready (rs := [21]) (by kernel_rfl) (by simp) ?_
  refine AllReadyH.cons (o := ⟨some 28, _, _, _, _, _⟩) rfl (fun K hK => ?_) AllReadyH.nil
  go_simp
  refine (HS.out _ _ _ _ _ _ _ X10.out R11.out).mono ?_
  rintro e y11 ⟨rfl, X11⟩
  clear X10
  refine hK.out _ _ (by exact X11.out.2.1) (fun hHeld => ?_)
  clear hK K
  (repeat (first | simp only [Act.put] | simp only [List.setIfInBounds_toArray] | simp only [List.set_cons_succ] | simp only [List.set_cons_zero]))
  refine wpAnyH_ready (rs := [23]) (by kernel_rfl) (by simp) ?_
  refine AllReadyH.cons (o := ⟨some 30, _, _, _, _, _⟩) rfl (fun K hK => ?_) AllReadyH.nil
  go_simp
  refine (HN.out _ _ _ _ _ _ _ X11.out R12.out).mono ?_
  rintro e y12 ⟨rfl, X12⟩
  clear X11
  refine hK.out _ _ (by exact X12.out.2.1) (fun hHeld => ?_)
  clear hK K
  (repeat (first | simp only [Act.put] | simp only [List.setIfInBounds_toArray] | simp only [List.set_cons_succ] | simp only [List.set_cons_zero]))
  refine wpAnyH_take (i := 24) (oi := ⟨some 31, _, _, _, _, _⟩) (v := ?_) rfl (by kernel_rfl) (by kernel_rfl) (by kernel_rfl) (fun _ _ _ h => h) (Or.inl ⟨by kernel_rfl, ?_⟩) (by assumption) ?_
  rotate_left
  · (intro w hSw; go_simp; try with_reducible rfl)
  (repeat (first | simp only [Act.put] | simp only [List.setIfInBounds_toArray] | simp only [List.set_cons_succ] | simp only [List.set_cons_zero]))
  have k12 : y12.heap[w.heap.size + 1]? = some (.cells (EC ⟨0, 0, 0, 0, 0, 0, 0, 0, 0, 0, 0, 0⟩) 51 (0, 0)) := (X12.out.1.block _ (blk_lt K0.out) (fun e => by injection e with e; omega)).trans K0.out
  refine wpAnyH_ready (rs := [25]) (by kernel_rfl) (by simp) ?_
  refine AllReadyH.cons (o := ⟨none, _, _, _, _, _⟩) rfl (fun K hK => ?_) AllReadyH.nil
  rw [if_pos (by kernel_rfl)]
  refine wp_store_row _ _ _ rfl (w.heap.size + 1) (EC ⟨Co.zz n1, Co.zz n2, (n3 : Int), (n4 : Int), Co.zz n5, Co.zz n6, Co.zz n7, Co.zz n8, Co.zz n9, Co.zz n10, Co.zz n11, (n12 : Int)⟩) rfl rfl _ _ k12 infoE rfl (ec_one _) ?_
  refine hK.out _ _ (by exact row_cell X12.out.2.1 (by simp)) (fun hHeld => ?_)
  clear hK K
  (repeat (first | simp only [Act.put] | simp only [List.setIfInBounds_toArray] | simp only [List.set_cons_succ] | simp only [List.set_cons_zero]))
  refine wpAnyH_done (by kernel_rfl) ?_ _
  have HF : Hid (Co.Tch g w (y12.setRow (w.heap.size + 1) (EC ⟨Co.zz n1, Co.zz n2, (n3 : Int), (n4 : Int), Co.zz n5, Co.zz n6, Co.zz n7, Co.zz n8, Co.zz n9, Co.zz n10, Co.zz n11, (n12 : Int)⟩)) ∧ Co.RB (y12.setRow (w.heap.size + 1) (EC ⟨Co.zz n1, Co.zz n2, (n3 : Int), (n4 : Int), Co.zz n5, Co.zz n6, Co.zz n7, Co.zz n8, Co.zz n9, Co.zz n10, Co.zz n11, (n12 : Int)⟩)) g l12 b12) := row_tch T0.out X12.out hg
  have k13 := setRow_heap _ _ _ (EC ⟨Co.zz n1, Co.zz n2, (n3 : Int), (n4 : Int), Co.zz n5, Co.zz n6, Co.zz n7, Co.zz n8, Co.zz n9, Co.zz n10, Co.zz n11, (n12 : Int)⟩) _ _ k12
  clear X12 K0 T0 k12 hHeld HN HI HS R1 R2 R3 R4 R5 R6 R7 R8 R9 R10 R11 R12
  go_wp2_with fail
  (with_reducible apply bodyPost_ret)
  (apply retE; rfl; rfl; exact k13)
  rfl
  exact ⟨rfl, HF⟩
end Go.Proofs.Ytfglncbgifiigaa
