/- coin: a product by a number, rounded the way 2: given what the calls below tell. -/
import Derived.Test.YthpgbghcmfjjoaaCoinF
namespace Go.Proofs.Ythpgbghcmfjjoaa
open Go.RowKit

set_option maxHeartbeats 4000000 in
set_option maxRecDepth 100000 in
theorem Div_core2 (a b c round p : Int) (n d q r : Nat) (neg odd aw : Bool) (c1 : -9223372036854775808 ≤ c) (c2 : c ≤ 9223372036854775807) (e0 : (c == 0) = false) (hround : round = 2)
    (hprm : Rm p) (hneg : neg = (decide (p < 0) != decide (c < 0))) (hodd : (bits BinOp.and IntKind.u64 (q : Int) 1 == 1) = odd) (hq : q < 2 ^ 64) (hr : r < 2 ^ 64) (hhi : hiOf (n : Int) < loOf (d : Int)) (hhi0 : 0 ≤ hiOf (n : Int)) (hhi1 : hiOf (n : Int) ≤ 9223372036854775807)
    (HT : Hid (∀ w, Calls Try.prog 18 #[.int .i64 a, .int .i64 b] w fun e w' => e = .returned (PV p) ∧ Below w.heap.size w w'))
    (HS : Hid (∀ w, Calls Try.prog 19 #[PV p] w fun e w' => e = .returned (PV (n : Int)) ∧ Below w.heap.size w w'))
    (HSc : Hid (∀ w, Calls Try.prog 19 #[PV c] w fun e w' => e = .returned (PV (d : Int)) ∧ Below w.heap.size w w'))
    (HO : Hid (∀ w, Calls Try.prog 22 #[.int .i64 round, .bool neg, .bool odd, .agg #[.int .i64 0, .int .u64 (r : Int)], PV (d : Int)] w fun e w' => e = .returned (.bool aw) ∧ Below w.heap.size w w'))
    (HD : Hid (∀ w, Calls Try.prog 21 #[.int .u64 (hiOf (n : Int)), .int .u64 (loOf (n : Int)), .int .u64 (loOf (d : Int))] w fun e w' => e = .returned (.tuple #[.int .u64 (q : Int), .int .u64 (r : Int)]) ∧ ∃ nq, w.drewN nq = w'))
    (m : Nat) (hm : m = q + if aw then 1 else 0) (res : Int) (hres : res = if neg then -(m : Int) else (m : Int)) (w : World) :
    Calls Try.prog 15 #[.int .i64 a, .int .i64 b, .int .i64 c, .int .i64 round] w fun e w' => e = .returned (.tuple #[.int .i64 (tv res), .int .i64 (te res)]) ∧ Below w.heap.size w w' := by
  have Hpr := Lib.hid hprm
  have hsgn : hiOf p < 0 ↔ p < 0 := by unfold hiOf; omega
  have Rq : Hid (Rm (q : Int)) := by show Rm _; unfold Rm; omega
  have Rq1 : Hid (Rm ((q : Int) + 1)) := by show Rm _; unfold Rm; omega
  have R1 : Hid (Rm 1) := by show Rm _; unfold Rm; omega
  have R0 : Hid (Rm 0) := by show Rm _; unfold Rm; omega
  have Rm1 : Hid (Rm (m : Int)) := by show Rm _; rw [hm]; unfold Rm; split <;> omega
  have Rm2 : Hid (Rm (0 - (m : Int))) := by show Rm _; rw [hm]; unfold Rm; split <;> omega
  have hq64' : (q : Int) ≤ 18446744073709551615 := by omega
  have hr64' : (r : Int) ≤ 18446744073709551615 := by omega
  have q00 : (0 : Int) ≤ (q : Int) := by omega
  have r00 : (0 : Int) ≤ (r : Int) := by omega
  have Hq0 := Lib.hid (small_hi q hq)
  have Hq1 := Lib.hid (small_lo q hq)
  clear hprm hq hr
  have hng : (decide (p < 0) == decide (c < 0)) = !neg := by rw [hneg]; cases decide (p < 0) <;> cases decide (c < 0) <;> rfl
  clear hneg
  have Hres := Lib.hid hres; clear hres
  have Hm := Lib.hid hm; clear hm
  subst hround
  go_enter Try.func15, Try.ntmps15
  go_wp2_with fail
  ((with_reducible refine (HT.out _).mono ?_); rintro e w1 ⟨rfl, hb1⟩)
  have Hb1 := Lib.hid hb1; clear hb1
  go_wp2_with fail
  ((with_reducible refine (HS.out _).mono ?_); rintro e w2 ⟨rfl, hb2⟩)
  go_wp2_with fail
  ((with_reducible refine (wide_c c c1 c2 _).mono ?_); rintro e w' ⟨rfl, rfl⟩)
  have z2 : w1.heap.size + 1 ≤ w2.heap.size := by have := hb2.size; simp at this; omega
  have B2 : Hid (Below w.heap.size w w2) := by
    show Below _ _ _
    have s1 := Hb1.out.size
    exact Below.trans (Below.alloc Hb1.out s1 _) (hb2.mono (by simp; omega))
  clear hb2
  go_wp2_with fail
  ((with_reducible refine (HSc.out _).mono ?_); rintro e w3 ⟨rfl, hb3⟩)
  have B3 : Hid (Below w.heap.size w w3) := by
    show Below _ _ _
    have s1 := B2.out.size
    exact Below.trans (Below.alloc B2.out s1 _) (hb3.mono (by simp; omega))
  clear hb3 B2 z2 Hb1
  go_wp2_with fail
  ((with_reducible refine (HD.out _).mono ?_); rintro e w' ⟨rfl, nq, rfl⟩)
  go_wp2_with fail
  ((with_reducible refine (HO.out _).mono ?_); rintro e w4 ⟨rfl, hb4⟩)
  have z4 : w3.heap.size + 4 ≤ w4.heap.size := by have := hb4.size; simp at this; omega
  have hB : Below w.heap.size w w4 := by
    have s1 := B3.out.size
    have b3 := B3.out
    exact Below.trans (by (focus ((repeat' (first | (with_reducible exact Below.refl _ _) | (with_reducible assumption) | (with_reducible refine Below.alloc ?_ ?_ _) | (with_reducible refine Below.setCell ?_ ?_ _) | (with_reducible refine Below.row ?_ ?_ _) | (with_reducible refine Below.drew ?_) | (with_reducible refine below_drewN ?_ _) | (focus (first | (simp; done) | omega | (simp; omega))))); done))) (hb4.mono (by simp; omega))
  have y : w4.heap[w3.heap.size + 1 + 1]? = some (PC (q : Int)) := by
    rw [hb4.block (w3.heap.size + 1 + 1) (by simp)]
    show _ = some (Obj.cells #[.int .i64 (hiOf (q : Int)), .int .u64 (loOf (q : Int))] 46)
    rw [Hq0.out, Hq1.out]
    (focus ((repeat' (first | (with_reducible assumption) | ((with_reducible refine heap_last ?_); (focus (first | (simp; done) | omega | (simp; omega)))) | ((with_reducible refine heap_prev ?_ ?_); (focus (first | (simp; done) | omega | (simp; omega)))) | (with_reducible refine drew_heap ?_) | (with_reducible refine drewN_heap ?_))); done))
  have qlt : w3.heap.size + 1 + 1 < w4.heap.size := by omega
  have hz4 : w.heap.size ≤ w4.heap.size := hB.size
  clear hb4 z4 hng hsgn hhi hhi0 hhi1 hodd
  cases aw
  · have hm : m = q := by have := Hm.out; simp at this; omega
    clear Hm
    subst hm
    clear Hq0 Hq1
    have k0 : w4.cell? ⟨w3.heap.size + 1 + 1, 0, none⟩ = some (.int .i64 (hiOf (m : Int))) := cell_heap y rfl
    have k1 : w4.cell? ⟨w3.heap.size + 1 + 1, 1, none⟩ = some (.int .u64 (loOf (m : Int))) := cell_heap y rfl
    have f0 : w4.frozen? ⟨w3.heap.size + 1 + 1, 0, none⟩ = false := frozen_of_row _ _ _ _ _ y
    have f1 : w4.frozen? ⟨w3.heap.size + 1 + 1, 1, none⟩ = false := frozen_of_row _ _ _ _ _ y
    have qle : w.heap.size ≤ w3.heap.size + 1 + 1 := by have := B3.out.size; omega
    have hzV : w.heap.size ≤ w4.heap.size := hB.size
    have HF := Lib.hid y
    clear y
    cases neg
    · have hm0 : (m : Int) = res := by have := Hres.out; simp at this; omega
      have HN : Hid (∀ w, Calls Try.prog 25 #[PV (m : Int)] w fun e w' => e = .returned (.tuple #[.int .i64 (tv res), .int .i64 (te res)]) ∧ Below w.heap.size w w') := by
        intro w; rw [← hm0]; exact narrow_c _ Rm1.out w
      clear hm0
      go_wp2_with fail
      ((with_reducible refine (HN.out _).mono ?_); rintro e w5 ⟨rfl, hb5⟩)
      have hB5 : Below w.heap.size w w5 := Below.trans (by first | exact hB | exact hB.drew) (hb5.mono (by first | exact hzV | (simp; omega)))
      clear hb5
      go_wp2_with fail
      go_ret2
      first | exact ⟨rfl, hB5⟩ | exact hB5
    · have hm0 : 0 - (m : Int) = res := by have := Hres.out; simp at this; omega
      have HN : Hid (∀ w, Calls Try.prog 25 #[PV res] w fun e w' => e = .returned (.tuple #[.int .i64 (tv res), .int .i64 (te res)]) ∧ Below w.heap.size w w') := by
        intro w; exact narrow_c _ (by rw [← hm0]; exact Rm2.out) w
      have HM2 : Hid (∀ w, Calls Try.prog 24 #[PV 0, PV (m : Int)] w fun e w' => e = .returned (PV res) ∧ ((w.alloc (PC 0)).alloc (PC (m : Int))).alloc (PC res) = w') := by
        intro w; rw [← hm0]; exact minus_c _ _ R0.out Rm1.out Rm2.out w
      have j0 : (w4.alloc (PC 0)).drew.cell? ⟨w3.heap.size + 1 + 1, 0, none⟩ = some (.int .i64 (hiOf (m : Int))) := by have := HF.out; (focus ((with_reducible apply cell_heap); (focus ((repeat' (first | (with_reducible assumption) | ((with_reducible refine heap_last ?_); (focus (first | (simp; done) | omega | (simp; omega)))) | ((with_reducible refine heap_prev ?_ ?_); (focus (first | (simp; done) | omega | (simp; omega)))) | (with_reducible refine drew_heap ?_) | (with_reducible refine drewN_heap ?_))); done)); rfl))
      have j1 : (w4.alloc (PC 0)).drew.cell? ⟨w3.heap.size + 1 + 1, 1, none⟩ = some (.int .u64 (loOf (m : Int))) := by have := HF.out; (focus ((with_reducible apply cell_heap); (focus ((repeat' (first | (with_reducible assumption) | ((with_reducible refine heap_last ?_); (focus (first | (simp; done) | omega | (simp; omega)))) | ((with_reducible refine heap_prev ?_ ?_); (focus (first | (simp; done) | omega | (simp; omega)))) | (with_reducible refine drew_heap ?_) | (with_reducible refine drewN_heap ?_))); done)); rfl))
      clear hm0
      go_wp2_with fail
      refine wp_region_any (by kernel_rfl) ?_
      change wpAny _ _ _ _ _ _ _ (World.drew _)
      (refine wpAny_ready (rs := [0, 1]) (by kernel_rfl) (by simp) (AllReady.cons rfl (fun K hK => ?_) (AllReady.cons rfl (fun K hK => ?_) AllReady.nil)))
      · go_simp
        ((with_reducible refine (wide_c 0 (by omega) (by omega) _).mono ?_); rintro e w' ⟨rfl, rfl⟩)
        refine hK _ _ ?_
        clear hK K
        (refine wpAny_ready (rs := [1]) (by kernel_rfl) (by simp) (AllReady.cons rfl (fun K hK => ?_) AllReady.nil))
        go_simp
        refine hK _ _ ?_
        clear hK K
        (refine wpAny_ready (rs := [2]) (by kernel_rfl) (by simp) (AllReady.cons rfl (fun K hK => ?_) AllReady.nil))
        go_simp
        ((with_reducible refine (HM2.out _).mono ?_); rintro e w' ⟨rfl, rfl⟩)
        refine hK _ _ ?_
        clear hK K
        (refine wpAny_ready (rs := [3]) (by kernel_rfl) (by simp) (AllReady.cons rfl (fun K hK => ?_) AllReady.nil))
        have hF := HF.out
        refine any_store75 rfl _ _ rfl (w3.heap.size + 1 + 1) res (m : Int) rfl rfl (by (focus ((repeat' (first | (with_reducible assumption) | ((with_reducible refine heap_last ?_); (focus (first | (simp; done) | omega | (simp; omega)))) | ((with_reducible refine heap_prev ?_ ?_); (focus (first | (simp; done) | omega | (simp; omega)))) | (with_reducible refine drew_heap ?_) | (with_reducible refine drewN_heap ?_))); done))) ?_
        intro U hU sU bU
        refine hK _ _ ?_
        clear hK K
        refine wpAny_done (by kernel_rfl) ?_ _
        have BU : Below w.heap.size w U := bU _ _ (by (focus ((repeat' (first | (with_reducible exact Below.refl _ _) | (with_reducible assumption) | (with_reducible refine Below.alloc ?_ ?_ _) | (with_reducible refine Below.setCell ?_ ?_ _) | (with_reducible refine Below.row ?_ ?_ _) | (with_reducible refine Below.drew ?_) | (with_reducible refine below_drewN ?_ _) | (focus (first | (simp; done) | omega | (simp; omega))))); done))) qle
        have u0 : U.cell? ⟨w3.heap.size + 1 + 1, 0, none⟩ = some (.int .i64 (hiOf res)) := cell_heap hU rfl
        have u1 : U.cell? ⟨w3.heap.size + 1 + 1, 1, none⟩ = some (.int .u64 (loOf res)) := cell_heap hU rfl
        have zU := BU.size
        clear hU sU bU hF j0 j1 k0 k1 f0 f1
        go_wp2_with fail
        ((with_reducible refine (HN.out _).mono ?_); rintro e w5 ⟨rfl, hb5⟩)
        have hB5 : Below w.heap.size w w5 := BU.trans (hb5.mono zU)
        clear hb5
        go_wp2_with fail
        go_ret2
        first | exact ⟨rfl, hB5⟩ | exact hB5
      · go_simp
        refine hK _ _ ?_
        clear hK K
        (refine wpAny_ready (rs := [0]) (by kernel_rfl) (by simp) (AllReady.cons rfl (fun K hK => ?_) AllReady.nil))
        go_simp
        ((with_reducible refine (wide_c 0 (by omega) (by omega) _).mono ?_); rintro e w' ⟨rfl, rfl⟩)
        refine hK _ _ ?_
        clear hK K
        (refine wpAny_ready (rs := [2]) (by kernel_rfl) (by simp) (AllReady.cons rfl (fun K hK => ?_) AllReady.nil))
        go_simp
        ((with_reducible refine (HM2.out _).mono ?_); rintro e w' ⟨rfl, rfl⟩)
        refine hK _ _ ?_
        clear hK K
        (refine wpAny_ready (rs := [3]) (by kernel_rfl) (by simp) (AllReady.cons rfl (fun K hK => ?_) AllReady.nil))
        have hF := HF.out
        refine any_store75 rfl _ _ rfl (w3.heap.size + 1 + 1) res (m : Int) rfl rfl (by (focus ((repeat' (first | (with_reducible assumption) | ((with_reducible refine heap_last ?_); (focus (first | (simp; done) | omega | (simp; omega)))) | ((with_reducible refine heap_prev ?_ ?_); (focus (first | (simp; done) | omega | (simp; omega)))) | (with_reducible refine drew_heap ?_) | (with_reducible refine drewN_heap ?_))); done))) ?_
        intro U hU sU bU
        refine hK _ _ ?_
        clear hK K
        refine wpAny_done (by kernel_rfl) ?_ _
        have BU : Below w.heap.size w U := bU _ _ (by (focus ((repeat' (first | (with_reducible exact Below.refl _ _) | (with_reducible assumption) | (with_reducible refine Below.alloc ?_ ?_ _) | (with_reducible refine Below.setCell ?_ ?_ _) | (with_reducible refine Below.row ?_ ?_ _) | (with_reducible refine Below.drew ?_) | (with_reducible refine below_drewN ?_ _) | (focus (first | (simp; done) | omega | (simp; omega))))); done))) qle
        have u0 : U.cell? ⟨w3.heap.size + 1 + 1, 0, none⟩ = some (.int .i64 (hiOf res)) := cell_heap hU rfl
        have u1 : U.cell? ⟨w3.heap.size + 1 + 1, 1, none⟩ = some (.int .u64 (loOf res)) := cell_heap hU rfl
        have zU := BU.size
        clear hU sU bU hF j0 j1 k0 k1 f0 f1
        go_wp2_with fail
        ((with_reducible refine (HN.out _).mono ?_); rintro e w5 ⟨rfl, hb5⟩)
        have hB5 : Below w.heap.size w w5 := BU.trans (hb5.mono zU)
        clear hb5
        go_wp2_with fail
        go_ret2
        first | exact ⟨rfl, hB5⟩ | exact hB5
  · have hm : (q : Int) + 1 = (m : Int) := by have := Hm.out; simp at this; omega
    have HP1 : Hid (∀ w, Calls Try.prog 23 #[PV (q : Int), PV 1] w fun e w' => e = .returned (PV (m : Int)) ∧ ((w.alloc (PC (q : Int))).alloc (PC 1)).alloc (PC (m : Int)) = w') := by
      intro w; rw [← hm]; exact plus_c _ _ Rq.out R1.out Rq1.out w
    clear hm
    have k0 : w4.cell? ⟨w3.heap.size + 1 + 1, 0, none⟩ = some (.int .i64 (hiOf (q : Int))) := cell_heap y rfl
    have k1 : w4.cell? ⟨w3.heap.size + 1 + 1, 1, none⟩ = some (.int .u64 (loOf (q : Int))) := cell_heap y rfl
    have j0 : (w4.alloc (PC 1)).drew.cell? ⟨w3.heap.size + 1 + 1, 0, none⟩ = some (.int .i64 (hiOf (q : Int))) := by (focus ((with_reducible apply cell_heap); (focus ((repeat' (first | (with_reducible assumption) | ((with_reducible refine heap_last ?_); (focus (first | (simp; done) | omega | (simp; omega)))) | ((with_reducible refine heap_prev ?_ ?_); (focus (first | (simp; done) | omega | (simp; omega)))) | (with_reducible refine drew_heap ?_) | (with_reducible refine drewN_heap ?_))); done)); rfl))
    have j1 : (w4.alloc (PC 1)).drew.cell? ⟨w3.heap.size + 1 + 1, 1, none⟩ = some (.int .u64 (loOf (q : Int))) := by (focus ((with_reducible apply cell_heap); (focus ((repeat' (first | (with_reducible assumption) | ((with_reducible refine heap_last ?_); (focus (first | (simp; done) | omega | (simp; omega)))) | ((with_reducible refine heap_prev ?_ ?_); (focus (first | (simp; done) | omega | (simp; omega)))) | (with_reducible refine drew_heap ?_) | (with_reducible refine drewN_heap ?_))); done)); rfl))
    have HY := Lib.hid y; clear y
    go_wp2_with fail
    refine wp_region_any (by kernel_rfl) ?_
    change wpAny _ _ _ _ _ _ _ (World.drew _)
    (refine wpAny_ready (rs := [0, 1]) (by kernel_rfl) (by simp) (AllReady.cons rfl (fun K hK => ?_) (AllReady.cons rfl (fun K hK => ?_) AllReady.nil)))
    · go_simp
      refine hK _ _ ?_
      clear hK K
      (refine wpAny_ready (rs := [1]) (by kernel_rfl) (by simp) (AllReady.cons rfl (fun K hK => ?_) AllReady.nil))
      go_simp
      ((with_reducible refine (wide_c 1 (by omega) (by omega) _).mono ?_); rintro e w' ⟨rfl, rfl⟩)
      refine hK _ _ ?_
      clear hK K
      (refine wpAny_ready (rs := [2]) (by kernel_rfl) (by simp) (AllReady.cons rfl (fun K hK => ?_) AllReady.nil))
      go_simp
      ((with_reducible refine (HP1.out _).mono ?_); rintro e w' ⟨rfl, rfl⟩)
      refine hK _ _ ?_
      clear hK K
      (refine wpAny_ready (rs := [3]) (by kernel_rfl) (by simp) (AllReady.cons rfl (fun K hK => ?_) AllReady.nil))
      have y := HY.out
      refine any_store75 rfl _ _ rfl (w3.heap.size + 1 + 1) (m : Int) (q : Int) rfl rfl (by (focus ((repeat' (first | (with_reducible assumption) | ((with_reducible refine heap_last ?_); (focus (first | (simp; done) | omega | (simp; omega)))) | ((with_reducible refine heap_prev ?_ ?_); (focus (first | (simp; done) | omega | (simp; omega)))) | (with_reducible refine drew_heap ?_) | (with_reducible refine drewN_heap ?_))); done))) ?_
      intro V hV sV bV
      refine hK _ _ ?_
      clear hK K
      refine wpAny_done (by kernel_rfl) ?_ _
      have BV : Below w.heap.size w V := bV _ _ (by (focus ((repeat' (first | (with_reducible exact Below.refl _ _) | (with_reducible assumption) | (with_reducible refine Below.alloc ?_ ?_ _) | (with_reducible refine Below.setCell ?_ ?_ _) | (with_reducible refine Below.row ?_ ?_ _) | (with_reducible refine Below.drew ?_) | (with_reducible refine below_drewN ?_ _) | (focus (first | (simp; done) | omega | (simp; omega))))); done))) (by have := B3.out.size; omega)
      have qltV : w3.heap.size + 1 + 1 < V.heap.size := by rw [sV]; simp; omega
      clear y k0 k1 j0 j1 sV bV HY
      have HBV := Lib.hid BV
      have k0 : V.cell? ⟨w3.heap.size + 1 + 1, 0, none⟩ = some (.int .i64 (hiOf (m : Int))) := cell_heap hV rfl
      have k1 : V.cell? ⟨w3.heap.size + 1 + 1, 1, none⟩ = some (.int .u64 (loOf (m : Int))) := cell_heap hV rfl
      have f0 : V.frozen? ⟨w3.heap.size + 1 + 1, 0, none⟩ = false := frozen_of_row _ _ _ _ _ hV
      have f1 : V.frozen? ⟨w3.heap.size + 1 + 1, 1, none⟩ = false := frozen_of_row _ _ _ _ _ hV
      have qle : w.heap.size ≤ w3.heap.size + 1 + 1 := by have := B3.out.size; omega
      have hzV : w.heap.size ≤ V.heap.size := BV.size
      have HF := Lib.hid hV
      clear hV
      cases neg
      · have hm0 : (m : Int) = res := by have := Hres.out; simp at this; omega
        have HN : Hid (∀ w, Calls Try.prog 25 #[PV (m : Int)] w fun e w' => e = .returned (.tuple #[.int .i64 (tv res), .int .i64 (te res)]) ∧ Below w.heap.size w w') := by
          intro w; rw [← hm0]; exact narrow_c _ Rm1.out w
        clear hm0
        go_wp2_with fail
        ((with_reducible refine (HN.out _).mono ?_); rintro e w5 ⟨rfl, hb5⟩)
        have hB5 : Below w.heap.size w w5 := Below.trans (by first | exact BV | exact BV.drew) (hb5.mono (by first | exact hzV | (simp; omega)))
        clear hb5
        go_wp2_with fail
        go_ret2
        first | exact ⟨rfl, hB5⟩ | exact hB5
      · have hm0 : 0 - (m : Int) = res := by have := Hres.out; simp at this; omega
        have HN : Hid (∀ w, Calls Try.prog 25 #[PV res] w fun e w' => e = .returned (.tuple #[.int .i64 (tv res), .int .i64 (te res)]) ∧ Below w.heap.size w w') := by
          intro w; exact narrow_c _ (by rw [← hm0]; exact Rm2.out) w
        have HM2 : Hid (∀ w, Calls Try.prog 24 #[PV 0, PV (m : Int)] w fun e w' => e = .returned (PV res) ∧ ((w.alloc (PC 0)).alloc (PC (m : Int))).alloc (PC res) = w') := by
          intro w; rw [← hm0]; exact minus_c _ _ R0.out Rm1.out Rm2.out w
        have j0 : (V.alloc (PC 0)).drew.cell? ⟨w3.heap.size + 1 + 1, 0, none⟩ = some (.int .i64 (hiOf (m : Int))) := by have := HF.out; (focus ((with_reducible apply cell_heap); (focus ((repeat' (first | (with_reducible assumption) | ((with_reducible refine heap_last ?_); (focus (first | (simp; done) | omega | (simp; omega)))) | ((with_reducible refine heap_prev ?_ ?_); (focus (first | (simp; done) | omega | (simp; omega)))) | (with_reducible refine drew_heap ?_) | (with_reducible refine drewN_heap ?_))); done)); rfl))
        have j1 : (V.alloc (PC 0)).drew.cell? ⟨w3.heap.size + 1 + 1, 1, none⟩ = some (.int .u64 (loOf (m : Int))) := by have := HF.out; (focus ((with_reducible apply cell_heap); (focus ((repeat' (first | (with_reducible assumption) | ((with_reducible refine heap_last ?_); (focus (first | (simp; done) | omega | (simp; omega)))) | ((with_reducible refine heap_prev ?_ ?_); (focus (first | (simp; done) | omega | (simp; omega)))) | (with_reducible refine drew_heap ?_) | (with_reducible refine drewN_heap ?_))); done)); rfl))
        clear hm0
        go_wp2_with fail
        refine wp_region_any (by kernel_rfl) ?_
        change wpAny _ _ _ _ _ _ _ (World.drew _)
        (refine wpAny_ready (rs := [0, 1]) (by kernel_rfl) (by simp) (AllReady.cons rfl (fun K hK => ?_) (AllReady.cons rfl (fun K hK => ?_) AllReady.nil)))
        · go_simp
          ((with_reducible refine (wide_c 0 (by omega) (by omega) _).mono ?_); rintro e w' ⟨rfl, rfl⟩)
          refine hK _ _ ?_
          clear hK K
          (refine wpAny_ready (rs := [1]) (by kernel_rfl) (by simp) (AllReady.cons rfl (fun K hK => ?_) AllReady.nil))
          go_simp
          refine hK _ _ ?_
          clear hK K
          (refine wpAny_ready (rs := [2]) (by kernel_rfl) (by simp) (AllReady.cons rfl (fun K hK => ?_) AllReady.nil))
          go_simp
          ((with_reducible refine (HM2.out _).mono ?_); rintro e w' ⟨rfl, rfl⟩)
          refine hK _ _ ?_
          clear hK K
          (refine wpAny_ready (rs := [3]) (by kernel_rfl) (by simp) (AllReady.cons rfl (fun K hK => ?_) AllReady.nil))
          have hF := HF.out
          refine any_store75 rfl _ _ rfl (w3.heap.size + 1 + 1) res (m : Int) rfl rfl (by (focus ((repeat' (first | (with_reducible assumption) | ((with_reducible refine heap_last ?_); (focus (first | (simp; done) | omega | (simp; omega)))) | ((with_reducible refine heap_prev ?_ ?_); (focus (first | (simp; done) | omega | (simp; omega)))) | (with_reducible refine drew_heap ?_) | (with_reducible refine drewN_heap ?_))); done))) ?_
          intro U hU sU bU
          refine hK _ _ ?_
          clear hK K
          refine wpAny_done (by kernel_rfl) ?_ _
          have BU : Below w.heap.size w U := bU _ _ (by (focus ((repeat' (first | (with_reducible exact Below.refl _ _) | (with_reducible assumption) | (with_reducible refine Below.alloc ?_ ?_ _) | (with_reducible refine Below.setCell ?_ ?_ _) | (with_reducible refine Below.row ?_ ?_ _) | (with_reducible refine Below.drew ?_) | (with_reducible refine below_drewN ?_ _) | (focus (first | (simp; done) | omega | (simp; omega))))); done))) qle
          have u0 : U.cell? ⟨w3.heap.size + 1 + 1, 0, none⟩ = some (.int .i64 (hiOf res)) := cell_heap hU rfl
          have u1 : U.cell? ⟨w3.heap.size + 1 + 1, 1, none⟩ = some (.int .u64 (loOf res)) := cell_heap hU rfl
          have zU := BU.size
          clear hU sU bU hF j0 j1 k0 k1 f0 f1
          go_wp2_with fail
          ((with_reducible refine (HN.out _).mono ?_); rintro e w5 ⟨rfl, hb5⟩)
          have hB5 : Below w.heap.size w w5 := BU.trans (hb5.mono zU)
          clear hb5
          go_wp2_with fail
          go_ret2
          first | exact ⟨rfl, hB5⟩ | exact hB5
        · go_simp
          refine hK _ _ ?_
          clear hK K
          (refine wpAny_ready (rs := [0]) (by kernel_rfl) (by simp) (AllReady.cons rfl (fun K hK => ?_) AllReady.nil))
          go_simp
          ((with_reducible refine (wide_c 0 (by omega) (by omega) _).mono ?_); rintro e w' ⟨rfl, rfl⟩)
          refine hK _ _ ?_
          clear hK K
          (refine wpAny_ready (rs := [2]) (by kernel_rfl) (by simp) (AllReady.cons rfl (fun K hK => ?_) AllReady.nil))
          go_simp
          ((with_reducible refine (HM2.out _).mono ?_); rintro e w' ⟨rfl, rfl⟩)
          refine hK _ _ ?_
          clear hK K
          (refine wpAny_ready (rs := [3]) (by kernel_rfl) (by simp) (AllReady.cons rfl (fun K hK => ?_) AllReady.nil))
          have hF := HF.out
          refine any_store75 rfl _ _ rfl (w3.heap.size + 1 + 1) res (m : Int) rfl rfl (by (focus ((repeat' (first | (with_reducible assumption) | ((with_reducible refine heap_last ?_); (focus (first | (simp; done) | omega | (simp; omega)))) | ((with_reducible refine heap_prev ?_ ?_); (focus (first | (simp; done) | omega | (simp; omega)))) | (with_reducible refine drew_heap ?_) | (with_reducible refine drewN_heap ?_))); done))) ?_
          intro U hU sU bU
          refine hK _ _ ?_
          clear hK K
          refine wpAny_done (by kernel_rfl) ?_ _
          have BU : Below w.heap.size w U := bU _ _ (by (focus ((repeat' (first | (with_reducible exact Below.refl _ _) | (with_reducible assumption) | (with_reducible refine Below.alloc ?_ ?_ _) | (with_reducible refine Below.setCell ?_ ?_ _) | (with_reducible refine Below.row ?_ ?_ _) | (with_reducible refine Below.drew ?_) | (with_reducible refine below_drewN ?_ _) | (focus (first | (simp; done) | omega | (simp; omega))))); done))) qle
          have u0 : U.cell? ⟨w3.heap.size + 1 + 1, 0, none⟩ = some (.int .i64 (hiOf res)) := cell_heap hU rfl
          have u1 : U.cell? ⟨w3.heap.size + 1 + 1, 1, none⟩ = some (.int .u64 (loOf res)) := cell_heap hU rfl
          have zU := BU.size
          clear hU sU bU hF j0 j1 k0 k1 f0 f1
          go_wp2_with fail
          ((with_reducible refine (HN.out _).mono ?_); rintro e w5 ⟨rfl, hb5⟩)
          have hB5 : Below w.heap.size w w5 := BU.trans (hb5.mono zU)
          clear hb5
          go_wp2_with fail
          go_ret2
          first | exact ⟨rfl, hB5⟩ | exact hB5
    · go_simp
      ((with_reducible refine (wide_c 1 (by omega) (by omega) _).mono ?_); rintro e w' ⟨rfl, rfl⟩)
      refine hK _ _ ?_
      clear hK K
      (refine wpAny_ready (rs := [0]) (by kernel_rfl) (by simp) (AllReady.cons rfl (fun K hK => ?_) AllReady.nil))
      go_simp
      refine hK _ _ ?_
      clear hK K
      (refine wpAny_ready (rs := [2]) (by kernel_rfl) (by simp) (AllReady.cons rfl (fun K hK => ?_) AllReady.nil))
      go_simp
      ((with_reducible refine (HP1.out _).mono ?_); rintro e w' ⟨rfl, rfl⟩)
      refine hK _ _ ?_
      clear hK K
      (refine wpAny_ready (rs := [3]) (by kernel_rfl) (by simp) (AllReady.cons rfl (fun K hK => ?_) AllReady.nil))
      have y := HY.out
      refine any_store75 rfl _ _ rfl (w3.heap.size + 1 + 1) (m : Int) (q : Int) rfl rfl (by (focus ((repeat' (first | (with_reducible assumption) | ((with_reducible refine heap_last ?_); (focus (first | (simp; done) | omega | (simp; omega)))) | ((with_reducible refine heap_prev ?_ ?_); (focus (first | (simp; done) | omega | (simp; omega)))) | (with_reducible refine drew_heap ?_) | (with_reducible refine drewN_heap ?_))); done))) ?_
      intro V hV sV bV
      refine hK _ _ ?_
      clear hK K
      refine wpAny_done (by kernel_rfl) ?_ _
      have BV : Below w.heap.size w V := bV _ _ (by (focus ((repeat' (first | (with_reducible exact Below.refl _ _) | (with_reducible assumption) | (with_reducible refine Below.alloc ?_ ?_ _) | (with_reducible refine Below.setCell ?_ ?_ _) | (with_reducible refine Below.row ?_ ?_ _) | (with_reducible refine Below.drew ?_) | (with_reducible refine below_drewN ?_ _) | (focus (first | (simp; done) | omega | (simp; omega))))); done))) (by have := B3.out.size; omega)
      have qltV : w3.heap.size + 1 + 1 < V.heap.size := by rw [sV]; simp; omega
      clear y k0 k1 j0 j1 sV bV HY
      have HBV := Lib.hid BV
      have k0 : V.cell? ⟨w3.heap.size + 1 + 1, 0, none⟩ = some (.int .i64 (hiOf (m : Int))) := cell_heap hV rfl
      have k1 : V.cell? ⟨w3.heap.size + 1 + 1, 1, none⟩ = some (.int .u64 (loOf (m : Int))) := cell_heap hV rfl
      have f0 : V.frozen? ⟨w3.heap.size + 1 + 1, 0, none⟩ = false := frozen_of_row _ _ _ _ _ hV
      have f1 : V.frozen? ⟨w3.heap.size + 1 + 1, 1, none⟩ = false := frozen_of_row _ _ _ _ _ hV
      have qle : w.heap.size ≤ w3.heap.size + 1 + 1 := by have := B3.out.size; omega
      have hzV : w.heap.size ≤ V.heap.size := BV.size
      have HF := Lib.hid hV
      clear hV
      cases neg
      · have hm0 : (m : Int) = res := by have := Hres.out; simp at this; omega
        have HN : Hid (∀ w, Calls Try.prog 25 #[PV (m : Int)] w fun e w' => e = .returned (.tuple #[.int .i64 (tv res), .int .i64 (te res)]) ∧ Below w.heap.size w w') := by
          intro w; rw [← hm0]; exact narrow_c _ Rm1.out w
        clear hm0
        go_wp2_with fail
        ((with_reducible refine (HN.out _).mono ?_); rintro e w5 ⟨rfl, hb5⟩)
        have hB5 : Below w.heap.size w w5 := Below.trans (by first | exact BV | exact BV.drew) (hb5.mono (by first | exact hzV | (simp; omega)))
        clear hb5
        go_wp2_with fail
        go_ret2
        first | exact ⟨rfl, hB5⟩ | exact hB5
      · have hm0 : 0 - (m : Int) = res := by have := Hres.out; simp at this; omega
        have HN : Hid (∀ w, Calls Try.prog 25 #[PV res] w fun e w' => e = .returned (.tuple #[.int .i64 (tv res), .int .i64 (te res)]) ∧ Below w.heap.size w w') := by
          intro w; exact narrow_c _ (by rw [← hm0]; exact Rm2.out) w
        have HM2 : Hid (∀ w, Calls Try.prog 24 #[PV 0, PV (m : Int)] w fun e w' => e = .returned (PV res) ∧ ((w.alloc (PC 0)).alloc (PC (m : Int))).alloc (PC res) = w') := by
          intro w; rw [← hm0]; exact minus_c _ _ R0.out Rm1.out Rm2.out w
        have j0 : (V.alloc (PC 0)).drew.cell? ⟨w3.heap.size + 1 + 1, 0, none⟩ = some (.int .i64 (hiOf (m : Int))) := by have := HF.out; (focus ((with_reducible apply cell_heap); (focus ((repeat' (first | (with_reducible assumption) | ((with_reducible refine heap_last ?_); (focus (first | (simp; done) | omega | (simp; omega)))) | ((with_reducible refine heap_prev ?_ ?_); (focus (first | (simp; done) | omega | (simp; omega)))) | (with_reducible refine drew_heap ?_) | (with_reducible refine drewN_heap ?_))); done)); rfl))
        have j1 : (V.alloc (PC 0)).drew.cell? ⟨w3.heap.size + 1 + 1, 1, none⟩ = some (.int .u64 (loOf (m : Int))) := by have := HF.out; (focus ((with_reducible apply cell_heap); (focus ((repeat' (first | (with_reducible assumption) | ((with_reducible refine heap_last ?_); (focus (first | (simp; done) | omega | (simp; omega)))) | ((with_reducible refine heap_prev ?_ ?_); (focus (first | (simp; done) | omega | (simp; omega)))) | (with_reducible refine drew_heap ?_) | (with_reducible refine drewN_heap ?_))); done)); rfl))
        clear hm0
        go_wp2_with fail
        refine wp_region_any (by kernel_rfl) ?_
        change wpAny _ _ _ _ _ _ _ (World.drew _)
        (refine wpAny_ready (rs := [0, 1]) (by kernel_rfl) (by simp) (AllReady.cons rfl (fun K hK => ?_) (AllReady.cons rfl (fun K hK => ?_) AllReady.nil)))
        · go_simp
          ((with_reducible refine (wide_c 0 (by omega) (by omega) _).mono ?_); rintro e w' ⟨rfl, rfl⟩)
          refine hK _ _ ?_
          clear hK K
          (refine wpAny_ready (rs := [1]) (by kernel_rfl) (by simp) (AllReady.cons rfl (fun K hK => ?_) AllReady.nil))
          go_simp
          refine hK _ _ ?_
          clear hK K
          (refine wpAny_ready (rs := [2]) (by kernel_rfl) (by simp) (AllReady.cons rfl (fun K hK => ?_) AllReady.nil))
          go_simp
          ((with_reducible refine (HM2.out _).mono ?_); rintro e w' ⟨rfl, rfl⟩)
          refine hK _ _ ?_
          clear hK K
          (refine wpAny_ready (rs := [3]) (by kernel_rfl) (by simp) (AllReady.cons rfl (fun K hK => ?_) AllReady.nil))
          have hF := HF.out
          refine any_store75 rfl _ _ rfl (w3.heap.size + 1 + 1) res (m : Int) rfl rfl (by (focus ((repeat' (first | (with_reducible assumption) | ((with_reducible refine heap_last ?_); (focus (first | (simp; done) | omega | (simp; omega)))) | ((with_reducible refine heap_prev ?_ ?_); (focus (first | (simp; done) | omega | (simp; omega)))) | (with_reducible refine drew_heap ?_) | (with_reducible refine drewN_heap ?_))); done))) ?_
          intro U hU sU bU
          refine hK _ _ ?_
          clear hK K
          refine wpAny_done (by kernel_rfl) ?_ _
          have BU : Below w.heap.size w U := bU _ _ (by (focus ((repeat' (first | (with_reducible exact Below.refl _ _) | (with_reducible assumption) | (with_reducible refine Below.alloc ?_ ?_ _) | (with_reducible refine Below.setCell ?_ ?_ _) | (with_reducible refine Below.row ?_ ?_ _) | (with_reducible refine Below.drew ?_) | (with_reducible refine below_drewN ?_ _) | (focus (first | (simp; done) | omega | (simp; omega))))); done))) qle
          have u0 : U.cell? ⟨w3.heap.size + 1 + 1, 0, none⟩ = some (.int .i64 (hiOf res)) := cell_heap hU rfl
          have u1 : U.cell? ⟨w3.heap.size + 1 + 1, 1, none⟩ = some (.int .u64 (loOf res)) := cell_heap hU rfl
          have zU := BU.size
          clear hU sU bU hF j0 j1 k0 k1 f0 f1
          go_wp2_with fail
          ((with_reducible refine (HN.out _).mono ?_); rintro e w5 ⟨rfl, hb5⟩)
          have hB5 : Below w.heap.size w w5 := BU.trans (hb5.mono zU)
          clear hb5
          go_wp2_with fail
          go_ret2
          first | exact ⟨rfl, hB5⟩ | exact hB5
        · go_simp
          refine hK _ _ ?_
          clear hK K
          (refine wpAny_ready (rs := [0]) (by kernel_rfl) (by simp) (AllReady.cons rfl (fun K hK => ?_) AllReady.nil))
          go_simp
          ((with_reducible refine (wide_c 0 (by omega) (by omega) _).mono ?_); rintro e w' ⟨rfl, rfl⟩)
          refine hK _ _ ?_
          clear hK K
          (refine wpAny_ready (rs := [2]) (by kernel_rfl) (by simp) (AllReady.cons rfl (fun K hK => ?_) AllReady.nil))
          go_simp
          ((with_reducible refine (HM2.out _).mono ?_); rintro e w' ⟨rfl, rfl⟩)
          refine hK _ _ ?_
          clear hK K
          (refine wpAny_ready (rs := [3]) (by kernel_rfl) (by simp) (AllReady.cons rfl (fun K hK => ?_) AllReady.nil))
          have hF := HF.out
          refine any_store75 rfl _ _ rfl (w3.heap.size + 1 + 1) res (m : Int) rfl rfl (by (focus ((repeat' (first | (with_reducible assumption) | ((with_reducible refine heap_last ?_); (focus (first | (simp; done) | omega | (simp; omega)))) | ((with_reducible refine heap_prev ?_ ?_); (focus (first | (simp; done) | omega | (simp; omega)))) | (with_reducible refine drew_heap ?_) | (with_reducible refine drewN_heap ?_))); done))) ?_
          intro U hU sU bU
          refine hK _ _ ?_
          clear hK K
          refine wpAny_done (by kernel_rfl) ?_ _
          have BU : Below w.heap.size w U := bU _ _ (by (focus ((repeat' (first | (with_reducible exact Below.refl _ _) | (with_reducible assumption) | (with_reducible refine Below.alloc ?_ ?_ _) | (with_reducible refine Below.setCell ?_ ?_ _) | (with_reducible refine Below.row ?_ ?_ _) | (with_reducible refine Below.drew ?_) | (with_reducible refine below_drewN ?_ _) | (focus (first | (simp; done) | omega | (simp; omega))))); done))) qle
          have u0 : U.cell? ⟨w3.heap.size + 1 + 1, 0, none⟩ = some (.int .i64 (hiOf res)) := cell_heap hU rfl
          have u1 : U.cell? ⟨w3.heap.size + 1 + 1, 1, none⟩ = some (.int .u64 (loOf res)) := cell_heap hU rfl
          have zU := BU.size
          clear hU sU bU hF j0 j1 k0 k1 f0 f1
          go_wp2_with fail
          ((with_reducible refine (HN.out _).mono ?_); rintro e w5 ⟨rfl, hb5⟩)
          have hB5 : Below w.heap.size w w5 := BU.trans (hb5.mono zU)
          clear hb5
          go_wp2_with fail
          go_ret2
          first | exact ⟨rfl, hB5⟩ | exact hB5
end Go.Proofs.Ythpgbghcmfjjoaa
