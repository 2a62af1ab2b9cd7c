/- grid: the chapter's example; what is next. -/
import Derived.Test.YtacfboopkcaobabGrG
namespace Go.Proofs.Ytacfboopkcaobab
open Go.RowKit

def ext : List Tk := [⟨0, 1⟩, ⟨100, 5⟩, ⟨1000, 10⟩]
theorem ext_good : Good ext := by decide
theorem ext_may {p : Int} (h1 : 1 ≤ p) (h2 : p ≤ 1099511627776) : May ext p := ⟨ext_good, h1, h2⟩
theorem ext_ri {p : Int} (h1 : 100 ≤ p) (h2 : p < 1000) : ri ext p = 1 := ri_eq (ext_may (by omega) (by omega)) (by decide) (show (100 : Int) ≤ p from h1) (fun _ => show p < (1000 : Int) from h2)
theorem ext_check : checkN ext = 0 := by unfold checkN; rw [if_pos ext_good]
theorem ext_down : downN ext 103 = 100 ∧ downB ext 103 = true := by
  unfold downN downB dn
  rw [if_pos (ext_may (by omega) (by omega)), if_pos (ext_may (by omega) (by omega)), ext_ri (by omega) (by omega)]
  decide
theorem ext_up1 : upN ext 103 = 105 ∧ upB ext 103 = true := by
  unfold upN upB up
  rw [if_pos (ext_may (by omega) (by omega)), if_pos (ext_may (by omega) (by omega)), ext_ri (by omega) (by omega)]
  decide
theorem ext_up2 : upN ext 998 = 1000 ∧ upB ext 998 = true := by
  unfold upN upB up
  rw [if_pos (ext_may (by omega) (by omega)), if_pos (ext_may (by omega) (by omega)), ext_ri (by omega) (by omega)]
  decide
theorem ext_on1 : onN ext 105 = true := by
  unfold onN
  rw [if_pos (ext_may (by omega) (by omega)), ext_ri (by omega) (by omega)]
  decide
theorem ext_on2 : onN ext 103 = false := by
  unfold onN
  rw [if_pos (ext_may (by omega) (by omega)), ext_ri (by omega) (by omega)]
  decide

set_option maxHeartbeats 4000000 in
set_option maxRecDepth 100000 in
theorem lives6_c (w : World) : Calls Try.prog 29 #[] w (Got w (.bool true)) := by
  obtain ⟨W, hW⟩ : ∃ W, W = w.alloc (.cells #[.int .i64 0, .int .i64 1, .int .i64 100, .int .i64 5, .int .i64 1000, .int .i64 10] 63) := ⟨_, rfl⟩
  have hB : Hid (Below w.heap.size w W) := by show Below _ _ _; rw [hW]; exact (Below.refl _ w).alloc (Nat.le_refl _) _
  have hT : Tks W (some ⟨w.heap.size, 0, none⟩) 3 ext := by
    have hn : W.heap[w.heap.size]? = some (.cells #[.int .i64 0, .int .i64 1, .int .i64 100, .int .i64 5, .int .i64 1000, .int .i64 10] 63 (0, 0)) := by rw [hW]; exact heap_alloc_new w _
    refine ⟨rfl, by omega, fun x hx => ?_, .inr ⟨w.heap.size, 0, rfl, blk_lt hn, fun i hi => ?_⟩⟩
    · simp only [ext, List.mem_cons, List.not_mem_nil, or_false] at hx
      rcases hx with rfl | rfl | rfl <;> (unfold Tk.ok; simp)
    · match i, hi with
      | 0, _ => constructor <;> (rw [cell_of_row _ _ _ _ _ _ hn]; rfl)
      | 1, _ => constructor <;> (rw [cell_of_row _ _ _ _ _ _ hn]; rfl)
      | 2, _ => constructor <;> (rw [cell_of_row _ _ _ _ _ _ hn]; rfl)
  have D := fun (W' : World) (h : Below W.heap.size W W') => down_c 103 (some ⟨w.heap.size, 0, none⟩) 3 3 ext W' (hT.below h)
  rw [ext_down.1, ext_down.2] at D
  have U := fun (W' : World) (h : Below W.heap.size W W') => up_c 103 (some ⟨w.heap.size, 0, none⟩) 3 3 ext W' (hT.below h)
  rw [ext_up1.1, ext_up1.2] at U
  have V := fun (W' : World) (h : Below W.heap.size W W') => up_c 998 (some ⟨w.heap.size, 0, none⟩) 3 3 ext W' (hT.below h)
  rw [ext_up2.1, ext_up2.2] at V
  have C := fun (W' : World) (h : Below W.heap.size W W') => check_c (some ⟨w.heap.size, 0, none⟩) 3 3 ext W' (hT.below h)
  rw [ext_check] at C
  have O := fun (W' : World) (h : Below W.heap.size W W') => on_c 105 (some ⟨w.heap.size, 0, none⟩) 3 3 ext W' (hT.below h)
  rw [ext_on1] at O
  have P := fun (W' : World) (h : Below W.heap.size W W') => on_c 103 (some ⟨w.heap.size, 0, none⟩) 3 3 ext W' (hT.below h)
  rw [ext_on2] at P
  have D0 := Lib.hid (D W (Below.refl _ _))
  have HU := Lib.hid U
  have HV := Lib.hid V
  have HC := Lib.hid C
  have HO := Lib.hid O
  have HP := Lib.hid P
  have HW := Lib.hid hW.symm
  clear D U V C O P hT hW
  go_enter Try.func29, Try.ntmps29
  go_wp2_with fail
  rw [HW.out]
  ((with_reducible refine D0.out.mono ?_); rintro e w1 ⟨rfl, b1⟩)
  have B1 := Lib.hid b1
  have N := Lib.hid (HU.out w1 b1)
  clear b1 D0 HU
  go_wp2_with fail
  ((with_reducible refine N.out.mono ?_); rintro e w2 ⟨rfl, b2⟩)
  have B2 : Hid (Below W.heap.size W w2) := B1.out.trans (b2.mono B1.out.size)
  have N2 := Lib.hid (HV.out w2 B2.out)
  clear b2 N HV B1
  go_wp2_with fail
  ((with_reducible refine N2.out.mono ?_); rintro e w3 ⟨rfl, b3⟩)
  have B3 : Hid (Below W.heap.size W w3) := B2.out.trans (b3.mono B2.out.size)
  have N3 := Lib.hid (HC.out w3 B3.out)
  clear b3 N2 HC B2
  go_wp2_with fail
  ((with_reducible refine N3.out.mono ?_); rintro e w4 ⟨rfl, b4⟩)
  have B4 : Hid (Below W.heap.size W w4) := B3.out.trans (b4.mono B3.out.size)
  have N4 := Lib.hid (HO.out w4 B4.out)
  clear b4 N3 HO B3
  go_wp2_with fail
  ((with_reducible refine N4.out.mono ?_); rintro e w5 ⟨rfl, b5⟩)
  have B5 : Hid (Below W.heap.size W w5) := B4.out.trans (b5.mono B4.out.size)
  have N5 := Lib.hid (HP.out w5 B5.out)
  clear b5 N4 HP B4
  go_wp2_with fail
  ((with_reducible refine N5.out.mono ?_); rintro e w6 ⟨rfl, b6⟩)
  have B6 : Hid (Below w.heap.size w w6) := hB.out.trans ((B5.out.trans (b6.mono B5.out.size)).mono hB.out.size)
  clear b6 N5 B5
  go_wp2_with fail
  go_ret
  exact ⟨rfl, B6.out⟩

theorem downB_spec {t : List Tk} {p : Int} (h : downB t p = true) : May t p ∧ 0 < dn t p ∧ downN t p = dn t p := by
  unfold downB at h
  by_cases hm : May t p
  · rw [if_pos hm] at h
    exact ⟨hm, of_decide_eq_true h, by unfold downN; rw [if_pos hm]⟩
  · rw [if_neg hm] at h; cases h
theorem upB_spec {t : List Tk} {p : Int} (h : upB t p = true) : May t p ∧ up t p ≤ 1099511627776 ∧ upN t p = up t p := by
  unfold upB at h
  by_cases hm : May t p
  · rw [if_pos hm] at h
    have h2 := of_decide_eq_true h
    exact ⟨hm, h2, by unfold upN; rw [if_pos hm, if_pos h2]⟩
  · rw [if_neg hm] at h; cases h
theorem on_all {t : List Tk} {p : Int} (h : onN t p = true) : downN t p = p ∧ downB t p = true ∧ upN t p = p ∧ upB t p = true ∧ countN t p p = 1 := by
  obtain ⟨hm, h1, h2, h3⟩ := near_on h
  have a1 := hm.2.1
  have a2 := hm.2.2
  refine ⟨by unfold downN; rw [if_pos hm, h1], by unfold downB; rw [if_pos hm, h1]; exact decide_eq_true (by omega), by unfold upN; rw [if_pos hm, h2, if_pos a2], by unfold upB; rw [if_pos hm, h2]; exact decide_eq_true a2, h3⟩
theorem off_dn {t : List Tk} {p : Int} (h : onN t p = false) (hd : downB t p = true) : downN t p < p ∧ onN t (downN t p) = true := by
  obtain ⟨hm, h1, h2⟩ := downB_spec hd
  have := near_dn hm h h1
  rw [h2]
  exact ⟨this.1, this.2.1⟩
theorem off_up {t : List Tk} {p : Int} (h : onN t p = false) (hd : upB t p = true) : p < upN t p ∧ onN t (upN t p) = true := by
  obtain ⟨hm, h1, h2⟩ := upB_spec hd
  have := near_up hm h h1
  rw [h2]
  exact ⟨this.1, this.2.1⟩
theorem off_both {t : List Tk} {p : Int} (h : onN t p = false) (hd : downB t p = true) (hu : upB t p = true) : countN t (downN t p) (upN t p) = 2 := by
  obtain ⟨hm, h1, h2⟩ := downB_spec hd
  obtain ⟨_, h3, h4⟩ := upB_spec hu
  rw [h2, h4]
  exact near_off hm h h1 h3
end Go.Proofs.Ytacfboopkcaobab
