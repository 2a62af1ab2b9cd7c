/-
  fault: the example of the chapter.
-/
import Derived.Test.YtpinenfclpapjaaDoorFtF
namespace Go.Proofs.YtpinenfclpapjaaDoor
open Go.RowKit Go.Extern.Stop Go.Stop Go.Extern
set_option linter.unusedVariables false

theorem txt_ex : txt [9, 6, 1] 10 = [57, 62, 54, 62, 49, 32, 49, 48] := by
  have h9 : Lib.itoa 9 = [57] := by unfold Lib.itoa; rw [if_neg (by decide)]; exact Lib.decDigits_one (i := 9) (by decide)
  have h6 : Lib.itoa 6 = [54] := by unfold Lib.itoa; rw [if_neg (by decide)]; exact Lib.decDigits_one (i := 6) (by decide)
  have h1 : Lib.itoa 1 = [49] := by unfold Lib.itoa; rw [if_neg (by decide)]; exact Lib.decDigits_one (i := 1) (by decide)
  have h10 : Lib.itoa 10 = [49, 48] := by unfold Lib.itoa; rw [if_neg (by decide)]; exact Lib.decDigits_two (i := 10) (by decide) (by decide)
  unfold txt txs
  simp only [List.map_cons, List.map_nil, h9, h6, h1, h10]
  rfl
/-- What the program has laid, as the laws take it. -/
structure Laid4 (w : World) : Prop where
  et : w.cell? ⟨0, 0, none⟩ = some (.iface 72 (.agg #[.pointer (some ⟨5, 24, none⟩)]))
  pw : Pow w
theorem Laid4.lt0 {w : World} (h : Laid4 w) : 0 < w.heap.size := World.block_lt_of_cell? w _ h.et
theorem Laid4.lt1 {w : World} (h : Laid4 w) : 1 < w.heap.size := by
  have hp := h.pw
  unfold Pow Lib.TabIs World.var? at hp
  rw [powAt] at hp
  simp only [Option.bind_some] at hp
  rcases Nat.lt_or_ge 1 w.heap.size with hl | hl
  · exact hl
  · rw [Array.getElem?_eq_none hl] at hp; cases hp
theorem Laid4.below {w w' : World} (h : Laid4 w) (hb : Below w.heap.size w w') : Laid4 w' := ⟨(hb.cell (p := ⟨0, 0, none⟩) h.lt0).trans h.et, h.pw.below hb h.lt1⟩

set_option maxHeartbeats 4000000 in
set_option maxRecDepth 100000 in
theorem lives4_c (w : World) (h : Laid4 w) : Calls Tryd.prog 12 #[] w fun e w' => e = .returned (.bool true) ∧ Below w.heap.size w w' := by
  obtain ⟨w3, hw3⟩ : ∃ w3, w3 = ((w.alloc (.cells (fcs 1 10 .nilIface) 40)).alloc (.cells (fcs 6 0 (fvl w.heap.size)) 40)).alloc (.cells (fcs 9 0 (fvl (w.heap.size + 1))) 40) := ⟨_, rfl⟩
  have hb3 : Below w.heap.size w w3 := by rw [hw3]; exact ((((Below.refl _ _).alloc (Nat.le_refl _) _).alloc (by simp) _).alloc (by simp; omega) _)
  have hch : Chn w3 10 [9, 6, 1] (w.heap.size + 1 + 1) := by
    rw [hw3]
    refine ⟨w.heap.size + 1, ?_, w.heap.size, ?_, ?_⟩
    · exact ft_last (by simp)
    · exact ft_prev (by simp) (ft_last (by simp))
    · exact ft_prev (by simp; omega) (ft_prev (by simp) (ft_last (by simp)))
  have HW := Lib.hid hw3
  have HCh := Lib.hid hch
  have HB := Lib.hid hb3
  have h3 : Laid4 w3 := h.below hb3
  have HL3 := Lib.hid h3
  clear hw3 hch hb3 h3
  have E := HW.out
  clear HW
  subst E
  go_enter Tryd.func12, Tryd.ntmps12
  go_wp2_with (first | (go_at_call 6; refine (new_c 1 10 rfl _).mono ?_; rintro e z ⟨rfl, rfl⟩) | (go_at_call 8; refine (wrap_c _ _ _).mono ?_; rintro e z ⟨rfl, rfl⟩))
  (with_reducible refine (layers_c 10 rfl [9, 6, 1] (by decide) _ _ HL3.out.et HCh.out).mono ?_); rintro e w4 ⟨v, rfl, hown, hb4⟩
  obtain ⟨g, cp, rfl, hgl, hcp, hcells⟩ := own_ints hown (by decide) rfl
  have q0 : w4.cell? ⟨g, 0, none⟩ = some (.int .i64 9) := hcells 0 (by decide)
  have q1 : w4.cell? ⟨g, 1, none⟩ = some (.int .i64 6) := hcells 1 (by decide)
  have q2 : w4.cell? ⟨g, 2, none⟩ = some (.int .i64 1) := hcells 2 (by decide)
  have HCh4 := Lib.hid (HCh.out.below hb4)
  have HL4 := Lib.hid (HL3.out.below hb4)
  have HB4 := Lib.hid (HB.out.trans (hb4.mono HB.out.size))
  clear hown hcells hb4 HCh HL3 HB h
  go_wp2_with fail
  (with_reducible refine (code_c 10 rfl [9, 6, 1] _ _ HL4.out.et HCh4.out).mono ?_); rintro e w5 ⟨rfl, hb5⟩
  have HCh5 := Lib.hid (HCh4.out.below hb5)
  have HL5 := Lib.hid (HL4.out.below hb5)
  have HB5 := Lib.hid (HB4.out.trans (hb5.mono HB4.out.size))
  have htx := text_c 10 rfl rfl (by decide) (by decide) [9, 6, 1] (by decide) (by intro n hn; simp at hn; omega) _ w5 HL5.out.pw HL5.out.et HCh5.out HL5.out.lt1
  rw [txt_ex] at htx
  have HT := Lib.hid htx
  clear hb5 HCh4 HL4 HB4 htx
  go_wp2_with fail
  (with_reducible refine HT.out.mono ?_); rintro e w6 ⟨rfl, hb6⟩
  have HB6 := Lib.hid (HB5.out.trans (hb6.mono HB5.out.size))
  clear hb6 HT HB5
  go_wp2_with fail
  go_ret
  exact ⟨rfl, HB6.out⟩
end Go.Proofs.YtpinenfclpapjaaDoor
