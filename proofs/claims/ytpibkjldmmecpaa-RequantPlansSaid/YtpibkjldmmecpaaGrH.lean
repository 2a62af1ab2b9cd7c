/- grid: the chapter's example; what is next. -/
import Derived.Test.YtpibkjldmmecpaaGrG
namespace Go.Proofs.Ytpibkjldmmecpaa
open Go.RowKit

def ext : List Tk := [⟨0, 1⟩, ⟨100, 5⟩, ⟨1000, 10⟩]
theorem ext_good : Good ext := by decide
theorem ext_may {p : Int} (h1 : 1 ≤ p) (h2 : p ≤ 1099511627776) : May ext p := ⟨ext_good, h1, h2⟩
theorem ext_ri {p : Int} (h1 : 100 ≤ p) (h2 : p < 1000) : ri ext p = 1 := ri_eq (ext_may (by omega) (by omega)) (by decide) (show (100 : Int) ≤ p from h1) (fun _ => show p < (1000 : Int) from h2)
theorem ext_check : checkN ext = 0 := by unfold checkN; rw [if_pos ext_good]
theorem ext_down : downN ext 103 = 100 ∧ downB ext 103 = true := by
  unfold downN downB dn
  rw [if_pos (ext_may (by omega) (by omega)), if_pos (ext_may (by omega) (by omega)), ext_ri (by omega) (by omega)]
  decide
theorem ext_up1 : upN ext 103 = 105 ∧ upB ext 103 = true := by
  unfold upN upB up
  rw [if_pos (ext_may (by omega) (by omega)), if_pos (ext_may (by omega) (by omega)), ext_ri (by omega) (by omega)]
  decide
theorem ext_up2 : upN ext 998 = 1000 ∧ upB ext 998 = true := by
  unfold upN upB up
  rw [if_pos (ext_may (by omega) (by omega)), if_pos (ext_may (by omega) (by omega)), ext_ri (by omega) (by omega)]
  decide
theorem ext_on1 : onN ext 105 = true := by
  unfold onN
  rw [if_pos (ext_may (by omega) (by omega)), ext_ri (by omega) (by omega)]
  decide
theorem ext_on2 : onN ext 103 = false := by
  unfold onN
  rw [if_pos (ext_may (by omega) (by omega)), ext_ri (by omega) (by omega)]
  decide

theorem downB_spec {t : List Tk} {p : Int} (h : downB t p = true) : May t p ∧ 0 < dn t p ∧ downN t p = dn t p := by
  unfold downB at h
  by_cases hm : May t p
  · rw [if_pos hm] at h
    exact ⟨hm, of_decide_eq_true h, by unfold downN; rw [if_pos hm]⟩
  · rw [if_neg hm] at h; cases h
theorem upB_spec {t : List Tk} {p : Int} (h : upB t p = true) : May t p ∧ up t p ≤ 1099511627776 ∧ upN t p = up t p := by
  unfold upB at h
  by_cases hm : May t p
  · rw [if_pos hm] at h
    have h2 := of_decide_eq_true h
    exact ⟨hm, h2, by unfold upN; rw [if_pos hm, if_pos h2]⟩
  · rw [if_neg hm] at h; cases h
theorem on_all {t : List Tk} {p : Int} (h : onN t p = true) : downN t p = p ∧ downB t p = true ∧ upN t p = p ∧ upB t p = true ∧ countN t p p = 1 := by
  obtain ⟨hm, h1, h2, h3⟩ := near_on h
  have a1 := hm.2.1
  have a2 := hm.2.2
  refine ⟨by unfold downN; rw [if_pos hm, h1], by unfold downB; rw [if_pos hm, h1]; exact decide_eq_true (by omega), by unfold upN; rw [if_pos hm, h2, if_pos a2], by unfold upB; rw [if_pos hm, h2]; exact decide_eq_true a2, h3⟩
theorem off_dn {t : List Tk} {p : Int} (h : onN t p = false) (hd : downB t p = true) : downN t p < p ∧ onN t (downN t p) = true := by
  obtain ⟨hm, h1, h2⟩ := downB_spec hd
  have := near_dn hm h h1
  rw [h2]
  exact ⟨this.1, this.2.1⟩
theorem off_up {t : List Tk} {p : Int} (h : onN t p = false) (hd : upB t p = true) : p < upN t p ∧ onN t (upN t p) = true := by
  obtain ⟨hm, h1, h2⟩ := upB_spec hd
  have := near_up hm h h1
  rw [h2]
  exact ⟨this.1, this.2.1⟩
theorem off_both {t : List Tk} {p : Int} (h : onN t p = false) (hd : downB t p = true) (hu : upB t p = true) : countN t (downN t p) (upN t p) = 2 := by
  obtain ⟨hm, h1, h2⟩ := downB_spec hd
  obtain ⟨_, h3, h4⟩ := upB_spec hu
  rw [h2, h4]
  exact near_off hm h h1 h3
end Go.Proofs.Ytpibkjldmmecpaa
