/- grid: Check; a price's row. -/
import Derived.Test.YtpibkjldmmecpaaGrA
namespace Go.Proofs.Ytpibkjldmmecpaa
open Go.RowKit

set_option maxHeartbeats 4000000 in
set_option maxRecDepth 100000 in
theorem contains_c (c : Nat) (a : Option Addr) (len cap base : Nat) (t : List Tk) (w0 w : World) (h : Tks w0 a len t) (h0 : w0.heap.size = base) (hb : Below base w0 w) (hc : base ≤ c) (hx : Bx 2 w c (.int .i64 (-1))) (r : Bool) (hr : r = true ↔ ¬ ∀ j, j < t.length → badI t j = false) :
    Calls Try.prog 38 #[.slice a len cap, .func (.func 37) #[] #[.pointer (some ⟨c, 0, none⟩)]] w fun e w' => e = .returned (.bool r) ∧ Hid (Below base w0 w') := by
  have HI := Lib.hid (idxWrong_c c a len cap base t w0 w h h0 hb hc hx)
  have hall := frst_all (t := t) (p := badI t) _ 0 rfl
  obtain ⟨i, hi⟩ : ∃ i, i = frst t (badI t) 0 := ⟨_, rfl⟩
  rw [← hi] at HI hall
  have hri : (r = true ∧ 0 ≤ i) ∨ (r = false ∧ i < 0) := by
    by_cases hh : ∀ j, j < t.length → badI t j = false
    · right
      have h1 := hall.1 (fun j _ hj => hh j hj)
      refine ⟨?_, by omega⟩
      cases r
      · rfl
      · exact absurd hh (hr.1 rfl)
    · left
      exact ⟨hr.2 hh, hall.2 (fun h2 => hh (fun j hj => h2 j (Nat.zero_le _) hj))⟩
  clear hi hall h h0 hb hc hx hr
  have hdec : decide (0 ≤ i) = r := by
    rcases hri with ⟨rfl, h1⟩ | ⟨rfl, h1⟩
    · exact decide_eq_true h1
    · exact decide_eq_false (by omega)
  rcases hri with ⟨rfl, h1⟩ | ⟨rfl, h1⟩
  all_goals
    go_enter Try.func38, Try.ntmps38
    go_wp2_with fail
    ((with_reducible refine HI.out.mono ?_); rintro e w1 ⟨rfl, hd1⟩)
    clear HI
    go_wp2_with fail
    go_ret
    exact ⟨rfl, hd1.out⟩

set_option maxHeartbeats 4000000 in
set_option maxRecDepth 100000 in
theorem check_c (a : Option Addr) (len cap : Nat) (t : List Tk) (w : World) (h : Tks w a len t) :
    Calls Try.prog 32 #[.slice a len cap] w (Got w (.int .i64 (checkN t))) := by
  have hl := h.1
  by_cases h1 : len < 1
  · have hv : Hid (checkN t = 43) := by show _ = _; unfold checkN; rw [if_neg (fun hg : Good t => by have := hg.1; omega)]
    have h1I : (len : Int) < 1 := by omega
    clear h hl h1
    go_enter Try.func32, Try.ntmps32
    go_wp2_with fail
    go_ret
    rw [hv.out]
    exact ⟨rfl, Below.refl _ _⟩
  · by_cases h8 : 8 < len
    · have hv : Hid (checkN t = 43) := by show _ = _; unfold checkN; rw [if_neg (fun hg : Good t => by have := hg.2.1; omega)]
      have h1I : (1 : Int) ≤ (len : Int) := by omega
      have h8I : (8 : Int) < (len : Int) := by omega
      clear h hl h1 h8
      go_enter Try.func32, Try.ntmps32
      go_wp2_with fail
      go_ret
      rw [hv.out]
      exact ⟨rfl, Below.refl _ _⟩
    · obtain ⟨b, off, rfl, hb, p0, p1, bd, _⟩ := h.row (i := 0) (by omega)
      rw [Nat.zero_mul, Nat.add_zero] at p0
      have h1I : (1 : Int) ≤ (len : Int) := by omega
      have h8I : (len : Int) ≤ 8 := by omega
      have h0I : (0 : Int) < (len : Int) := by omega
      have h0N : 0 < len := by omega
      by_cases hf : F t 0 = 0
      · rw [hf] at p0
        obtain ⟨r, hr, hrv⟩ : ∃ r : Bool, (r = true ↔ ¬ ∀ j, j < t.length → badI t j = false) ∧ checkN t = if r = true then 43 else 0 := by
          by_cases hg : ∀ j, j < t.length → badI t j = false
          · have hg2 : Good t := ⟨by omega, by omega, hf, fun i hi => badI_ok.1 (hg i hi)⟩
            refine ⟨false, ⟨(fun h => by cases h), fun h => absurd hg h⟩, ?_⟩
            unfold checkN
            rw [if_pos hg2]; rfl
          · refine ⟨true, ⟨fun _ => hg, fun _ => rfl⟩, ?_⟩
            unfold checkN
            have hg2 : ¬ Good t := fun h => hg (fun j hj => badI_ok.2 (h.2.2.2 j hj))
            rw [if_neg hg2]; rfl
        have HC := Lib.hid (contains_c w.heap.size (some ⟨b, off, none⟩) len cap w.heap.size t w (w.alloc (.cells #[.int .i64 (-1)] 2)) h rfl ((Below.refl _ w).alloc (Nat.le_refl _) _) (Nat.le_refl _) (heap_alloc_new w _) r hr)
        clear hf bd h hl hb h1 h8 p1 hr
        cases r
        · have Hv := Lib.hid hrv
          clear hrv
          go_enter Try.func32, Try.ntmps32
          go_wp2_with fail
          ((with_reducible refine HC.out.mono ?_); rintro e w1 ⟨rfl, hd1⟩)
          clear HC
          go_wp2_with fail
          go_ret
          rw [Hv.out]
          exact ⟨rfl, hd1.out⟩
        · have Hv := Lib.hid hrv
          clear hrv
          go_enter Try.func32, Try.ntmps32
          go_wp2_with fail
          ((with_reducible refine HC.out.mono ?_); rintro e w1 ⟨rfl, hd1⟩)
          clear HC
          go_wp2_with fail
          go_ret
          rw [Hv.out]
          exact ⟨rfl, hd1.out⟩
      · have hv : Hid (checkN t = 43) := by show _ = _; unfold checkN; rw [if_neg (fun hg : Good t => hf hg.2.2.1)]
        have hfb : (F t 0 == 0) = false := by simp [hf]
        have hfb2 : (F t 0 != 0) = true := by simp [hf]
        clear h hl h1 h8 hf
        go_enter Try.func32, Try.ntmps32
        go_wp2_with fail
        go_ret
        rw [hv.out]
        exact ⟨rfl, Below.refl _ _⟩
end Go.Proofs.Ytpibkjldmmecpaa
