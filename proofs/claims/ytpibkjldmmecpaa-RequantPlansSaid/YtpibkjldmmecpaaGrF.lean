/- grid: whether a price is on the grid; the next one below. -/
import Derived.Test.YtpibkjldmmecpaaGrE
namespace Go.Proofs.Ytpibkjldmmecpaa
open Go.RowKit

theorem May.bounds {t : List Tk} {p : Int} (h : May t p) : 0 ≤ F t (ri t p) ∧ F t (ri t p) ≤ p ∧ 1 ≤ S t (ri t p) ∧ S t (ri t p) ≤ 1099511627776 ∧ p ≤ 1099511627776 := by
  obtain ⟨_, b, c, _⟩ := h.row
  have := h.1.row b
  have := h.1.sz b
  exact ⟨by omega, c, by omega, by omega, h.2.2⟩
/-- A row's copy at c. -/
def TC (w : World) (c : Nat) (f s : Int) : Prop := w.heap[c]? = some (.cells #[.int .i64 f, .int .i64 s] 56 (0, 0))
theorem TC.all {w : World} {c : Nat} {f s : Int} (h : TC w c f s) : w.cell? ⟨c, 0, none⟩ = some (.int .i64 f) ∧ w.cell? ⟨c, 1, none⟩ = some (.int .i64 s) := by
  constructor <;> (rw [cell_of_row _ _ _ _ _ _ h]; rfl)
theorem TC.below {w w' : World} {c : Nat} {f s : Int} (h : TC w c f s) (hb : Below w.heap.size w w') : TC w' c f s := (hb.block c (blk_lt h)).trans h

theorem none_k (B : Nat) (w0 w : World) (c : Nat) (f s : Int) (hb : Below B w0 w ∧ B ≤ w.heap.size ∧ TC w c f s) : Calls Try.prog 26 #[] w fun e w' => e = .returned (.agg #[.int .i64 0, .int .i64 0]) ∧ (w'.cell? ⟨c, 0, none⟩ = some (.int .i64 f) ∧ w'.cell? ⟨c, 1, none⟩ = some (.int .i64 s)) ∧ Hid (Below B w0 w' ∧ B ≤ w'.heap.size ∧ TC w' c f s) :=
  (none_c w).mono fun _ _ ⟨he, hw⟩ => ⟨he, (hb.2.2.below hw).all, hb.1.trans (hw.mono hb.2.1), Nat.le_trans hb.2.1 hw.size, hb.2.2.below hw⟩
theorem TC.made {B : Nat} {w0 w : World} (hb : Below B w0 w) (hB : B ≤ w.heap.size) (f s : Int) : Below B w0 (w.alloc (.cells #[.int .i64 f, .int .i64 s] 56)).drew ∧ B ≤ (w.alloc (.cells #[.int .i64 f, .int .i64 s] 56)).drew.heap.size ∧ TC (w.alloc (.cells #[.int .i64 f, .int .i64 s] 56)).drew w.heap.size f s :=
  ⟨(hb.alloc hB _).drew, Nat.le_trans hB (by simp), heap_alloc_new w _⟩

set_option maxHeartbeats 4000000 in
set_option maxRecDepth 100000 in
theorem on_no (p : Int) (a : Option Addr) (len cap : Nat) (t : List Tk) (w : World) (h : Tks w a len t) (hm : ¬ May t p) :
    Calls Try.prog 17 #[.slice a len cap, .int .i64 p] w (Got w (.bool false)) := by
  have HR := Lib.hid (rowOf_no p a len cap t w h hm)
  clear h hm
  go_enter Try.func17, Try.ntmps17
  go_wp2_with fail
  ((with_reducible refine HR.out.mono ?_); rintro e w1 ⟨rfl, hd1⟩)
  clear HR
  have H1 := Lib.hid (TC.made hd1 hd1.size 0 0)
  obtain ⟨c0, c1⟩ := H1.out.2.2.all
  obtain ⟨c, hc⟩ : ∃ c, c = w1.heap.size := ⟨_, rfl⟩
  rw [← hc] at H1 c0 c1
  have HK := Lib.hid (fun W hW => none_k w.heap.size w W c 0 0 hW)
  go_wp2_with fail
  rw [← hc]
  clear hc hd1
  refine wp_region_held_drew (S := (fun w' => w'.cell? ⟨c, 0, none⟩ = some (.int .i64 0) ∧ w'.cell? ⟨c, 1, none⟩ = some (.int .i64 0))) (by kernel_rfl) (by first | (dsimp only; (exact ⟨c0, c1⟩)) | (exact ⟨c0, c1⟩)) (fun hHeld => ?_)
  refine wpAnyH_take (i := 0) (oi := ⟨some 9, _, _, _, _, _⟩) (v := ?_) rfl (by kernel_rfl) (by kernel_rfl) (by kernel_rfl) (fun _ _ _ h => h) (Or.inl ⟨by kernel_rfl, ?_⟩) (by assumption) ?_
  rotate_left
  · (intro w hSw; (try dsimp only at hSw); go_simp; try with_reducible rfl)
  (repeat (first | simp only [Act.put] | simp only [List.setIfInBounds_toArray] | simp only [List.set_cons_succ] | simp only [List.set_cons_zero]))
  refine wpAnyH_ready (rs := [1]) (by kernel_rfl) (by simp) ?_
  refine AllReadyH.cons (o := ⟨some 10, _, _, _, _, _⟩) rfl (fun K hK => ?_) AllReadyH.nil
  go_simp
  ((with_reducible refine (HK.out _ H1.out).mono ?_); rintro e y1 ⟨rfl, ⟨c0, c1⟩, H2⟩; clear H1 HK)
  (try go_wp2_with fail)
  refine hK.out _ _ (by first | (dsimp only; (exact ⟨c0, c1⟩)) | (exact ⟨c0, c1⟩) | assumption) (fun hHeld => ?_)
  clear hK K
  (repeat (first | simp only [Act.put] | simp only [List.setIfInBounds_toArray] | simp only [List.set_cons_succ] | simp only [List.set_cons_zero]))
  refine wpAnyH_take (i := 2) (oi := ⟨some 11, _, _, _, _, _⟩) (v := ?_) rfl (by kernel_rfl) (by kernel_rfl) (by kernel_rfl) (fun _ _ _ h => h) (Or.inl ⟨by kernel_rfl, ?_⟩) (by assumption) ?_
  rotate_left
  · (intro w hSw; (try dsimp only at hSw); go_simp; try with_reducible rfl)
  (repeat (first | simp only [Act.put] | simp only [List.setIfInBounds_toArray] | simp only [List.set_cons_succ] | simp only [List.set_cons_zero]))
  refine wpAnyH_take (i := 3) (oi := ⟨some 12, _, _, _, _, _⟩) (v := ?_) rfl (by kernel_rfl) (by kernel_rfl) (by kernel_rfl) (fun _ _ _ h => h) (Or.inl ⟨by kernel_rfl, ?_⟩) (by assumption) ?_
  rotate_left
  · (intro w hSw; (try dsimp only at hSw); go_simp; try with_reducible rfl)
  (repeat (first | simp only [Act.put] | simp only [List.setIfInBounds_toArray] | simp only [List.set_cons_succ] | simp only [List.set_cons_zero]))
  refine wpAnyH_take (i := 4) (oi := ⟨some 13, _, _, _, _, _⟩) (v := undef) rfl (by kernel_rfl) (by kernel_rfl) (by kernel_rfl) (fun _ _ _ h => h) (Or.inr ⟨by kernel_rfl, rfl⟩) (by assumption) ?_
  (repeat (first | simp only [Act.put] | simp only [List.setIfInBounds_toArray] | simp only [List.set_cons_succ] | simp only [List.set_cons_zero]))
  refine wpAnyH_take (i := 5) (oi := ⟨some 14, _, _, _, _, _⟩) (v := undef) rfl (by kernel_rfl) (by kernel_rfl) (by kernel_rfl) (fun _ _ _ h => h) (Or.inr ⟨by kernel_rfl, rfl⟩) (by assumption) ?_
  (repeat (first | simp only [Act.put] | simp only [List.setIfInBounds_toArray] | simp only [List.set_cons_succ] | simp only [List.set_cons_zero]))
  refine wpAnyH_take (i := 6) (oi := ⟨some 15, _, _, _, _, _⟩) (v := undef) rfl (by kernel_rfl) (by kernel_rfl) (by kernel_rfl) (fun _ _ _ h => h) (Or.inr ⟨by kernel_rfl, rfl⟩) (by assumption) ?_
  (repeat (first | simp only [Act.put] | simp only [List.setIfInBounds_toArray] | simp only [List.set_cons_succ] | simp only [List.set_cons_zero]))
  refine wpAnyH_take (i := 7) (oi := ⟨some 16, _, _, _, _, _⟩) (v := undef) rfl (by kernel_rfl) (by kernel_rfl) (by kernel_rfl) (fun _ _ _ h => h) (Or.inr ⟨by kernel_rfl, rfl⟩) (by assumption) ?_
  (repeat (first | simp only [Act.put] | simp only [List.setIfInBounds_toArray] | simp only [List.set_cons_succ] | simp only [List.set_cons_zero]))
  refine wpAnyH_take (i := 8) (oi := ⟨some 17, _, _, _, _, _⟩) (v := undef) rfl (by kernel_rfl) (by kernel_rfl) (by kernel_rfl) (fun _ _ _ h => h) (Or.inr ⟨by kernel_rfl, rfl⟩) (by assumption) ?_
  (repeat (first | simp only [Act.put] | simp only [List.setIfInBounds_toArray] | simp only [List.set_cons_succ] | simp only [List.set_cons_zero]))
  refine wpAnyH_take (i := 9) (oi := ⟨some 18, _, _, _, _, _⟩) (v := undef) rfl (by kernel_rfl) (by kernel_rfl) (by kernel_rfl) (fun _ _ _ h => h) (Or.inr ⟨by kernel_rfl, rfl⟩) (by assumption) ?_
  (repeat (first | simp only [Act.put] | simp only [List.setIfInBounds_toArray] | simp only [List.set_cons_succ] | simp only [List.set_cons_zero]))
  refine wpAnyH_take (i := 10) (oi := ⟨some 19, _, _, _, _, _⟩) (v := undef) rfl (by kernel_rfl) (by kernel_rfl) (by kernel_rfl) (fun _ _ _ h => h) (Or.inr ⟨by kernel_rfl, rfl⟩) (by assumption) ?_
  (repeat (first | simp only [Act.put] | simp only [List.setIfInBounds_toArray] | simp only [List.set_cons_succ] | simp only [List.set_cons_zero]))
  refine wpAnyH_take (i := 11) (oi := ⟨some 20, _, _, _, _, _⟩) (v := undef) rfl (by kernel_rfl) (by kernel_rfl) (by kernel_rfl) (fun _ _ _ h => h) (Or.inr ⟨by kernel_rfl, rfl⟩) (by assumption) ?_
  (repeat (first | simp only [Act.put] | simp only [List.setIfInBounds_toArray] | simp only [List.set_cons_succ] | simp only [List.set_cons_zero]))
  refine wpAnyH_take (i := 12) (oi := ⟨some 21, _, _, _, _, _⟩) (v := ?_) rfl (by kernel_rfl) (by kernel_rfl) (by kernel_rfl) (fun _ _ _ h => h) (Or.inl ⟨by kernel_rfl, ?_⟩) (by assumption) ?_
  rotate_left
  · (intro w hSw; (try dsimp only at hSw); go_simp; try with_reducible rfl)
  (repeat (first | simp only [Act.put] | simp only [List.setIfInBounds_toArray] | simp only [List.set_cons_succ] | simp only [List.set_cons_zero]))
  refine wpAnyH_take (i := 13) (oi := ⟨some 4, _, _, _, _, _⟩) (v := ?_) rfl (by kernel_rfl) (by kernel_rfl) (by kernel_rfl) (fun _ _ _ h => h) (Or.inl ⟨by kernel_rfl, ?_⟩) (by assumption) ?_
  rotate_left
  · (intro w hSw; (try dsimp only at hSw); go_simp; try with_reducible rfl)
  (repeat (first | simp only [Act.put] | simp only [List.setIfInBounds_toArray] | simp only [List.set_cons_succ] | simp only [List.set_cons_zero]))
  refine wpAnyH_done (by kernel_rfl) ?_ _
  go_wp2_with fail
  go_ret
  exact ⟨rfl, H2.out.1⟩

set_option maxHeartbeats 4000000 in
set_option maxRecDepth 100000 in
theorem on_yes (p : Int) (a : Option Addr) (len cap : Nat) (t : List Tk) (w : World) (h : Tks w a len t) (hm : May t p) :
    Calls Try.prog 17 #[.slice a len cap, .int .i64 p] w (Got w (.bool (onN t p))) := by
  have HR := Lib.hid (rowOf_yes p a len cap t w h hm)
  rw [show onN t p = decide ((p - F t (ri t p)) % S t (ri t p) = 0) by unfold onN; rw [if_pos hm]]
  obtain ⟨b1, b2, b3, b4, b5⟩ := hm.bounds
  obtain ⟨f, hf⟩ : ∃ f, f = F t (ri t p) := ⟨_, rfl⟩
  obtain ⟨s, hs⟩ : ∃ s, s = S t (ri t p) := ⟨_, rfl⟩
  rw [← hf, ← hs] at HR ⊢
  rw [← hf] at b1 b2
  rw [← hs] at b3 b4
  have hb0 : (s == 0) = false := by simp; omega
  have hb1 : (s != 0) = true := by simp; omega
  have hpf : 0 ≤ p - f := by omega
  have hpf2 : p - f ≤ 1099511627776 := by omega
  obtain ⟨m, hmm⟩ : ∃ m, m = (p - f) % s := ⟨_, rfl⟩
  have hmb := mod_bd (a := p - f) b3
  rw [← hmm] at hmb ⊢
  have hsn : ¬ s = 0 := by omega
  have hw1 : IntKind.i64.wrap (p - f) = p - f := by rw [IntKind.wrap_i64]; omega
  have hw2 : (p - f).tmod s = m := by rw [Int.tmod_eq_emod_of_nonneg hpf, hmm]
  have hw3 : IntKind.i64.wrap m = m := by rw [IntKind.wrap_i64]; omega
  clear h hm hf hs hmm hmb
  go_enter Try.func17, Try.ntmps17
  go_wp2_with fail
  ((with_reducible refine HR.out.mono ?_); rintro e w1 ⟨rfl, hd1⟩)
  clear HR
  have H1 := Lib.hid (TC.made hd1 hd1.size f s)
  obtain ⟨c0, c1⟩ := H1.out.2.2.all
  obtain ⟨c, hc⟩ : ∃ c, c = w1.heap.size := ⟨_, rfl⟩
  rw [← hc] at H1 c0 c1
  have HK := Lib.hid (fun W hW => none_k w.heap.size w W c f s hW)
  go_wp2_with fail
  rw [← hc]
  clear hc hd1
  go_region_held3 (fun w' => w'.cell? ⟨c, 0, none⟩ = some (.int .i64 f) ∧ w'.cell? ⟨c, 1, none⟩ = some (.int .i64 s)) (go_keep)
    (first | ((with_reducible refine (HK.out _ H1.out).mono ?_); rintro e y1 ⟨rfl, ⟨c0, c1⟩, H2⟩; clear H1 HK) | fail)
  all_goals
    clear hw1 hw2 hw3 hsn
    go_wp2_with fail
    go_ret
    refine ⟨?_, H2.out.1⟩
    show Ending.returned (Value.bool (m == 0)) = _
    rfl

theorem on_c (p : Int) (a : Option Addr) (len cap : Nat) (t : List Tk) (w : World) (h : Tks w a len t) :
    Calls Try.prog 17 #[.slice a len cap, .int .i64 p] w (Got w (.bool (onN t p))) := by
  by_cases hm : May t p
  · exact on_yes p a len cap t w h hm
  · rw [show onN t p = false by unfold onN; rw [if_neg hm]]
    exact on_no p a len cap t w h hm

end Go.Proofs.Ytpibkjldmmecpaa
