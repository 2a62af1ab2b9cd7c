/-
  ChanceSame: for every input the law returns true, and each argument reads behind the call as it read before. No condition.
-/
import Derived.Test.YtacfboopkcaobabRows
import Derived.WalkKit
import Derived.ProofKit
import Derived.OpenShut
import Derived.ShutString
import Derived.ChangeOld
import Derived.Below
import Derived.Carry
import Derived.Test.YtacfboopkcaobabSame
namespace Go.Proofs.Ytacfboopkcaobab.chanceSame
open Go.ChangeShapes Go.WideShapes Go.ChangeAt Go.RowKit
open Go.ChangeMaps (open_string shut_string)
set_option linter.unusedVariables false

theorem own : ownKnob Try.prog.godebug = none := by kernel_rfl
theorem laidOut : laidOutB Try.prog = true := by kernel_rfl

/-- A slice of bytes that came in, as the form reads it. -/
def IsRow (w : World) (a : Option Addr) (len cap : Nat) (zs : List Int) : Prop :=
  (a = none ∧ len = 0 ∧ cap = 0 ∧ zs = []) ∨ ∃ x, a = some x ∧ len ≤ cap ∧ cap ≤ maxLen ∧ zs.length = cap ∧ (∀ i, i < zs.length → w.cell? (x.add i) = some (.int .u8 (zs.getD i 0))) ∧ ∀ n ∈ zs, (Lit.int .u8 n).wf = true

set_option maxHeartbeats 8000000 in
set_option maxRecDepth 100000 in
theorem walk (a0 : Option Addr) (len0 cap0 : Nat) (z0 : List Int) (a1 : Option Addr) (len1 cap1 : Nat) (its1 : List Asq) (w : World) (w0 : IsRow w a0 len0 cap0 z0) (w1 : Asqs w a1 len1 its1 ∧ len1 ≤ cap1 ∧ cap1 ≤ maxLen) :
    Calls Try.prog 4 #[.slice a0 len0 cap0, .slice a1 len1 cap1] w fun e w' => e = .returned (.bool true) ∧ Below w.heap.size w w' := by
  obtain ⟨l, hsl⟩ := slB_of_row w0
  have hlm : len0 ≤ 9223372036854775807 := by
    rcases w0 with ⟨_, h, _⟩ | ⟨_, _, h1, h2, _⟩
    · omega
    · unfold maxLen at h2; omega
  have hA := w1.1
  have hl1 := hA.2.1
  have HLi := Lib.hid (light5_c a0 len0 cap0 a1 len1 cap1 its1 w hA hlm)
  have hl1I : (len1 : Int) ≤ 9223372036854775807 := by omega
  have HS := Lib.hid hsl
  have HA := Lib.hid hA
  clear hsl hA w0 w1
  by_cases hlt : Lt5 len0 its1
  · rw [lt5_iff.2 hlt] at HLi
    have HLt := Lib.hid hlt
    clear hlt hlm hl1
    go_enter Try.func4, Try.ntmps4
    go_wp2_with fail
    ((with_reducible refine HLi.out.mono ?_); rintro e w2 ⟨rfl, b2⟩)
    have hb2 := Lib.hid b2
    have HNw := Lib.hid (new_c a0 len0 cap0 l w2 (HS.out.fr0 (Fr.of_below (S := fun _ => False) b2) (fun _ _ _ h => h)) (by have := HLt.out.2.1; omega))
    clear b2 HLi
    go_wp2_with fail
    ((with_reducible refine HNw.out.mono ?_); rintro e w3 ⟨gs, rfl, hd⟩)
    have h3 : Hid (Below w.heap.size w w3 ∧ w.heap.size ≤ gs ∧ SRC 39 w3 gs l) := ⟨hb2.out.trans (hd.out.2.1.mono hb2.out.size), Nat.le_trans hb2.out.size hd.out.1, hd.out.2.2⟩
    have HBy := Lib.hid (pByte_c (some ⟨gs, 0, none⟩) l w3 hd.out.2.2.st)
    clear hb2 HNw hd
    go_wp2_with fail
    ((with_reducible refine HBy.out.mono ?_); rintro e w4 ⟨rfl, hd⟩)
    have h4 : Hid (Below w.heap.size w w4 ∧ w.heap.size ≤ gs ∧ SRC 39 w4 gs l.tail) := ⟨h3.out.1.trans (hd.out.1.below (fun y hy => by injection hy with hy; rw [← hy]; exact h3.out.2.1) h3.out.1.size), h3.out.2.1, hd.out.2.src⟩
    have HFo := Lib.hid (fork_c gs l.tail w4 hd.out.2.src (by have h1 := HLt.out.2.1; have h2 := HS.out.1; simp; omega))
    clear h3 HBy hd
    go_wp2_with fail
    ((with_reducible refine HFo.out.mono ?_); rintro e w5 ⟨gt, rfl, hd⟩)
    go_wp2_with fail
    obtain ⟨ge, hge⟩ : ∃ ge, ge = w5.heap.size := ⟨_, rfl⟩
    have h5 : Hid (S3 w.heap.size w (w5.alloc (.cells #[.slice none 0 0] 39)) gs gt ge l.tail) := by
      have hb5 : Below w.heap.size w w5 := h4.out.1.trans (hd.out.2.1.mono h4.out.1.size)
      have hba : Below w5.heap.size w5 (w5.alloc (.cells #[.slice none 0 0] 39)) := (Below.refl _ w5).alloc (Nat.le_refl _) _
      have hs5 : SRC 39 w5 gs l.tail := h4.out.2.2.below hd.out.2.1
      have l4 := h4.out.2.2.lt
      have l5 := hs5.lt
      have l6 := hd.out.2.2.lt
      refine ⟨hb5.trans (hba.mono hb5.size), Nat.le_trans hb5.size hba.size, ⟨h4.out.2.1, Nat.le_trans h4.out.1.size hd.out.1, by rw [hge]; exact hb5.size⟩, ⟨Nat.ne_of_lt (Nat.lt_of_lt_of_le l4 hd.out.1), by omega, by omega⟩, hs5.below hba, hd.out.2.2.below hba, none, 0, 0, ?_, ⟨rfl, .inl rfl⟩, Nat.le_refl _, Nat.zero_le _⟩
      rw [hge]; exact heap_alloc_new w5 _
    rw [← hge]
    clear h4 HFo hd hge
    obtain ⟨W, hW⟩ : ∃ W, W = w5.alloc (.cells #[.slice none 0 0] 39) := ⟨_, rfl⟩
    rw [← hW] at h5 ⊢
    clear hW
    go_loopw [24] (fun i wr => ∃ (k : Nat) (t : List UInt8), k ≤ len1 ∧ i = .int .i64 (k : Int) ∧ Hid (S3 w.heap.size w wr gs gt ge t)) (fun i _ => len1 - (intOf i).toNat)
    case atStart => exact ⟨0, l.tail, by omega, rfl, h5.out⟩
    case round =>
      clear h5
      obtain ⟨k, t, hk, rfl, hd⟩ := hrel
      by_cases hltk : k < len1
      · have hltI : (k : Int) < (len1 : Int) := by omega
        have hk0 : (0 : Int) ≤ (k : Int) := by omega
        rcases HA.out.2.2.2 with h0 | ⟨b, off, rfl, hb, hcells⟩
        · exfalso; omega
        obtain ⟨x, hx⟩ : ∃ x, x = its1[k]! := ⟨_, rfl⟩
        have hat : x.at wr b (off + k * 5) := by rw [hx]; exact Asq.at_below (hcells k hltk) hb hd.out.1
        have hok : x.ok wr := by
          have hm : x ∈ its1 := by
            rw [hx, List.getElem!_eq_getElem?_getD, List.getElem?_eq_getElem (by rw [HA.out.1]; exact hltk)]
            exact List.getElem_mem _
          exact Asq.ok_below (HA.out.2.2.1 x hm) hd.out.1
        have h60 : x.vL ≤ 60 := by rw [hx]; exact HLt.out.1 k (by rw [HA.out.1]; exact hltk)
        have H4 := Lib.hid (hd.out.call hok).drew
        have H60 := Lib.hid h60
        obtain ⟨p0, p1, p2, p3, p4⟩ := hat
        clear hx hcells hok h60 hd
        obtain ⟨v, hv⟩ : ∃ v, v = askV t x := ⟨_, rfl⟩
        obtain ⟨u, hu⟩ : ∃ u, u = askV [] x := ⟨_, rfl⟩
        obtain ⟨t', ht'⟩ : ∃ t', t' = askL t x := ⟨_, rfl⟩
        have D1 : Hid (∀ W q, S4 w.heap.size w W gs gt ge q x t t → Calls Try.prog 16 #[.pointer (some ⟨gs, 0, none⟩), x.val] W fun e w' => e = .returned (.int .i64 v) ∧ C5 w' q x ∧ Hid (S4 w.heap.size w w' gs gt ge q x t' t)) := by
          intro W q h; rw [hv, ht']; exact s4_s h H60.out
        have D2 : Hid (∀ W q, S4 w.heap.size w W gs gt ge q x t' t → Calls Try.prog 16 #[.pointer (some ⟨gt, 0, none⟩), x.val] W fun e w' => e = .returned (.int .i64 v) ∧ C5 w' q x ∧ Hid (S4 w.heap.size w w' gs gt ge q x t' t')) := by
          intro W q h; rw [hv]; have := s4_t h H60.out; rw [← ht'] at this; exact this
        have D3 : Hid (∀ W q, S4 w.heap.size w W gs gt ge q x t' t' → Calls Try.prog 16 #[.pointer none, x.val] W fun e w' => e = .returned (.int .i64 u) ∧ C5 w' q x ∧ Hid (S4 w.heap.size w w' gs gt ge q x t' t')) := by
          intro W q h; rw [hu]; exact s4_n h H60.out
        have D4 : Hid (∀ W q, S4 w.heap.size w W gs gt ge q x t' t' → Calls Try.prog 16 #[.pointer (some ⟨ge, 0, none⟩), x.val] W fun e w' => e = .returned (.int .i64 u) ∧ C5 w' q x ∧ Hid (S4 w.heap.size w w' gs gt ge q x t' t')) := by
          intro W q h; rw [hu]; exact s4_e h H60.out
        have D5 : Hid (∀ W q, S4 w.heap.size w W gs gt ge q x t' t' → Calls Try.prog 12 #[.pointer none, .int .i64 x.lo, .int .i64 x.hi] W fun e w' => e = .returned (.int .i64 x.lo) ∧ C5 w' q x ∧ Hid (S4 w.heap.size w w' gs gt ge q x t' t')) := by
          intro W q h; exact s4_b h
        obtain ⟨c0, c1, c2, c3, c4⟩ := H4.out.all
        clear hv hu ht'
        obtain ⟨xk, xn, xl, xh, xA, xL, xC, xZ⟩ := x
        simp only at p0 p1 p2 p3 p4 c0 c1 c2 c3 c4
        unfold Asq.val at D1 D2 D3 D4
        simp only at D1 D2 D3 D4 D5 H4
        by_cases hk2 : xk = 2
        · subst hk2
          go_wp2_with fail
          go_region_held3 (fun w' => w'.cell? ⟨wr.heap.size, 0, none⟩ = some (.int .i64 2) ∧ w'.cell? ⟨wr.heap.size, 1, none⟩ = some (.int .u64 xn) ∧ w'.cell? ⟨wr.heap.size, 2, none⟩ = some (.int .i64 xl) ∧ w'.cell? ⟨wr.heap.size, 3, none⟩ = some (.int .i64 xh) ∧ w'.cell? ⟨wr.heap.size, 4, none⟩ = some (.slice xA xL xC)) (go_keep)
            (first
              | ((with_reducible refine (D1.out _ _ H4.out).mono ?_); rintro e y1 ⟨rfl, ⟨c0, c1, c2, c3, c4⟩, G1⟩; clear H4 D1)
              | ((with_reducible refine (D2.out _ _ G1.out).mono ?_); rintro e y1 ⟨rfl, ⟨c0, c1, c2, c3, c4⟩, G2⟩; clear G1 D2)
              | ((with_reducible refine (D3.out _ _ G2.out).mono ?_); rintro e y1 ⟨rfl, ⟨c0, c1, c2, c3, c4⟩, G3⟩; clear G2 D3)
              | ((with_reducible refine (D4.out _ _ G3.out).mono ?_); rintro e y1 ⟨rfl, ⟨c0, c1, c2, c3, c4⟩, G4⟩; clear G3 D4)
              | ((with_reducible refine (D5.out _ _ G4.out).mono ?_); rintro e y1 ⟨rfl, ⟨c0, c1, c2, c3, c4⟩, G5⟩; clear G4 D5)
              | fail)
          all_goals
            go_wp2_with fail
            exact ⟨⟨k + 1, t', by omega, by go_num, G5.out.drop⟩, by simp [intOf]; omega⟩
        · have q2 : (xk == 2) = false := by simp [hk2]
          have q3 : decide (xk = 2) = false := decide_eq_false hk2
          clear D5
          go_wp2_with fail
          refine wp_region_held_drew (S := (fun w' => w'.cell? ⟨wr.heap.size, 0, none⟩ = some (.int .i64 xk) ∧ w'.cell? ⟨wr.heap.size, 1, none⟩ = some (.int .u64 xn) ∧ w'.cell? ⟨wr.heap.size, 2, none⟩ = some (.int .i64 xl) ∧ w'.cell? ⟨wr.heap.size, 3, none⟩ = some (.int .i64 xh) ∧ w'.cell? ⟨wr.heap.size, 4, none⟩ = some (.slice xA xL xC))) (by kernel_rfl) (by first | (dsimp only; (exact ⟨c0, c1, c2, c3, c4⟩)) | (exact ⟨c0, c1, c2, c3, c4⟩)) (fun hHeld => ?_)
          refine wpAnyH_take (i := 0) (oi := _) (v := ?_) rfl (by kernel_rfl) (by kernel_rfl) (by kernel_rfl) (fun _ _ _ h => h) (Or.inl ⟨by kernel_rfl, ?_⟩) (by assumption) ?_
          rotate_left
          · (intro w hSw; (try dsimp only at hSw); go_simp; try with_reducible rfl)
          (repeat (first | simp only [Act.put] | simp only [List.setIfInBounds_toArray] | simp only [List.set_cons_succ] | simp only [List.set_cons_zero]))
          refine wpAnyH_take (i := 1) (oi := _) (v := ?_) rfl (by kernel_rfl) (by kernel_rfl) (by kernel_rfl) (fun _ _ _ h => h) (Or.inl ⟨by kernel_rfl, ?_⟩) (by assumption) ?_
          rotate_left
          · (intro w hSw; (try dsimp only at hSw); go_simp; try with_reducible rfl)
          (repeat (first | simp only [Act.put] | simp only [List.setIfInBounds_toArray] | simp only [List.set_cons_succ] | simp only [List.set_cons_zero]))
          refine wpAnyH_take (i := 3) (oi := _) (v := ?_) rfl (by kernel_rfl) (by kernel_rfl) (by kernel_rfl) (fun _ _ _ h => h) (Or.inl ⟨by kernel_rfl, ?_⟩) (by assumption) ?_
          rotate_left
          · (intro w hSw; (try dsimp only at hSw); go_simp; try with_reducible rfl)
          (repeat (first | simp only [Act.put] | simp only [List.setIfInBounds_toArray] | simp only [List.set_cons_succ] | simp only [List.set_cons_zero]))
          refine wpAnyH_take (i := 4) (oi := _) (v := ?_) rfl (by kernel_rfl) (by kernel_rfl) (by kernel_rfl) (fun _ _ _ h => h) (Or.inl ⟨by kernel_rfl, ?_⟩) (by assumption) ?_
          rotate_left
          · (intro w hSw; (try dsimp only at hSw); go_simp; try with_reducible rfl)
          (repeat (first | simp only [Act.put] | simp only [List.setIfInBounds_toArray] | simp only [List.set_cons_succ] | simp only [List.set_cons_zero]))
          refine wpAnyH_ready (rs := [2]) (by kernel_rfl) (by simp) ?_
          refine AllReadyH.cons (o := _) rfl (fun K hK => ?_) AllReadyH.nil
          go_simp
          ((with_reducible refine (D1.out _ _ H4.out).mono ?_); rintro e y1 ⟨rfl, ⟨c0, c1, c2, c3, c4⟩, G1⟩; clear H4 D1)
          (try go_wp2_with fail)
          refine hK.out _ _ (by first | (dsimp only; (exact ⟨c0, c1, c2, c3, c4⟩)) | (exact ⟨c0, c1, c2, c3, c4⟩) | assumption) (fun hHeld => ?_)
          clear hK K
          (repeat (first | simp only [Act.put] | simp only [List.setIfInBounds_toArray] | simp only [List.set_cons_succ] | simp only [List.set_cons_zero]))
          refine wpAnyH_ready (rs := [5]) (by kernel_rfl) (by simp) ?_
          refine AllReadyH.cons (o := _) rfl (fun K hK => ?_) AllReadyH.nil
          go_simp
          ((with_reducible refine (D2.out _ _ G1.out).mono ?_); rintro e y1 ⟨rfl, ⟨c0, c1, c2, c3, c4⟩, G2⟩; clear G1 D2)
          (try go_wp2_with fail)
          refine hK.out _ _ (by first | (dsimp only; (exact ⟨c0, c1, c2, c3, c4⟩)) | (exact ⟨c0, c1, c2, c3, c4⟩) | assumption) (fun hHeld => ?_)
          clear hK K
          (repeat (first | simp only [Act.put] | simp only [List.setIfInBounds_toArray] | simp only [List.set_cons_succ] | simp only [List.set_cons_zero]))
          refine wpAnyH_take (i := 6) (oi := _) (v := ?_) rfl (by kernel_rfl) (by kernel_rfl) (by kernel_rfl) (fun _ _ _ h => h) (Or.inl ⟨by kernel_rfl, ?_⟩) (by assumption) ?_
          rotate_left
          · (intro w hSw; (try dsimp only at hSw); go_simp; try with_reducible rfl)
          (repeat (first | simp only [Act.put] | simp only [List.setIfInBounds_toArray] | simp only [List.set_cons_succ] | simp only [List.set_cons_zero]))
          refine wpAnyH_take (i := 7) (oi := _) (v := ?_) rfl (by kernel_rfl) (by kernel_rfl) (by kernel_rfl) (fun _ _ _ h => h) (Or.inl ⟨by kernel_rfl, ?_⟩) (by assumption) ?_
          rotate_left
          · (intro w hSw; (try dsimp only at hSw); go_simp; try with_reducible rfl)
          (repeat (first | simp only [Act.put] | simp only [List.setIfInBounds_toArray] | simp only [List.set_cons_succ] | simp only [List.set_cons_zero]))
          refine wpAnyH_take (i := 8) (oi := _) (v := ?_) rfl (by kernel_rfl) (by kernel_rfl) (by kernel_rfl) (fun _ _ _ h => h) (Or.inl ⟨by kernel_rfl, ?_⟩) (by assumption) ?_
          rotate_left
          · (intro w hSw; (try dsimp only at hSw); go_simp; try with_reducible rfl)
          (repeat (first | simp only [Act.put] | simp only [List.setIfInBounds_toArray] | simp only [List.set_cons_succ] | simp only [List.set_cons_zero]))
          refine wpAnyH_take (i := 9) (oi := _) (v := ?_) rfl (by kernel_rfl) (by kernel_rfl) (by kernel_rfl) (fun _ _ _ h => h) (Or.inl ⟨by kernel_rfl, ?_⟩) (by assumption) ?_
          rotate_left
          · (intro w hSw; (try dsimp only at hSw); go_simp; try with_reducible rfl)
          (repeat (first | simp only [Act.put] | simp only [List.setIfInBounds_toArray] | simp only [List.set_cons_succ] | simp only [List.set_cons_zero]))
          refine wpAnyH_take (i := 11) (oi := _) (v := ?_) rfl (by kernel_rfl) (by kernel_rfl) (by kernel_rfl) (fun _ _ _ h => h) (Or.inl ⟨by kernel_rfl, ?_⟩) (by assumption) ?_
          rotate_left
          · (intro w hSw; (try dsimp only at hSw); go_simp; try with_reducible rfl)
          (repeat (first | simp only [Act.put] | simp only [List.setIfInBounds_toArray] | simp only [List.set_cons_succ] | simp only [List.set_cons_zero]))
          refine wpAnyH_ready (rs := [10]) (by kernel_rfl) (by simp) ?_
          refine AllReadyH.cons (o := _) rfl (fun K hK => ?_) AllReadyH.nil
          go_simp
          ((with_reducible refine (D3.out _ _ G2.out).mono ?_); rintro e y1 ⟨rfl, ⟨c0, c1, c2, c3, c4⟩, G3⟩; clear G2 D3)
          (try go_wp2_with fail)
          refine hK.out _ _ (by first | (dsimp only; (exact ⟨c0, c1, c2, c3, c4⟩)) | (exact ⟨c0, c1, c2, c3, c4⟩) | assumption) (fun hHeld => ?_)
          clear hK K
          (repeat (first | simp only [Act.put] | simp only [List.setIfInBounds_toArray] | simp only [List.set_cons_succ] | simp only [List.set_cons_zero]))
          refine wpAnyH_ready (rs := [12]) (by kernel_rfl) (by simp) ?_
          refine AllReadyH.cons (o := _) rfl (fun K hK => ?_) AllReadyH.nil
          go_simp
          ((with_reducible refine (D4.out _ _ G3.out).mono ?_); rintro e y1 ⟨rfl, ⟨c0, c1, c2, c3, c4⟩, G4⟩; clear G3 D4)
          (try go_wp2_with fail)
          refine hK.out _ _ (by first | (dsimp only; (exact ⟨c0, c1, c2, c3, c4⟩)) | (exact ⟨c0, c1, c2, c3, c4⟩) | assumption) (fun hHeld => ?_)
          clear hK K
          (repeat (first | simp only [Act.put] | simp only [List.setIfInBounds_toArray] | simp only [List.set_cons_succ] | simp only [List.set_cons_zero]))
          refine wpAnyH_take (i := 13) (oi := _) (v := ?_) rfl (by kernel_rfl) (by kernel_rfl) (by kernel_rfl) (fun _ _ _ h => h) (Or.inl ⟨by kernel_rfl, ?_⟩) (by assumption) ?_
          rotate_left
          · (intro w hSw; (try dsimp only at hSw); go_simp; try with_reducible rfl)
          (repeat (first | simp only [Act.put] | simp only [List.setIfInBounds_toArray] | simp only [List.set_cons_succ] | simp only [List.set_cons_zero]))
          refine wpAnyH_take (i := 14) (oi := _) (v := ?_) rfl (by kernel_rfl) (by kernel_rfl) (by kernel_rfl) (fun _ _ _ h => h) (Or.inl ⟨by kernel_rfl, ?_⟩) (by assumption) ?_
          rotate_left
          · (intro w hSw; (try dsimp only at hSw); go_simp; try with_reducible rfl)
          (repeat (first | simp only [Act.put] | simp only [List.setIfInBounds_toArray] | simp only [List.set_cons_succ] | simp only [List.set_cons_zero]))
          refine wpAnyH_take (i := 15) (oi := _) (v := ?_) rfl (by kernel_rfl) (by kernel_rfl) (by kernel_rfl) (fun _ _ _ h => h) (Or.inl ⟨by kernel_rfl, ?_⟩) (by assumption) ?_
          rotate_left
          · (intro w hSw; (try dsimp only at hSw); go_simp; try with_reducible rfl)
          (repeat (first | simp only [Act.put] | simp only [List.setIfInBounds_toArray] | simp only [List.set_cons_succ] | simp only [List.set_cons_zero]))
          refine wpAnyH_take (i := 16) (oi := _) (v := ?_) rfl (by kernel_rfl) (by kernel_rfl) (by kernel_rfl) (fun _ _ _ h => h) (Or.inl ⟨by kernel_rfl, ?_⟩) (by assumption) ?_
          rotate_left
          · (intro w hSw; (try dsimp only at hSw); go_simp; try with_reducible rfl)
          (repeat (first | simp only [Act.put] | simp only [List.setIfInBounds_toArray] | simp only [List.set_cons_succ] | simp only [List.set_cons_zero]))
          refine wpAnyH_take (i := 17) (oi := _) (v := ?_) rfl (by kernel_rfl) (by kernel_rfl) (by kernel_rfl) (fun _ _ _ h => h) (Or.inl ⟨by kernel_rfl, ?_⟩) (by assumption) ?_
          rotate_left
          · (intro w hSw; (try dsimp only at hSw); go_simp; try with_reducible rfl)
          (repeat (first | simp only [Act.put] | simp only [List.setIfInBounds_toArray] | simp only [List.set_cons_succ] | simp only [List.set_cons_zero]))
          refine wpAnyH_take (i := 18) (oi := _) (v := ?_) rfl (by kernel_rfl) (by kernel_rfl) (by kernel_rfl) (fun _ _ _ h => h) (Or.inl ⟨by kernel_rfl, ?_⟩) (by assumption) ?_
          rotate_left
          · (intro w hSw; (try dsimp only at hSw); go_simp; try with_reducible rfl)
          (repeat (first | simp only [Act.put] | simp only [List.setIfInBounds_toArray] | simp only [List.set_cons_succ] | simp only [List.set_cons_zero]))
          refine wpAnyH_take (i := 19) (oi := _) (v := ?_) rfl (by kernel_rfl) (by kernel_rfl) (by kernel_rfl) (fun _ _ _ h => h) (Or.inl ⟨by kernel_rfl, ?_⟩) (by assumption) ?_
          rotate_left
          · (intro w hSw; (try dsimp only at hSw); go_simp; try with_reducible rfl)
          (repeat (first | simp only [Act.put] | simp only [List.setIfInBounds_toArray] | simp only [List.set_cons_succ] | simp only [List.set_cons_zero]))
          refine wpAnyH_take (i := 20) (oi := _) (v := undef) rfl (by kernel_rfl) (by kernel_rfl) (by kernel_rfl) (fun _ _ _ h => h) (Or.inr ⟨by kernel_rfl, rfl⟩) (by assumption) ?_
          (repeat (first | simp only [Act.put] | simp only [List.setIfInBounds_toArray] | simp only [List.set_cons_succ] | simp only [List.set_cons_zero]))
          refine wpAnyH_take (i := 21) (oi := _) (v := undef) rfl (by kernel_rfl) (by kernel_rfl) (by kernel_rfl) (fun _ _ _ h => h) (Or.inr ⟨by kernel_rfl, rfl⟩) (by assumption) ?_
          (repeat (first | simp only [Act.put] | simp only [List.setIfInBounds_toArray] | simp only [List.set_cons_succ] | simp only [List.set_cons_zero]))
          refine wpAnyH_take (i := 22) (oi := _) (v := undef) rfl (by kernel_rfl) (by kernel_rfl) (by kernel_rfl) (fun _ _ _ h => h) (Or.inr ⟨by kernel_rfl, rfl⟩) (by assumption) ?_
          (repeat (first | simp only [Act.put] | simp only [List.setIfInBounds_toArray] | simp only [List.set_cons_succ] | simp only [List.set_cons_zero]))
          refine wpAnyH_take (i := 23) (oi := _) (v := undef) rfl (by kernel_rfl) (by kernel_rfl) (by kernel_rfl) (fun _ _ _ h => h) (Or.inr ⟨by kernel_rfl, rfl⟩) (by assumption) ?_
          (repeat (first | simp only [Act.put] | simp only [List.setIfInBounds_toArray] | simp only [List.set_cons_succ] | simp only [List.set_cons_zero]))
          refine wpAnyH_take (i := 24) (oi := _) (v := undef) rfl (by kernel_rfl) (by kernel_rfl) (by kernel_rfl) (fun _ _ _ h => h) (Or.inr ⟨by kernel_rfl, rfl⟩) (by assumption) ?_
          (repeat (first | simp only [Act.put] | simp only [List.setIfInBounds_toArray] | simp only [List.set_cons_succ] | simp only [List.set_cons_zero]))
          refine wpAnyH_take (i := 26) (oi := _) (v := undef) rfl (by kernel_rfl) (by kernel_rfl) (by kernel_rfl) (fun _ _ _ h => h) (Or.inr ⟨by kernel_rfl, rfl⟩) (by assumption) ?_
          (repeat (first | simp only [Act.put] | simp only [List.setIfInBounds_toArray] | simp only [List.set_cons_succ] | simp only [List.set_cons_zero]))
          refine wpAnyH_take (i := 27) (oi := _) (v := undef) rfl (by kernel_rfl) (by kernel_rfl) (by kernel_rfl) (fun _ _ _ h => h) (Or.inr ⟨by kernel_rfl, rfl⟩) (by assumption) ?_
          (repeat (first | simp only [Act.put] | simp only [List.setIfInBounds_toArray] | simp only [List.set_cons_succ] | simp only [List.set_cons_zero]))
          refine wpAnyH_ready (rs := [25]) (by kernel_rfl) (by simp) ?_
          refine AllReadyH.cons (o := _) rfl (fun K hK => ?_) AllReadyH.nil
          go_simp
          refine hK.out _ _ (by first | (dsimp only; (exact ⟨c0, c1, c2, c3, c4⟩)) | (exact ⟨c0, c1, c2, c3, c4⟩) | assumption) (fun hHeld => ?_)
          clear hK K
          (repeat (first | simp only [Act.put] | simp only [List.setIfInBounds_toArray] | simp only [List.set_cons_succ] | simp only [List.set_cons_zero]))
          refine wpAnyH_take (i := 28) (oi := _) (v := undef) rfl (by kernel_rfl) (by kernel_rfl) (by kernel_rfl) (fun _ _ _ h => h) (Or.inr ⟨by kernel_rfl, rfl⟩) (by assumption) ?_
          (repeat (first | simp only [Act.put] | simp only [List.setIfInBounds_toArray] | simp only [List.set_cons_succ] | simp only [List.set_cons_zero]))
          refine wpAnyH_take (i := 29) (oi := _) (v := ?_) rfl (by kernel_rfl) (by kernel_rfl) (by kernel_rfl) (fun _ _ _ h => h) (Or.inl ⟨by kernel_rfl, ?_⟩) (by assumption) ?_
          rotate_left
          · (intro w hSw; (try dsimp only at hSw); go_simp; try with_reducible rfl)
          (repeat (first | simp only [Act.put] | simp only [List.setIfInBounds_toArray] | simp only [List.set_cons_succ] | simp only [List.set_cons_zero]))
          refine wpAnyH_take (i := 30) (oi := _) (v := ?_) rfl (by kernel_rfl) (by kernel_rfl) (by kernel_rfl) (fun _ _ _ h => h) (Or.inl ⟨by kernel_rfl, ?_⟩) (by assumption) ?_
          rotate_left
          · (intro w hSw; (try dsimp only at hSw); go_simp; try with_reducible rfl)
          (repeat (first | simp only [Act.put] | simp only [List.setIfInBounds_toArray] | simp only [List.set_cons_succ] | simp only [List.set_cons_zero]))
          refine wpAnyH_done (by kernel_rfl) ?_ _
          all_goals
            go_wp2_with fail
            exact ⟨⟨k + 1, t', by omega, by go_num, G4.out.drop⟩, by simp [intOf]; omega⟩
      · have HSL := Lib.hid (sLeft_c gs t wr hd.out.2.2.2.2.1)
        have HTL := Lib.hid (sLeft_c gt t wr hd.out.2.2.2.2.2.1)
        have HB : Hid (Below w.heap.size w wr ∧ w.heap.size ≤ wr.heap.size) := ⟨hd.out.1, hd.out.2.1⟩
        have hkl : k = len1 := by omega
        subst hkl
        clear hd hltk HA
        go_wp2_with fail
        ((with_reducible refine HSL.out.mono ?_); rintro e w6 ⟨rfl, rfl⟩)
        go_wp2_with fail
        ((with_reducible refine HTL.out.mono ?_); rintro e w6 ⟨rfl, rfl⟩)
        clear HSL HTL
        go_wp2_with fail
        ((with_reducible refine (nLeft_c _).mono ?_); rintro e w6 ⟨rfl, rfl⟩)
        go_wp2_with fail
        ((with_reducible refine (nFork_c _).mono ?_); rintro e w6 ⟨rfl, rfl⟩)
        go_wp2_with fail
        ((with_reducible refine (nByte_c _).mono ?_); rintro e w6 ⟨rfl, rfl⟩)
        go_wp2_with fail
        ((with_reducible refine (lives5_c _).mono ?_); rintro e w7 ⟨rfl, b7⟩)
        have HF : Hid (Below w.heap.size w w7) := HB.out.1.trans (b7.mono HB.out.2)
        clear HB b7
        go_wp2_with fail
        go_ret
        exact ⟨rfl, HF.out⟩
  · rw [lt5_false hlt] at HLi
    clear hlt hlm hl1
    go_enter Try.func4, Try.ntmps4
    go_wp2_with fail
    ((with_reducible refine HLi.out.mono ?_); rintro e w2 ⟨rfl, b2⟩)
    go_wp2_with fail
    ((with_reducible refine (lives5_c _).mono ?_); rintro e w5 ⟨rfl, b5⟩)
    have HB : Hid (Below w.heap.size w w5) := b2.trans (b5.mono b2.size)
    clear b2 b5
    go_wp2_with fail
    go_ret
    exact ⟨rfl, HB.out⟩

set_option maxRecDepth 100000 in
theorem lifted (os : Os) (started : os.Started) (H : Type) (enc : TypeId × Value → H) :
    ReturnsInHanded {} Try.checked os 4 .any (Rows.chanceSameSpec.pre6 enc Try.prog Try.f4 Rows.chanceSameRow.domain false) (Rows.chanceSameSpec.post enc Try.prog Try.f4 false true false false) := by
  refine returnsInHanded_of_change (C := Try.checked) own started (by kernel_rfl) Try.func4
    (ChangeSpec.witness6 (enc := enc) (C := Try.checked) false ⟨#[], #[.slice none 0 0, .slice none 0 0], []⟩ 8 (by kernel_rfl) (by kernel_rfl) (by kernel_rfl) (by kernel_rfl)) ?_
  intro W base args ds gs before hval0 hW hcnd _
  have hval : ∀ (j : Nat) t v, Try.f4.params[j]? = some t → args[j]? = some v → Value.okWide Try.prog W .any base t v := hval0
  have hW' := hW
  obtain ⟨p, q, hA0, hV, rfl, hfz, hnd⟩ := hW
  have hA : DataW.TrodAll enc Try.prog W 0 (fun _ => true) true Try.f4.params.toList args.toList ds p := hA0
  rw [Try.params4] at hA hval
  obtain ⟨v0, vs0, d0, ds0, p0, q0, hargs, rfl, rfl, h0, r0⟩ := trodAll_cons hA
  obtain ⟨v1, vs1, d1, ds1, p1, q1, rfl, rfl, rfl, h1, r1⟩ := trodAll_cons r0
  obtain ⟨rfl, rfl, rfl⟩ := trodAll_nil r1
  obtain rfl : args = #[v0, v1] := by cases args; simp_all
  obtain ⟨rfl, rfl⟩ := trodVars_none hV
  have k0 := h0
  have lt0 : ∀ x ∈ p0, x.block < W.heap.size := by obtain ⟨m, hm⟩ := k0; exact DataW.trod_lt m _ _ _ hm
  obtain ⟨a0, len0, cap0, rfl⟩ := okWide_slice Try.underlying22 (hval 0 22 v0 rfl rfl)
  obtain ⟨z0, w0⟩ : ∃ zs, IsRow W a0 len0 cap0 zs := by
    obtain ⟨fuel, hf⟩ := h0
    rcases open_ints Try.underlying22 Try.underlying5 (by kernel_rfl) hf with ⟨hcs, _⟩ | ⟨x, l, c, zs, hcs, _, hl, hm, hz, _, hcell, hwz⟩
    · simp [Value.cells] at hcs
      obtain ⟨rfl, rfl, rfl⟩ := hcs
      exact ⟨[], .inl ⟨rfl, rfl, rfl, rfl⟩⟩
    · simp [Value.cells] at hcs
      obtain ⟨rfl, rfl, rfl⟩ := hcs
      exact ⟨zs, .inr ⟨_, rfl, hl, hm, by simpa using hz, hcell, hwz⟩⟩
  have k1 := h1
  have lt1 : ∀ x ∈ p1, x.block < W.heap.size := by obtain ⟨m, hm⟩ := k1; exact DataW.trod_lt m _ _ _ hm
  obtain ⟨a1, len1, cap1, rfl⟩ := okWide_slice Try.underlying28 (hval 1 28 v1 rfl rfl)
  obtain ⟨its1, w1⟩ := open_asqs h1
  clear hA0 hval0
  refine (walk a0 len0 cap0 z0 a1 len1 cap1 its1 W w0 w1).mono fun e W' ⟨he, bel⟩ => ?_
  subst he
  exact ⟨_, rfl, _, _, _, [], _, [], hW', trodAll_mk1 (shut_bool Try.underlying4 _), (trodAll_cons_mk (Below.trod laidOut (by kernel_rfl) (of_decide_eq_true (by kernel_rfl)) k0 bel lt0) (trodAll_cons_mk (Below.trod laidOut (by kernel_rfl) (of_decide_eq_true (by kernel_rfl)) k1 bel lt1) trodAll_mk0)), rfl, bel.frame _, fun h => by cases h⟩

theorem over : Rows.chanceSameRow.holds Try.pinned (OpenSpec.ofChange Rows.chanceSameSpec) :=
  OpenClaim.holds_of_wide 4 Try.f4 rfl rfl rfl rfl rfl rfl rfl ⟨rfl, rfl, rfl, rfl, rfl⟩ rfl rfl rfl rfl rfl (by kernel_rfl) Try.func4 (by kernel_rfl)
    (of_decide_eq_true (by kernel_rfl)) (by unfold Func.isWrapper; first | (rw [if_pos (by decide +kernel)]; kernel_rfl) | (rw [if_neg (by decide +kernel)]; exact ⟨rfl, rfl⟩))
    (fun os started H enc _ => lifted os started H enc)

theorem proved : Rows.ChanceSameSaid := over
end Go.Proofs.Ytacfboopkcaobab.chanceSame
