/- LadderNobody, walked. (By mkldnob.py.) -/
import Derived.Test.YtemmbgbmkihbaaaLdU
namespace Go.Proofs.Ytemmbgbmkihbaaa
open Go.RowKit Go.Shelf Go.Sort

theorem z6_cl (W : World) : Cl 32 (W.alloc (.cells (OC ⟨0, 0, 0, 0, 0, 0⟩) 32)) W.heap.size (OC ⟨0, 0, 0, 0, 0, 0⟩) := hd_last rfl
set_option maxHeartbeats 8000000 in
set_option maxRecDepth 100000 in
theorem nobody_w (x0 : Od) (a1 a2 : Int) (w : World) (ho : x0.ok w) :
    Calls Try.prog 6 #[.agg #[.int .u64 x0.id, .int .i64 x0.acc, .int .i64 x0.side, .int .i64 x0.price, .int .i64 x0.qty, .int .u64 x0.seq], .int .u64 a1, .int .i64 a2] w fun e w' => e = .returned (.bool true) ∧ Below w.heap.size w w' := by
  have mixed : Try.prog.follows .mixedOrders = true := by kernel_rfl
  have HL := Lib.hid lives13_c
  have HS := Lib.hid (WalkArith.wf_i64 ho.2.2.1)
  clear ho
  have HAdd : Hid (∀ {b : Option Addr} W, NbS w b w.heap.size x0 W → Calls Try.prog 17 #[.pointer b, (.agg #[.int .u64 x0.id, .int .i64 x0.acc, .int .i64 x0.side, .int .i64 x0.price, .int .i64 x0.qty, .int .u64 x0.seq])] W fun e w' => e = .returned (.int .i64 1) ∧ Hid (Below W.heap.size W w')) := fun W h => add_no _ _ _ x0 W h.bk
  have HCut : Hid (∀ {b : Option Addr} W, NbS w b w.heap.size x0 W → Calls Try.prog 14 #[.pointer b, .int .u64 a1, .int .i64 a2] W fun e w' => e = .returned (.int .i64 1) ∧ Hid (Below W.heap.size W w')) := fun W h => (cut_no _ _ _ a1 a2 W h.bk).mono fun e w' ⟨he, hw⟩ => ⟨he, by rw [hw]; exact Below.refl _ _⟩
  have HAll : Hid (∀ {b : Option Addr} W, NbS w b w.heap.size x0 W → Calls Try.prog 21 #[.pointer b] W fun e w' => ∃ A c, e = .returned (.slice A 0 c) ∧ Hid (Below W.heap.size W w')) := fun W h => nb_all h.bk
  have HLev : Hid (∀ {b : Option Addr} W, NbS w b w.heap.size x0 W → Calls Try.prog 26 #[.pointer b, .int .i64 x0.side, .int .i64 x0.price] W fun e w' => ∃ A c, e = .returned (.slice A 0 c) ∧ Hid (Below W.heap.size W w')) := fun W h => nb_level x0.side x0.price HS.out h.bk
  have HPri : Hid (∀ {b : Option Addr} W, NbS w b w.heap.size x0 W → Calls Try.prog 22 #[.pointer b, .int .i64 x0.side] W fun e w' => ∃ A c, e = .returned (.slice A 0 c) ∧ Hid (Below W.heap.size W w')) := fun W h => nb_prices x0.side HS.out h.bk
  have HLen : Hid (∀ {b : Option Addr} W, NbS w b w.heap.size x0 W → Calls Try.prog 27 #[.pointer b] W fun e w' => e = .returned (.int .i64 0) ∧ Hid (Below W.heap.size W w')) := fun W h => nb_len h.bk
  have HGet : Hid (∀ {b : Option Addr} W, NbS w b w.heap.size x0 W → Calls Try.prog 24 #[.pointer b, .int .u64 a1] W fun e w' => e = .returned (.tuple #[optV none, .bool false]) ∧ Hid (Below W.heap.size W w')) := fun W h => nb_get a1 h.bk
  have HTak : Hid (∀ {b : Option Addr} W, NbS w b w.heap.size x0 W → Calls Try.prog 12 #[.pointer b, .int .u64 a1] W fun e w' => e = .returned (.tuple #[optV none, .bool false]) ∧ Hid (Below W.heap.size W w')) := fun W h => nb_take a1 h.bk
  have HBes : Hid (∀ {b : Option Addr} W, NbS w b w.heap.size x0 W → Calls Try.prog 23 #[.pointer b, .int .i64 x0.side] W fun e w' => e = .returned (.tuple #[optV none, .bool false]) ∧ Hid (Below W.heap.size W w')) := fun W h => nb_best x0.side HS.out h.bk
  have HClo : Hid (∀ W, Calls Try.prog 16 #[.pointer none] W fun e w' => e = .returned (.pointer none) ∧ w' = W) := fun W => clone_no none nilS nilS W (nb_none W)
  obtain ⟨W0, hW0⟩ : ∃ W0, ((w.alloc (.cells (OC x0) 32)).alloc (.cells #[.map none] 58)).alloc (.cells #[.pointer none, .pointer (some ⟨w.heap.size + 1, 0, none⟩)] 24) = W0 := ⟨_, rfl⟩
  have B0 : Below w.heap.size w W0 := by rw [← hW0]; exact (((Below.refl _ _).alloc (Nat.le_refl _) _).alloc (by simp) _).alloc (by simp; omega) _
  have C0 : Cl 32 W0 w.heap.size (OC x0) := by rw [← hW0]; exact hd_prev (by simp; omega) (hd_prev (by simp) (hd_last rfl))
  have C1 : Cl 58 W0 (w.heap.size + 1) #[.map none] := by rw [← hW0]; exact hd_prev (by simp) (hd_last (by simp))
  have C2 : Cl 24 W0 (w.heap.size + 2) #[.pointer none, .pointer (some ⟨w.heap.size + 1, 0, none⟩)] := by rw [← hW0]; exact hd_last (by simp)
  have HC := Lib.hid (And.intro B0 (And.intro C0 (And.intro C1 C2)))
  clear B0 C0 C1 C2
  go_enter Try.func6, Try.ntmps6
  go_wp2_with fail
  clear hW0
  go_loopw [21] (fun s wr => ∃ k : Nat, s = .int .i64 (k : Int) ∧ Hid (k ≤ 2 ∧ Below W0.heap.size W0 wr)) (fun s _ => match s with | .int _ z => 2 - z.toNat | _ => 0)
  case atStart => exact ⟨0, rfl, Nat.zero_le _, Below.refl _ _⟩
  case round =>
    obtain ⟨k, rfl, hd⟩ := hrel
    have hb := hd.out.2
    have C2 : Cl 24 wr (w.heap.size + 2) #[.pointer none, .pointer (some ⟨w.heap.size + 1, 0, none⟩)] := (hb.block _ (blk_lt HC.out.2.2.2)).trans HC.out.2.2.2
    have C1 : Cl 58 wr (w.heap.size + 1) #[.map none] := (hb.block _ (blk_lt HC.out.2.2.1)).trans HC.out.2.2.1
    have C0 : Cl 32 wr w.heap.size (OC x0) := (hb.block _ (blk_lt HC.out.2.1)).trans HC.out.2.1
    by_cases hk : k < 2
    · obtain ⟨b, hcb, hbk⟩ : ∃ b, wr.cell? ⟨w.heap.size + 2, k, none⟩ = some (.pointer b) ∧ NbS w b w.heap.size x0 wr := by
        have hk' : k = 0 ∨ k = 1 := by omega
        have hbe : Below w.heap.size w wr := HC.out.1.trans (hb.mono HC.out.1.size)
        rcases hk' with rfl | rfl
        · exact ⟨none, (C2.c 0).trans rfl, nb_none wr, C0, hbe⟩
        · exact ⟨_, (C2.c 1).trans rfl, nb_bare C1, C0, hbe⟩
      have hkI : (k : Int) < 2 := by omega
      have Hk := Lib.hid hk
      have HX0 := Lib.hid hbk
      clear hb C2 C1 C0 hk hbk
      go_wp2_with (first | ((with_reducible refine (HGet.out _ HX0.out).mono ?_); rintro e v1 ⟨rfl, hb1⟩; dsimp only [optV]; have HX1 := Lib.hid ((HX0.out.below hb1.out).alloc (.cells (OC ⟨0, 0, 0, 0, 0, 0⟩) 32)); have HF1 : Hid (Below W0.heap.size W0 (v1.alloc (.cells (OC ⟨0, 0, 0, 0, 0, 0⟩) 32))) := (hd.out.2.trans (hb1.out.mono hd.out.2.size)).alloc (Nat.le_trans hd.out.2.size hb1.out.size) _; clear hb1 HX0) | ((with_reducible refine (HTak.out _ HX1.out).mono ?_); rintro e v2 ⟨rfl, hb2⟩; dsimp only [optV]; have HX2 := Lib.hid ((HX1.out.below hb2.out).alloc (.cells (OC ⟨0, 0, 0, 0, 0, 0⟩) 32)); have HF2 : Hid (Below W0.heap.size W0 (v2.alloc (.cells (OC ⟨0, 0, 0, 0, 0, 0⟩) 32))) := (HF1.out.trans (hb2.out.mono HF1.out.size)).alloc (Nat.le_trans HF1.out.size hb2.out.size) _; have hx2 : (v2.alloc (.cells (OC ⟨0, 0, 0, 0, 0, 0⟩) 32)).cell? ⟨w.heap.size, 2, none⟩ = some (.int .i64 x0.side) := (HX2.out.cl.c 2).trans rfl; clear hb2 HX1) | ((with_reducible refine (HBes.out _ HX2.out).mono ?_); rintro e v3 ⟨rfl, hb3⟩; dsimp only [optV]; have HX3 := Lib.hid ((HX2.out.below hb3.out).alloc (.cells (OC ⟨0, 0, 0, 0, 0, 0⟩) 32)); have HF3 : Hid (Below W0.heap.size W0 (v3.alloc (.cells (OC ⟨0, 0, 0, 0, 0, 0⟩) 32))) := (HF2.out.trans (hb3.out.mono HF2.out.size)).alloc (Nat.le_trans HF2.out.size hb3.out.size) _; clear hb3 HX2 hx2))
      refine wp_region_held_drew (S := fun W => NbS w b w.heap.size x0 W ∧ Below W0.heap.size W0 W) (by kernel_rfl) (by exact ⟨HX3.out.drew, HF3.out.drew⟩) (fun hHeld => ?_)
      refine wpAnyH_take (i := 0) (oi := ⟨some 44, _, _, _, _, _⟩) (v := ?_) rfl (by kernel_rfl) (by kernel_rfl) (by kernel_rfl) (fun _ _ _ h => h) (Or.inl ⟨by kernel_rfl, ?_⟩) (by assumption) ?_
      rotate_left
      · (intro w hSw; (try dsimp only at hSw); go_simp; try with_reducible rfl)
      (repeat (first | simp only [Act.put] | simp only [List.setIfInBounds_toArray] | simp only [List.set_cons_succ] | simp only [List.set_cons_zero]))
      refine wpAnyH_take (i := 1) (oi := ⟨some 45, _, _, _, _, _⟩) (v := ?_) rfl (by kernel_rfl) (by kernel_rfl) (by kernel_rfl) (fun _ _ _ h => h) (Or.inl ⟨by kernel_rfl, ?_⟩) (by assumption) ?_
      rotate_left
      · (intro w hSw; obtain ⟨hs0, hs1, hs2, hs3, hs4, hs5⟩ := six_of hSw.1.cl; (try dsimp only at hSw); go_simp; try with_reducible rfl)
      (repeat (first | simp only [Act.put] | simp only [List.setIfInBounds_toArray] | simp only [List.set_cons_succ] | simp only [List.set_cons_zero]))
      refine wpAnyH_ready (rs := [2]) (by kernel_rfl) (by simp) ?_
      refine AllReadyH.cons (o := ⟨some 46, _, _, _, _, _⟩) rfl (fun K hK => ?_) AllReadyH.nil
      go_simp
      ((with_reducible refine (HAdd.out _ hHeld.1).mono ?_); rintro e y1 ⟨rfl, hb⟩)
      refine hK.out _ _ (by exact ⟨hHeld.1.below hb.out, hHeld.2.trans (hb.out.mono hHeld.2.size)⟩) (fun hHeld => ?_)
      clear hK K
      (repeat (first | simp only [Act.put] | simp only [List.setIfInBounds_toArray] | simp only [List.set_cons_succ] | simp only [List.set_cons_zero]))
      refine wpAnyH_take (i := 3) (oi := ⟨some 47, _, _, _, _, _⟩) (v := ?_) rfl (by kernel_rfl) (by kernel_rfl) (by kernel_rfl) (fun _ _ _ h => h) (Or.inl ⟨by kernel_rfl, ?_⟩) (by assumption) ?_
      rotate_left
      · (intro w hSw; (try dsimp only at hSw); go_simp; try with_reducible rfl)
      (repeat (first | simp only [Act.put] | simp only [List.setIfInBounds_toArray] | simp only [List.set_cons_succ] | simp only [List.set_cons_zero]))
      refine wpAnyH_take (i := 4) (oi := ⟨some 48, _, _, _, _, _⟩) (v := ?_) rfl (by kernel_rfl) (by kernel_rfl) (by kernel_rfl) (fun _ _ _ h => h) (Or.inl ⟨by kernel_rfl, ?_⟩) (by assumption) ?_
      rotate_left
      · (intro w hSw; (try dsimp only at hSw); go_simp; try with_reducible rfl)
      (repeat (first | simp only [Act.put] | simp only [List.setIfInBounds_toArray] | simp only [List.set_cons_succ] | simp only [List.set_cons_zero]))
      refine wpAnyH_take (i := 5) (oi := ⟨some 49, _, _, _, _, _⟩) (v := ?_) rfl (by kernel_rfl) (by kernel_rfl) (by kernel_rfl) (fun _ _ _ h => h) (Or.inl ⟨by kernel_rfl, ?_⟩) (by assumption) ?_
      rotate_left
      · (intro w hSw; (try dsimp only at hSw); go_simp; try with_reducible rfl)
      (repeat (first | simp only [Act.put] | simp only [List.setIfInBounds_toArray] | simp only [List.set_cons_succ] | simp only [List.set_cons_zero]))
      refine wpAnyH_take (i := 6) (oi := ⟨some 50, _, _, _, _, _⟩) (v := ?_) rfl (by kernel_rfl) (by kernel_rfl) (by kernel_rfl) (fun _ _ _ h => h) (Or.inl ⟨by kernel_rfl, ?_⟩) (by assumption) ?_
      rotate_left
      · (intro w hSw; (try dsimp only at hSw); go_simp; try with_reducible rfl)
      (repeat (first | simp only [Act.put] | simp only [List.setIfInBounds_toArray] | simp only [List.set_cons_succ] | simp only [List.set_cons_zero]))
      refine wpAnyH_take (i := 7) (oi := ⟨some 51, _, _, _, _, _⟩) (v := ?_) rfl (by kernel_rfl) (by kernel_rfl) (by kernel_rfl) (fun _ _ _ h => h) (Or.inl ⟨by kernel_rfl, ?_⟩) (by assumption) ?_
      rotate_left
      · (intro w hSw; (try dsimp only at hSw); go_simp; try with_reducible rfl)
      (repeat (first | simp only [Act.put] | simp only [List.setIfInBounds_toArray] | simp only [List.set_cons_succ] | simp only [List.set_cons_zero]))
      refine wpAnyH_ready (rs := [8]) (by kernel_rfl) (by simp) ?_
      refine AllReadyH.cons (o := ⟨some 52, _, _, _, _, _⟩) rfl (fun K hK => ?_) AllReadyH.nil
      go_simp
      ((with_reducible refine (HCut.out _ hHeld.1).mono ?_); rintro e y2 ⟨rfl, hb⟩)
      refine hK.out _ _ (by exact ⟨hHeld.1.below hb.out, hHeld.2.trans (hb.out.mono hHeld.2.size)⟩) (fun hHeld => ?_)
      clear hK K
      (repeat (first | simp only [Act.put] | simp only [List.setIfInBounds_toArray] | simp only [List.set_cons_succ] | simp only [List.set_cons_zero]))
      refine wpAnyH_take (i := 9) (oi := ⟨some 53, _, _, _, _, _⟩) (v := ?_) rfl (by kernel_rfl) (by kernel_rfl) (by kernel_rfl) (fun _ _ _ h => h) (Or.inl ⟨by kernel_rfl, ?_⟩) (by assumption) ?_
      rotate_left
      · (intro w hSw; (try dsimp only at hSw); go_simp; try with_reducible rfl)
      (repeat (first | simp only [Act.put] | simp only [List.setIfInBounds_toArray] | simp only [List.set_cons_succ] | simp only [List.set_cons_zero]))
      refine wpAnyH_take (i := 10) (oi := ⟨some 54, _, _, _, _, _⟩) (v := ?_) rfl (by kernel_rfl) (by kernel_rfl) (by kernel_rfl) (fun _ _ _ h => h) (Or.inl ⟨by kernel_rfl, ?_⟩) (by assumption) ?_
      rotate_left
      · (intro w hSw; (try dsimp only at hSw); go_simp; try with_reducible rfl)
      (repeat (first | simp only [Act.put] | simp only [List.setIfInBounds_toArray] | simp only [List.set_cons_succ] | simp only [List.set_cons_zero]))
      refine wpAnyH_take (i := 11) (oi := ⟨some 55, _, _, _, _, _⟩) (v := ?_) rfl (by kernel_rfl) (by kernel_rfl) (by kernel_rfl) (fun _ _ _ h => h) (Or.inl ⟨by kernel_rfl, ?_⟩) (by assumption) ?_
      rotate_left
      · (intro w hSw; (try dsimp only at hSw); go_simp; try with_reducible rfl)
      (repeat (first | simp only [Act.put] | simp only [List.setIfInBounds_toArray] | simp only [List.set_cons_succ] | simp only [List.set_cons_zero]))
      refine wpAnyH_take (i := 12) (oi := ⟨some 56, _, _, _, _, _⟩) (v := ?_) rfl (by kernel_rfl) (by kernel_rfl) (by kernel_rfl) (fun _ _ _ h => h) (Or.inl ⟨by kernel_rfl, ?_⟩) (by assumption) ?_
      rotate_left
      · (intro w hSw; (try dsimp only at hSw); go_simp; try with_reducible rfl)
      (repeat (first | simp only [Act.put] | simp only [List.setIfInBounds_toArray] | simp only [List.set_cons_succ] | simp only [List.set_cons_zero]))
      refine wpAnyH_take (i := 13) (oi := ⟨some 57, _, _, _, _, _⟩) (v := ?_) rfl (by kernel_rfl) (by kernel_rfl) (by kernel_rfl) (fun _ _ _ h => h) (Or.inl ⟨by kernel_rfl, ?_⟩) (by assumption) ?_
      rotate_left
      · (intro w hSw; (try dsimp only at hSw); go_simp; try with_reducible rfl)
      (repeat (first | simp only [Act.put] | simp only [List.setIfInBounds_toArray] | simp only [List.set_cons_succ] | simp only [List.set_cons_zero]))
      refine wpAnyH_take (i := 14) (oi := ⟨some 58, _, _, _, _, _⟩) (v := ?_) rfl (by kernel_rfl) (by kernel_rfl) (by kernel_rfl) (fun _ _ _ h => h) (Or.inl ⟨by kernel_rfl, ?_⟩) (by assumption) ?_
      rotate_left
      · (intro w hSw; (try dsimp only at hSw); go_simp; try with_reducible rfl)
      (repeat (first | simp only [Act.put] | simp only [List.setIfInBounds_toArray] | simp only [List.set_cons_succ] | simp only [List.set_cons_zero]))
      refine wpAnyH_take (i := 15) (oi := ⟨some 59, _, _, _, _, _⟩) (v := ?_) rfl (by kernel_rfl) (by kernel_rfl) (by kernel_rfl) (fun _ _ _ h => h) (Or.inl ⟨by kernel_rfl, ?_⟩) (by assumption) ?_
      rotate_left
      · (intro w hSw; (try dsimp only at hSw); go_simp; try with_reducible rfl)
      (repeat (first | simp only [Act.put] | simp only [List.setIfInBounds_toArray] | simp only [List.set_cons_succ] | simp only [List.set_cons_zero]))
      refine wpAnyH_take (i := 16) (oi := ⟨some 60, _, _, _, _, _⟩) (v := ?_) rfl (by kernel_rfl) (by kernel_rfl) (by kernel_rfl) (fun _ _ _ h => h) (Or.inl ⟨by kernel_rfl, ?_⟩) (by assumption) ?_
      rotate_left
      · (intro w hSw; (try dsimp only at hSw); go_simp; try with_reducible rfl)
      (repeat (first | simp only [Act.put] | simp only [List.setIfInBounds_toArray] | simp only [List.set_cons_succ] | simp only [List.set_cons_zero]))
      refine wpAnyH_take (i := 17) (oi := ⟨some 61, _, _, _, _, _⟩) (v := ?_) rfl (by kernel_rfl) (by kernel_rfl) (by kernel_rfl) (fun _ _ _ h => h) (Or.inl ⟨by kernel_rfl, ?_⟩) (by assumption) ?_
      rotate_left
      · (intro w hSw; (try dsimp only at hSw); go_simp; try with_reducible rfl)
      (repeat (first | simp only [Act.put] | simp only [List.setIfInBounds_toArray] | simp only [List.set_cons_succ] | simp only [List.set_cons_zero]))
      refine wpAnyH_take (i := 18) (oi := ⟨some 62, _, _, _, _, _⟩) (v := ?_) rfl (by kernel_rfl) (by kernel_rfl) (by kernel_rfl) (fun _ _ _ h => h) (Or.inl ⟨by kernel_rfl, ?_⟩) (by assumption) ?_
      rotate_left
      · (intro w hSw; (try dsimp only at hSw); go_simp; try with_reducible rfl)
      (repeat (first | simp only [Act.put] | simp only [List.setIfInBounds_toArray] | simp only [List.set_cons_succ] | simp only [List.set_cons_zero]))
      refine wpAnyH_take (i := 19) (oi := ⟨some 63, _, _, _, _, _⟩) (v := ?_) rfl (by kernel_rfl) (by kernel_rfl) (by kernel_rfl) (fun _ _ _ h => h) (Or.inl ⟨by kernel_rfl, ?_⟩) (by assumption) ?_
      rotate_left
      · (intro w hSw; (try dsimp only at hSw); go_simp; try with_reducible rfl)
      (repeat (first | simp only [Act.put] | simp only [List.setIfInBounds_toArray] | simp only [List.set_cons_succ] | simp only [List.set_cons_zero]))
      refine wpAnyH_take (i := 20) (oi := ⟨some 64, _, _, _, _, _⟩) (v := ?_) rfl (by kernel_rfl) (by kernel_rfl) (by kernel_rfl) (fun _ _ _ h => h) (Or.inl ⟨by kernel_rfl, ?_⟩) (by assumption) ?_
      rotate_left
      · (intro w hSw; (try dsimp only at hSw); go_simp; try with_reducible rfl)
      (repeat (first | simp only [Act.put] | simp only [List.setIfInBounds_toArray] | simp only [List.set_cons_succ] | simp only [List.set_cons_zero]))
      refine wpAnyH_take (i := 21) (oi := ⟨some 65, _, _, _, _, _⟩) (v := ?_) rfl (by kernel_rfl) (by kernel_rfl) (by kernel_rfl) (fun _ _ _ h => h) (Or.inl ⟨by kernel_rfl, ?_⟩) (by assumption) ?_
      rotate_left
      · (intro w hSw; (try dsimp only at hSw); go_simp; try with_reducible rfl)
      (repeat (first | simp only [Act.put] | simp only [List.setIfInBounds_toArray] | simp only [List.set_cons_succ] | simp only [List.set_cons_zero]))
      refine wpAnyH_take (i := 24) (oi := ⟨some 68, _, _, _, _, _⟩) (v := ?_) rfl (by kernel_rfl) (by kernel_rfl) (by kernel_rfl) (fun _ _ _ h => h) (Or.inl ⟨by kernel_rfl, ?_⟩) (by assumption) ?_
      rotate_left
      · (intro w hSw; (try dsimp only at hSw); go_simp; try with_reducible rfl)
      (repeat (first | simp only [Act.put] | simp only [List.setIfInBounds_toArray] | simp only [List.set_cons_succ] | simp only [List.set_cons_zero]))
      refine wpAnyH_take (i := 25) (oi := ⟨some 69, _, _, _, _, _⟩) (v := ?_) rfl (by kernel_rfl) (by kernel_rfl) (by kernel_rfl) (fun _ _ _ h => h) (Or.inl ⟨by kernel_rfl, ?_⟩) (by assumption) ?_
      rotate_left
      · (intro w hSw; (try dsimp only at hSw); go_simp; try with_reducible rfl)
      (repeat (first | simp only [Act.put] | simp only [List.setIfInBounds_toArray] | simp only [List.set_cons_succ] | simp only [List.set_cons_zero]))
      refine wpAnyH_take (i := 26) (oi := ⟨some 70, _, _, _, _, _⟩) (v := ?_) rfl (by kernel_rfl) (by kernel_rfl) (by kernel_rfl) (fun _ _ _ h => h) (Or.inl ⟨by kernel_rfl, ?_⟩) (by assumption) ?_
      rotate_left
      · (intro w hSw; obtain ⟨hs0, hs1, hs2, hs3, hs4, hs5⟩ := six_of hSw.1.cl; (try dsimp only at hSw); go_simp; try with_reducible rfl)
      (repeat (first | simp only [Act.put] | simp only [List.setIfInBounds_toArray] | simp only [List.set_cons_succ] | simp only [List.set_cons_zero]))
      refine wpAnyH_take (i := 27) (oi := ⟨some 71, _, _, _, _, _⟩) (v := ?_) rfl (by kernel_rfl) (by kernel_rfl) (by kernel_rfl) (fun _ _ _ h => h) (Or.inl ⟨by kernel_rfl, ?_⟩) (by assumption) ?_
      rotate_left
      · (intro w hSw; (try dsimp only at hSw); go_simp; try with_reducible rfl)
      (repeat (first | simp only [Act.put] | simp only [List.setIfInBounds_toArray] | simp only [List.set_cons_succ] | simp only [List.set_cons_zero]))
      refine wpAnyH_take (i := 28) (oi := ⟨some 72, _, _, _, _, _⟩) (v := ?_) rfl (by kernel_rfl) (by kernel_rfl) (by kernel_rfl) (fun _ _ _ h => h) (Or.inl ⟨by kernel_rfl, ?_⟩) (by assumption) ?_
      rotate_left
      · (intro w hSw; obtain ⟨hs0, hs1, hs2, hs3, hs4, hs5⟩ := six_of hSw.1.cl; (try dsimp only at hSw); go_simp; try with_reducible rfl)
      (repeat (first | simp only [Act.put] | simp only [List.setIfInBounds_toArray] | simp only [List.set_cons_succ] | simp only [List.set_cons_zero]))
      refine wpAnyH_take (i := 32) (oi := ⟨some 76, _, _, _, _, _⟩) (v := ?_) rfl (by kernel_rfl) (by kernel_rfl) (by kernel_rfl) (fun _ _ _ h => h) (Or.inl ⟨by kernel_rfl, ?_⟩) (by assumption) ?_
      rotate_left
      · (intro w hSw; (try dsimp only at hSw); go_simp; try with_reducible rfl)
      (repeat (first | simp only [Act.put] | simp only [List.setIfInBounds_toArray] | simp only [List.set_cons_succ] | simp only [List.set_cons_zero]))
      refine wpAnyH_take (i := 33) (oi := ⟨some 77, _, _, _, _, _⟩) (v := ?_) rfl (by kernel_rfl) (by kernel_rfl) (by kernel_rfl) (fun _ _ _ h => h) (Or.inl ⟨by kernel_rfl, ?_⟩) (by assumption) ?_
      rotate_left
      · (intro w hSw; (try dsimp only at hSw); go_simp; try with_reducible rfl)
      (repeat (first | simp only [Act.put] | simp only [List.setIfInBounds_toArray] | simp only [List.set_cons_succ] | simp only [List.set_cons_zero]))
      refine wpAnyH_take (i := 34) (oi := ⟨some 78, _, _, _, _, _⟩) (v := ?_) rfl (by kernel_rfl) (by kernel_rfl) (by kernel_rfl) (fun _ _ _ h => h) (Or.inl ⟨by kernel_rfl, ?_⟩) (by assumption) ?_
      rotate_left
      · (intro w hSw; obtain ⟨hs0, hs1, hs2, hs3, hs4, hs5⟩ := six_of hSw.1.cl; (try dsimp only at hSw); go_simp; try with_reducible rfl)
      (repeat (first | simp only [Act.put] | simp only [List.setIfInBounds_toArray] | simp only [List.set_cons_succ] | simp only [List.set_cons_zero]))
      refine wpAnyH_take (i := 38) (oi := ⟨some 82, _, _, _, _, _⟩) (v := ?_) rfl (by kernel_rfl) (by kernel_rfl) (by kernel_rfl) (fun _ _ _ h => h) (Or.inl ⟨by kernel_rfl, ?_⟩) (by assumption) ?_
      rotate_left
      · (intro w hSw; (try dsimp only at hSw); go_simp; try with_reducible rfl)
      (repeat (first | simp only [Act.put] | simp only [List.setIfInBounds_toArray] | simp only [List.set_cons_succ] | simp only [List.set_cons_zero]))
      refine wpAnyH_ready (rs := [22]) (by kernel_rfl) (by simp) ?_
      refine AllReadyH.cons (o := ⟨some 66, _, _, _, _, _⟩) rfl (fun K hK => ?_) AllReadyH.nil
      go_simp
      ((with_reducible refine (HAll.out _ hHeld.1).mono ?_); rintro e y3 ⟨A3, c3, rfl, hb⟩)
      refine hK.out _ _ (by exact ⟨hHeld.1.below hb.out, hHeld.2.trans (hb.out.mono hHeld.2.size)⟩) (fun hHeld => ?_)
      clear hK K
      (repeat (first | simp only [Act.put] | simp only [List.setIfInBounds_toArray] | simp only [List.set_cons_succ] | simp only [List.set_cons_zero]))
      refine wpAnyH_take (i := 23) (oi := ⟨some 67, _, _, _, _, _⟩) (v := ?_) rfl (by kernel_rfl) (by kernel_rfl) (by kernel_rfl) (fun _ _ _ h => h) (Or.inl ⟨by kernel_rfl, ?_⟩) (by assumption) ?_
      rotate_left
      · (intro w hSw; (try dsimp only at hSw); go_simp; try with_reducible rfl)
      (repeat (first | simp only [Act.put] | simp only [List.setIfInBounds_toArray] | simp only [List.set_cons_succ] | simp only [List.set_cons_zero]))
      refine wpAnyH_ready (rs := [29]) (by kernel_rfl) (by simp) ?_
      refine AllReadyH.cons (o := ⟨some 73, _, _, _, _, _⟩) rfl (fun K hK => ?_) AllReadyH.nil
      go_simp
      ((with_reducible refine (HLev.out _ hHeld.1).mono ?_); rintro e y4 ⟨A4, c4, rfl, hb⟩)
      refine hK.out _ _ (by exact ⟨hHeld.1.below hb.out, hHeld.2.trans (hb.out.mono hHeld.2.size)⟩) (fun hHeld => ?_)
      clear hK K
      (repeat (first | simp only [Act.put] | simp only [List.setIfInBounds_toArray] | simp only [List.set_cons_succ] | simp only [List.set_cons_zero]))
      refine wpAnyH_take (i := 30) (oi := ⟨some 74, _, _, _, _, _⟩) (v := ?_) rfl (by kernel_rfl) (by kernel_rfl) (by kernel_rfl) (fun _ _ _ h => h) (Or.inl ⟨by kernel_rfl, ?_⟩) (by assumption) ?_
      rotate_left
      · (intro w hSw; (try dsimp only at hSw); go_simp; try with_reducible rfl)
      (repeat (first | simp only [Act.put] | simp only [List.setIfInBounds_toArray] | simp only [List.set_cons_succ] | simp only [List.set_cons_zero]))
      refine wpAnyH_take (i := 31) (oi := ⟨some 75, _, _, _, _, _⟩) (v := ?_) rfl (by kernel_rfl) (by kernel_rfl) (by kernel_rfl) (fun _ _ _ h => h) (Or.inl ⟨by kernel_rfl, ?_⟩) (by assumption) ?_
      rotate_left
      · (intro w hSw; (try dsimp only at hSw); go_simp; try with_reducible rfl)
      (repeat (first | simp only [Act.put] | simp only [List.setIfInBounds_toArray] | simp only [List.set_cons_succ] | simp only [List.set_cons_zero]))
      refine wpAnyH_ready (rs := [35]) (by kernel_rfl) (by simp) ?_
      refine AllReadyH.cons (o := ⟨some 79, _, _, _, _, _⟩) rfl (fun K hK => ?_) AllReadyH.nil
      go_simp
      ((with_reducible refine (HPri.out _ hHeld.1).mono ?_); rintro e y5 ⟨A5, c5, rfl, hb⟩)
      refine hK.out _ _ (by exact ⟨hHeld.1.below hb.out, hHeld.2.trans (hb.out.mono hHeld.2.size)⟩) (fun hHeld => ?_)
      clear hK K
      (repeat (first | simp only [Act.put] | simp only [List.setIfInBounds_toArray] | simp only [List.set_cons_succ] | simp only [List.set_cons_zero]))
      refine wpAnyH_take (i := 36) (oi := ⟨some 80, _, _, _, _, _⟩) (v := ?_) rfl (by kernel_rfl) (by kernel_rfl) (by kernel_rfl) (fun _ _ _ h => h) (Or.inl ⟨by kernel_rfl, ?_⟩) (by assumption) ?_
      rotate_left
      · (intro w hSw; (try dsimp only at hSw); go_simp; try with_reducible rfl)
      (repeat (first | simp only [Act.put] | simp only [List.setIfInBounds_toArray] | simp only [List.set_cons_succ] | simp only [List.set_cons_zero]))
      refine wpAnyH_take (i := 37) (oi := ⟨some 81, _, _, _, _, _⟩) (v := ?_) rfl (by kernel_rfl) (by kernel_rfl) (by kernel_rfl) (fun _ _ _ h => h) (Or.inl ⟨by kernel_rfl, ?_⟩) (by assumption) ?_
      rotate_left
      · (intro w hSw; (try dsimp only at hSw); go_simp; try with_reducible rfl)
      (repeat (first | simp only [Act.put] | simp only [List.setIfInBounds_toArray] | simp only [List.set_cons_succ] | simp only [List.set_cons_zero]))
      refine wpAnyH_ready (rs := [39]) (by kernel_rfl) (by simp) ?_
      refine AllReadyH.cons (o := ⟨some 83, _, _, _, _, _⟩) rfl (fun K hK => ?_) AllReadyH.nil
      go_simp
      ((with_reducible refine (HLen.out _ hHeld.1).mono ?_); rintro e y6 ⟨rfl, hb⟩)
      refine hK.out _ _ (by exact ⟨hHeld.1.below hb.out, hHeld.2.trans (hb.out.mono hHeld.2.size)⟩) (fun hHeld => ?_)
      clear hK K
      (repeat (first | simp only [Act.put] | simp only [List.setIfInBounds_toArray] | simp only [List.set_cons_succ] | simp only [List.set_cons_zero]))
      refine wpAnyH_take (i := 40) (oi := ⟨some 84, _, _, _, _, _⟩) (v := ?_) rfl (by kernel_rfl) (by kernel_rfl) (by kernel_rfl) (fun _ _ _ h => h) (Or.inl ⟨by kernel_rfl, ?_⟩) (by assumption) ?_
      rotate_left
      · (intro w hSw; (try dsimp only at hSw); go_simp; try with_reducible rfl)
      (repeat (first | simp only [Act.put] | simp only [List.setIfInBounds_toArray] | simp only [List.set_cons_succ] | simp only [List.set_cons_zero]))
      refine wpAnyH_take (i := 41) (oi := ⟨some 85, _, _, _, _, _⟩) (v := ?_) rfl (by kernel_rfl) (by kernel_rfl) (by kernel_rfl) (fun _ _ _ h => h) (Or.inl ⟨by kernel_rfl, ?_⟩) (by assumption) ?_
      rotate_left
      · (intro w hSw; (try dsimp only at hSw); go_simp; try with_reducible rfl)
      (repeat (first | simp only [Act.put] | simp only [List.setIfInBounds_toArray] | simp only [List.set_cons_succ] | simp only [List.set_cons_zero]))
      refine wpAnyH_take (i := 42) (oi := ⟨some 86, _, _, _, _, _⟩) (v := ?_) rfl (by kernel_rfl) (by kernel_rfl) (by kernel_rfl) (fun _ _ _ h => h) (Or.inl ⟨by kernel_rfl, ?_⟩) (by assumption) ?_
      rotate_left
      · (intro w hSw; (try dsimp only at hSw); go_simp; try with_reducible rfl)
      (repeat (first | simp only [Act.put] | simp only [List.setIfInBounds_toArray] | simp only [List.set_cons_succ] | simp only [List.set_cons_zero]))
      refine wpAnyH_done (by kernel_rfl) ?_ _
      clear HX3 HF3
      go_wp2_with fail
      exact ⟨⟨k + 1, rfl, Hk.out, hHeld.2⟩, less_left Hk.out⟩
    · obtain rfl : k = 2 := by have := hd.out.1; omega
      have hkI : ¬ ((2 : Nat) : Int) < 2 := by decide
      have HBe : Hid (Below w.heap.size w wr) := HC.out.1.trans (hb.mono HC.out.1.size)
      clear hb C2 C1 C0 hk hd
      go_wp2_with (first | ((with_reducible refine (HClo.out _).mono ?_); rintro e v1 ⟨rfl, rfl⟩) | ((with_reducible refine (HL.out _).mono ?_); rintro e v2 ⟨rfl, hb2⟩))
      go_ret
      exact ⟨rfl, HBe.out.trans (hb2.mono HBe.out.size)⟩
end Go.Proofs.Ytemmbgbmkihbaaa
