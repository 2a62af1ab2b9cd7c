/-
  EventWrites: for every input the law returns true, and each argument reads behind the call as it read before. No condition.
-/
import Derived.Test.YtfglncbgifiigaaRows
import Derived.WalkKit
import Derived.ProofKit
import Derived.OpenShut
import Derived.ShutString
import Derived.ChangeOld
import Derived.Below
import Derived.Carry
import Derived.Test.YtfglncbgifiigaaEvW
namespace Go.Proofs.Ytfglncbgifiigaa.eventWrites
open Go.ChangeShapes Go.WideShapes Go.ChangeAt Go.RowKit
open Go.ChangeMaps (open_string shut_string)
set_option linter.unusedVariables false

theorem own : ownKnob Try.prog.godebug = none := by kernel_rfl
theorem laidOut : laidOutB Try.prog = true := by kernel_rfl

/-- A slice of bytes that came in, as the form reads it. -/
def IsRow (w : World) (a : Option Addr) (len cap : Nat) (zs : List Int) : Prop :=
  (a = none ∧ len = 0 ∧ cap = 0 ∧ zs = []) ∨ ∃ x, a = some x ∧ len ≤ cap ∧ cap ≤ maxLen ∧ zs.length = cap ∧ (∀ i, i < zs.length → w.cell? (x.add i) = some (.int .u8 (zs.getD i 0))) ∧ ∀ n ∈ zs, (Lit.int .u8 n).wf = true

set_option maxHeartbeats 8000000 in
set_option maxRecDepth 100000 in
theorem walk (a0 : Option Addr) (len0 cap0 : Nat) (its0 : List Ev) (a1 : Option Addr) (len1 cap1 : Nat) (z1 : List Int) (w : World) (w0 : Evs w a0 len0 its0 ∧ len0 ≤ cap0 ∧ cap0 ≤ maxLen) (w1 : IsRow w a1 len1 cap1 z1) :
    Calls Try.prog 3 #[.slice a0 len0 cap0, .slice a1 len1 cap1] w fun e w' => e = .returned (.bool true) ∧ Below w.heap.size w w' := by
  have mixed : Try.prog.follows .mixedOrders = true := by kernel_rfl
  have HL := Lib.hid lives21_c
  obtain ⟨hO, hc1, hc2⟩ := w0
  obtain ⟨lm, hs⟩ := slB_of_row w1
  have HRow : Hid (len1 ≤ cap1 ∧ (a1 = none → cap1 = 0)) := by
    rcases w1 with ⟨rfl, rfl, rfl, _⟩ | ⟨x, rfl, h1, h2, h3, h4, _⟩
    · exact ⟨Nat.le_refl _, fun _ => rfl⟩
    · exact ⟨h1, fun e => by cases e⟩
  have HS := Lib.hid hs
  have HLm := Lib.hid hs.1
  clear w1 hs
  by_cases h300 : 300 < len0
  · have hz : (300 : Int) < (len0 : Int) := by omega
    clear hO h300
    go_enter Try.func3, Try.ntmps3
    go_wp2_with fail
    refine (HL.out _).mono ?_
    rintro e w2 ⟨rfl, k2⟩
    have G2 : Hid (Below w.heap.size w w2) := Lib.hid k2
    clear k2
    go_wp2_with fail
    go_ret
    exact ⟨rfl, G2.out⟩
  have hz : ¬ (300 : Int) < (len0 : Int) := by omega
  by_cases hm100 : 100 < len1
  · have hz1 : (100 : Int) < (len1 : Int) := by omega
    clear hO h300 hm100
    go_enter Try.func3, Try.ntmps3
    go_wp2_with fail
    refine (HL.out _).mono ?_
    rintro e w2 ⟨rfl, k2⟩
    have G2 : Hid (Below w.heap.size w w2) := Lib.hid k2
    clear k2
    go_wp2_with fail
    go_ret
    exact ⟨rfl, G2.out⟩
  have hz1 : ¬ (100 : Int) < (len1 : Int) := by omega
  have HO := Lib.hid hO
  have HN := Lib.hid hO.1
  have HOk := Lib.hid hO.2.2.1
  have H300 : Hid (len0 ≤ 300 ∧ len1 ≤ 100) := ⟨by omega, by omega⟩
  have H1 := Lib.hid (ebytes_c a0 len0 cap0 its0 w hO (by omega))
  have HRB := Lib.hid (fun W (B : Below w.heap.size w W) => rbytesE_c a0 len0 cap0 its0 W (HO.out.below B) H300.out.1)
  have HRP := Lib.hid (fun W (B : Below w.heap.size w W) => rput_c a0 len0 cap0 its0 W (HO.out.below B) H300.out.1)
  have HPut := Lib.hid (fun (u : World) (B : Below w.heap.size w u) => eput_c a0 len0 cap0 u.heap.size its0 u (u.alloc (.cells #[.pointer none, .int .i64 0] 32)) (HO.out.below B) H300.out.1 ⟨(Below.refl _ _).alloc (Nat.le_refl _) _, by simp, _, Co.WS.new u, fun k hk => by omega⟩)
  have HLen := Lib.hid (evsB_len HOk.out (by have := H300.out; have := HN.out; omega))
  have HPos := Lib.hid (evsB_pos its0)
  have HWay := Lib.hid (bytesE_ways HOk.out (by have := H300.out; have := HN.out; omega) lm)
  obtain ⟨⟨bs, er⟩, hbs⟩ : ∃ r, bytesE its0 = r := ⟨_, rfl⟩
  rw [hbs] at H1 HRB HWay
  obtain ⟨all, hall⟩ : ∃ all, evsB its0 = all := ⟨_, rfl⟩
  rw [hall] at HRP HPut HLen HPos HWay
  dsimp only at HWay
  clear hO h300 hm100 hbs hall
  have hee : (er == er) = true := by simp
  go_enter Try.func3, Try.ntmps3
  go_wp2_with fail
  refine H1.out.mono ?_
  rintro e u1 ⟨A1, c1, rfl, h1⟩
  dsimp only at h1 ⊢
  have HC1 : Hid (bs.length ≤ c1) := own_cap h1.out.2.2
  have B1 : Hid (Below w.heap.size w u1) := h1.out.2.1
  have S1 : Hid (SlB u1 A1 bs.length bs) := h1.out.1
  have H2 := Lib.hid (HRB.out u1 B1.out)
  clear h1 H1 HRB
  go_wp2_with fail
  refine H2.out.mono ?_
  rintro e u2 ⟨A2, c2, rfl, h2⟩
  dsimp only at h2 ⊢
  have B2 : Hid (Below w.heap.size w u2) := B1.out.trans (h2.out.2.1.mono B1.out.size)
  have S12 : Hid (SlB u2 A1 bs.length bs) := S1.out.fr0 (S := fun _ => False) (Fr.of_below h2.out.2.1) (fun _ _ _ h => h)
  have S2 : Hid (SlB u2 A2 bs.length bs) := h2.out.1
  have H3 := Lib.hid (HPut.out u2 B2.out)
  clear h2 H2 HPut S1 B1
  go_wp2_with fail
  refine H3.out.mono ?_
  rintro e u3 ⟨rfl, h3⟩
  have B3 : Hid (Below w.heap.size w u3) := B2.out.trans (h3.out.1.mono B2.out.size)
  have S13 : Hid (SlB u3 A1 bs.length bs) := S12.out.fr0 (S := fun _ => False) (Fr.of_below h3.out.1) (fun _ _ _ h => h)
  have S23 : Hid (SlB u3 A2 bs.length bs) := S2.out.fr0 (S := fun _ => False) (Fr.of_below h3.out.1) (fun _ _ _ h => h)
  have HWb : Hid (∀ W, Below u3.heap.size u3 W → Calls Try.prog 10 #[.pointer (some ⟨u2.heap.size, 0, none⟩)] W fun e w' => ∃ A c, e = .returned (.slice A all.length c) ∧ Hid (SlB w' A all.length all ∧ Below W.heap.size W w')) := Lib.hid (fun W hW => by
    obtain ⟨b, hB, S, hws, hS⟩ := h3.out
    refine (Co.Bytes_c _ S all W (hws.below hW) (by have := HLen.out; omega)).mono fun e w' h => ?_
    obtain ⟨A, c, he, ho, hb'⟩ := h
    exact ⟨A, c, he, own_slb0 ho, hb'⟩)
  have HPt : Hid (∀ W, Below u3.heap.size u3 W → Calls Try.prog 11 #[.slice a0 len0 cap0] W (BytesIs W all)) := Lib.hid (fun W hW => HRP.out W (B3.out.trans (hW.mono B3.out.size)))
  have HS1 : Hid (∀ W, Below u3.heap.size u3 W → SlB W A1 bs.length bs) := Lib.hid (fun W h => S13.out.fr0 (S := fun _ => False) (Fr.of_below h) (fun _ _ _ h => h))
  have HS2 : Hid (∀ W, Below u3.heap.size u3 W → SlB W A2 bs.length bs) := Lib.hid (fun W h => S23.out.fr0 (S := fun _ => False) (Fr.of_below h) (fun _ _ _ h => h))
  clear h3 H3 HRP S12 S2 S13 S23 B2
  go_wp2_with fail
  refine wp_region_held_drew (S := fun W => Below u3.heap.size u3 W) (by kernel_rfl) (by exact (Below.refl _ _).drew) (fun hHeld => ?_)
  have G0 : Hid (Below u3.heap.size u3 u3.drew) := (Below.refl _ _).drew
  refine wpAnyH_take (i := 0) (oi := ⟨some 34, _, _, _, _, _⟩) (v := ?_) rfl (by kernel_rfl) (by kernel_rfl) (by kernel_rfl) (fun _ _ _ h => h) (Or.inl ⟨by kernel_rfl, ?_⟩) (by assumption) ?_
  rotate_left
  · (intro w hSw; (try dsimp only at hSw); go_simp; try with_reducible rfl)
  (repeat (first | simp only [Act.put] | simp only [List.setIfInBounds_toArray] | simp only [List.set_cons_succ] | simp only [List.set_cons_zero]))
  refine wpAnyH_take (i := 1) (oi := ⟨some 35, _, _, _, _, _⟩) (v := ?_) rfl (by kernel_rfl) (by kernel_rfl) (by kernel_rfl) (fun _ _ _ h => h) (Or.inl ⟨by kernel_rfl, ?_⟩) (by assumption) ?_
  rotate_left
  · (intro w hSw; have hcc := conv_str (c := c1) (HS1.out _ hSw); (try dsimp only at hSw); go_simp; try with_reducible rfl)
  (repeat (first | simp only [Act.put] | simp only [List.setIfInBounds_toArray] | simp only [List.set_cons_succ] | simp only [List.set_cons_zero]))
  refine wpAnyH_take (i := 2) (oi := ⟨some 36, _, _, _, _, _⟩) (v := ?_) rfl (by kernel_rfl) (by kernel_rfl) (by kernel_rfl) (fun _ _ _ h => h) (Or.inl ⟨by kernel_rfl, ?_⟩) (by assumption) ?_
  rotate_left
  · (intro w hSw; (try dsimp only at hSw); go_simp; try with_reducible rfl)
  (repeat (first | simp only [Act.put] | simp only [List.setIfInBounds_toArray] | simp only [List.set_cons_succ] | simp only [List.set_cons_zero]))
  refine wpAnyH_take (i := 3) (oi := ⟨some 37, _, _, _, _, _⟩) (v := ?_) rfl (by kernel_rfl) (by kernel_rfl) (by kernel_rfl) (fun _ _ _ h => h) (Or.inl ⟨by kernel_rfl, ?_⟩) (by assumption) ?_
  rotate_left
  · (intro w hSw; have hcc := conv_str (c := c2) (HS2.out _ hSw); (try dsimp only at hSw); go_simp; try with_reducible rfl)
  (repeat (first | simp only [Act.put] | simp only [List.setIfInBounds_toArray] | simp only [List.set_cons_succ] | simp only [List.set_cons_zero]))
  refine wpAnyH_take (i := 4) (oi := ⟨some 38, _, _, _, _, _⟩) (v := ?_) rfl (by kernel_rfl) (by kernel_rfl) (by kernel_rfl) (fun _ _ _ h => h) (Or.inl ⟨by kernel_rfl, ?_⟩) (by assumption) ?_
  rotate_left
  · (intro w hSw; (try dsimp only at hSw); go_simp; try with_reducible rfl)
  (repeat (first | simp only [Act.put] | simp only [List.setIfInBounds_toArray] | simp only [List.set_cons_succ] | simp only [List.set_cons_zero]))
  refine wpAnyH_take (i := 5) (oi := ⟨some 39, _, _, _, _, _⟩) (v := ?_) rfl (by kernel_rfl) (by kernel_rfl) (by kernel_rfl) (fun _ _ _ h => h) (Or.inl ⟨by kernel_rfl, ?_⟩) (by assumption) ?_
  rotate_left
  · (intro w hSw; (try dsimp only at hSw); go_simp; try with_reducible rfl)
  (repeat (first | simp only [Act.put] | simp only [List.setIfInBounds_toArray] | simp only [List.set_cons_succ] | simp only [List.set_cons_zero]))
  refine wpAnyH_take (i := 6) (oi := ⟨some 40, _, _, _, _, _⟩) (v := ?_) rfl (by kernel_rfl) (by kernel_rfl) (by kernel_rfl) (fun _ _ _ h => h) (Or.inl ⟨by kernel_rfl, ?_⟩) (by assumption) ?_
  rotate_left
  · (intro w hSw; (try dsimp only at hSw); go_simp; try with_reducible rfl)
  (repeat (first | simp only [Act.put] | simp only [List.setIfInBounds_toArray] | simp only [List.set_cons_succ] | simp only [List.set_cons_zero]))
  refine wpAnyH_take (i := 7) (oi := ⟨some 41, _, _, _, _, _⟩) (v := ?_) rfl (by kernel_rfl) (by kernel_rfl) (by kernel_rfl) (fun _ _ _ h => h) (Or.inl ⟨by kernel_rfl, ?_⟩) (by assumption) ?_
  rotate_left
  · (intro w hSw; (try dsimp only at hSw); go_simp; try with_reducible rfl)
  (repeat (first | simp only [Act.put] | simp only [List.setIfInBounds_toArray] | simp only [List.set_cons_succ] | simp only [List.set_cons_zero]))
  refine wpAnyH_take (i := 8) (oi := ⟨some 42, _, _, _, _, _⟩) (v := ?_) rfl (by kernel_rfl) (by kernel_rfl) (by kernel_rfl) (fun _ _ _ h => h) (Or.inl ⟨by kernel_rfl, ?_⟩) (by assumption) ?_
  rotate_left
  · (intro w hSw; (try dsimp only at hSw); go_simp; try with_reducible rfl)
  (repeat (first | simp only [Act.put] | simp only [List.setIfInBounds_toArray] | simp only [List.set_cons_succ] | simp only [List.set_cons_zero]))
  refine wpAnyH_take (i := 9) (oi := ⟨some 43, _, _, _, _, _⟩) (v := ?_) rfl (by kernel_rfl) (by kernel_rfl) (by kernel_rfl) (fun _ _ _ h => h) (Or.inl ⟨by kernel_rfl, ?_⟩) (by assumption) ?_
  rotate_left
  · (intro w hSw; (try dsimp only at hSw); go_simp; try with_reducible rfl)
  (repeat (first | simp only [Act.put] | simp only [List.setIfInBounds_toArray] | simp only [List.set_cons_succ] | simp only [List.set_cons_zero]))
  refine wpAnyH_take (i := 10) (oi := ⟨some 44, _, _, _, _, _⟩) (v := ?_) rfl (by kernel_rfl) (by kernel_rfl) (by kernel_rfl) (fun _ _ _ h => h) (Or.inl ⟨by kernel_rfl, ?_⟩) (by assumption) ?_
  rotate_left
  · (intro w hSw; (try dsimp only at hSw); go_simp; try with_reducible rfl)
  (repeat (first | simp only [Act.put] | simp only [List.setIfInBounds_toArray] | simp only [List.set_cons_succ] | simp only [List.set_cons_zero]))
  refine wpAnyH_take (i := 13) (oi := ⟨some 47, _, _, _, _, _⟩) (v := ?_) rfl (by kernel_rfl) (by kernel_rfl) (by kernel_rfl) (fun _ _ _ h => h) (Or.inl ⟨by kernel_rfl, ?_⟩) (by assumption) ?_
  rotate_left
  · (intro w hSw; (try dsimp only at hSw); go_simp; try with_reducible rfl)
  (repeat (first | simp only [Act.put] | simp only [List.setIfInBounds_toArray] | simp only [List.set_cons_succ] | simp only [List.set_cons_zero]))
  refine wpAnyH_ready (rs := [11]) (by kernel_rfl) (by simp) ?_
  refine AllReadyH.cons (o := ⟨some 45, _, _, _, _, _⟩) rfl (fun K hK => ?_) AllReadyH.nil
  go_simp
  ((with_reducible refine (HWb.out _ G0.out).mono ?_); rintro e y1 ⟨A5, c5, rfl, g5⟩)
  have G1 : Hid (Below u3.heap.size u3 y1) := Lib.hid (G0.out.trans (g5.out.2.mono G0.out.size))
  have S5 : Hid (SlB y1 A5 all.length all) := g5.out.1
  clear g5
  refine hK.out _ _ (by exact G1.out) (fun hHeld => ?_)
  clear hK K
  (repeat (first | simp only [Act.put] | simp only [List.setIfInBounds_toArray] | simp only [List.set_cons_succ] | simp only [List.set_cons_zero]))
  refine wpAnyH_ready (rs := [12, 14]) (by kernel_rfl) (by simp) ?_
  refine AllReadyH.cons (o := ⟨some 46, _, _, _, _, _⟩) rfl (fun K hK => ?_) ?_
  · have hcc := conv_str (c := c5) S5.out
    go_simp
    refine hK.out _ _ (by exact G1.out) (fun hHeld => ?_)
    clear hK K
    (repeat (first | simp only [Act.put] | simp only [List.setIfInBounds_toArray] | simp only [List.set_cons_succ] | simp only [List.set_cons_zero]))
    refine wpAnyH_ready (rs := [14]) (by kernel_rfl) (by simp) ?_
    refine AllReadyH.cons (o := ⟨some 48, _, _, _, _, _⟩) rfl (fun K hK => ?_) AllReadyH.nil
    go_simp
    ((with_reducible refine (HPt.out _ G1.out).mono ?_); rintro e y2 ⟨A6, c6, rfl, g6⟩)
    have G2 : Hid (Below u3.heap.size u3 y2) := Lib.hid (G1.out.trans (g6.out.2.1.mono G1.out.size))
    have S6 : Hid (SlB y2 A6 all.length all) := g6.out.1
    have S52 : Hid (SlB y2 A5 all.length all) := Lib.hid (S5.out.fr0 (S := fun _ => False) (Fr.of_below g6.out.2.1) (fun _ _ _ h => h))
    clear g6
    refine hK.out _ _ (by exact G2.out) (fun hHeld => ?_)
    clear hK K
    (repeat (first | simp only [Act.put] | simp only [List.setIfInBounds_toArray] | simp only [List.set_cons_succ] | simp only [List.set_cons_zero]))
    refine wpAnyH_ready (rs := [15]) (by kernel_rfl) (by simp) ?_
    refine AllReadyH.cons (o := ⟨some 49, _, _, _, _, _⟩) rfl (fun K hK => ?_) AllReadyH.nil
    have hcc := conv_str (c := c6) S6.out
    go_simp
    refine hK.out _ _ (by exact G2.out) (fun hHeld => ?_)
    clear hK K
    (repeat (first | simp only [Act.put] | simp only [List.setIfInBounds_toArray] | simp only [List.set_cons_succ] | simp only [List.set_cons_zero]))
    refine wpAnyH_take (i := 16) (oi := ⟨some 50, _, _, _, _, _⟩) (v := ?_) rfl (by kernel_rfl) (by kernel_rfl) (by kernel_rfl) (fun _ _ _ h => h) (Or.inl ⟨by kernel_rfl, ?_⟩) (by assumption) ?_
    rotate_left
    · (intro w hSw; (try dsimp only at hSw); go_simp; try with_reducible rfl)
    (repeat (first | simp only [Act.put] | simp only [List.setIfInBounds_toArray] | simp only [List.set_cons_succ] | simp only [List.set_cons_zero]))
    refine wpAnyH_take (i := 17) (oi := ⟨some 51, _, _, _, _, _⟩) (v := ?_) rfl (by kernel_rfl) (by kernel_rfl) (by kernel_rfl) (fun _ _ _ h => h) (Or.inl ⟨by kernel_rfl, ?_⟩) (by assumption) ?_
    rotate_left
    · (intro w hSw; (try dsimp only at hSw); go_simp; try with_reducible rfl)
    (repeat (first | simp only [Act.put] | simp only [List.setIfInBounds_toArray] | simp only [List.set_cons_succ] | simp only [List.set_cons_zero]))
    refine wpAnyH_done (by kernel_rfl) ?_ _
    have D0 : Hid (Below w.heap.size w y2) := Lib.hid (B3.out.trans (G2.out.mono B3.out.size))
    have T0 : Hid (SlB y2 A1 bs.length bs) := Lib.hid (HS1.out _ G2.out)
    clear HS1 HS2 HWb HPt B3
    rcases HWay.out with hne | ⟨he0, hb0, hrd⟩
    · have hn0 : (er == (0 : Int)) = false := by simpa using hne
      have hn1 : ¬ er = 0 := hne
      clear hne
      go_wp2_with fail
      refine (HL.out _).mono ?_
      rintro e u9 ⟨rfl, k9⟩
      have D9 : Hid (Below w.heap.size w u9) := Lib.hid (D0.out.trans (k9.mono D0.out.size))
      clear k9
      go_wp2_with fail
      go_ret
      exact ⟨rfl, D9.out⟩
    subst he0
    have HRd0 := Lib.hid hrd
    have HB0 := Lib.hid hb0
    clear hb0 hrd hee
    obtain ⟨bb, boff, hAb⟩ := SlB.some T0.out (by rw [HB0.out]; exact HPos.out)
    subst hAb
    have Bz : Hid (Below w.heap.size w (y2.alloc (Obj.cells #[] 5)) ∧ w.heap.size ≤ (y2.alloc (Obj.cells #[] 5)).heap.size) := ⟨D0.out.alloc D0.out.size _, by have := D0.out.size; simp; omega⟩
    have hown0 := empty_own y2 w D0.out.size
    have S0 : SlB (y2.alloc (Obj.cells #[] 5)) (some ⟨bb, boff, none⟩) bs.length bs := T0.out.fr0 (S := fun _ => False) (Fr.of_below ((Below.refl _ _).alloc (Nat.le_refl _) _)) (fun _ _ _ h => h)
    go_wp2_with (at_builtin; refine append_bytes0 rfl _ _ rfl w.heap.size _ [] rfl hown0 (some ⟨bb, boff, none⟩) _ c1 bs rfl S0 HC1.out (fun e => by cases e) (by have := HLen.out; have := HB0.out; simp; rw [this]; omega) Bz.out.2 ?_)
    intro v4 u4 bs4 HB4 hown4 b4
    have B4 : Hid (Below w.heap.size w u4) := Bz.out.1.trans b4
    have E4 : Hid (bs4 = bs) := Lib.hid (HB4.out.trans (List.nil_append bs))
    have S4 : SlB u4 a1 len1 lm := HS.out.fr0 (S := fun _ => False) (Fr.of_below B4.out) (fun _ _ _ h => h)
    have hsz4 := B4.out.size
    clear hown0 S0 b4 Bz
    go_wp2_with (at_builtin; refine append_bytes0 rfl _ _ rfl w.heap.size _ bs4 rfl hown4 a1 _ cap1 lm rfl S4 HRow.out.1 HRow.out.2 (by have := HLen.out; have := H300.out; rw [E4.out, HB0.out]; omega) hsz4 ?_)
    intro v5 u5 bs5 HB5 hown5 b5
    have B5 : Hid (Below w.heap.size w u5) := B4.out.trans b5
    have E5 : Hid (bs5 = bs ++ lm) := Lib.hid (by rw [HB5.out, E4.out])
    obtain ⟨k5, cp5, hv5, _, _, hs5⟩ := own_slb hown5 (by rw [E5.out, List.length_append, HB0.out]; have := HPos.out; omega)
    subst hv5
    have HOp := Lib.hid (Co.Open_c (some ⟨k5, 0, none⟩) bs5.length cp5 bs5 u5 hs5)
    clear hown4 S4 b5 hown5 hs5 HB4 HB5 hsz4 E4 B4
    go_wp2_with fail
    refine HOp.out.mono ?_
    rintro e u6 ⟨rfl, hu6⟩
    have R6 : Hid (Co.RB u6 u5.heap.size (bs ++ lm) false) := Lib.hid (by
      rw [← hu6, ← E5.out]; exact heap_alloc_new u5 _)
    have B6 : Hid (Below w.heap.size w u6) := Lib.hid (by
      rw [← hu6]; exact B5.out.alloc B5.out.size _)
    have hg := Lib.hid B5.out.size
    generalize u5.heap.size = g at R6 hg ⊢
    have HRd := Lib.hid (eread_c g (bs ++ lm) false u6 R6.out)
    rw [HRd0.out] at HRd
    clear HOp hu6 E5 B5
    go_wp2_with fail
    refine HRd.out.mono ?_
    rintro e u7 ⟨A7, c7, rfl, h7⟩
    dsimp only at h7 ⊢
    have B7 : Hid (Below w.heap.size w u7) := B6.out.trans ((Fr.tch h7.out.2.2.1).below (fun k hk => by have := hg.out; omega) B6.out.size)
    have R7 : Hid (Co.RB u7 g lm false) := h7.out.2.2.2.1
    have X7 : Hid (Evs u7 A7 len0 its0) := Lib.hid (by have := h7.out.1; rw [HN.out] at this; exact this)
    rw [HN.out]
    have HSm := Lib.hid (rSameE_c a0 A7 len0 len0 cap0 c7 its0 its0 u7 (HO.out.below B7.out) X7.out (by have := H300.out; omega) (by have := H300.out; omega))
    rw [(eqEs_iff its0 its0).2 rfl] at HSm
    clear HRd h7 R6 B6
    go_wp2_with fail
    refine HSm.out.mono ?_
    rintro e u8 ⟨rfl, k8⟩
    have B8 : Hid (Below w.heap.size w u8) := B7.out.trans (k8.mono B7.out.size)
    have R8 : Hid (Co.RB u8 g lm false) := rb_below R7.out k8
    have HLf := Lib.hid (Co.Left_c g lm false u8 R8.out)
    rw [HLm.out] at HLf
    clear HSm k8 X7 R7 B7
    have hll : ((len1 : Int) == (len1 : Int)) = true := by simp
    go_wp2_with fail
    refine HLf.out.mono ?_
    rintro e u9 ⟨rfl, rfl⟩
    clear HLf
    go_wp2_with fail
    refine (HL.out _).mono ?_
    rintro e u10 ⟨rfl, k10⟩
    have B10 : Hid (Below w.heap.size w u10) := B8.out.trans (k10.mono B8.out.size)
    clear k10
    go_wp2_with fail
    go_ret
    exact ⟨rfl, B10.out⟩
  refine AllReadyH.cons (o := ⟨some 48, _, _, _, _, _⟩) rfl (fun K hK => ?_) AllReadyH.nil
  go_simp
  ((with_reducible refine (HPt.out _ G1.out).mono ?_); rintro e y2 ⟨A6, c6, rfl, g6⟩)
  have G2 : Hid (Below u3.heap.size u3 y2) := Lib.hid (G1.out.trans (g6.out.2.1.mono G1.out.size))
  have S6 : Hid (SlB y2 A6 all.length all) := g6.out.1
  have S52 : Hid (SlB y2 A5 all.length all) := Lib.hid (S5.out.fr0 (S := fun _ => False) (Fr.of_below g6.out.2.1) (fun _ _ _ h => h))
  clear g6
  refine hK.out _ _ (by exact G2.out) (fun hHeld => ?_)
  clear hK K
  (repeat (first | simp only [Act.put] | simp only [List.setIfInBounds_toArray] | simp only [List.set_cons_succ] | simp only [List.set_cons_zero]))
  refine wpAnyH_ready (rs := [12, 15]) (by kernel_rfl) (by simp) ?_
  refine AllReadyH.cons (o := ⟨some 46, _, _, _, _, _⟩) rfl (fun K hK => ?_) ?_
  · have hcc := conv_str (c := c5) S52.out
    go_simp
    refine hK.out _ _ (by exact G2.out) (fun hHeld => ?_)
    clear hK K
    (repeat (first | simp only [Act.put] | simp only [List.setIfInBounds_toArray] | simp only [List.set_cons_succ] | simp only [List.set_cons_zero]))
    refine wpAnyH_ready (rs := [15]) (by kernel_rfl) (by simp) ?_
    refine AllReadyH.cons (o := ⟨some 49, _, _, _, _, _⟩) rfl (fun K hK => ?_) AllReadyH.nil
    have hcc := conv_str (c := c6) S6.out
    go_simp
    refine hK.out _ _ (by exact G2.out) (fun hHeld => ?_)
    clear hK K
    (repeat (first | simp only [Act.put] | simp only [List.setIfInBounds_toArray] | simp only [List.set_cons_succ] | simp only [List.set_cons_zero]))
    refine wpAnyH_take (i := 16) (oi := ⟨some 50, _, _, _, _, _⟩) (v := ?_) rfl (by kernel_rfl) (by kernel_rfl) (by kernel_rfl) (fun _ _ _ h => h) (Or.inl ⟨by kernel_rfl, ?_⟩) (by assumption) ?_
    rotate_left
    · (intro w hSw; (try dsimp only at hSw); go_simp; try with_reducible rfl)
    (repeat (first | simp only [Act.put] | simp only [List.setIfInBounds_toArray] | simp only [List.set_cons_succ] | simp only [List.set_cons_zero]))
    refine wpAnyH_take (i := 17) (oi := ⟨some 51, _, _, _, _, _⟩) (v := ?_) rfl (by kernel_rfl) (by kernel_rfl) (by kernel_rfl) (fun _ _ _ h => h) (Or.inl ⟨by kernel_rfl, ?_⟩) (by assumption) ?_
    rotate_left
    · (intro w hSw; (try dsimp only at hSw); go_simp; try with_reducible rfl)
    (repeat (first | simp only [Act.put] | simp only [List.setIfInBounds_toArray] | simp only [List.set_cons_succ] | simp only [List.set_cons_zero]))
    refine wpAnyH_done (by kernel_rfl) ?_ _
    have D0 : Hid (Below w.heap.size w y2) := Lib.hid (B3.out.trans (G2.out.mono B3.out.size))
    have T0 : Hid (SlB y2 A1 bs.length bs) := Lib.hid (HS1.out _ G2.out)
    clear HS1 HS2 HWb HPt B3
    rcases HWay.out with hne | ⟨he0, hb0, hrd⟩
    · have hn0 : (er == (0 : Int)) = false := by simpa using hne
      have hn1 : ¬ er = 0 := hne
      clear hne
      go_wp2_with fail
      refine (HL.out _).mono ?_
      rintro e u9 ⟨rfl, k9⟩
      have D9 : Hid (Below w.heap.size w u9) := Lib.hid (D0.out.trans (k9.mono D0.out.size))
      clear k9
      go_wp2_with fail
      go_ret
      exact ⟨rfl, D9.out⟩
    subst he0
    have HRd0 := Lib.hid hrd
    have HB0 := Lib.hid hb0
    clear hb0 hrd hee
    obtain ⟨bb, boff, hAb⟩ := SlB.some T0.out (by rw [HB0.out]; exact HPos.out)
    subst hAb
    have Bz : Hid (Below w.heap.size w (y2.alloc (Obj.cells #[] 5)) ∧ w.heap.size ≤ (y2.alloc (Obj.cells #[] 5)).heap.size) := ⟨D0.out.alloc D0.out.size _, by have := D0.out.size; simp; omega⟩
    have hown0 := empty_own y2 w D0.out.size
    have S0 : SlB (y2.alloc (Obj.cells #[] 5)) (some ⟨bb, boff, none⟩) bs.length bs := T0.out.fr0 (S := fun _ => False) (Fr.of_below ((Below.refl _ _).alloc (Nat.le_refl _) _)) (fun _ _ _ h => h)
    go_wp2_with (at_builtin; refine append_bytes0 rfl _ _ rfl w.heap.size _ [] rfl hown0 (some ⟨bb, boff, none⟩) _ c1 bs rfl S0 HC1.out (fun e => by cases e) (by have := HLen.out; have := HB0.out; simp; rw [this]; omega) Bz.out.2 ?_)
    intro v4 u4 bs4 HB4 hown4 b4
    have B4 : Hid (Below w.heap.size w u4) := Bz.out.1.trans b4
    have E4 : Hid (bs4 = bs) := Lib.hid (HB4.out.trans (List.nil_append bs))
    have S4 : SlB u4 a1 len1 lm := HS.out.fr0 (S := fun _ => False) (Fr.of_below B4.out) (fun _ _ _ h => h)
    have hsz4 := B4.out.size
    clear hown0 S0 b4 Bz
    go_wp2_with (at_builtin; refine append_bytes0 rfl _ _ rfl w.heap.size _ bs4 rfl hown4 a1 _ cap1 lm rfl S4 HRow.out.1 HRow.out.2 (by have := HLen.out; have := H300.out; rw [E4.out, HB0.out]; omega) hsz4 ?_)
    intro v5 u5 bs5 HB5 hown5 b5
    have B5 : Hid (Below w.heap.size w u5) := B4.out.trans b5
    have E5 : Hid (bs5 = bs ++ lm) := Lib.hid (by rw [HB5.out, E4.out])
    obtain ⟨k5, cp5, hv5, _, _, hs5⟩ := own_slb hown5 (by rw [E5.out, List.length_append, HB0.out]; have := HPos.out; omega)
    subst hv5
    have HOp := Lib.hid (Co.Open_c (some ⟨k5, 0, none⟩) bs5.length cp5 bs5 u5 hs5)
    clear hown4 S4 b5 hown5 hs5 HB4 HB5 hsz4 E4 B4
    go_wp2_with fail
    refine HOp.out.mono ?_
    rintro e u6 ⟨rfl, hu6⟩
    have R6 : Hid (Co.RB u6 u5.heap.size (bs ++ lm) false) := Lib.hid (by
      rw [← hu6, ← E5.out]; exact heap_alloc_new u5 _)
    have B6 : Hid (Below w.heap.size w u6) := Lib.hid (by
      rw [← hu6]; exact B5.out.alloc B5.out.size _)
    have hg := Lib.hid B5.out.size
    generalize u5.heap.size = g at R6 hg ⊢
    have HRd := Lib.hid (eread_c g (bs ++ lm) false u6 R6.out)
    rw [HRd0.out] at HRd
    clear HOp hu6 E5 B5
    go_wp2_with fail
    refine HRd.out.mono ?_
    rintro e u7 ⟨A7, c7, rfl, h7⟩
    dsimp only at h7 ⊢
    have B7 : Hid (Below w.heap.size w u7) := B6.out.trans ((Fr.tch h7.out.2.2.1).below (fun k hk => by have := hg.out; omega) B6.out.size)
    have R7 : Hid (Co.RB u7 g lm false) := h7.out.2.2.2.1
    have X7 : Hid (Evs u7 A7 len0 its0) := Lib.hid (by have := h7.out.1; rw [HN.out] at this; exact this)
    rw [HN.out]
    have HSm := Lib.hid (rSameE_c a0 A7 len0 len0 cap0 c7 its0 its0 u7 (HO.out.below B7.out) X7.out (by have := H300.out; omega) (by have := H300.out; omega))
    rw [(eqEs_iff its0 its0).2 rfl] at HSm
    clear HRd h7 R6 B6
    go_wp2_with fail
    refine HSm.out.mono ?_
    rintro e u8 ⟨rfl, k8⟩
    have B8 : Hid (Below w.heap.size w u8) := B7.out.trans (k8.mono B7.out.size)
    have R8 : Hid (Co.RB u8 g lm false) := rb_below R7.out k8
    have HLf := Lib.hid (Co.Left_c g lm false u8 R8.out)
    rw [HLm.out] at HLf
    clear HSm k8 X7 R7 B7
    have hll : ((len1 : Int) == (len1 : Int)) = true := by simp
    go_wp2_with fail
    refine HLf.out.mono ?_
    rintro e u9 ⟨rfl, rfl⟩
    clear HLf
    go_wp2_with fail
    refine (HL.out _).mono ?_
    rintro e u10 ⟨rfl, k10⟩
    have B10 : Hid (Below w.heap.size w u10) := B8.out.trans (k10.mono B8.out.size)
    clear k10
    go_wp2_with fail
    go_ret
    exact ⟨rfl, B10.out⟩
  refine AllReadyH.cons (o := ⟨some 49, _, _, _, _, _⟩) rfl (fun K hK => ?_) AllReadyH.nil
  have hcc := conv_str (c := c6) S6.out
  go_simp
  refine hK.out _ _ (by exact G2.out) (fun hHeld => ?_)
  clear hK K
  (repeat (first | simp only [Act.put] | simp only [List.setIfInBounds_toArray] | simp only [List.set_cons_succ] | simp only [List.set_cons_zero]))
  refine wpAnyH_ready (rs := [12]) (by kernel_rfl) (by simp) ?_
  refine AllReadyH.cons (o := ⟨some 46, _, _, _, _, _⟩) rfl (fun K hK => ?_) AllReadyH.nil
  have hcc := conv_str (c := c5) S52.out
  go_simp
  refine hK.out _ _ (by exact G2.out) (fun hHeld => ?_)
  clear hK K
  (repeat (first | simp only [Act.put] | simp only [List.setIfInBounds_toArray] | simp only [List.set_cons_succ] | simp only [List.set_cons_zero]))
  refine wpAnyH_take (i := 16) (oi := ⟨some 50, _, _, _, _, _⟩) (v := ?_) rfl (by kernel_rfl) (by kernel_rfl) (by kernel_rfl) (fun _ _ _ h => h) (Or.inl ⟨by kernel_rfl, ?_⟩) (by assumption) ?_
  rotate_left
  · (intro w hSw; (try dsimp only at hSw); go_simp; try with_reducible rfl)
  (repeat (first | simp only [Act.put] | simp only [List.setIfInBounds_toArray] | simp only [List.set_cons_succ] | simp only [List.set_cons_zero]))
  refine wpAnyH_take (i := 17) (oi := ⟨some 51, _, _, _, _, _⟩) (v := ?_) rfl (by kernel_rfl) (by kernel_rfl) (by kernel_rfl) (fun _ _ _ h => h) (Or.inl ⟨by kernel_rfl, ?_⟩) (by assumption) ?_
  rotate_left
  · (intro w hSw; (try dsimp only at hSw); go_simp; try with_reducible rfl)
  (repeat (first | simp only [Act.put] | simp only [List.setIfInBounds_toArray] | simp only [List.set_cons_succ] | simp only [List.set_cons_zero]))
  refine wpAnyH_done (by kernel_rfl) ?_ _
  have D0 : Hid (Below w.heap.size w y2) := Lib.hid (B3.out.trans (G2.out.mono B3.out.size))
  have T0 : Hid (SlB y2 A1 bs.length bs) := Lib.hid (HS1.out _ G2.out)
  clear HS1 HS2 HWb HPt B3
  rcases HWay.out with hne | ⟨he0, hb0, hrd⟩
  · have hn0 : (er == (0 : Int)) = false := by simpa using hne
    have hn1 : ¬ er = 0 := hne
    clear hne
    go_wp2_with fail
    refine (HL.out _).mono ?_
    rintro e u9 ⟨rfl, k9⟩
    have D9 : Hid (Below w.heap.size w u9) := Lib.hid (D0.out.trans (k9.mono D0.out.size))
    clear k9
    go_wp2_with fail
    go_ret
    exact ⟨rfl, D9.out⟩
  subst he0
  have HRd0 := Lib.hid hrd
  have HB0 := Lib.hid hb0
  clear hb0 hrd hee
  obtain ⟨bb, boff, hAb⟩ := SlB.some T0.out (by rw [HB0.out]; exact HPos.out)
  subst hAb
  have Bz : Hid (Below w.heap.size w (y2.alloc (Obj.cells #[] 5)) ∧ w.heap.size ≤ (y2.alloc (Obj.cells #[] 5)).heap.size) := ⟨D0.out.alloc D0.out.size _, by have := D0.out.size; simp; omega⟩
  have hown0 := empty_own y2 w D0.out.size
  have S0 : SlB (y2.alloc (Obj.cells #[] 5)) (some ⟨bb, boff, none⟩) bs.length bs := T0.out.fr0 (S := fun _ => False) (Fr.of_below ((Below.refl _ _).alloc (Nat.le_refl _) _)) (fun _ _ _ h => h)
  go_wp2_with (at_builtin; refine append_bytes0 rfl _ _ rfl w.heap.size _ [] rfl hown0 (some ⟨bb, boff, none⟩) _ c1 bs rfl S0 HC1.out (fun e => by cases e) (by have := HLen.out; have := HB0.out; simp; rw [this]; omega) Bz.out.2 ?_)
  intro v4 u4 bs4 HB4 hown4 b4
  have B4 : Hid (Below w.heap.size w u4) := Bz.out.1.trans b4
  have E4 : Hid (bs4 = bs) := Lib.hid (HB4.out.trans (List.nil_append bs))
  have S4 : SlB u4 a1 len1 lm := HS.out.fr0 (S := fun _ => False) (Fr.of_below B4.out) (fun _ _ _ h => h)
  have hsz4 := B4.out.size
  clear hown0 S0 b4 Bz
  go_wp2_with (at_builtin; refine append_bytes0 rfl _ _ rfl w.heap.size _ bs4 rfl hown4 a1 _ cap1 lm rfl S4 HRow.out.1 HRow.out.2 (by have := HLen.out; have := H300.out; rw [E4.out, HB0.out]; omega) hsz4 ?_)
  intro v5 u5 bs5 HB5 hown5 b5
  have B5 : Hid (Below w.heap.size w u5) := B4.out.trans b5
  have E5 : Hid (bs5 = bs ++ lm) := Lib.hid (by rw [HB5.out, E4.out])
  obtain ⟨k5, cp5, hv5, _, _, hs5⟩ := own_slb hown5 (by rw [E5.out, List.length_append, HB0.out]; have := HPos.out; omega)
  subst hv5
  have HOp := Lib.hid (Co.Open_c (some ⟨k5, 0, none⟩) bs5.length cp5 bs5 u5 hs5)
  clear hown4 S4 b5 hown5 hs5 HB4 HB5 hsz4 E4 B4
  go_wp2_with fail
  refine HOp.out.mono ?_
  rintro e u6 ⟨rfl, hu6⟩
  have R6 : Hid (Co.RB u6 u5.heap.size (bs ++ lm) false) := Lib.hid (by
    rw [← hu6, ← E5.out]; exact heap_alloc_new u5 _)
  have B6 : Hid (Below w.heap.size w u6) := Lib.hid (by
    rw [← hu6]; exact B5.out.alloc B5.out.size _)
  have hg := Lib.hid B5.out.size
  generalize u5.heap.size = g at R6 hg ⊢
  have HRd := Lib.hid (eread_c g (bs ++ lm) false u6 R6.out)
  rw [HRd0.out] at HRd
  clear HOp hu6 E5 B5
  go_wp2_with fail
  refine HRd.out.mono ?_
  rintro e u7 ⟨A7, c7, rfl, h7⟩
  dsimp only at h7 ⊢
  have B7 : Hid (Below w.heap.size w u7) := B6.out.trans ((Fr.tch h7.out.2.2.1).below (fun k hk => by have := hg.out; omega) B6.out.size)
  have R7 : Hid (Co.RB u7 g lm false) := h7.out.2.2.2.1
  have X7 : Hid (Evs u7 A7 len0 its0) := Lib.hid (by have := h7.out.1; rw [HN.out] at this; exact this)
  rw [HN.out]
  have HSm := Lib.hid (rSameE_c a0 A7 len0 len0 cap0 c7 its0 its0 u7 (HO.out.below B7.out) X7.out (by have := H300.out; omega) (by have := H300.out; omega))
  rw [(eqEs_iff its0 its0).2 rfl] at HSm
  clear HRd h7 R6 B6
  go_wp2_with fail
  refine HSm.out.mono ?_
  rintro e u8 ⟨rfl, k8⟩
  have B8 : Hid (Below w.heap.size w u8) := B7.out.trans (k8.mono B7.out.size)
  have R8 : Hid (Co.RB u8 g lm false) := rb_below R7.out k8
  have HLf := Lib.hid (Co.Left_c g lm false u8 R8.out)
  rw [HLm.out] at HLf
  clear HSm k8 X7 R7 B7
  have hll : ((len1 : Int) == (len1 : Int)) = true := by simp
  go_wp2_with fail
  refine HLf.out.mono ?_
  rintro e u9 ⟨rfl, rfl⟩
  clear HLf
  go_wp2_with fail
  refine (HL.out _).mono ?_
  rintro e u10 ⟨rfl, k10⟩
  have B10 : Hid (Below w.heap.size w u10) := B8.out.trans (k10.mono B8.out.size)
  clear k10
  go_wp2_with fail
  go_ret
  exact ⟨rfl, B10.out⟩

set_option maxRecDepth 100000 in
theorem lifted (os : Os) (started : os.Started) (H : Type) (enc : TypeId × Value → H) :
    ReturnsInHanded {} Try.checked os 3 .any (Rows.eventWritesSpec.pre6 enc Try.prog Try.f3 Rows.eventWritesRow.domain false) (Rows.eventWritesSpec.post enc Try.prog Try.f3 false true false false) := by
  refine returnsInHanded_of_change (C := Try.checked) own started (by kernel_rfl) Try.func3
    (ChangeSpec.witness6 (enc := enc) (C := Try.checked) false ⟨#[], #[.slice none 0 0, .slice none 0 0], []⟩ 8 (by kernel_rfl) (by kernel_rfl) (by kernel_rfl) (by kernel_rfl)) ?_
  intro W base args ds gs before hval0 hW hcnd _
  have hval : ∀ (j : Nat) t v, Try.f3.params[j]? = some t → args[j]? = some v → Value.okWide Try.prog W .any base t v := hval0
  have hW' := hW
  obtain ⟨p, q, hA0, hV, rfl, hfz, hnd⟩ := hW
  have hA : DataW.TrodAll enc Try.prog W 0 (fun _ => true) true Try.f3.params.toList args.toList ds p := hA0
  rw [Try.params3] at hA hval
  obtain ⟨v0, vs0, d0, ds0, p0, q0, hargs, rfl, rfl, h0, r0⟩ := trodAll_cons hA
  obtain ⟨v1, vs1, d1, ds1, p1, q1, rfl, rfl, rfl, h1, r1⟩ := trodAll_cons r0
  obtain ⟨rfl, rfl, rfl⟩ := trodAll_nil r1
  obtain rfl : args = #[v0, v1] := by cases args; simp_all
  obtain ⟨rfl, rfl⟩ := trodVars_none hV
  have k0 := h0
  have lt0 : ∀ x ∈ p0, x.block < W.heap.size := by obtain ⟨m, hm⟩ := k0; exact DataW.trod_lt m _ _ _ hm
  obtain ⟨a0, len0, cap0, rfl⟩ := okWide_slice Try.underlying22 (hval 0 22 v0 rfl rfl)
  obtain ⟨its0, w0⟩ := open_evs h0
  have k1 := h1
  have lt1 : ∀ x ∈ p1, x.block < W.heap.size := by obtain ⟨m, hm⟩ := k1; exact DataW.trod_lt m _ _ _ hm
  obtain ⟨a1, len1, cap1, rfl⟩ := okWide_slice Try.underlying23 (hval 1 23 v1 rfl rfl)
  obtain ⟨z1, w1⟩ : ∃ zs, IsRow W a1 len1 cap1 zs := by
    obtain ⟨fuel, hf⟩ := h1
    rcases open_ints Try.underlying23 Try.underlying5 (by kernel_rfl) hf with ⟨hcs, _⟩ | ⟨x, l, c, zs, hcs, _, hl, hm, hz, _, hcell, hwz⟩
    · simp [Value.cells] at hcs
      obtain ⟨rfl, rfl, rfl⟩ := hcs
      exact ⟨[], .inl ⟨rfl, rfl, rfl, rfl⟩⟩
    · simp [Value.cells] at hcs
      obtain ⟨rfl, rfl, rfl⟩ := hcs
      exact ⟨zs, .inr ⟨_, rfl, hl, hm, by simpa using hz, hcell, hwz⟩⟩
  clear hA0 hval0
  refine (walk a0 len0 cap0 its0 a1 len1 cap1 z1 W w0 w1).mono fun e W' ⟨he, bel⟩ => ?_
  subst he
  exact ⟨_, rfl, _, _, _, [], _, [], hW', trodAll_mk1 (shut_bool Try.underlying4 _), (trodAll_cons_mk (Below.trod laidOut (by kernel_rfl) (of_decide_eq_true (by kernel_rfl)) k0 bel lt0) (trodAll_cons_mk (Below.trod laidOut (by kernel_rfl) (of_decide_eq_true (by kernel_rfl)) k1 bel lt1) trodAll_mk0)), rfl, bel.frame _, fun h => by cases h⟩

theorem over : Rows.eventWritesRow.holds Try.pinned (OpenSpec.ofChange Rows.eventWritesSpec) :=
  OpenClaim.holds_of_wide 3 Try.f3 rfl rfl rfl rfl rfl rfl rfl ⟨rfl, rfl, rfl, rfl, rfl⟩ rfl rfl rfl rfl rfl (by kernel_rfl) Try.func3 (by kernel_rfl)
    (of_decide_eq_true (by kernel_rfl)) (by unfold Func.isWrapper; first | (rw [if_pos (by decide +kernel)]; kernel_rfl) | (rw [if_neg (by decide +kernel)]; exact ⟨rfl, rfl⟩))
    (fun os started H enc _ => lifted os started H enc)

theorem proved : Rows.EventWritesSaid := over
end Go.Proofs.Ytfglncbgifiigaa.eventWrites
