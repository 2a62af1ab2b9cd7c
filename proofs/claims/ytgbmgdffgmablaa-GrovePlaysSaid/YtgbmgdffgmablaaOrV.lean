/- The reference's sorted, walked. -/
import Derived.Test.YtgbmgdffgmablaaOrU
import Derived.Test.YtgbmgdffgmablaaOrJ
namespace Go.Proofs.Ytgbmgdffgmablaa
open Go.RowKit Go.Sort Go.Lib Go.Shelf

theorem own_of {w : World} {base n : Nat} {T : TypeId} {v : Value} {xs : List Value} (h : w.ownsRow base T 6 v n xs) : ∀ k, v.ownBlock = some k → base ≤ k ∧ k < w.heap.size := h.lt
theorem mapG (D : List (Od × Nat)) (i : Nat) (h : i < D.length) : (D.map Prod.fst)[i]! = (D[i]!).1 := by
  rw [getElem!_pos _ i (by rw [List.length_map]; exact h), getElem!_pos D i h, List.getElem_map]
theorem rAheadG (x y : Od) (W : World) : Calls Try.prog 64 #[.agg (OC x), .agg (OC y)] W fun e w' => e = .returned (.bool (ahdO x y)) ∧ ∃ q os, w' = Go.Sort.grow (W.drewN q) os :=
  (rAhead_c x y W).mono fun _ _ h => ⟨h.1, h.2.grow⟩
theorem Ods.cellsAt {w : World} {b off len i : Nat} {its : List Od} (h : Ods w (some ⟨b, off, none⟩) len its) (hi : i < len) : (its[i]!).at w b (off + i * 6) := by
  rcases h.2.2.2 with h0 | ⟨b', off', e, _, hc⟩
  · omega
  · injection e with e
    injection e with e1 e2
    subst e1; subst e2
    exact hc i hi
/-- What is sorted, and comes back in a row of its own. -/
def SelIs (w : World) (D0 : List (Od × Nat)) (e : Ending) (w' : World) : Prop := ∃ O : List (Od × Nat), O.Perm D0 ∧ O.Pairwise (fun x y => ltR ltO y x = false) ∧ RowIs w (O.map Prod.fst) e w'

set_option maxHeartbeats 4000000 in
set_option maxRecDepth 1000000 in
theorem rSorted1_c (A : Option Addr) (n c : Nat) (D0 : List (Od × Nat)) (w : World) (H : Ods w A n (D0.map Prod.fst)) (hn : n ≤ 1000) (hnc : n ≤ c) (hD : SelD D0) :
    Calls Try.prog 57 #[.slice A n c] w (SelIs w D0) := by
  have mixed : Try.prog.follows .mixedOrders = true := by kernel_rfl
  obtain ⟨i0, hi0, hz0, hz1, hz2⟩ := info_parts info_ro
  have HA := Lib.hid rAheadG
  have HO : Aside (Ods w A n (D0.map Prod.fst)) := H
  have HOk := Lib.hid H.2.2.1
  have HAw : Hid (∀ b off, A = some ⟨b, off, none⟩ → n = 0 ∨ b < w.heap.size) := Lib.hid (fun b off e => by
    rcases H.2.2.2 with h | ⟨b', off', e', h, _⟩
    · exact .inl h
    · rw [e] at e'; injection e' with e'; injection e' with e1 e2; subst e1; exact .inr h)
  have HI0 : Hid (SelI D0 D0 []) := SelI.start hD
  clear H hD
  go_enter Try.func57, Try.ntmps57
  go_wp2_with fail
  go_loopg [0, 3] n (fun kx s0 v wr => ∃ (A' : Option Addr) (m c' q : Nat) (D O : List (Od × Nat)), s0 = .slice A' m c' ∧ m ≤ kx ∧ m ≤ c' ∧ q + m = n ∧ Hid (SelI D0 D O) ∧ Aside (Ods wr A' m (D.map Prod.fst)) ∧ wr.ownsRow w.heap.size 50 6 v q (ol (O.map Prod.fst)) ∧ Hid (Below w.heap.size w wr) ∧
      Hid (m = 0 ∨ ∀ k b off, v.ownBlock = some k → A' = some ⟨b, off, none⟩ → b ≠ k))
  case atStart =>
    exact ⟨A, n, c, 0, D0, [], rfl, Nat.le_refl _, hnc, by omega, HI0, HO, World.ownsRow_nil _ _ _ _, Below.refl _ _, Lib.hid (.inr (fun k b off e => by cases e))⟩
  case round =>
  clear HO HI0 HAw
  obtain ⟨A', m, c', q, D, O, rfl, hmk, hmc, hqm, HI, HO, hown, hd, HB⟩ := hrel
  by_cases h0 : m = 0
  · have hz : ¬ (m : Int) > 0 := by omega
    have hl : D = [] := by
      have := HO.out.1
      rw [List.length_map] at this
      exact List.length_eq_zero_iff.1 (by omega)
    obtain rfl : q = n := by omega
    obtain ⟨A2, c2, rfl, hc2, ht⟩ := own_ods hown hn (fun x hx => by
      obtain ⟨d, hdm, rfl⟩ := List.mem_map.1 hx
      have hp := HI.out.perm
      rw [hl, List.append_nil] at hp
      exact HOk.out _ (List.mem_map.2 ⟨d, hp.mem_iff.1 hdm, rfl⟩))
    have HF : Hid (O.Perm D0 ∧ O.Pairwise (fun x y => ltR ltO y x = false) ∧ Below w.heap.size w wr ∧ Ods wr A2 q (O.map Prod.fst) ∧ CapOk A2 q c2) := by
      have hp := HI.out.perm
      rw [hl, List.append_nil] at hp
      exact ⟨hp, HI.out.srt, hd.out, ht, hc2⟩
    clear hown hd HI HO HB ht hl
    go_wp2_with fail
    go_ret
    exact ⟨O, HF.out.1, HF.out.2.1, A2, q, c2, rfl, HF.out.2.2⟩
  have hz : (m : Int) > 0 := by omega
  have h1 := HO.out.2.2.2
  rcases h1 with h1 | ⟨b, off, rfl, hbw, _⟩
  · omega
  have HDl : Hid (D.length = m) := by have := HO.out.1; rw [List.length_map] at this; exact this
  have HBn := Lib.hid (fun k e => (HB.out.resolve_left h0) k b off e rfl)
  clear HB h0
  go_wp2_with fail
  obtain ⟨wo, hwo⟩ : ∃ W, W = wr := ⟨_, rfl⟩
  subst hwo
  rw [show decide (0 < m) = true from decide_eq_true (by omega)]
  go_loopg [4, 5] m (fun kx s4 s5 wx => ∃ (k i : Nat), s4 = .int .i64 k ∧ s5 = .int .i64 i ∧ k < i ∧ i ≤ m ∧ m - i ≤ kx ∧ Hid (MinTo D i k) ∧ Hid (Gw wo wx))
  case atStart => exact ⟨0, 1, rfl, rfl, by omega, by omega, by omega, min_one D, Gw.refl wo⟩
  case round =>
  obtain ⟨k, i, rfl, rfl, hki, him, hkx, HM, HG⟩ := hrel
  by_cases hlt : i < m
  · have hltz : (i : Int) < (m : Int) := by omega
    have hkz : (k : Int) < (m : Int) := by omega
    have HOx := HO.out.below (HG.out.b)
    have hx := HOx.cellsAt hlt
    have hy := HOx.cellsAt (show k < m by omega)
    rw [mapG D i (by rw [HDl.out]; exact hlt)] at hx
    rw [mapG D k (by rw [HDl.out]; omega)] at hy
    obtain ⟨x, ex⟩ : ∃ x, (D[i]!).1 = x := ⟨_, rfl⟩
    obtain ⟨y, ey⟩ : ∃ x, (D[k]!).1 = x := ⟨_, rfl⟩
    rw [ex] at hx
    rw [ey] at hy
    have EX := Lib.hid ex
    have EY := Lib.hid ey
    clear ex ey HOx
    obtain ⟨x0, x1, x2, x3, x4, x5⟩ := hx
    obtain ⟨y0, y1, y2, y3, y4, y5⟩ := hy
    have hbx : b < wr.heap.size := Nat.lt_of_lt_of_le hbw HG.out.b.size
    have X0 := fun n os => cell_grown (a := ⟨b, _, none⟩) hbx x0 n os
    have Y0 := fun n os => cell_grown (a := ⟨b, _, none⟩) hbx y0 n os
    have X1 := fun n os => cell_grown (a := ⟨b, _, none⟩) hbx x1 n os
    have Y1 := fun n os => cell_grown (a := ⟨b, _, none⟩) hbx y1 n os
    have X2 := fun n os => cell_grown (a := ⟨b, _, none⟩) hbx x2 n os
    have Y2 := fun n os => cell_grown (a := ⟨b, _, none⟩) hbx y2 n os
    have X3 := fun n os => cell_grown (a := ⟨b, _, none⟩) hbx x3 n os
    have Y3 := fun n os => cell_grown (a := ⟨b, _, none⟩) hbx y3 n os
    have X4 := fun n os => cell_grown (a := ⟨b, _, none⟩) hbx x4 n os
    have Y4 := fun n os => cell_grown (a := ⟨b, _, none⟩) hbx y4 n os
    have X5 := fun n os => cell_grown (a := ⟨b, _, none⟩) hbx x5 n os
    have Y5 := fun n os => cell_grown (a := ⟨b, _, none⟩) hbx y5 n os
    clear x0 x1 x2 x3 x4 x5 y0 y1 y2 y3 y4 y5
    cases ha : ahdO x y with
    | true =>
      have HN : Hid (MinTo D (i + 1) i) := min_yes HI.out.sel (by rw [HDl.out]; exact hlt) hki HM.out (by rw [EX.out, EY.out]; exact ha)
      have hcg := fun W => HA.out x y W
      rw [ha] at hcg
      clear ha
      go_wp2_with fail
      go_quiet_grown ((go_at_call 64; with_reducible refine Calls.grown_of (hcg _)))
      have G2 : Hid (Gw wo (grow (wr.drewN nq) osq)) := HG.out.trans (gw_grow _ _ _)
      clear hcg X0 X1 X2 X3 X4 X5 Y0 Y1 Y2 Y3 Y4 Y5 HG hbx
      generalize grow (wr.drewN nq) osq = w2 at G2 ⊢
      go_wp2_with fail
      go_roundg (m - (i + 1))
      case measure => omega
      case rel => exact ⟨i, i + 1, rfl, by go_num, by omega, by omega, by omega, HN, G2⟩
    | false =>
      have HN : Hid (MinTo D (i + 1) k) := min_no HI.out.sel (by rw [HDl.out]; exact hlt) hki HM.out (by rw [EX.out, EY.out]; exact ha)
      have hcg := fun W => HA.out x y W
      rw [ha] at hcg
      clear ha
      go_wp2_with fail
      go_quiet_grown ((go_at_call 64; with_reducible refine Calls.grown_of (hcg _)))
      have G2 : Hid (Gw wo (grow (wr.drewN nq) osq)) := HG.out.trans (gw_grow _ _ _)
      clear hcg X0 X1 X2 X3 X4 X5 Y0 Y1 Y2 Y3 Y4 Y5 HG hbx
      generalize grow (wr.drewN nq) osq = w2 at G2 ⊢
      go_wp2_with fail
      go_roundg (m - (i + 1))
      case measure => omega
      case rel => exact ⟨k, i + 1, rfl, by go_num, by omega, by omega, by omega, HN, G2⟩
  have hltz : ¬ (i : Int) < (m : Int) := by omega
  obtain rfl : i = m := by omega
  have hs1 := HG.out.b.size
  have hown2 := own_fr (S := fun _ => False) hown (Fr.of_below HG.out.b) (fun _ _ h => h)
  have hd2 : Hid (Below w.heap.size w wr) := hd.out.trans (HG.out.b.mono hd.out.size)
  have HO2 : Aside (Ods wr (some ⟨b, off, none⟩) i (D.map Prod.fst)) := HO.out.below HG.out.b
  have hx := HO2.out.cellsAt hki
  rw [mapG D k (by rw [HDl.out]; exact hki)] at hx
  obtain ⟨x, ex⟩ : ∃ x, (D[k]!).1 = x := ⟨_, rfl⟩
  rw [ex] at hx
  have HIn : Hid (SelI D0 (D.take k ++ D.drop (k + 1)) (O ++ [D[k]!]) ∧ (D[k]!).1 = x) := ⟨HI.out.step (by rw [HDl.out]; exact hki) (by rw [HDl.out]; exact HM.out), ex⟩
  have hbx : b < wr.heap.size := by omega
  clear ex hown hd HO HI HM HG hs1
  obtain ⟨x0, x1, x2, x3, x4, x5⟩ := hx
  have hsz := hd2.out.size
  go_wp2_with (at_builtin; refine wpList_append_own _ rfl _ _ 46 rfl w.heap.size 50 i0 (.agg (OC ⟨0, 0, 0, 0, 0, 0⟩)) 6 48 Try.underlying46 hi0 hz0 hz1 hz2 rfl (by decide) _ _ _ rfl (hown2.alloc _) ⟨wr.heap.size, 0, none⟩ 1 1 (encO x) rfl rfl ?c1 ?c2 ?c3 ?c4 ?c5 ?_)
  case c1 => first | exact six_news _ x | exact fun j u h => h
  case c2 => exact enc_one x
  case c3 => unfold maxLen; omega
  case c4 => omega
  case c5 => first | omega | (simp; omega)
  intro v1 w1 hown1 hg1 _
  have hB1 : Hid (Below w.heap.size w w1) := Below.grown (hd2.out.alloc hsz _) hg1 (by simp; omega) (fun k hk => (hown2.lt k hk).1)
  have hs1 := hg1.size
  have HO3 : Aside (Ods w1 (some ⟨b, off, none⟩) i (D.map Prod.fst)) := (HO2.out.below ((Below.refl wr.heap.size wr).alloc (Nat.le_refl _) _)).keep hg1.size (fun b' off' e hb' => by
    injection e with e
    injection e with e1 e2
    subst e1
    exact hg1.block _ hb' (fun e => HBn.out b e.symm rfl))
  have hB1s := hB1.out.size
  have eD : Hid (ol ((O ++ [D[k]!]).map Prod.fst) = ol (O.map Prod.fst) ++ encO x) := by
    show _ = _
    rw [List.map_append, List.map_cons, List.map_nil, HIn.out.2, ol_app]
  rw [← eD.out] at hown1
  have HIs : Hid (SelI D0 (D.take k ++ D.drop (k + 1)) (O ++ [D[k]!])) := HIn.out.1
  generalize O ++ [D[k]!] = O' at hown1 HIs eD
  have hq1 : k ≤ i := by omega
  have hp1 := Lib.hid (Ods.part (i := 0) (m := k) HO3.out (by omega))
  have hl1 : Hid ((ol (((D.map Prod.fst).drop 0).take k)).length = k * 6) := by
    show _ = _
    rw [ol_len, List.length_take, List.length_drop, List.length_map, HDl.out]
    congr 1
    omega
  clear x0 x1 x2 x3 x4 x5 HIn HO2 HBn hg1 hown2 hd2 hsz hbx eD
  have hkz : (k : Int) ≤ (c' : Int) := by omega
  go_wp2_with (at_builtin; refine wpList_append_own _ rfl _ _ 46 rfl w1.heap.size 50 i0 (.agg (OC ⟨0, 0, 0, 0, 0, 0⟩)) 6 48 Try.underlying46 hi0 hz0 hz1 hz2 rfl (by decide) (.slice none 0 0) 0 [] rfl (World.ownsRow_nil _ _ _ _) ⟨b, off, none⟩ k _ (ol (((D.map Prod.fst).drop 0).take k)) rfl hl1.out ?c1 ?c2 ?c3 ?c4 ?c5 ?_)
  case c1 => simpa using hp1.out
  case c2 => exact ol_one _
  case c3 => unfold maxLen; omega
  case c4 => omega
  case c5 => exact Nat.le_refl _
  intro v2 w2 hown2 hg2 _
  have B12 : Hid (Below w1.heap.size w1 w2) := Below.grown (Below.refl _ _) hg2 (Nat.le_refl _) (by intro k hk; cases hk)
  have HO4 : Aside (Ods w2 (some ⟨b, off, none⟩) i (D.map Prod.fst)) := HO3.out.below B12.out
  have hp2 := Lib.hid (Ods.part (i := k + 1) (m := i - (k + 1)) HO4.out (by omega))
  have hl2 : Hid ((ol (((D.map Prod.fst).drop (k + 1)).take (i - (k + 1)))).length = (i - (k + 1)) * 6) := by
    show _ = _
    rw [ol_len, List.length_take, List.length_drop, List.length_map, HDl.out]
    congr 1
    omega
  have hs2 := B12.out.size
  clear hg2 HO3 hp1 hl1
  have zk1 : (k : Int) + 1 ≤ (i : Int) := by omega
  have zk2 : (i : Int) - ((k : Int) + 1) = ((i - (k + 1) : Nat) : Int) := by omega
  by_cases hcap : c' = k + 1
  · subst hcap
    go_wp2_with (at_builtin; refine wpList_append_own _ rfl _ _ 46 rfl w1.heap.size 50 i0 (.agg (OC ⟨0, 0, 0, 0, 0, 0⟩)) 6 48 Try.underlying46 hi0 hz0 hz1 hz2 rfl (by decide) _ _ _ rfl hown2 ⟨b, off, none⟩ _ _ [] rfl ?c0 ?c1 ?c2 ?c3 ?c4 ?c5 ?_)
    case c0 =>
      show 0 = _
      omega
    case c1 => intro j u hu; cases hu
    case c2 => intro u hu; cases hu
    case c3 => unfold maxLen; omega
    case c4 => omega
    case c5 => exact hs2
    intro v3 w3 hown3 hg3 _
    have B13 : Hid (Below w1.heap.size w1 w3) := Below.grown B12.out hg3 hs2 (fun k hk => (hown2.lt k hk).1)
    have hownO := own_fr (S := fun _ => False) hown1 (Fr.of_below B13.out) (fun _ _ h => h)
    have hown4 : w3.ownsRow w1.heap.size 50 6 v3 (i - 1) (ol ((D.take k ++ D.drop (k + 1)).map Prod.fst)) := by
      have h1 : D.drop (k + 1) = [] := List.drop_eq_nil_of_le (by rw [HDl.out]; omega)
      have h2 : i - (k + 1) = 0 := by omega
      have h3 : i - 1 = k := by omega
      rw [h1, h3, List.append_nil, List.map_take]
      simpa [h2] using hown3
    have B3 : Hid (Below w.heap.size w w3) := hB1.out.trans (B13.out.mono hB1s)
    obtain ⟨A3, c3, rfl, hc3, ht3⟩ := own_ods hown4 (by omega) (fun x hx => by
      obtain ⟨d, hdm, rfl⟩ := List.mem_map.1 hx
      exact HOk.out _ (List.mem_map.2 ⟨d, HIs.out.perm.mem_iff.1 (List.mem_append.2 (.inr hdm)), rfl⟩))
    have HBx : Hid (i - 1 = 0 ∨ ∀ k b off, v1.ownBlock = some k → A3 = some ⟨b, off, none⟩ → b ≠ k) := Lib.hid (.inr (fun kk bb oo e1 e2 => by
      subst e2
      have := (hown1.lt kk e1).2
      have := (hown4.lt bb rfl).1
      omega))
    clear hown4 hown3 hg3 hown2 B12 B13 hp2 hl2 HO4 hown1 hB1 hB1s
    go_wp2_with fail
    go_roundg (i - 1)
    case measure => omega
    case rel => exact ⟨A3, i - 1, c3, q + 1, _, O', rfl, by omega, hc3.1, by omega, HIs, ht3, hownO, B3, HBx⟩
  · have hcap2 : ¬ k + 1 = c' := by omega
    go_wp2_with (at_builtin; refine wpList_append_own _ rfl _ _ 46 rfl w1.heap.size 50 i0 (.agg (OC ⟨0, 0, 0, 0, 0, 0⟩)) 6 48 Try.underlying46 hi0 hz0 hz1 hz2 rfl (by decide) _ _ _ rfl hown2 ⟨b, off + (k + 1) * 6, none⟩ (i - (k + 1)) _ (ol (((D.map Prod.fst).drop (k + 1)).take (i - (k + 1)))) rfl hl2.out ?c1 ?c2 ?c3 ?c4 ?c5 ?_)
    case c1 => exact hp2.out
    case c2 => exact ol_one _
    case c3 => unfold maxLen; omega
    case c4 => omega
    case c5 => exact hs2
    intro v3 w3 hown3 hg3 _
    have B13 : Hid (Below w1.heap.size w1 w3) := Below.grown B12.out hg3 hs2 (fun k hk => (hown2.lt k hk).1)
    have hownO := own_fr (S := fun _ => False) hown1 (Fr.of_below B13.out) (fun _ _ h => h)
    have hown4 : w3.ownsRow w1.heap.size 50 6 v3 (i - 1) (ol ((D.take k ++ D.drop (k + 1)).map Prod.fst)) := by
      have en : i - 1 = k + (i - (k + 1)) := by omega
      have eL : ol ((D.take k ++ D.drop (k + 1)).map Prod.fst) = ol ((D.map Prod.fst).take k) ++ ol (((D.map Prod.fst).drop (k + 1)).take (i - (k + 1))) := by
        rw [List.map_append, List.map_take, List.map_drop, List.take_of_length_le (i := i - (k + 1)) (by rw [List.length_drop, List.length_map, HDl.out]; exact Nat.le_refl _)]
        unfold ol
        rw [List.flatMap_append]
      rw [en, eL]
      simpa using hown3
    have B3 : Hid (Below w.heap.size w w3) := hB1.out.trans (B13.out.mono hB1s)
    obtain ⟨A3, c3, rfl, hc3, ht3⟩ := own_ods hown4 (by omega) (fun x hx => by
      obtain ⟨d, hdm, rfl⟩ := List.mem_map.1 hx
      exact HOk.out _ (List.mem_map.2 ⟨d, HIs.out.perm.mem_iff.1 (List.mem_append.2 (.inr hdm)), rfl⟩))
    have HBx : Hid (i - 1 = 0 ∨ ∀ k b off, v1.ownBlock = some k → A3 = some ⟨b, off, none⟩ → b ≠ k) := Lib.hid (.inr (fun kk bb oo e1 e2 => by
      subst e2
      have := (hown1.lt kk e1).2
      have := (hown4.lt bb rfl).1
      omega))
    clear hown4 hown3 hg3 hown2 B12 B13 hp2 hl2 HO4 hown1 hB1 hB1s
    go_wp2_with fail
    go_roundg (i - 1)
    case measure => omega
    case rel => exact ⟨A3, i - 1, c3, q + 1, _, O', rfl, by omega, hc3.1, by omega, HIs, ht3, hownO, B3, HBx⟩
end Go.Proofs.Ytgbmgdffgmablaa
