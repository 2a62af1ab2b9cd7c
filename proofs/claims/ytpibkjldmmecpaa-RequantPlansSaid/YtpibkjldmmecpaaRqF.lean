/- requant: the reference's Plan. (By mkrqf.py.) -/
import Derived.Test.YtpibkjldmmecpaaRqE
import Derived.Test.YtpibkjldmmecpaaRqC
import Derived.Deep.AppendLies
namespace Go.Proofs.Ytpibkjldmmecpaa
open Go.RowKit Go.Sort Go.Lib Go.Shelf

theorem at_x {w : World} {b off n k : Nat} {L : List Od} {x : Od} (h : Ods w (some ⟨b, off, none⟩) n L) (hk : k < n) (e : L[k]! = x) : x.at w b (off + k * 6) := by
  rw [← e]; exact h.cellsAt hk

set_option maxHeartbeats 4000000 in
set_option maxRecDepth 1000000 in
theorem rplan_c (A : Option Addr) (n c : Nat) (L : List Od) (r : Rul) (w : World) (H : Ods w A n L) (hn : n ≤ 100) (HR : Tks w r.tkA r.tkL r.tkZ) :
    Calls Try.prog 7 #[.slice A n c, .agg (RC r)] w (PlanIs w L (fitN r.tkZ r.lot)) := by
  have mixed : Try.prog.follows .mixedOrders = true := by kernel_rfl
  obtain ⟨i0, hi0, hz0, hz1, hz2⟩ := info_parts info_ro
  obtain ⟨p, hp⟩ : ∃ p, p = fitN r.tkZ r.lot := ⟨_, rfl⟩
  have HW := Lib.hid (fun (x : Od) W (B : Below w.heap.size w W) => rwhy_c x r W (HR.below B))
  obtain ⟨wy, hwy⟩ : ∃ wy, wy = whyN r.tkZ r.lot := ⟨_, rfl⟩
  have HPW : Hid (∀ x, p x = (wy x == 0)) := Lib.hid (fun x => by rw [hp, hwy]; rfl)
  rw [← hwy] at HW
  rw [← hp]
  have HO : Aside (Ods w A n L) := H
  have HLn := Lib.hid H.1
  clear H hp HR hwy
  go_enter Try.func7, Try.ntmps7
  go_wp2_with fail
  have f0 := heap_alloc_new w (Obj.cells (RC r) 26)
  have b0 : Below w.heap.size w (w.alloc (Obj.cells (RC r) 26)) := (Below.refl _ _).alloc (Nat.le_refl _) _
  generalize w.alloc (Obj.cells (RC r) 26) = w0 at f0 b0 ⊢
  have HD0 : Hid (Below w.heap.size w w0 ∧ w0.heap[w.heap.size]? = some (.cells (RC r) 26 (0, 0))) := ⟨b0, f0⟩
  clear f0 b0
  go_loopg [6, 7, 8] n (fun kx u6 s7 s8 wr => ∃ (k a b : Nat) (B : Option Addr) (d : Nat), s8 = .int .i64 k ∧ s7 = .slice B b d ∧ k ≤ n ∧ n - k ≤ kx ∧ a ≤ k ∧ b ≤ k ∧ CapOk B b d ∧ (B = none ∨ 0 < b) ∧ Aside (Ods wr B b (sortL ltC ((L.take k).filter fun x => !p x))) ∧ wr.ownsRow (w.heap.size + 1) 42 6 u6 a (ol ((L.take k).filter p)) ∧ Hid (Below w.heap.size w wr ∧ wr.heap[w.heap.size]? = some (.cells (RC r) 26 (0, 0))) ∧
      Hid (b = 0 ∨ ∀ j bb off, u6.ownBlock = some j → B = some ⟨bb, off, none⟩ → bb ≠ j))
  case atStart => exact ⟨0, 0, 0, none, 0, rfl, rfl, by omega, by omega, by omega, by omega, ⟨Nat.le_refl _, fun _ => rfl⟩, .inl rfl, (by rw [List.eq_nil_of_length_eq_zero (show (sortL ltC ((L.take 0).filter fun x => !p x)).length = 0 by rw [sortL_len]; rfl)]; exact Ods.nil _), World.ownsRow_nil _ _ _ _, HD0, .inl rfl⟩
  case round =>
    clear HD0
    obtain ⟨k, a, b, B, d, rfl, rfl, hk, hkx, hak, hbk, hcap, hBn, HG, hown, hd, HB⟩ := hrel
    by_cases hlt : k < n
    · have hltI : (k : Int) < (n : Int) := by omega
      have h1 := HO.out.2.2.2
      rcases h1 with h1 | ⟨lb, lo, rfl, hlb0, _⟩
      · omega
      have hkL : k < L.length := by rw [HLn.out]; exact hlt
      have HYP := Lib.hid (fun h => filP_yes (L := L) (k := k) (p := p) hkL h)
      have HNP := Lib.hid (fun h => filP_no (L := L) (k := k) (p := p) hkL h)
      have HYQ := Lib.hid (fun h => filP_yes (L := L) (k := k) (p := fun x => !p x) hkL h)
      have HNQ := Lib.hid (fun h => filP_no (L := L) (k := k) (p := fun x => !p x) hkL h)
      have hsz := hd.out.1.size
      have hlb : lb < wr.heap.size := by omega
      obtain ⟨x, ex⟩ : ∃ x, L[k]! = x := ⟨_, rfl⟩
      rw [ex] at HYP HNP HYQ HNQ
      obtain ⟨x0, x1, x2, x3, x4, x5⟩ := at_x (HO.out.below hd.out.1) hlt ex
      have EX := Lib.hid ex
      obtain ⟨z, hz⟩ : ∃ z, z = wy x := ⟨_, rfl⟩
      have HZ : Hid (p x = (z == 0)) := Lib.hid (by rw [hz]; exact HPW.out x)
      have HWx := Lib.hid (fun W B => HW.out x W B)
      rw [← hz] at HWx
      have hkn := hlt
      clear ex hkL hz
      go_wp2_with fail
      refine wp_region_held_drew (S := (fun W => W.heap[w.heap.size]? = some (.cells (RC r) 26 (0, 0)) ∧ W.heap[lb]? = wr.heap[lb]?)) (by kernel_rfl) (by first | (dsimp only; (first | exact ⟨hd.out.2, rfl⟩ | exact ⟨g1, g2⟩)) | (first | exact ⟨hd.out.2, rfl⟩ | exact ⟨g1, g2⟩)) (fun hHeld => ?_)
      refine wpAnyH_take (i := 0) (oi := ⟨some 17, _, _, _, _, _⟩) (v := ?_) rfl (by kernel_rfl) (by kernel_rfl) (by kernel_rfl) (fun _ _ _ h => h) (Or.inl ⟨by kernel_rfl, ?_⟩) (by assumption) ?_
      rotate_left
      · (intro w hSw; (try dsimp only at hSw); go_simp; try with_reducible rfl)
      (repeat (first | simp only [Act.put] | simp only [List.setIfInBounds_toArray] | simp only [List.set_cons_succ] | simp only [List.set_cons_zero]))
      refine wpAnyH_take (i := 1) (oi := ⟨some 18, _, _, _, _, _⟩) (v := ?_) rfl (by kernel_rfl) (by kernel_rfl) (by kernel_rfl) (fun _ _ _ h => h) (Or.inl ⟨by kernel_rfl, ?_⟩) (by assumption) ?_
      rotate_left
      · (intro w hSw; (try dsimp only at hSw); go_simp; try with_reducible rfl)
      (repeat (first | simp only [Act.put] | simp only [List.setIfInBounds_toArray] | simp only [List.set_cons_succ] | simp only [List.set_cons_zero]))
      refine wpAnyH_take (i := 2) (oi := ⟨some 19, _, _, _, _, _⟩) (v := ?_) rfl (by kernel_rfl) (by kernel_rfl) (by kernel_rfl) (fun _ _ _ h => h) (Or.inl ⟨by kernel_rfl, ?_⟩) (by assumption) ?_
      rotate_left
      · (intro w hSw; (try dsimp only at hSw); go_simp; try with_reducible rfl)
      (repeat (first | simp only [Act.put] | simp only [List.setIfInBounds_toArray] | simp only [List.set_cons_succ] | simp only [List.set_cons_zero]))
      refine wpAnyH_take (i := 3) (oi := ⟨some 20, _, _, _, _, _⟩) (v := ?_) rfl (by kernel_rfl) (by kernel_rfl) (by kernel_rfl) (fun _ _ _ h => h) (Or.inl ⟨by kernel_rfl, ?_⟩) (by assumption) ?_
      rotate_left
      · (intro w hSw; have p0 := (World.cell?_of_block (a := ⟨lb, lo + k * 6, none⟩) hSw.2).trans x0; have p1 := (World.cell?_of_block (a := ⟨lb, lo + k * 6 + 1, none⟩) hSw.2).trans x1; have p2 := (World.cell?_of_block (a := ⟨lb, lo + k * 6 + 2, none⟩) hSw.2).trans x2; have p3 := (World.cell?_of_block (a := ⟨lb, lo + k * 6 + 3, none⟩) hSw.2).trans x3; have p4 := (World.cell?_of_block (a := ⟨lb, lo + k * 6 + 4, none⟩) hSw.2).trans x4; have p5 := (World.cell?_of_block (a := ⟨lb, lo + k * 6 + 5, none⟩) hSw.2).trans x5; (try dsimp only at hSw); go_simp; try with_reducible rfl)
      (repeat (first | simp only [Act.put] | simp only [List.setIfInBounds_toArray] | simp only [List.set_cons_succ] | simp only [List.set_cons_zero]))
      refine wpAnyH_take (i := 4) (oi := ⟨some 21, _, _, _, _, _⟩) (v := ?_) rfl (by kernel_rfl) (by kernel_rfl) (by kernel_rfl) (fun _ _ _ h => h) (Or.inl ⟨by kernel_rfl, ?_⟩) (by assumption) ?_
      rotate_left
      · (intro w hSw; (obtain ⟨r0, r1, r2, r3, r4, r5, r6, r7, r8⟩ := rul_cells hSw.1); (try dsimp only at hSw); go_simp; try with_reducible rfl)
      (repeat (first | simp only [Act.put] | simp only [List.setIfInBounds_toArray] | simp only [List.set_cons_succ] | simp only [List.set_cons_zero]))
      refine wpAnyH_ready (rs := [5]) (by kernel_rfl) (by simp) ?_
      refine AllReadyH.cons (o := ⟨some 22, _, _, _, _, _⟩) rfl (fun K hK => ?_) AllReadyH.nil
      go_simp
      ((with_reducible refine (HWx.out wr.drew hd.out.1.drew).mono ?_); rintro e y1 ⟨rfl, b1⟩; have g1 := bel_heap (w := wr.drew) hd.out.2 b1; have g2 : y1.heap[lb]? = wr.heap[lb]? := b1.block lb hlb)
      (try go_wp2_with fail)
      refine hK.out _ _ (by first | (dsimp only; (first | exact ⟨hd.out.2, rfl⟩ | exact ⟨g1, g2⟩)) | (first | exact ⟨hd.out.2, rfl⟩ | exact ⟨g1, g2⟩) | assumption) (fun hHeld => ?_)
      clear hK K
      (repeat (first | simp only [Act.put] | simp only [List.setIfInBounds_toArray] | simp only [List.set_cons_succ] | simp only [List.set_cons_zero]))
      refine wpAnyH_take (i := 6) (oi := ⟨some 23, _, _, _, _, _⟩) (v := ?_) rfl (by kernel_rfl) (by kernel_rfl) (by kernel_rfl) (fun _ _ _ h => h) (Or.inl ⟨by kernel_rfl, ?_⟩) (by assumption) ?_
      rotate_left
      · (intro w hSw; (try dsimp only at hSw); go_simp; try with_reducible rfl)
      (repeat (first | simp only [Act.put] | simp only [List.setIfInBounds_toArray] | simp only [List.set_cons_succ] | simp only [List.set_cons_zero]))
      refine wpAnyH_done (by kernel_rfl) ?_ _
      have bY : Below wr.heap.size wr y1 := (Below.refl wr.heap.size wr).drew.trans b1
      have hown2 := own_fr (S := fun _ => False) hown (Fr.of_below bY) (fun _ _ h => h)
      have hd2 : Hid (Below w.heap.size w y1 ∧ y1.heap[w.heap.size]? = some (.cells (RC r) 26 (0, 0))) := ⟨hd.out.1.trans (bY.mono hsz), g1⟩
      have HG2 : Aside (Ods y1 B b (sortL ltC ((L.take k).filter fun x => !p x))) := HG.out.below bY
      clear hown hd HG b1 g1 g2 bY x0 x1 x2 x3 x4 x5 hsz hlb HWx
      by_cases hzz : z = 0
      · subst hzz
        have e1 := HZ.out
        have E1 := Lib.hid (HYP.out (by rw [e1]; rfl))
        have E2 := HNQ.out (by rw [e1]; rfl)
        rw [← E2] at HG2
        obtain ⟨x0, x1, x2, x3, x4, x5⟩ := at_x (HO.out.below hd2.out.1) hkn EX.out
        have hs1 := hd2.out.1.size
        have hw1 : w.heap.size < y1.heap.size := blk_lt hd2.out.2
        clear E2 e1 HZ HYP HNP HYQ HNQ
        go_wp2_with (at_builtin; refine wpList_append_lies _ rfl _ _ 34 rfl (w.heap.size + 1) 42 i0 (.agg (OC ⟨0, 0, 0, 0, 0, 0⟩)) 6 48 Try.underlying34 hi0 hz0 hz1 hz2 rfl (by decide) _ _ _ rfl (hown2.alloc _) ⟨y1.heap.size, 0, none⟩ 1 1 (encO x) rfl rfl ?c1 ?c2 (by decide) ?c3 ?c4 ?c5 _ rfl ?_)
        case c1 => exact six_newsT 42 y1 x
        case c2 => exact enc_one x
        case c3 => unfold maxLen; omega
        case c4 => omega
        case c5 => simp; omega
        intro gg cp w3 hown3 hg3 hat hlt3
        have hd3 : Hid (Below w.heap.size w w3 ∧ w3.heap[w.heap.size]? = some (.cells (RC r) 26 (0, 0))) := by
          refine ⟨Below.grown (hd2.out.1.alloc hs1 _) hg3 (by simp; omega) (fun k hk => by have := (hown2.lt k hk).1; omega), ?_⟩
          refine (hg3.block _ (by simp; omega) (fun e => ?_)).trans (hd_prev hw1 hd2.out.2)
          have := (hown2.lt _ e.symm).1
          omega
        have HG3 : Aside (Ods w3 B b (sortL ltC ((L.take (k + 1)).filter fun x => !p x))) := by
          rcases HB.out with h0 | hB
          · subst h0
            have hl := HG2.out.1
            rw [List.eq_nil_of_length_eq_zero hl]
            exact Ods.nil _
          · exact (HG2.out.below ((Below.refl y1.heap.size y1).alloc (Nat.le_refl _) _)).keep hg3.size (fun b' off' e hb' => hg3.block _ hb' (fun e' => hB b' b' off' e'.symm e rfl))
        have HB3 : Hid (b = 0 ∨ ∀ j bb off, (Value.slice (some ⟨gg, 0, none⟩) (a + 1) cp).ownBlock = some j → B = some ⟨bb, off, none⟩ → bb ≠ j) := by
          rcases HB.out with h0 | hB
          · exact .inl h0
          · by_cases h0 : b = 0
            · exact .inl h0
            refine .inr (fun j bb off e1 e2 => ?_)
            have e3 : gg = j := by injection e1
            subst e3
            rcases hat with hat | hat
            · exact hB gg bb off hat e2
            · have h4 := HG2.out.2.2.2
              rcases h4 with h4 | ⟨b4, o4, e4, h5, _⟩
              · exact absurd h4 h0
              · rw [e2] at e4
                injection e4 with e4
                injection e4 with e4 _
                have h6 : gg = y1.heap.size + 1 := by rw [hat]; first | done | simp
                omega
        rw [← ol_app, ← E1.out] at hown3
        clear hg3 hown2 hd2 HG2 HB hat x0 x1 x2 x3 x4 x5 E1
        go_wp2_with fail
        go_roundg (n - (k + 1))
        case measure => omega
        case rel => exact ⟨k + 1, a + 1, b, B, d, by go_num, rfl, by omega, by omega, by omega, by omega, hcap, hBn, HG3, hown3, hd3, HB3⟩
      · have hzb : (z == 0) = false := by simp [hzz]
        have e1 := HZ.out
        rw [hzb] at e1
        have HP := Lib.hid (HNP.out e1)
        have E2 := HYQ.out (by rw [e1]; rfl)
        obtain ⟨SL, hSL⟩ : ∃ SL, SL = sortL ltC ((L.take k).filter fun x => !p x) := ⟨_, rfl⟩
        have HSL : Hid (SL.length = b) := by have := HG2.out.1; rw [← hSL] at this; exact this
        have HSN : Hid (∀ m, m ≤ b → (∀ j, m ≤ j → j < b → ltC x SL[j]! = true) → (m = 0 ∨ ltC x SL[m - 1]! = false) → sortL ltC ((L.take (k + 1)).filter fun x => !p x) = SL.take m ++ x :: SL.drop m) := Lib.hid (fun m hm hj h3 => by
          have hlen : ((L.take k).filter fun x => !p x).length = b := by rw [← HSL.out, hSL, sortL_len]
          rw [E2, hSL]
          rw [hSL] at hj h3
          exact sortL_snoc swo_ltC _ x m (by omega) (fun j h4 h5 => hj j h4 (by omega)) h3)
        rw [← hSL] at HG2
        clear E2 e1 HZ HYP HNP HYQ HNQ hSL HB HW HPW
        go_wp2_with fail
        try rw [hzb]
        clear hzb hzz
        match B, hcap, hBn, HG2 with
        | none, hcap, _, HG2 =>
          obtain rfl : d = 0 := hcap.2 rfl
          obtain rfl : b = 0 := by have := hcap.1; omega
          go_loopg [9] 0 (fun kx s9 wx => ∃ q : Nat, s9 = .int .i64 0 ∧ wx = y1.drewN q)
          case atStart => exact ⟨0, rfl, rfl⟩
          case round =>
            obtain ⟨q, rfl, rfl⟩ := hrel
            go_wp2_with fail
            go_quiet (fail)
            have bq : Below y1.heap.size y1 ((y1.drewN q).drewN nq) := below_drewN (below_drewN (Below.refl _ _) _) _
            generalize (y1.drewN q).drewN nq = y2 at bq ⊢
            have hownT := own_fr (S := fun _ => False) hown2 (Fr.of_below bq) (fun _ _ h => h)
            have hdT : Hid (Below w.heap.size w y2 ∧ y2.heap[w.heap.size]? = some (.cells (RC r) 26 (0, 0))) := ⟨hd2.out.1.trans (bq.mono hd2.out.1.size), bel_heap hd2.out.2 bq⟩
            have HGT : Aside (Ods y2 none 0 SL) := HG2.out.below bq
            have HOT : Aside (Ods y2 (some ⟨lb, lo, none⟩) n L) := HO.out.below hdT.out.1
            have HQ : Hid (sortL ltC ((L.take (k + 1)).filter fun x => !p x) = SL.take 0 ++ x :: SL.drop 0) := Lib.hid (HSN.out 0 (Nat.le_refl _) (fun j h1 h2 => by omega) (.inl rfl))
            clear hown2 hd2 HG2 bq HSN
            have hmb : 0 ≤ 0 := by omega
            have hsy := hdT.out.1.size
            go_wp2_with (at_builtin; refine append_row rfl _ _ rfl y2.heap.size (.slice none 0 0) 0 [] rfl (World.ownsRow_nil _ _ _ _) none 0 0 (SL.take 0) rfl (HGT.out.takeN hmb) ⟨Nat.le_refl _, fun _ => rfl⟩ (by omega) (Nat.le_refl _) ?_)
            intro v1 y3 hown1 b3
            have hown1' : y3.ownsRow y2.heap.size 42 6 v1 0 (ol (SL.take 0)) := by simpa using hown1
            have B3 : Hid (Below y2.heap.size y2 y3) := b3
            obtain ⟨x0, x1, x2, x3, x4, x5⟩ := at_x (HOT.out.below b3) hkn EX.out
            have hs3 := b3.size
            clear b3 hown1
            go_wp2_with (at_builtin; refine wpList_append_own _ rfl _ _ 34 rfl y2.heap.size 42 i0 (.agg (OC ⟨0, 0, 0, 0, 0, 0⟩)) 6 48 Try.underlying34 hi0 hz0 hz1 hz2 rfl (by decide) _ _ _ rfl (hown1'.alloc _) ⟨y3.heap.size, 0, none⟩ 1 1 (encO x) rfl rfl ?c1 ?c2 ?c3 ?c4 ?c5 ?_)
            case c1 => exact six_newsT 42 y3 x
            case c2 => exact enc_one x
            case c3 => unfold maxLen; omega
            case c4 => omega
            case c5 => simp; omega
            intro v2 y4 hown3 hg4 _
            have B23 : Hid (Below y2.heap.size y2 y4) := Below.grown (B3.out.alloc hs3 _) hg4 (by simp; omega) (fun j hj => (hown1'.lt j hj).1)
            have HG3 : Aside (Ods y4 none 0 SL) := HGT.out.below B23.out
            clear hown1' hg4 B3 x0 x1 x2 x3 x4 x5 HGT hs3
            have HD0 : Hid (SL.drop 0 = []) := Lib.hid (List.drop_eq_nil_of_le (by rw [HSL.out]; omega))
            go_wp2_with (at_builtin; refine append_row rfl _ _ rfl y2.heap.size _ _ _ rfl hown3 none 0 0 (SL.drop 0) rfl (by rw [HD0.out]; exact Ods.nil _) ⟨Nat.le_refl _, fun _ => rfl⟩ (by omega) B23.out.size ?_)
            intro v3 y5 hown5 b5
            have B25 : Hid (Below y2.heap.size y2 y5) := B23.out.trans b5
            clear b5 hown3
            obtain ⟨nn, hnn⟩ : ∃ nn, nn = 0 + 1 := ⟨_, rfl⟩
            have hown6 : y5.ownsRow y2.heap.size 42 6 v3 nn (ol (sortL ltC ((L.take (k + 1)).filter fun x => !p x))) := by
              rw [hnn, HQ.out]
              have e : ol (SL.take 0) ++ encO x ++ ol (SL.drop 0) = ol (SL.take 0 ++ x :: SL.drop 0) := by
                unfold ol
                rw [List.flatMap_append, List.flatMap_cons, List.append_assoc]
              rw [← e]
              have en : 0 + 1 = 0 + 1 + 0 := by omega
              rw [en]
              first
              | exact hown5
              | simpa only [List.append_assoc, Nat.add_zero] using hown5
            obtain ⟨A5, c5, rfl, hc5, O5⟩ := own_ods hown6 (by omega) (fun z hz => (HOT.out.below B25.out).2.2.1 z (List.mem_of_mem_take (List.mem_filter.1 ((sortL_perm _).mem_iff.1 hz)).1))
            have hownK := own_fr (S := fun _ => False) hownT (Fr.of_below B25.out) (fun _ _ h => h)
            have hdK : Hid (Below w.heap.size w y5 ∧ y5.heap[w.heap.size]? = some (.cells (RC r) 26 (0, 0))) := ⟨hdT.out.1.trans (B25.out.mono hdT.out.1.size), bel_heap hdT.out.2 B25.out⟩
            have hdis : Hid (nn = 0 ∨ ∀ j bb off, u6.ownBlock = some j → A5 = some ⟨bb, off, none⟩ → bb ≠ j) := Lib.hid (.inr (fun j bb off e1 e2 => by
              subst e2
              have h1 := (hownT.lt j e1).2
              have h2 := (hown6.lt bb rfl).1
              omega))
            have HO5 : Aside (Ods y5 A5 nn (sortL ltC ((L.take (k + 1)).filter fun x => !p x))) := O5
            rw [← HP.out] at hownK
            clear hown5 hown6 B23 B25 O5 HG3 HOT hownT hdT HQ HP
            go_wp2_with fail
            go_roundg (n - (k + 1))
            case measure => omega
            case rel => exact ⟨k + 1, a, nn, A5, c5, by go_num, rfl, by omega, by omega, by omega, by omega, hc5, .inr (by omega), HO5, hownK, hdK, hdis⟩
        | some ⟨gb, go, spot⟩, hcap, hBn, HG2 =>
          have hbd := hcap.1
          have hb0 : 0 < b := hBn.resolve_left (by simp)
          have h4 := HG2.out.2.2.2
          rcases h4 with h4 | ⟨b4, o4, e4, _, _⟩
          · omega
          injection e4 with e4
          injection e4 with e5 e6 e7
          subst e5; subst e6; subst e7
          go_loopg [9] b (fun kx s9 wx => ∃ m q : Nat, s9 = .int .i64 m ∧ m ≤ b ∧ m ≤ kx ∧ wx = y1.drewN q ∧ Hid (∀ j, m ≤ j → j < b → ltC x SL[j]! = true))
          case atStart => exact ⟨b, 0, rfl, Nat.le_refl _, Nat.le_refl _, rfl, Lib.hid (fun j h1 h2 => by omega)⟩
          case round =>
            obtain ⟨m, q, rfl, hmb0, hmk, rfl, HJ⟩ := hrel
            by_cases hm0 : m = 0
            · subst hm0
              have hmD : decide (0 < 0) = false := rfl
              go_wp2_with fail
              go_quiet (fail)
              have bq : Below y1.heap.size y1 ((y1.drewN q).drewN nq) := below_drewN (below_drewN (Below.refl _ _) _) _
              generalize (y1.drewN q).drewN nq = y2 at bq ⊢
              have hownT := own_fr (S := fun _ => False) hown2 (Fr.of_below bq) (fun _ _ h => h)
              have hdT : Hid (Below w.heap.size w y2 ∧ y2.heap[w.heap.size]? = some (.cells (RC r) 26 (0, 0))) := ⟨hd2.out.1.trans (bq.mono hd2.out.1.size), bel_heap hd2.out.2 bq⟩
              have HGT : Aside (Ods y2 (some ⟨gb, go, none⟩) b SL) := HG2.out.below bq
              have HOT : Aside (Ods y2 (some ⟨lb, lo, none⟩) n L) := HO.out.below hdT.out.1
              have HQ : Hid (sortL ltC ((L.take (k + 1)).filter fun x => !p x) = SL.take 0 ++ x :: SL.drop 0) := Lib.hid (HSN.out 0 (Nat.zero_le _) HJ.out (.inl rfl))
              clear hown2 hd2 HG2 bq HSN
              have hmb : 0 ≤ b := by omega
              have hsy := hdT.out.1.size
              have zm0 : (0 : Int) ≤ (d : Int) := by omega
              go_wp2_with (at_builtin; refine append_row rfl _ _ rfl y2.heap.size (.slice none 0 0) 0 [] rfl (World.ownsRow_nil _ _ _ _) (some ⟨gb, go, none⟩) 0 d (SL.take 0) rfl (HGT.out.takeN hmb) ⟨by omega, fun h => by cases h⟩ (by omega) (Nat.le_refl _) ?_)
              intro v1 y3 hown1 b3
              have hown1' : y3.ownsRow y2.heap.size 42 6 v1 0 (ol (SL.take 0)) := by simpa using hown1
              have B3 : Hid (Below y2.heap.size y2 y3) := b3
              obtain ⟨x0, x1, x2, x3, x4, x5⟩ := at_x (HOT.out.below b3) hkn EX.out
              have hs3 := b3.size
              clear b3 hown1
              go_wp2_with (at_builtin; refine wpList_append_own _ rfl _ _ 34 rfl y2.heap.size 42 i0 (.agg (OC ⟨0, 0, 0, 0, 0, 0⟩)) 6 48 Try.underlying34 hi0 hz0 hz1 hz2 rfl (by decide) _ _ _ rfl (hown1'.alloc _) ⟨y3.heap.size, 0, none⟩ 1 1 (encO x) rfl rfl ?c1 ?c2 ?c3 ?c4 ?c5 ?_)
              case c1 => exact six_newsT 42 y3 x
              case c2 => exact enc_one x
              case c3 => unfold maxLen; omega
              case c4 => omega
              case c5 => simp; omega
              intro v2 y4 hown3 hg4 _
              have B23 : Hid (Below y2.heap.size y2 y4) := Below.grown (B3.out.alloc hs3 _) hg4 (by simp; omega) (fun j hj => (hown1'.lt j hj).1)
              have HG3 : Aside (Ods y4 (some ⟨gb, go, none⟩) b SL) := HGT.out.below B23.out
              clear hown1' hg4 B3 x0 x1 x2 x3 x4 x5 HGT hs3
              have zm1 : (0 : Int) ≤ (b : Int) := by omega
              have zm2 : (b : Int) - (0 : Int) = ((b - 0 : Nat) : Int) := by omega
              by_cases hcap : d = 0
              · have hb : b = 0 := by omega
                have HD0 : Hid (SL.drop 0 = []) := Lib.hid (List.drop_eq_nil_of_le (by rw [HSL.out]; omega))
                go_wp2_with (at_builtin; refine append_row rfl _ _ rfl y2.heap.size _ _ _ rfl hown3 (some ⟨gb, go, none⟩) 0 _ (SL.drop 0) rfl (by rw [HD0.out]; exact Ods.nil _) ⟨Nat.zero_le _, fun h => by cases h⟩ (by omega) B23.out.size ?_)
                intro v3 y5 hown5 b5
                have B25 : Hid (Below y2.heap.size y2 y5) := B23.out.trans b5
                clear b5 hown3
                obtain ⟨nn, hnn⟩ : ∃ nn, nn = b + 1 := ⟨_, rfl⟩
                have hown6 : y5.ownsRow y2.heap.size 42 6 v3 nn (ol (sortL ltC ((L.take (k + 1)).filter fun x => !p x))) := by
                  rw [hnn, HQ.out]
                  have e : ol (SL.take 0) ++ encO x ++ ol (SL.drop 0) = ol (SL.take 0 ++ x :: SL.drop 0) := by
                    unfold ol
                    rw [List.flatMap_append, List.flatMap_cons, List.append_assoc]
                  rw [← e]
                  have en : b + 1 = 0 + 1 + 0 := by omega
                  rw [en]
                  first
                  | exact hown5
                  | simpa only [List.append_assoc, Nat.add_zero] using hown5
                obtain ⟨A5, c5, rfl, hc5, O5⟩ := own_ods hown6 (by omega) (fun z hz => (HOT.out.below B25.out).2.2.1 z (List.mem_of_mem_take (List.mem_filter.1 ((sortL_perm _).mem_iff.1 hz)).1))
                have hownK := own_fr (S := fun _ => False) hownT (Fr.of_below B25.out) (fun _ _ h => h)
                have hdK : Hid (Below w.heap.size w y5 ∧ y5.heap[w.heap.size]? = some (.cells (RC r) 26 (0, 0))) := ⟨hdT.out.1.trans (B25.out.mono hdT.out.1.size), bel_heap hdT.out.2 B25.out⟩
                have hdis : Hid (nn = 0 ∨ ∀ j bb off, u6.ownBlock = some j → A5 = some ⟨bb, off, none⟩ → bb ≠ j) := Lib.hid (.inr (fun j bb off e1 e2 => by
                  subst e2
                  have h1 := (hownT.lt j e1).2
                  have h2 := (hown6.lt bb rfl).1
                  omega))
                have HO5 : Aside (Ods y5 A5 nn (sortL ltC ((L.take (k + 1)).filter fun x => !p x))) := O5
                rw [← HP.out] at hownK
                clear hown5 hown6 B23 B25 O5 HG3 HOT hownT hdT HQ HP
                go_wp2_with fail
                go_roundg (n - (k + 1))
                case measure => omega
                case rel => exact ⟨k + 1, a, nn, A5, c5, by go_num, rfl, by omega, by omega, by omega, by omega, hc5, .inr (by omega), HO5, hownK, hdK, hdis⟩
              · have hcap2 : ¬ 0 = d := fun e => hcap e.symm
                go_wp2_with (at_builtin; refine append_row rfl _ _ rfl y2.heap.size _ _ _ rfl hown3 (some ⟨gb, go + 0 * 6, none⟩) (b - 0) (d - 0) (SL.drop 0) rfl (HG3.out.dropN hmb) ⟨by omega, fun h => by cases h⟩ (by omega) B23.out.size ?_)
                intro v3 y5 hown5 b5
                have B25 : Hid (Below y2.heap.size y2 y5) := B23.out.trans b5
                clear b5 hown3
                obtain ⟨nn, hnn⟩ : ∃ nn, nn = b + 1 := ⟨_, rfl⟩
                have hown6 : y5.ownsRow y2.heap.size 42 6 v3 nn (ol (sortL ltC ((L.take (k + 1)).filter fun x => !p x))) := by
                  rw [hnn, HQ.out]
                  have e : ol (SL.take 0) ++ encO x ++ ol (SL.drop 0) = ol (SL.take 0 ++ x :: SL.drop 0) := by
                    unfold ol
                    rw [List.flatMap_append, List.flatMap_cons, List.append_assoc]
                  rw [← e]
                  have en : b + 1 = 0 + 1 + (b - 0) := by omega
                  rw [en]
                  first
                  | exact hown5
                  | simpa only [List.append_assoc, Nat.add_zero] using hown5
                obtain ⟨A5, c5, rfl, hc5, O5⟩ := own_ods hown6 (by omega) (fun z hz => (HOT.out.below B25.out).2.2.1 z (List.mem_of_mem_take (List.mem_filter.1 ((sortL_perm _).mem_iff.1 hz)).1))
                have hownK := own_fr (S := fun _ => False) hownT (Fr.of_below B25.out) (fun _ _ h => h)
                have hdK : Hid (Below w.heap.size w y5 ∧ y5.heap[w.heap.size]? = some (.cells (RC r) 26 (0, 0))) := ⟨hdT.out.1.trans (B25.out.mono hdT.out.1.size), bel_heap hdT.out.2 B25.out⟩
                have hdis : Hid (nn = 0 ∨ ∀ j bb off, u6.ownBlock = some j → A5 = some ⟨bb, off, none⟩ → bb ≠ j) := Lib.hid (.inr (fun j bb off e1 e2 => by
                  subst e2
                  have h1 := (hownT.lt j e1).2
                  have h2 := (hown6.lt bb rfl).1
                  omega))
                have HO5 : Aside (Ods y5 A5 nn (sortL ltC ((L.take (k + 1)).filter fun x => !p x))) := O5
                rw [← HP.out] at hownK
                clear hown5 hown6 B23 B25 O5 HG3 HOT hownT hdT HQ HP
                go_wp2_with fail
                go_roundg (n - (k + 1))
                case measure => omega
                case rel => exact ⟨k + 1, a, nn, A5, c5, by go_num, rfl, by omega, by omega, by omega, by omega, hc5, .inr (by omega), HO5, hownK, hdK, hdis⟩
            · obtain ⟨t, ht⟩ : ∃ t, t = m - 1 := ⟨_, rfl⟩
              have hmI : (0 : Int) < (m : Int) := by omega
              have hmN : 0 < m := by omega
              have hmD : decide (0 < m) = true := decide_eq_true hmN
              have hpz : (m : Int) - 1 = (t : Int) := by omega
              have htI : (t : Int) < (b : Int) := by omega
              have ht0 : (0 : Int) ≤ (t : Int) := by omega
              have hwt : IntKind.i64.wrap (t : Int) = (t : Int) := by rw [IntKind.wrap_i64]; omega
              obtain ⟨y, ey⟩ : ∃ y, SL[t]! = y := ⟨_, rfl⟩
              have EY := Lib.hid ey
              obtain ⟨z0, z1, z2, z3, z4, z5⟩ := at_x HG2.out (show t < b by omega) ey
              obtain ⟨x0, x1, x2, x3, x4, x5⟩ := at_x (HO.out.below hd2.out.1) hkn EX.out
              have HT := Lib.hid ht
              clear ey ht
              by_cases c1 : x.seq < y.seq
              · have d1 : decide (x.seq < y.seq) = true := decide_eq_true c1
                have HJ2 : Hid (∀ j, t ≤ j → j < b → ltC x SL[j]! = true) := Lib.hid (fun j h1 h2 => by
                  by_cases e : j = t
                  · rw [e, EY.out, ltC_iff]; exact .inl c1
                  · exact HJ.out j (by have := HT.out; omega) h2)
                go_wp2_with fail
                go_quiet (fail)
                clear z0 z1 z2 z3 z4 z5 x0 x1 x2 x3 x4 x5
                go_wp2_with fail
                go_roundg t
                case measure => omega
                case rel => exact ⟨t, q + nq, by go_num, by omega, Nat.le_refl _, (by first | rfl | exact World.drewN_drewN _ _ _), HJ2⟩
              · have d1 : decide (x.seq < y.seq) = false := decide_eq_false c1
                by_cases c2 : y.seq = x.seq
                · have d2 : (y.seq == x.seq) = true := by simp [c2]
                  by_cases c3 : x.id < y.id
                  · have d3 : decide (x.id < y.id) = true := decide_eq_true c3
                    have HJ2 : Hid (∀ j, t ≤ j → j < b → ltC x SL[j]! = true) := Lib.hid (fun j h1 h2 => by
                      by_cases e : j = t
                      · rw [e, EY.out, ltC_iff]; exact .inr ⟨c2.symm, c3⟩
                      · exact HJ.out j (by have := HT.out; omega) h2)
                    go_wp2_with fail
                    go_quiet (fail)
                    clear z0 z1 z2 z3 z4 z5 x0 x1 x2 x3 x4 x5
                    go_wp2_with fail
                    go_roundg t
                    case measure => omega
                    case rel => exact ⟨t, q + nq, by go_num, by omega, Nat.le_refl _, (by first | rfl | exact World.drewN_drewN _ _ _), HJ2⟩
                  · have d3 : decide (x.id < y.id) = false := decide_eq_false c3
                    have HNo : Hid (ltC x SL[m - 1]! = false) := Lib.hid (by rw [← HT.out, EY.out, ltC_no]; omega)
                    go_wp2_with fail
                    go_quiet (fail)
                    clear z0 z1 z2 z3 z4 z5 x0 x1 x2 x3 x4 x5 c1 c2 c3 d1 d2 d3 hmI hmD
                    have bq : Below y1.heap.size y1 ((y1.drewN q).drewN nq) := below_drewN (below_drewN (Below.refl _ _) _) _
                    generalize (y1.drewN q).drewN nq = y2 at bq ⊢
                    have hownT := own_fr (S := fun _ => False) hown2 (Fr.of_below bq) (fun _ _ h => h)
                    have hdT : Hid (Below w.heap.size w y2 ∧ y2.heap[w.heap.size]? = some (.cells (RC r) 26 (0, 0))) := ⟨hd2.out.1.trans (bq.mono hd2.out.1.size), bel_heap hd2.out.2 bq⟩
                    have HGT : Aside (Ods y2 (some ⟨gb, go, none⟩) b SL) := HG2.out.below bq
                    have HOT : Aside (Ods y2 (some ⟨lb, lo, none⟩) n L) := HO.out.below hdT.out.1
                    have HQ : Hid (sortL ltC ((L.take (k + 1)).filter fun x => !p x) = SL.take m ++ x :: SL.drop m) := Lib.hid (HSN.out m hmb0 HJ.out (.inr HNo.out))
                    clear hown2 hd2 HG2 bq HSN
                    have hmb : m ≤ b := by omega
                    have hsy := hdT.out.1.size
                    have zm0 : (m : Int) ≤ (d : Int) := by omega
                    go_wp2_with (at_builtin; refine append_row rfl _ _ rfl y2.heap.size (.slice none 0 0) 0 [] rfl (World.ownsRow_nil _ _ _ _) (some ⟨gb, go, none⟩) m d (SL.take m) rfl (HGT.out.takeN hmb) ⟨by omega, fun h => by cases h⟩ (by omega) (Nat.le_refl _) ?_)
                    intro v1 y3 hown1 b3
                    have hown1' : y3.ownsRow y2.heap.size 42 6 v1 m (ol (SL.take m)) := by simpa using hown1
                    have B3 : Hid (Below y2.heap.size y2 y3) := b3
                    obtain ⟨x0, x1, x2, x3, x4, x5⟩ := at_x (HOT.out.below b3) hkn EX.out
                    have hs3 := b3.size
                    clear b3 hown1
                    go_wp2_with (at_builtin; refine wpList_append_own _ rfl _ _ 34 rfl y2.heap.size 42 i0 (.agg (OC ⟨0, 0, 0, 0, 0, 0⟩)) 6 48 Try.underlying34 hi0 hz0 hz1 hz2 rfl (by decide) _ _ _ rfl (hown1'.alloc _) ⟨y3.heap.size, 0, none⟩ 1 1 (encO x) rfl rfl ?c1 ?c2 ?c3 ?c4 ?c5 ?_)
                    case c1 => exact six_newsT 42 y3 x
                    case c2 => exact enc_one x
                    case c3 => unfold maxLen; omega
                    case c4 => omega
                    case c5 => simp; omega
                    intro v2 y4 hown3 hg4 _
                    have B23 : Hid (Below y2.heap.size y2 y4) := Below.grown (B3.out.alloc hs3 _) hg4 (by simp; omega) (fun j hj => (hown1'.lt j hj).1)
                    have HG3 : Aside (Ods y4 (some ⟨gb, go, none⟩) b SL) := HGT.out.below B23.out
                    clear hown1' hg4 B3 x0 x1 x2 x3 x4 x5 HGT hs3
                    have zm1 : (m : Int) ≤ (b : Int) := by omega
                    have zm2 : (b : Int) - (m : Int) = ((b - m : Nat) : Int) := by omega
                    by_cases hcap : d = m
                    · have hb : b = m := by omega
                      have HD0 : Hid (SL.drop m = []) := Lib.hid (List.drop_eq_nil_of_le (by rw [HSL.out]; omega))
                      go_wp2_with (at_builtin; refine append_row rfl _ _ rfl y2.heap.size _ _ _ rfl hown3 (some ⟨gb, go, none⟩) 0 _ (SL.drop m) rfl (by rw [HD0.out]; exact Ods.nil _) ⟨Nat.zero_le _, fun h => by cases h⟩ (by omega) B23.out.size ?_)
                      intro v3 y5 hown5 b5
                      have B25 : Hid (Below y2.heap.size y2 y5) := B23.out.trans b5
                      clear b5 hown3
                      obtain ⟨nn, hnn⟩ : ∃ nn, nn = b + 1 := ⟨_, rfl⟩
                      have hown6 : y5.ownsRow y2.heap.size 42 6 v3 nn (ol (sortL ltC ((L.take (k + 1)).filter fun x => !p x))) := by
                        rw [hnn, HQ.out]
                        have e : ol (SL.take m) ++ encO x ++ ol (SL.drop m) = ol (SL.take m ++ x :: SL.drop m) := by
                          unfold ol
                          rw [List.flatMap_append, List.flatMap_cons, List.append_assoc]
                        rw [← e]
                        have en : b + 1 = m + 1 + 0 := by omega
                        rw [en]
                        first
                        | exact hown5
                        | simpa only [List.append_assoc, Nat.add_zero] using hown5
                      obtain ⟨A5, c5, rfl, hc5, O5⟩ := own_ods hown6 (by omega) (fun z hz => (HOT.out.below B25.out).2.2.1 z (List.mem_of_mem_take (List.mem_filter.1 ((sortL_perm _).mem_iff.1 hz)).1))
                      have hownK := own_fr (S := fun _ => False) hownT (Fr.of_below B25.out) (fun _ _ h => h)
                      have hdK : Hid (Below w.heap.size w y5 ∧ y5.heap[w.heap.size]? = some (.cells (RC r) 26 (0, 0))) := ⟨hdT.out.1.trans (B25.out.mono hdT.out.1.size), bel_heap hdT.out.2 B25.out⟩
                      have hdis : Hid (nn = 0 ∨ ∀ j bb off, u6.ownBlock = some j → A5 = some ⟨bb, off, none⟩ → bb ≠ j) := Lib.hid (.inr (fun j bb off e1 e2 => by
                        subst e2
                        have h1 := (hownT.lt j e1).2
                        have h2 := (hown6.lt bb rfl).1
                        omega))
                      have HO5 : Aside (Ods y5 A5 nn (sortL ltC ((L.take (k + 1)).filter fun x => !p x))) := O5
                      rw [← HP.out] at hownK
                      clear hown5 hown6 B23 B25 O5 HG3 HOT hownT hdT HQ HP
                      go_wp2_with fail
                      go_roundg (n - (k + 1))
                      case measure => omega
                      case rel => exact ⟨k + 1, a, nn, A5, c5, by go_num, rfl, by omega, by omega, by omega, by omega, hc5, .inr (by omega), HO5, hownK, hdK, hdis⟩
                    · have hcap2 : ¬ m = d := fun e => hcap e.symm
                      go_wp2_with (at_builtin; refine append_row rfl _ _ rfl y2.heap.size _ _ _ rfl hown3 (some ⟨gb, go + m * 6, none⟩) (b - m) (d - m) (SL.drop m) rfl (HG3.out.dropN hmb) ⟨by omega, fun h => by cases h⟩ (by omega) B23.out.size ?_)
                      intro v3 y5 hown5 b5
                      have B25 : Hid (Below y2.heap.size y2 y5) := B23.out.trans b5
                      clear b5 hown3
                      obtain ⟨nn, hnn⟩ : ∃ nn, nn = b + 1 := ⟨_, rfl⟩
                      have hown6 : y5.ownsRow y2.heap.size 42 6 v3 nn (ol (sortL ltC ((L.take (k + 1)).filter fun x => !p x))) := by
                        rw [hnn, HQ.out]
                        have e : ol (SL.take m) ++ encO x ++ ol (SL.drop m) = ol (SL.take m ++ x :: SL.drop m) := by
                          unfold ol
                          rw [List.flatMap_append, List.flatMap_cons, List.append_assoc]
                        rw [← e]
                        have en : b + 1 = m + 1 + (b - m) := by omega
                        rw [en]
                        first
                        | exact hown5
                        | simpa only [List.append_assoc, Nat.add_zero] using hown5
                      obtain ⟨A5, c5, rfl, hc5, O5⟩ := own_ods hown6 (by omega) (fun z hz => (HOT.out.below B25.out).2.2.1 z (List.mem_of_mem_take (List.mem_filter.1 ((sortL_perm _).mem_iff.1 hz)).1))
                      have hownK := own_fr (S := fun _ => False) hownT (Fr.of_below B25.out) (fun _ _ h => h)
                      have hdK : Hid (Below w.heap.size w y5 ∧ y5.heap[w.heap.size]? = some (.cells (RC r) 26 (0, 0))) := ⟨hdT.out.1.trans (B25.out.mono hdT.out.1.size), bel_heap hdT.out.2 B25.out⟩
                      have hdis : Hid (nn = 0 ∨ ∀ j bb off, u6.ownBlock = some j → A5 = some ⟨bb, off, none⟩ → bb ≠ j) := Lib.hid (.inr (fun j bb off e1 e2 => by
                        subst e2
                        have h1 := (hownT.lt j e1).2
                        have h2 := (hown6.lt bb rfl).1
                        omega))
                      have HO5 : Aside (Ods y5 A5 nn (sortL ltC ((L.take (k + 1)).filter fun x => !p x))) := O5
                      rw [← HP.out] at hownK
                      clear hown5 hown6 B23 B25 O5 HG3 HOT hownT hdT HQ HP
                      go_wp2_with fail
                      go_roundg (n - (k + 1))
                      case measure => omega
                      case rel => exact ⟨k + 1, a, nn, A5, c5, by go_num, rfl, by omega, by omega, by omega, by omega, hc5, .inr (by omega), HO5, hownK, hdK, hdis⟩
                · have d2 : (y.seq == x.seq) = false := by rw [beq_eq_false_iff_ne]; exact c2
                  have HNo : Hid (ltC x SL[m - 1]! = false) := Lib.hid (by rw [← HT.out, EY.out, ltC_no]; omega)
                  go_wp2_with fail
                  go_quiet (fail)
                  clear z0 z1 z2 z3 z4 z5 x0 x1 x2 x3 x4 x5 c1 c2 d1 d2 hmI hmD
                  have bq : Below y1.heap.size y1 ((y1.drewN q).drewN nq) := below_drewN (below_drewN (Below.refl _ _) _) _
                  generalize (y1.drewN q).drewN nq = y2 at bq ⊢
                  have hownT := own_fr (S := fun _ => False) hown2 (Fr.of_below bq) (fun _ _ h => h)
                  have hdT : Hid (Below w.heap.size w y2 ∧ y2.heap[w.heap.size]? = some (.cells (RC r) 26 (0, 0))) := ⟨hd2.out.1.trans (bq.mono hd2.out.1.size), bel_heap hd2.out.2 bq⟩
                  have HGT : Aside (Ods y2 (some ⟨gb, go, none⟩) b SL) := HG2.out.below bq
                  have HOT : Aside (Ods y2 (some ⟨lb, lo, none⟩) n L) := HO.out.below hdT.out.1
                  have HQ : Hid (sortL ltC ((L.take (k + 1)).filter fun x => !p x) = SL.take m ++ x :: SL.drop m) := Lib.hid (HSN.out m hmb0 HJ.out (.inr HNo.out))
                  clear hown2 hd2 HG2 bq HSN
                  have hmb : m ≤ b := by omega
                  have hsy := hdT.out.1.size
                  have zm0 : (m : Int) ≤ (d : Int) := by omega
                  go_wp2_with (at_builtin; refine append_row rfl _ _ rfl y2.heap.size (.slice none 0 0) 0 [] rfl (World.ownsRow_nil _ _ _ _) (some ⟨gb, go, none⟩) m d (SL.take m) rfl (HGT.out.takeN hmb) ⟨by omega, fun h => by cases h⟩ (by omega) (Nat.le_refl _) ?_)
                  intro v1 y3 hown1 b3
                  have hown1' : y3.ownsRow y2.heap.size 42 6 v1 m (ol (SL.take m)) := by simpa using hown1
                  have B3 : Hid (Below y2.heap.size y2 y3) := b3
                  obtain ⟨x0, x1, x2, x3, x4, x5⟩ := at_x (HOT.out.below b3) hkn EX.out
                  have hs3 := b3.size
                  clear b3 hown1
                  go_wp2_with (at_builtin; refine wpList_append_own _ rfl _ _ 34 rfl y2.heap.size 42 i0 (.agg (OC ⟨0, 0, 0, 0, 0, 0⟩)) 6 48 Try.underlying34 hi0 hz0 hz1 hz2 rfl (by decide) _ _ _ rfl (hown1'.alloc _) ⟨y3.heap.size, 0, none⟩ 1 1 (encO x) rfl rfl ?c1 ?c2 ?c3 ?c4 ?c5 ?_)
                  case c1 => exact six_newsT 42 y3 x
                  case c2 => exact enc_one x
                  case c3 => unfold maxLen; omega
                  case c4 => omega
                  case c5 => simp; omega
                  intro v2 y4 hown3 hg4 _
                  have B23 : Hid (Below y2.heap.size y2 y4) := Below.grown (B3.out.alloc hs3 _) hg4 (by simp; omega) (fun j hj => (hown1'.lt j hj).1)
                  have HG3 : Aside (Ods y4 (some ⟨gb, go, none⟩) b SL) := HGT.out.below B23.out
                  clear hown1' hg4 B3 x0 x1 x2 x3 x4 x5 HGT hs3
                  have zm1 : (m : Int) ≤ (b : Int) := by omega
                  have zm2 : (b : Int) - (m : Int) = ((b - m : Nat) : Int) := by omega
                  by_cases hcap : d = m
                  · have hb : b = m := by omega
                    have HD0 : Hid (SL.drop m = []) := Lib.hid (List.drop_eq_nil_of_le (by rw [HSL.out]; omega))
                    go_wp2_with (at_builtin; refine append_row rfl _ _ rfl y2.heap.size _ _ _ rfl hown3 (some ⟨gb, go, none⟩) 0 _ (SL.drop m) rfl (by rw [HD0.out]; exact Ods.nil _) ⟨Nat.zero_le _, fun h => by cases h⟩ (by omega) B23.out.size ?_)
                    intro v3 y5 hown5 b5
                    have B25 : Hid (Below y2.heap.size y2 y5) := B23.out.trans b5
                    clear b5 hown3
                    obtain ⟨nn, hnn⟩ : ∃ nn, nn = b + 1 := ⟨_, rfl⟩
                    have hown6 : y5.ownsRow y2.heap.size 42 6 v3 nn (ol (sortL ltC ((L.take (k + 1)).filter fun x => !p x))) := by
                      rw [hnn, HQ.out]
                      have e : ol (SL.take m) ++ encO x ++ ol (SL.drop m) = ol (SL.take m ++ x :: SL.drop m) := by
                        unfold ol
                        rw [List.flatMap_append, List.flatMap_cons, List.append_assoc]
                      rw [← e]
                      have en : b + 1 = m + 1 + 0 := by omega
                      rw [en]
                      first
                      | exact hown5
                      | simpa only [List.append_assoc, Nat.add_zero] using hown5
                    obtain ⟨A5, c5, rfl, hc5, O5⟩ := own_ods hown6 (by omega) (fun z hz => (HOT.out.below B25.out).2.2.1 z (List.mem_of_mem_take (List.mem_filter.1 ((sortL_perm _).mem_iff.1 hz)).1))
                    have hownK := own_fr (S := fun _ => False) hownT (Fr.of_below B25.out) (fun _ _ h => h)
                    have hdK : Hid (Below w.heap.size w y5 ∧ y5.heap[w.heap.size]? = some (.cells (RC r) 26 (0, 0))) := ⟨hdT.out.1.trans (B25.out.mono hdT.out.1.size), bel_heap hdT.out.2 B25.out⟩
                    have hdis : Hid (nn = 0 ∨ ∀ j bb off, u6.ownBlock = some j → A5 = some ⟨bb, off, none⟩ → bb ≠ j) := Lib.hid (.inr (fun j bb off e1 e2 => by
                      subst e2
                      have h1 := (hownT.lt j e1).2
                      have h2 := (hown6.lt bb rfl).1
                      omega))
                    have HO5 : Aside (Ods y5 A5 nn (sortL ltC ((L.take (k + 1)).filter fun x => !p x))) := O5
                    rw [← HP.out] at hownK
                    clear hown5 hown6 B23 B25 O5 HG3 HOT hownT hdT HQ HP
                    go_wp2_with fail
                    go_roundg (n - (k + 1))
                    case measure => omega
                    case rel => exact ⟨k + 1, a, nn, A5, c5, by go_num, rfl, by omega, by omega, by omega, by omega, hc5, .inr (by omega), HO5, hownK, hdK, hdis⟩
                  · have hcap2 : ¬ m = d := fun e => hcap e.symm
                    go_wp2_with (at_builtin; refine append_row rfl _ _ rfl y2.heap.size _ _ _ rfl hown3 (some ⟨gb, go + m * 6, none⟩) (b - m) (d - m) (SL.drop m) rfl (HG3.out.dropN hmb) ⟨by omega, fun h => by cases h⟩ (by omega) B23.out.size ?_)
                    intro v3 y5 hown5 b5
                    have B25 : Hid (Below y2.heap.size y2 y5) := B23.out.trans b5
                    clear b5 hown3
                    obtain ⟨nn, hnn⟩ : ∃ nn, nn = b + 1 := ⟨_, rfl⟩
                    have hown6 : y5.ownsRow y2.heap.size 42 6 v3 nn (ol (sortL ltC ((L.take (k + 1)).filter fun x => !p x))) := by
                      rw [hnn, HQ.out]
                      have e : ol (SL.take m) ++ encO x ++ ol (SL.drop m) = ol (SL.take m ++ x :: SL.drop m) := by
                        unfold ol
                        rw [List.flatMap_append, List.flatMap_cons, List.append_assoc]
                      rw [← e]
                      have en : b + 1 = m + 1 + (b - m) := by omega
                      rw [en]
                      first
                      | exact hown5
                      | simpa only [List.append_assoc, Nat.add_zero] using hown5
                    obtain ⟨A5, c5, rfl, hc5, O5⟩ := own_ods hown6 (by omega) (fun z hz => (HOT.out.below B25.out).2.2.1 z (List.mem_of_mem_take (List.mem_filter.1 ((sortL_perm _).mem_iff.1 hz)).1))
                    have hownK := own_fr (S := fun _ => False) hownT (Fr.of_below B25.out) (fun _ _ h => h)
                    have hdK : Hid (Below w.heap.size w y5 ∧ y5.heap[w.heap.size]? = some (.cells (RC r) 26 (0, 0))) := ⟨hdT.out.1.trans (B25.out.mono hdT.out.1.size), bel_heap hdT.out.2 B25.out⟩
                    have hdis : Hid (nn = 0 ∨ ∀ j bb off, u6.ownBlock = some j → A5 = some ⟨bb, off, none⟩ → bb ≠ j) := Lib.hid (.inr (fun j bb off e1 e2 => by
                      subst e2
                      have h1 := (hownT.lt j e1).2
                      have h2 := (hown6.lt bb rfl).1
                      omega))
                    have HO5 : Aside (Ods y5 A5 nn (sortL ltC ((L.take (k + 1)).filter fun x => !p x))) := O5
                    rw [← HP.out] at hownK
                    clear hown5 hown6 B23 B25 O5 HG3 HOT hownT hdT HQ HP
                    go_wp2_with fail
                    go_roundg (n - (k + 1))
                    case measure => omega
                    case rel => exact ⟨k + 1, a, nn, A5, c5, by go_num, rfl, by omega, by omega, by omega, by omega, hc5, .inr (by omega), HO5, hownK, hdK, hdis⟩
    · have hltI : ¬ (k : Int) < (n : Int) := by omega
      obtain rfl : k = n := by omega
      rw [List.take_of_length_le (by rw [HLn.out]; exact Nat.le_refl _)] at hown HG
      obtain ⟨A', c', rfl, hc, ht⟩ := own_ods hown (by omega) (fun x hx => (HO.out.below hd.out.1).2.2.1 x ((List.mem_filter.1 hx).1))
      have HF : Hid (Below w.heap.size w wr ∧ Ods wr A' a (L.filter p) ∧ CapOk A' a c' ∧ Ods wr B b (sortL ltC (L.filter fun x => !p x)) ∧ CapOk B b d) := ⟨hd.out.1, ht, hc, HG.out, hcap⟩
      clear hown ht hd hc HG HB
      go_wp2_with fail
      go_ret2
      exact ⟨_, _, _, _, _, _, rfl, HF.out⟩
end Go.Proofs.Ytpibkjldmmecpaa
