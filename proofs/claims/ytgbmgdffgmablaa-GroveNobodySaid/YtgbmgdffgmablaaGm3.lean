/- GwL GwM GwN GwO LeA LeB LeC LeD LeE LeF GwQ GwR GwS GwT GwU GwV GwW GwX GwY GxA GxB, in one text. (By mkgm.py.) -/
import Derived.Test.YtgbmgdffgmablaaGm2
import Derived.Test.YtgbmgdffgmablaaGm1
import Derived.Maps.AppendAt
import Derived.LoopNIn

/- grove: Add. (By mkgwl.py.) -/
namespace Go.Proofs.Ytgbmgdffgmablaa
open Go.RowKit Go.Sort Go.Lib Go.Maps Go.Shelf
set_option linter.unusedVariables false

/-- What Add tells, and leaves. -/
def gAddIs (w w' : World) (p : Nat) (m : Nat × Nat) (s1 s2 s1' s2' : Gd) (o : Od) (c : Int) : Prop :=
  (c = 2 ∧ goodO o = false ∧ s1' = s1 ∧ s2' = s2 ∧ Below w.heap.size w w') ∨
  (goodO o = true ∧ c = 52 ∧ (∃ x ∈ bookL s1.rs s2.rs, x.id = o.id) ∧ s1' = s1 ∧ s2' = s2 ∧ Below w.heap.size w w') ∨
  (goodO o = true ∧ (∀ x ∈ bookL s1.rs s2.rs, ¬ x.id = o.id) ∧ ((c = 50 ∧ (bookL s1.rs s2.rs).length = 64 ∧ s1' = s1 ∧ s2' = s2 ∧ Below w.heap.size w w') ∨ (c = 0 ∧ (bookL s1.rs s2.rs).length < 64 ∧ gPutIs w w' p m s1 s2 s1' s2' o)))
theorem gPut_back {w W w' : World} {p : Nat} {m : Nat × Nat} {s1 s2 s1' s2' : Gd} {o : Od} (hb : Below w.heap.size w W) (h : gPutIs W w' p m s1 s2 s1' s2' o) : gPutIs w w' p m s1 s2 s1' s2' o :=
  ⟨⟨h.tu.wh, (Fr.of_below hb : Fr (gft p m s1 s2) w W).trans h.tu.fr (fun _ h => .inl h), fun k hk => (h.tu.ft k hk).imp id (fun h' => Nat.le_trans hb.size h')⟩, h.perm, h.e2, h.e1⟩
theorem gWhole.below {w w' : World} {p : Nat} {m : Nat × Nat} {s1 s2 : Gd} (h : gWhole w p m s1 s2) (hb : Below w.heap.size w w') : gWhole w' p m s1 s2 := by
  obtain ⟨D, h⟩ := h
  exact ⟨D, h.below hb⟩

theorem below_row {B c : Nat} {w X : World} {cs : Array Value} (h : Below B w X) (hc : B ≤ c) : Below B w (X.setRow c cs) :=
  h.trans ⟨rfl, rfl, rfl, by simp [World.setRow], fun k hk => setRow_other X c k cs (by omega)⟩
set_option maxHeartbeats 4000000 in
set_option maxRecDepth 100000 in
theorem gAdd_there (p : Nat) (m : Nat × Nat) (s1 s2 : Gd) (o : Od) (w : World) (H : gWhole w p m s1 s2) (hok : Od.ok w o) (hg : goodO o = true) :
    Calls Try.prog 10 #[.pointer (some ⟨p, 0, none⟩), .agg #[.int .u64 o.id, .int .i64 o.acc, .int .i64 o.side, .int .i64 o.price, .int .i64 o.qty, .int .u64 o.seq]] w fun e w' => ∃ c s1' s2', e = .returned (.int .i64 c) ∧ Hid (gAddIs w w' p m s1 s2 s1' s2' o c) := by
  obtain ⟨w0, hw0⟩ : ∃ w0, w.alloc (.cells (OC o) 24) = w0 := ⟨_, rfl⟩
  have b0 : Below w.heap.size w w0 := by rw [← hw0]; exact (Below.refl _ _).alloc (Nat.le_refl _) _
  have cO : Cl 24 w0 w.heap.size (OC o) := by rw [← hw0]; exact hd_last rfl
  have H0 := H.below b0
  have HM : Hid (Calls Try.prog 25 #[.pointer (some ⟨p, 0, none⟩)] w0 fun e w' => e = .returned (.bool true) ∧ w0 = w') := Lib.hid (by obtain ⟨D, h⟩ := H0; exact gMade_c _ _ _ _ _ _ h.gk)
  have HGd : Hid (Calls Try.prog 33 #[.agg #[.int .u64 o.id, .int .i64 o.acc, .int .i64 o.side, .int .i64 o.price, .int .i64 o.qty, .int .u64 o.seq]] w0 fun e w' => e = .returned (.bool (goodO o)) ∧ Gw w0 w') := Lib.hid (good_c o w0)
  rw [hg] at HGd
  obtain ⟨x0, x1, x2, x3, x4, x5⟩ := six_of cO
  have HH := Lib.hid (And.intro H0 (And.intro b0 cO))
  clear b0 cO H0
  go_enter Try.func10, Try.ntmps10
  go_wp2_with fail
  ((with_reducible refine HM.out.mono ?_); rintro e w1 ⟨rfl, rfl⟩)
  go_wp2_with fail
  ((with_reducible refine HGd.out.mono ?_); rintro e w1 ⟨rfl, hb⟩)
  clear HGd HM x0 x1 x2 x3 x4 x5
  go_wp2_with fail
  obtain ⟨⟨D, G0⟩, b0, cO⟩ := HH.out
  have b1 := hb.b
  have G1 := G0.below b1
  have cO1 : Cl 24 w1 w.heap.size (OC o) := (b1.block _ (blk_lt cO)).trans cO
  have hlt1 : ∀ k, gfoot p m.1 m.2 s1.g s2.g k → k < w1.heap.size := G1.lt
  have HP : Hid (∀ W, Below w1.heap.size w1 W → W.cell? ⟨p, 0, none⟩ = some (.map (some m.1))) := Lib.hid fun W hW => ((G1.below hW).bookp.c 0).trans rfl
  have HI : Hid (∀ W, Below w1.heap.size w1 W → W.cell? ⟨w.heap.size, 0, none⟩ = some (.int .u64 o.id)) := Lib.hid fun W hW => (hW.cell (p := ⟨w.heap.size, 0, none⟩) (blk_lt cO1)).trans ((Cl.c cO1 0).trans rfl)
  have HL : Hid (∀ W, Below w1.heap.size w1 W → (Instr.lookup 26 (.map (some m.1)) (.int .u64 o.id) true).run Try.prog W = .ok (.tuple #[.agg (OC ((omL (bookL s1.rs s2.rs) o.id).getD zO)), .bool (omL (bookL s1.rs s2.rs) o.id).isSome]) W) := Lib.hid fun W hW => look_ok ((G1.below hW).gk.om _ _ rfl) G1.om o.id (wf_u hok.1)
  have HH1 := Lib.hid (And.intro G1 (And.intro (b0.trans (b1.mono b0.size)) cO1))
  clear G0 b0 cO b1 G1 cO1 hlt1 hb HH
  obtain ⟨m1, m2⟩ := m
  dsimp only at HP HL HH1
  generalize hthere : (omL (bookL s1.rs s2.rs) o.id).isSome = there at HL
  generalize (omL (bookL s1.rs s2.rs) o.id).getD zO = z at HL
  have HT := Lib.hid hthere
  clear hthere
  refine wp_region_held_drew (S := fun W => Below w1.heap.size w1 W) (by kernel_rfl) (by exact (Below.refl _ _).drew) (fun hHeld => ?_)
  refine wpAnyH_take (i := 0) (oi := ⟨some 14, _, _, _, _, _⟩) (v := ?_) rfl (by kernel_rfl) (by kernel_rfl) (by kernel_rfl) (fun _ _ _ h => h) (Or.inl ⟨by kernel_rfl, ?_⟩) (by assumption) ?_
  rotate_left
  · (intro w hSw; (try dsimp only at hSw); go_simp; try with_reducible rfl)
  (repeat (first | simp only [Act.put] | simp only [List.setIfInBounds_toArray] | simp only [List.set_cons_succ] | simp only [List.set_cons_zero]))
  refine wpAnyH_take (i := 1) (oi := ⟨some 15, _, _, _, _, _⟩) (v := ?_) rfl (by kernel_rfl) (by kernel_rfl) (by kernel_rfl) (fun _ _ _ h => h) (Or.inl ⟨by kernel_rfl, ?_⟩) (by assumption) ?_
  rotate_left
  · (intro w hSw; (try dsimp only at hSw); go_simp; try with_reducible rfl)
  (repeat (first | simp only [Act.put] | simp only [List.setIfInBounds_toArray] | simp only [List.set_cons_succ] | simp only [List.set_cons_zero]))
  refine wpAnyH_take (i := 2) (oi := ⟨some 16, _, _, _, _, _⟩) (v := ?_) rfl (by kernel_rfl) (by kernel_rfl) (by kernel_rfl) (fun _ _ _ h => h) (Or.inl ⟨by kernel_rfl, ?_⟩) (by assumption) ?_
  rotate_left
  · (intro w hSw; (try dsimp only at hSw); go_simp; try with_reducible rfl)
  (repeat (first | simp only [Act.put] | simp only [List.setIfInBounds_toArray] | simp only [List.set_cons_succ] | simp only [List.set_cons_zero]))
  refine wpAnyH_take (i := 3) (oi := ⟨some 17, _, _, _, _, _⟩) (v := ?_) rfl (by kernel_rfl) (by kernel_rfl) (by kernel_rfl) (fun _ _ _ h => h) (Or.inl ⟨by kernel_rfl, ?_⟩) (by assumption) ?_
  rotate_left
  · (intro w hSw; have hs := HP.out _ hSw; (try dsimp only at hSw); go_simp; try with_reducible rfl)
  (repeat (first | simp only [Act.put] | simp only [List.setIfInBounds_toArray] | simp only [List.set_cons_succ] | simp only [List.set_cons_zero]))
  refine wpAnyH_take (i := 4) (oi := ⟨some 18, _, _, _, _, _⟩) (v := ?_) rfl (by kernel_rfl) (by kernel_rfl) (by kernel_rfl) (fun _ _ _ h => h) (Or.inl ⟨by kernel_rfl, ?_⟩) (by assumption) ?_
  rotate_left
  · (intro w hSw; (try dsimp only at hSw); go_simp; try with_reducible rfl)
  (repeat (first | simp only [Act.put] | simp only [List.setIfInBounds_toArray] | simp only [List.set_cons_succ] | simp only [List.set_cons_zero]))
  refine wpAnyH_take (i := 5) (oi := ⟨some 19, _, _, _, _, _⟩) (v := ?_) rfl (by kernel_rfl) (by kernel_rfl) (by kernel_rfl) (fun _ _ _ h => h) (Or.inl ⟨by kernel_rfl, ?_⟩) (by assumption) ?_
  rotate_left
  · (intro w hSw; have hs := HI.out _ hSw; (try dsimp only at hSw); go_simp; try with_reducible rfl)
  (repeat (first | simp only [Act.put] | simp only [List.setIfInBounds_toArray] | simp only [List.set_cons_succ] | simp only [List.set_cons_zero]))
  refine wpAnyH_take (i := 6) (oi := ⟨some 20, _, _, _, _, _⟩) (v := ?_) rfl (by kernel_rfl) (by kernel_rfl) (by kernel_rfl) (fun _ _ _ h => h) (Or.inl ⟨by kernel_rfl, ?_⟩) (by assumption) ?_
  rotate_left
  · (intro w hSw; have hs := HL.out _ hSw; (try dsimp only at hSw); go_simp; try with_reducible rfl)
  (repeat (first | simp only [Act.put] | simp only [List.setIfInBounds_toArray] | simp only [List.set_cons_succ] | simp only [List.set_cons_zero]))
  refine wpAnyH_take (i := 7) (oi := ⟨some 13, _, _, _, _, _⟩) (v := ?_) rfl (by kernel_rfl) (by kernel_rfl) (by kernel_rfl) (fun _ _ _ h => h) (Or.inl ⟨by kernel_rfl, ?_⟩) (by assumption) ?_
  rotate_left
  · (intro w hSw; (try dsimp only at hSw); go_simp; try with_reducible rfl)
  (repeat (first | simp only [Act.put] | simp only [List.setIfInBounds_toArray] | simp only [List.set_cons_succ] | simp only [List.set_cons_zero]))
  refine wpAnyH_take (i := 8) (oi := ⟨some 21, _, _, _, _, _⟩) (v := ?_) rfl (by kernel_rfl) (by kernel_rfl) (by kernel_rfl) (fun _ _ _ h => h) (Or.inl ⟨by kernel_rfl, ?_⟩) (by assumption) ?_
  rotate_left
  · (intro w hSw; (try dsimp only at hSw); go_simp; try with_reducible rfl)
  (repeat (first | simp only [Act.put] | simp only [List.setIfInBounds_toArray] | simp only [List.set_cons_succ] | simp only [List.set_cons_zero]))
  refine wpAnyH_take (i := 9) (oi := ⟨some 22, _, _, _, _, _⟩) (v := ?_) rfl (by kernel_rfl) (by kernel_rfl) (by kernel_rfl) (fun _ _ _ h => h) (Or.inl ⟨by kernel_rfl, ?_⟩) (by assumption) ?_
  rotate_left
  · (intro w hSw; (try dsimp only at hSw); go_simp; try with_reducible rfl)
  (repeat (first | simp only [Act.put] | simp only [List.setIfInBounds_toArray] | simp only [List.set_cons_succ] | simp only [List.set_cons_zero]))
  refine wpAnyH_ready (rs := [10]) (by kernel_rfl) (by simp) ?_
  refine AllReadyH.cons (o := ⟨some 5, _, _, _, _, _⟩) rfl (fun K hK => ?_) AllReadyH.nil
  go_simp
  refine hK.out _ _ (by exact (Below.refl _ _).drew.alloc (Nat.le_refl _) _) (fun hHeld => ?_)
  clear hK K
  (repeat (first | simp only [Act.put] | simp only [List.setIfInBounds_toArray] | simp only [List.set_cons_succ] | simp only [List.set_cons_zero]))
  refine wpAnyH_ready (rs := [11]) (by kernel_rfl) (by simp) ?_
  refine AllReadyH.cons (o := ⟨none, _, _, _, _, _⟩) rfl (fun K hK => ?_) AllReadyH.nil
  ((with_reducible apply any_storeOd); rfl; rfl; rfl; rfl; exact (show Cl 24 _ w1.heap.size (OC ⟨0, 0, 0, 0, 0, 0⟩) from hd_drew (hd_last rfl)); skip)
  refine hK.out _ _ (by exact below_row ((Below.refl _ _).drew.alloc (Nat.le_refl _) _) (Nat.le_refl _)) (fun hHeld => ?_)
  clear hK K
  (repeat (first | simp only [Act.put] | simp only [List.setIfInBounds_toArray] | simp only [List.set_cons_succ] | simp only [List.set_cons_zero]))
  refine wpAnyH_take (i := 12) (oi := ⟨some 6, _, _, _, _, _⟩) (v := ?_) rfl (by kernel_rfl) (by kernel_rfl) (by kernel_rfl) (fun _ _ _ h => h) (Or.inl ⟨by kernel_rfl, ?_⟩) (by assumption) ?_
  rotate_left
  · (intro w hSw; (try dsimp only at hSw); go_simp; try with_reducible rfl)
  (repeat (first | simp only [Act.put] | simp only [List.setIfInBounds_toArray] | simp only [List.set_cons_succ] | simp only [List.set_cons_zero]))
  refine wpAnyH_done (by kernel_rfl) ?_ _
  obtain ⟨G1, bw, cO1⟩ := HH1.out
  have kP := HP.out _ hHeld
  have GW2 := G1.below hHeld
  have cO2 := (hHeld.block _ (blk_lt cO1)).trans cO1
  have bw2 := bw.trans (hHeld.mono bw.size)
  have hlen := fun ty => len_o (GW2.gk.om _ _ rfl) G1.om ty
  have HPt := Lib.hid (fun h1 h2 => gPut_c p (m1, m2) s1 s2 o _ ⟨D, GW2⟩ h1 hok hg h2)
  obtain ⟨x0, x1, x2, x3, x4, x5⟩ := six_of cO2
  have HB2 := Lib.hid bw2
  have HL64 := Lib.hid G1.len
  have HID := Lib.hid G1.ids
  clear HP HI HL HH1 G1 GW2 cO1 cO2 bw bw2 hHeld hok
  cases there with
  | true =>
    have hex : ∃ x ∈ bookL s1.rs s2.rs, x.id = o.id := by
      obtain ⟨x, hx⟩ := Option.isSome_iff_exists.1 HT.out
      exact ⟨x, (omL_some HID.out).1 hx⟩
    clear hlen HPt x0 x1 x2 x3 x4 x5
    go_wp2_with fail
    go_ret
    exact ⟨52, s1, s2, rfl, Lib.hid (.inr (.inl ⟨hg, rfl, hex, rfl, rfl, HB2.out⟩))⟩
  | false =>
    have hno : ∀ x ∈ bookL s1.rs s2.rs, ¬ x.id = o.id := by
      refine omL_none.1 ?_
      have := HT.out
      cases h : omL (bookL s1.rs s2.rs) o.id with
      | none => rfl
      | some x => rw [h] at this; cases this
    have HNO := Lib.hid hno
    clear hno
    obtain ⟨N, hN⟩ : ∃ N, N = (bookL s1.rs s2.rs).length := ⟨_, rfl⟩
    rw [← hN] at hlen HL64
    have HN := Lib.hid hN
    clear hN
    by_cases h64 : N = 64
    · have e64 : ((N : Int) == 64) = true := by simp [h64]
      have HE := Lib.hid h64
      clear HPt x0 x1 x2 x3 x4 x5 h64
      go_wp2_with fail
      go_ret
      exact ⟨50, s1, s2, rfl, Lib.hid (.inr (.inr ⟨hg, HNO.out, .inl ⟨rfl, by rw [← HN.out, HE.out], rfl, rfl, HB2.out⟩⟩))⟩
    · have e64 : ((N : Int) == 64) = false := by simp; omega
      have hlt : (bookL s1.rs s2.rs).length < 64 := by have := HL64.out; rw [← HN.out]; omega
      have HP2 := Lib.hid (HPt.out HNO.out hlt)
      have HLT := Lib.hid hlt
      clear HPt h64 hlt
      go_wp2_with fail
      ((with_reducible refine HP2.out.mono ?_); rintro e w5 ⟨rfl, s1', s2', hp⟩)
      go_wp2_with fail
      go_ret
      exact ⟨0, s1', s2', rfl, Lib.hid (.inr (.inr ⟨hg, HNO.out, .inr ⟨rfl, HLT.out, gPut_back HB2.out hp.out⟩⟩))⟩
set_option maxHeartbeats 4000000 in
set_option maxRecDepth 100000 in
theorem gAdd_bad (p : Nat) (m : Nat × Nat) (s1 s2 : Gd) (o : Od) (w : World) (H : gWhole w p m s1 s2) (hg : goodO o = false) :
    Calls Try.prog 10 #[.pointer (some ⟨p, 0, none⟩), .agg #[.int .u64 o.id, .int .i64 o.acc, .int .i64 o.side, .int .i64 o.price, .int .i64 o.qty, .int .u64 o.seq]] w fun e w' => ∃ c s1' s2', e = .returned (.int .i64 c) ∧ Hid (gAddIs w w' p m s1 s2 s1' s2' o c) := by
  obtain ⟨w0, hw0⟩ : ∃ w0, w.alloc (.cells (OC o) 24) = w0 := ⟨_, rfl⟩
  have b0 : Below w.heap.size w w0 := by rw [← hw0]; exact (Below.refl _ _).alloc (Nat.le_refl _) _
  have cO : Cl 24 w0 w.heap.size (OC o) := by rw [← hw0]; exact hd_last rfl
  have H0 := H.below b0
  have HM : Hid (Calls Try.prog 25 #[.pointer (some ⟨p, 0, none⟩)] w0 fun e w' => e = .returned (.bool true) ∧ w0 = w') := Lib.hid (by obtain ⟨D, h⟩ := H0; exact gMade_c _ _ _ _ _ _ h.gk)
  have HGd : Hid (Calls Try.prog 33 #[.agg #[.int .u64 o.id, .int .i64 o.acc, .int .i64 o.side, .int .i64 o.price, .int .i64 o.qty, .int .u64 o.seq]] w0 fun e w' => e = .returned (.bool (goodO o)) ∧ Gw w0 w') := Lib.hid (good_c o w0)
  rw [hg] at HGd
  obtain ⟨x0, x1, x2, x3, x4, x5⟩ := six_of cO
  have HB := Lib.hid b0
  clear b0 cO H0
  go_enter Try.func10, Try.ntmps10
  go_wp2_with fail
  ((with_reducible refine HM.out.mono ?_); rintro e w1 ⟨rfl, rfl⟩)
  go_wp2_with fail
  ((with_reducible refine HGd.out.mono ?_); rintro e w1 ⟨rfl, hb⟩)
  go_wp2_with fail
  go_ret
  exact ⟨2, s1, s2, rfl, Lib.hid (.inl ⟨rfl, hg, rfl, rfl, HB.out.trans (hb.b.mono HB.out.size)⟩)⟩
theorem gAdd_c (p : Nat) (m : Nat × Nat) (s1 s2 : Gd) (o : Od) (w : World) (H : gWhole w p m s1 s2) (hok : Od.ok w o) :
    Calls Try.prog 10 #[.pointer (some ⟨p, 0, none⟩), .agg #[.int .u64 o.id, .int .i64 o.acc, .int .i64 o.side, .int .i64 o.price, .int .i64 o.qty, .int .u64 o.seq]] w fun e w' => ∃ c s1' s2', e = .returned (.int .i64 c) ∧ Hid (gAddIs w w' p m s1 s2 s1' s2' o c) := by
  cases hg : goodO o with
  | false => exact gAdd_bad p m s1 s2 o w H hg
  | true => exact gAdd_there p m s1 s2 o w H hok hg
end Go.Proofs.Ytgbmgdffgmablaa

/- grove: what Take leaves of a side, in plain words and in memory. -/
namespace Go.Proofs.Ytgbmgdffgmablaa
open Go.RowKit Go.Sort Go.Lib Go.Maps Go.Shelf
set_option linter.unusedVariables false

def outO (id : Int) (q : List Od) : List Od := q.filter (fun x => !(x.id == id))
theorem outO_ids (id : Int) (q : List Od) : outQ id (q.map (·.id)) = (outO id q).map (·.id) := by
  unfold outQ outO
  rw [List.filter_map]
  rfl
theorem outO_perm {o : Od} : ∀ {q : List Od}, Ids q → o ∈ q → q.Perm (o :: outO o.id q)
  | [], _, h => (by cases h)
  | x :: q, hi, h => by
    obtain ⟨h1, h2⟩ := List.pairwise_cons.1 hi
    rcases List.mem_cons.1 h with rfl | h
    · unfold outO
      rw [List.filter_cons_of_neg (by simp), List.filter_eq_self.2 (fun y hy => by have := h1 y hy; simp; exact fun e => this e.symm)]
    · have hx : ¬ x.id = o.id := h1 o h
      unfold outO
      rw [List.filter_cons_of_pos (by simp [hx])]
      exact ((outO_perm h2 h).cons x).trans (List.Perm.swap o x _)
theorem ids_flat {A M B : List Rw} (h : Ids (flatR (A ++ M ++ B))) : Ids (flatR M) := by
  unfold flatR at h ⊢
  rw [List.flatMap_append, List.flatMap_append] at h
  exact (List.pairwise_append.1 (List.pairwise_append.1 h).1).2.1
theorem idsL_flat {Q1 Q2 : List Rw} (h : Ids (bookL Q1 Q2)) : Ids (flatR Q1) ∧ Ids (flatR Q2) := ⟨(List.pairwise_append.1 h).1, (List.pairwise_append.1 h).2.1⟩
/-- What Take leaves in memory. -/
def TakeMem (w w' : World) (m : Nat) (sd : Int) (g : Sg) (Q : List Rw) (L : List Od) (o : Od) : Prop := ∃ D' T' Q',
  w'.ownsMap Try.prog 22 RV m 64 D' ∧ OmT D' (outO o.id L) ∧ SideTo w w' m sd g ⟨g.tb, g.sb, T'⟩ ∧ T'.rows = Q'.map rqOf ∧ SideOk sd Q' ∧ (flatR Q).Perm (o :: flatR Q') ∧
  (∀ Y, VD (g.t.vals ++ Y) → (∀ u ∈ g.t.vals ++ Y, ∀ k, u.ownBlock = some k → k < w.heap.size) → VD (T'.vals ++ Y))
/-- A side turned, from its memory before. -/
theorem side_to {w w0 w3 w5 w6 : World} {m : Nat} {sd pr : Int} {g : Sg} {A M B : List Rw} {Tw T' : Tr} (b0 : Below w.heap.size w w0) (hg : w0.grownBy w3 (some m)) (hR : Rew w5 sd pr g A M B Tw) (hf : Fr (sfoot g) w3 w5) (hfr : Fr (fun b => b = g.tb ∨ b ∈ Tw.blks) w5 w6)
    (hcx : CxIn w6 g.tb g.sb .top T'.ptr) (htr : TrIn w6 T') (hsrt : Srt sd T'.rows) (hnd : T'.blks.Nodup) (hbl : ∀ b ∈ T'.blks, b ∈ Tw.blks ∨ w5.heap.size ≤ b) (hvl : ∀ v ∈ T'.vals, ∀ k, v.ownBlock = some k → sfoot g k ∨ w.heap.size ≤ k) : SideTo w w6 m sd g ⟨g.tb, g.sb, T'⟩ := by
  have hbx : Cl 3 w6 g.sb #[.int .i64 sd] := hfr.blk hR.sg.box (put_off hR.sg hR.sg.box (by decide) (by decide))
  have hf56 : Fr (sfoot g) w5 w6 := hfr.mono (fun k hk => .inl (by
    rcases hk with rfl | hk
    · exact .inr (.inl rfl)
    · rw [hR.blks] at hk; exact .inr (.inr (.inl hk))))
  have f1 : Fr (fun k => k = m ∨ sfoot g k) w w3 := (Fr.of_below (S := fun k => k = m ∨ sfoot g k) b0).trans (fr_grown hg) (fun k h => .inl (.inl h))
  refine ⟨⟨hbx, hcx, htr, hsrt, hnd⟩, rfl, rfl, fun b hb => ?_, hvl, (f1.trans hf (fun k h => .inl (.inr h))).trans hf56 (fun k h => .inl (.inr h))⟩
  rcases hbl b hb with h | h
  · rw [hR.blks] at h; exact .inl h
  · exact .inr (Nat.le_trans b0.size (Nat.le_trans hg.size (Nat.le_trans hf.size h)))
theorem take_put {w w0 w3 w5 w6 : World} {m p ms : Nat} {D D' : DataW Value} {g1 g2 : Sg} {Q1 Q2 : List Rw} {sd : Int} {g : Sg} {Q A B : List Rw} {mr : Rw} {o : Od} {Tw T' : Tr} {v v' : Value}
    (S : OwnS w p m ms D g1 g2 Q1 Q2 sd g Q) (hsd : sd = 1 ∨ sd = 2) (hI : Ids (bookL Q1 Q2)) (b0 : Below w.heap.size w w0) (hg03 : w0.grownBy w3 (some m)) (sg3 : SgIn w3 sd g) (om3 : w3.ownsMap Try.prog 22 RV m 64 D') (hO3 : OmT D' (outO o.id (bookL Q1 Q2)))
    (hQe : Q = A ++ [mr] ++ B) (hA : ∀ a ∈ A, betN sd a.pr mr.pr = true) (hB : ∀ b ∈ B, betN sd mr.pr b.pr = true) (ho : o ∈ mr.q) (hne : outO o.id mr.q ≠ [])
    (hR : Rew w5 sd mr.pr g A [mr] B Tw) (hf : Fr (sfoot g) w3 w5) (hv : (mr.pr, v) ∈ g.t.items) (hvv : v'.ownBlock = v.ownBlock) (h6 : TPut w5 w6 g.tb g.sb sd mr.pr Tw T' v' ((outO o.id mr.q).map (·.id))) : TakeMem w w6 m sd g Q (bookL Q1 Q2) o := by
  obtain ⟨M', e, hM'⟩ := hR.rows
  obtain ⟨P, R, Z, r1, r2, r3, hP1, hZ1⟩ := h6.rows
  rw [e] at r1
  obtain ⟨e1, e2, e3⟩ := part_rq rfl hA hM' hB r1 hP1 (fun a ha => by rcases r3 with h3 | ⟨q0, h3⟩ <;> (rw [h3] at ha; simp at ha); rw [ha]) hZ1
  obtain ⟨A', B', C', k1, k2, k3⟩ := h6.vals
  rw [hR.vals] at k1
  obtain ⟨u, rfl, k4⟩ : ∃ u, B' = [u] ∧ (mr.pr, u) ∈ Tw.items := by
    rcases k3 with ⟨_, k3⟩ | k3
    · exact absurd (by rw [hR.items]; exact hv) (k3 v)
    · exact k3
  rw [hR.items] at k4
  have hu := items_one sg3.srt hv k4
  subst hu
  have hQok : SideOk sd (A ++ [mr] ++ B) := by rw [← hQe]; exact S.ok
  have hIdQ : Ids (flatR (A ++ [mr] ++ B)) := by
    rw [← hQe]
    have hsub : ∀ x ∈ flatR Q, x ∈ bookL Q1 Q2 := S.mem
    exact S.ids hI
  have hIm : Ids mr.q := by simpa [flatR] using ids_flat hIdQ
  have hpm := outO_perm hIm ho
  have hf16 : Fr (sfoot g) w3 w6 := hf.trans (h6.fr.mono (fun k hk => .inl (by
    rcases hk with rfl | hk
    · exact .inr (.inl rfl)
    · rw [hR.blks] at hk; exact .inr (.inr (.inl hk))))) (fun _ h => .inl h)
  have hvl : ∀ x ∈ T'.vals, ∀ k, x.ownBlock = some k → sfoot g k ∨ w.heap.size ≤ k := fun x hx k hk => by
    rw [k2] at hx
    rcases List.mem_append.1 hx with hx | hx
    · exact .inl (.inr (.inr (.inr ⟨x, by rw [k1]; simp [hx], hk⟩)))
    · rcases List.mem_cons.1 hx with rfl | hx
      · exact .inl (.inr (.inr (.inr ⟨v, by rw [k1]; simp, by rw [← hvv]; exact hk⟩)))
      · exact .inl (.inr (.inr (.inr ⟨x, by rw [k1]; simp [hx], hk⟩)))
  refine ⟨D', T', A ++ ⟨mr.pr, .slice none 0 0, outO o.id mr.q⟩ :: B, ownsMap_fr om3 hf16 (fun h => sg3.no_map om3 m h rfl), hO3, side_to b0 hg03 hR hf h6.fr h6.cx h6.tr h6.srt h6.nd h6.bl hvl, ?_, ?_, ?_, ?_⟩
  · rw [r2, ← e1, ← e3]
    simp [rqOf]
  · exact side_set hA hB hQok rfl hne (fun x hx => (hQok.mem mr (by simp) x (List.mem_filter.1 hx).1)) ((hQok.que mr (by simp)).filter _)
  · rw [hQe]
    unfold flatR
    rw [List.flatMap_append, List.flatMap_append, List.flatMap_append, List.flatMap_cons]
    simp only [List.flatMap_cons, List.flatMap_nil, List.append_nil, List.append_assoc]
    exact ((hpm.append_right _).append_left _).trans List.perm_middle
  · intro Y hY hlt
    rw [k2]
    exact vd_vals (A := A') (B := [v]) (C := C') (Y := Y) (by rw [← k1]; exact hY) (n := w.heap.size) (by rw [← k1]; exact hlt) (.inr ⟨v, rfl, hvv⟩)
theorem take_drop {w w0 w3 w5 w6 : World} {m p ms : Nat} {D D' : DataW Value} {g1 g2 : Sg} {Q1 Q2 : List Rw} {sd : Int} {g : Sg} {Q A B : List Rw} {mr : Rw} {o : Od} {Tw T' : Tr}
    (S : OwnS w p m ms D g1 g2 Q1 Q2 sd g Q) (hI : Ids (bookL Q1 Q2)) (b0 : Below w.heap.size w w0) (hg03 : w0.grownBy w3 (some m)) (sg3 : SgIn w3 sd g) (om3 : w3.ownsMap Try.prog 22 RV m 64 D') (hO3 : OmT D' (outO o.id (bookL Q1 Q2)))
    (hQe : Q = A ++ [mr] ++ B) (hA : ∀ a ∈ A, betN sd a.pr mr.pr = true) (hB : ∀ b ∈ B, betN sd mr.pr b.pr = true) (ho : o ∈ mr.q) (hne : outO o.id mr.q = [])
    (hR : Rew w5 sd mr.pr g A [mr] B Tw) (hf : Fr (sfoot g) w3 w5) (h6 : TDrop w5 w6 g.tb g.sb sd mr.pr Tw T') : TakeMem w w6 m sd g Q (bookL Q1 Q2) o := by
  obtain ⟨M', e, hM'⟩ := hR.rows
  obtain ⟨P, R, Z, r1, r2, r3, hP1, hZ1⟩ := h6.rows
  rw [e] at r1
  obtain ⟨e1, e2, e3⟩ := part_rq rfl hA hM' hB r1 hP1 (fun a ha => by rcases r3 with h3 | ⟨q0, h3⟩ <;> (rw [h3] at ha; simp at ha); rw [ha]) hZ1
  obtain ⟨A', B', C', k1, k2, k3⟩ := h6.vals
  rw [hR.vals] at k1
  have hQok : SideOk sd (A ++ [mr] ++ B) := by rw [← hQe]; exact S.ok
  have hIm : Ids mr.q := by
    have := ids_flat (by rw [← hQe]; exact S.ids hI : Ids (flatR (A ++ [mr] ++ B)))
    simpa [flatR] using this
  have hpm := outO_perm hIm ho
  rw [hne] at hpm
  have hf16 : Fr (sfoot g) w3 w6 := hf.trans (h6.fr.mono (fun k hk => .inl (by
    rcases hk with rfl | hk
    · exact .inr (.inl rfl)
    · rw [hR.blks] at hk; exact .inr (.inr (.inl hk))))) (fun _ h => .inl h)
  refine ⟨D', T', A ++ B, ownsMap_fr om3 hf16 (fun h => sg3.no_map om3 m h rfl), hO3, side_to b0 hg03 hR hf h6.fr h6.cx h6.tr h6.srt h6.nd (fun b hb => .inl (h6.bl b hb)) (fun x hx k hk => .inl (.inr (.inr (.inr ⟨x, ?_, hk⟩)))), ?_, side_drop hQok, ?_, ?_⟩
  · rw [k2] at hx
    rw [k1]
    rcases List.mem_append.1 hx with hx | hx <;> simp [hx]
  · rw [r2, ← e1, ← e3, List.map_append]
  · rw [hQe]
    unfold flatR
    rw [List.flatMap_append, List.flatMap_append, List.flatMap_append]
    simp only [List.flatMap_cons, List.flatMap_nil, List.append_nil, List.append_assoc]
    exact ((hpm.append_right _).append_left _).trans List.perm_middle
  · intro Y hY _
    rw [k2]
    rw [k1] at hY
    refine hY.sub (List.Sublist.append (List.Sublist.append ?_ (List.Sublist.refl _)) (List.Sublist.refl _))
    exact List.sublist_append_left A' B'
end Go.Proofs.Ytgbmgdffgmablaa

/- grove: Take. (By mkgwn.py.) -/
namespace Go.Proofs.Ytgbmgdffgmablaa
open Go.RowKit Go.Sort Go.Lib Go.Maps Go.Shelf
set_option linter.unusedVariables false

section
variable {ops : Array Oper} {o : Oper} {a : Act} {w : World} {Q : Exit → Act → World → Prop}
theorem any_del {K : Act → World → Prop} {E : Prop} (hgd : Region.wanted o (yielded ops a.tmps) = true) (x y : Operand) (t k : TypeId) (ho : o.op = .call { callee := .builtin .delete, args := #[x, y], argTypes := #[t, k] }) (mv kv : Value) (hx : a.eval x = mv) (hy : a.eval y = kv) {w' : World}
    (hr : (Builtin.delete_ #[t, k] o.type #[mv, kv]).run Try.prog w = .ok (.tuple #[]) w') (h : K (a.put o.dst (.tuple #[])) w') : if Region.wanted o (yielded ops a.tmps) = true then Oper.wp Try.prog o a w K Q else E := by
  rw [if_pos hgd]
  unfold Oper.wp
  simp [execOp, ho, resolve, invoke, builtin, hx, hy, hr, Result.andThen]
  exact h
end
theorem gtake_more {w w6 w7 : World} {m rb : Nat} {sd : Int} {g : Sg} {Q : List Rw} {L : List Od} {o : Od} {cs : Array Value} (h : TakeMem w w6 m sd g Q L o) (hf : Fr (· = rb) w6 w7) (hc : Cl 24 w6 rb cs) (hr : w.heap.size ≤ rb) : TakeMem w w7 m sd g Q L o := by
  obtain ⟨D', T', Q', om, hO, sT, er, ok, pm, vd⟩ := h
  have hno : ∀ k, sfoot ⟨g.tb, g.sb, T'⟩ k → ¬ k = rb := fun k hk e => by
    subst e
    have d : ∀ {T T' : TypeId} {cs cs' : Array Value}, Cl T w6 k cs → Cl T' w6 k cs' → T ≠ T' → False := fun a b c => cl_ne a b c rfl
    rcases sT.sg.cls hk with ⟨a, c, hc'⟩ | ⟨a, c, hc'⟩ | ⟨a, c, hc'⟩ | ⟨_, c, hc'⟩ <;> exact d hc' hc (by decide)
  exact ⟨D', T', Q', ownsMap_fr om hf (fun e => cl_ne_map hc om e.symm), hO, ⟨sT.sg.keep hf hno, sT.tb, sT.sb, sT.bl, sT.vl, sT.fr.trans hf (fun k hk => by subst hk; exact .inr hr)⟩, er, ok, pm, vd⟩
theorem sum_out {o : Od} {L : List Od} (hi : Ids L) (ho : o ∈ L) : (outO o.id L).length + (if (omL L o.id).isSome = true then 1 else 0) = L.length := by
  rw [(omL_some hi).2 ⟨ho, rfl⟩, (outO_perm hi ho).length_eq]
  simp
set_option maxHeartbeats 4000000 in
set_option maxRecDepth 100000 in
theorem gTake_w (p m ms : Nat) (D : DataW Value) (g1 g2 : Sg) (Q1 Q2 : List Rw) (sd : Int) (g : Sg) (Q : List Rw) (o : Od) (w : World) (H : GW w p m ms D g1 g2 Q1 Q2) (S : OwnS w p m ms D g1 g2 Q1 Q2 sd g Q) (h12 : (sd = 1 ∧ g = g1) ∨ (sd = 2 ∧ g = g2))
    (hVD : VD g.t.vals) (hs : o.side = sd) (ho : o ∈ flatR Q) :
    Calls Try.prog 8 #[.pointer (some ⟨p, 0, none⟩), .int .u64 o.id] w fun e w' => e = .returned (.tuple #[.agg (OC o), .bool true]) ∧ Hid (TakeMem w w' m sd g Q (bookL Q1 Q2) o) := by
  subst hs
  have hsd := S.s12
  have hoL := S.mem o ho
  have hwf := wf_u (H.ok o hoL).1.1
  obtain ⟨w0, hw0⟩ : ∃ w0, ((w.alloc (.cells #[.int .u64 o.id] 22)).alloc (.cells (OC ⟨0, 0, 0, 0, 0, 0⟩) 24)) = w0 := ⟨_, rfl⟩
  have b0 : Below w.heap.size w w0 := by rw [← hw0]; exact ((Below.refl _ _).alloc (Nat.le_refl _) _).alloc (by simp) _
  have cI : Cl 22 w0 w.heap.size #[.int .u64 o.id] := by rw [← hw0]; exact hd_prev (by simp) (hd_last rfl)
  have cR : Cl 24 w0 (w.heap.size + 1) (OC ⟨0, 0, 0, 0, 0, 0⟩) := by rw [← hw0]; exact hd_last (by simp)
  have H0 := H.below b0
  have HGet := Lib.hid (gGet_c p m ms D g1 g2 Q1 Q2 o.id hwf w0 H0)
  rw [(omL_some H.ids).2 ⟨hoL, rfl⟩] at HGet
  have kI : w0.cell? ⟨w.heap.size, 0, none⟩ = some (.int .u64 o.id) := (Cl.c cI 0).trans rfl
  have HH := Lib.hid (And.intro H (And.intro S (And.intro b0 (And.intro cI (And.intro cR (And.intro hVD (And.intro ho hoL)))))))
  clear H0 cI cR H S b0 hVD ho hoL
  go_enter Try.func8, Try.ntmps8
  go_wp2_with fail
  ((with_reducible refine HGet.out.mono ?_); rintro e w1 ⟨rfl, hb1⟩)
  clear HGet kI
  dsimp only [Option.getD, Option.isSome]
  obtain ⟨w2, hw2⟩ : ∃ w2, w1.alloc (.cells (OC o) 24) = w2 := ⟨_, rfl⟩
  obtain ⟨H, S, b0, cI, cR, hVD, ho, hoL⟩ := HH.out
  have b02 : Below w0.heap.size w0 w2 := by rw [← hw2]; exact hb1.out.alloc hb1.out.size _
  have hz0 : w0.heap.size = w.heap.size + 2 := by rw [← hw0]; simp
  have b2 : Below w.heap.size w w2 := b0.trans (b02.mono b0.size)
  have hz1 : w.heap.size + 2 ≤ w1.heap.size := by rw [← hz0]; exact hb1.out.size
  have cO2 : Cl 24 w2 w1.heap.size (OC o) := by rw [← hw2]; exact hd_last rfl
  have cI2 : Cl 22 w2 w.heap.size #[.int .u64 o.id] := (b02.block _ (blk_lt cI)).trans cI
  have cR2 : Cl 24 w2 (w.heap.size + 1) (OC ⟨0, 0, 0, 0, 0, 0⟩) := (b02.block _ (blk_lt cR)).trans cR
  have G2 := H.below b2
  have om2 := G2.gk.om _ _ rfl
  obtain ⟨w3, hr, D', om3, hO3, hg3⟩ := del_o (M := outO o.id (bookL Q1 Q2)) (om2.drew) H.om o.id hwf (fun id => omL_drop _ _ _) (sum_out H.ids hoL) (by have := List.length_filter_le (fun x : Od => !(x.id == o.id)) (bookL Q1 Q2); have := H.len; unfold outO; omega) 0
  have hg23 : w2.grownBy w3 (some m) := ⟨hg3.os, hg3.tape, hg3.output, hg3.size, hg3.block⟩
  have HR := Lib.hid hr
  have nI := cl_ne_map cI2 om2
  have nO := cl_ne_map cO2 om2
  have nR := cl_ne_map cR2 om2
  have nP := cl_ne_map G2.bookp om2
  have HP : Hid (∀ W, w2.grownBy W (some m) → W.cell? ⟨p, 0, none⟩ = some (.map (some m))) := Lib.hid fun W h => (Cl.c ((fr_grown h).blk G2.bookp nP) 0).trans rfl
  have HI : Hid (∀ W, w2.grownBy W (some m) → W.cell? ⟨w.heap.size, 0, none⟩ = some (.int .u64 o.id)) := Lib.hid fun W h => (Cl.c ((fr_grown h).blk cI2 nI) 0).trans rfl
  have HG3 := Lib.hid hg23
  have gk3 := G2.gk.setom hg23 om3 H.mm
  have sg3 : SgIn w3 o.side g := by
    rcases h12 with ⟨h, rfl⟩ | ⟨h, rfl⟩
    · rw [h]; exact gk3.s1 rfl
    · rw [h]; exact gk3.s2 rfl
  have cI3 := (fr_grown hg23).blk cI2 nI
  have cO3 := (fr_grown hg23).blk cO2 nO
  have cR3 := (fr_grown hg23).blk cR2 nR
  have HS1 := Lib.hid (gSideO_c h12 w3 gk3)
  have HGt := Lib.hid (tGet_c g.tb g.sb o.side o.price g.t w3 (fun _ => hsd) sg3.box sg3.cx sg3.tr sg3.srt)
  obtain ⟨x0, x1, x2, x3, x4, x5⟩ := six_of cO3
  have HH3 := Lib.hid (And.intro b2 (And.intro hg23 (And.intro gk3 (And.intro sg3 (And.intro cI3 (And.intro cO3 (And.intro cR3 (And.intro om3 (And.intro hO3 hz1)))))))))
  clear H S b0 cI cR hVD ho hoL b02 hz0 b2 cO2 cI2 cR2 G2 om2 om3 hO3 hg3 hg23 hr nI nO nR nP gk3 sg3 cI3 cO3 cR3 hb1
  go_wp2_with fail
  refine wp_region_held_drew (S := fun W => w2.grownBy W (some m)) (by kernel_rfl) (by exact ⟨rfl, rfl, rfl, Nat.le_refl _, fun _ _ _ => rfl⟩) (fun hHeld => ?_)
  refine wpAnyH_take (i := 0) (oi := ⟨some 19, _, _, _, _, _⟩) (v := ?_) rfl (by kernel_rfl) (by kernel_rfl) (by kernel_rfl) (fun _ _ _ h => h) (Or.inl ⟨by kernel_rfl, ?_⟩) (by assumption) ?_
  rotate_left
  · (intro w hSw; (try dsimp only at hSw); go_simp; try with_reducible rfl)
  (repeat (first | simp only [Act.put] | simp only [List.setIfInBounds_toArray] | simp only [List.set_cons_succ] | simp only [List.set_cons_zero]))
  refine wpAnyH_take (i := 1) (oi := ⟨some 20, _, _, _, _, _⟩) (v := ?_) rfl (by kernel_rfl) (by kernel_rfl) (by kernel_rfl) (fun _ _ _ h => h) (Or.inl ⟨by kernel_rfl, ?_⟩) (by assumption) ?_
  rotate_left
  · (intro w hSw; (try dsimp only at hSw); go_simp; try with_reducible rfl)
  (repeat (first | simp only [Act.put] | simp only [List.setIfInBounds_toArray] | simp only [List.set_cons_succ] | simp only [List.set_cons_zero]))
  refine wpAnyH_take (i := 2) (oi := ⟨some 21, _, _, _, _, _⟩) (v := ?_) rfl (by kernel_rfl) (by kernel_rfl) (by kernel_rfl) (fun _ _ _ h => h) (Or.inl ⟨by kernel_rfl, ?_⟩) (by assumption) ?_
  rotate_left
  · (intro w hSw; (try dsimp only at hSw); go_simp; try with_reducible rfl)
  (repeat (first | simp only [Act.put] | simp only [List.setIfInBounds_toArray] | simp only [List.set_cons_succ] | simp only [List.set_cons_zero]))
  refine wpAnyH_take (i := 3) (oi := ⟨some 22, _, _, _, _, _⟩) (v := ?_) rfl (by kernel_rfl) (by kernel_rfl) (by kernel_rfl) (fun _ _ _ h => h) (Or.inl ⟨by kernel_rfl, ?_⟩) (by assumption) ?_
  rotate_left
  · (intro w hSw; have hs := HP.out _ hSw; (try dsimp only at hSw); go_simp; try with_reducible rfl)
  (repeat (first | simp only [Act.put] | simp only [List.setIfInBounds_toArray] | simp only [List.set_cons_succ] | simp only [List.set_cons_zero]))
  refine wpAnyH_take (i := 4) (oi := ⟨some 23, _, _, _, _, _⟩) (v := ?_) rfl (by kernel_rfl) (by kernel_rfl) (by kernel_rfl) (fun _ _ _ h => h) (Or.inl ⟨by kernel_rfl, ?_⟩) (by assumption) ?_
  rotate_left
  · (intro w hSw; have hs := HI.out _ hSw; (try dsimp only at hSw); go_simp; try with_reducible rfl)
  (repeat (first | simp only [Act.put] | simp only [List.setIfInBounds_toArray] | simp only [List.set_cons_succ] | simp only [List.set_cons_zero]))
  refine wpAnyH_ready (rs := [5]) (by kernel_rfl) (by simp) ?_
  refine AllReadyH.cons (o := ⟨none, _, _, _, _, _⟩) rfl (fun K hK => ?_) AllReadyH.nil
  ((with_reducible apply any_del); rfl; rfl; rfl; rfl; exact HR.out; skip)
  refine hK.out _ _ (by exact HG3.out) (fun hHeld => ?_)
  clear hK K
  (repeat (first | simp only [Act.put] | simp only [List.setIfInBounds_toArray] | simp only [List.set_cons_succ] | simp only [List.set_cons_zero]))
  refine wpAnyH_done (by kernel_rfl) ?_ _
  clear HP HI HR
  go_wp2_with fail
  ((with_reducible refine HS1.out.mono ?_); rintro e wS ⟨rfl, rfl⟩)
  clear HS1
  go_wp2_with fail
  ((with_reducible refine HGt.out.mono ?_); rintro e wG ⟨c, t, rfl, hh, n, rfl⟩)
  clear HGt
  obtain ⟨H, S, b0, cI, cR, hVD, ho, hoL⟩ := HH.out
  obtain ⟨b2, hg23, gk3, sg3, cI3, cO3, cR3, om3, hO3, hz1⟩ := HH3.out
  obtain ⟨A, M, B, hQe, hA, hB, hM⟩ := spot_row hh.out.1 hh.out.2 S.eq S.ok
  have hQok : SideOk o.side (A ++ M ++ B) := by rw [← hQe]; exact S.ok
  obtain ⟨a, v, q, l, r, mr, rfl, rfl, hmp, hqe, hAr, hBr⟩ : ∃ a v q l r mr, t = .node a o.price v q l r ∧ M = [mr] ∧ mr.pr = o.price ∧ q = mr.q.map (·.id) ∧ A.map rqOf = c.pre ++ l.rows ∧ B.map rqOf = r.rows ++ c.post := by
    rcases hM with ⟨_, rfl⟩ | h
    · rw [hQe, List.append_nil] at ho
      rw [List.append_nil] at hQok
      obtain ⟨x, hx, hox⟩ := List.mem_flatMap.1 ho
      have hp := (hQok.mem x hx o hox).2
      rcases List.mem_append.1 hx with hx | hx
      · have := hA x hx; rw [← hp, irr_b] at this; cases this
      · have := hB x hx; rw [← hp, irr_b] at this; cases this
    · exact h
  have hom : o ∈ mr.q := by
    rw [hQe] at ho
    obtain ⟨x, hx, hox⟩ := List.mem_flatMap.1 ho
    have hp := (hQok.mem x hx o hox).2
    rcases List.mem_append.1 hx with hx | hx
    · rcases List.mem_append.1 hx with hx | hx
      · have := hA x hx; rw [← hp, irr_b] at this; cases this
      · rw [List.mem_singleton.1 hx] at hox; exact hox
    · have := hB x hx; rw [← hp, irr_b] at this; cases this
  have hown := hh.out.1.tr.2.1
  subst hqe
  have hlq : mr.q.length ≤ 64 := by
    have h1 : (flatR Q).length = (flatR A).length + mr.q.length + (flatR B).length := by rw [hQe]; simp [flatR]; omega
    have := S.len
    omega
  obtain ⟨b1, cc, hv⟩ : ∃ b1 cc, v = .slice (some ⟨b1, 0, none⟩) (mr.q.map (·.id)).length cc := by
    rcases hown.2 with ⟨_, h0⟩ | ⟨gg, cap, cur, hv, _⟩
    · rw [List.length_map] at h0
      have := List.length_pos_of_mem hom
      omega
    · exact ⟨gg, cap, hv⟩
  subst hv
  dsimp only [Tr.val]
  have hbl : b1 < w.heap.size := H.lt b1 (S.ft b1 (.inr (.inr (.inr ⟨_, by
    obtain ⟨A3, C3, hpv⟩ := plug_vals c
    rw [← hh.out.1.eq, hpv]
    simp only [Tr.vals]
    exact List.mem_append_left _ (List.mem_append_right _ (List.mem_append_right _ List.mem_cons_self)), rfl⟩))))
  have own4 : (w3.drewN n).ownsRow 0 22 1 (.slice (some ⟨b1, 0, none⟩) (mr.q.map (·.id)).length cc) (mr.q.map (·.id)).length (idV (mr.q.map (·.id))) := own_fr hown (Fr.drewN (Fr.refl (fun _ => False) _) n) (fun _ _ h => h)
  have HDel := Lib.hid (del_U (w3.drewN n) 0 b1 cc w.heap.size o.id (mr.q.map (·.id)) own4 (by rw [List.length_map]; omega) cI3 (by omega))
  rw [outO_ids] at HDel
  have hlen1 : ((outO o.id mr.q).map (·.id)).length = (outO o.id mr.q).length := List.length_map _
  have hlen2 : (mr.q.map (·.id)).length = mr.q.length := List.length_map _
  have HLe := Lib.hid (And.intro hlen1 hlen2)
  obtain ⟨N, hN⟩ : ∃ N, N = ((outO o.id mr.q).map (·.id)).length := ⟨_, rfl⟩
  rw [← hN] at HDel
  obtain ⟨N0, hN0⟩ : ∃ N0, N0 = (mr.q.map (·.id)).length := ⟨_, rfl⟩
  rw [← hN0] at HDel ⊢
  have HN := Lib.hid (And.intro hN hN0)
  have HH4 := Lib.hid (And.intro hQe (And.intro hA (And.intro hB (And.intro hmp (And.intro hAr (And.intro hBr (And.intro hom (And.intro hlq hbl))))))))
  have hN64 : N ≤ 64 := by
    have := List.length_filter_le (fun x : Od => !(x.id == o.id)) mr.q
    rw [hN, hlen1]; unfold outO; omega
  clear H S b0 cI cR hVD ho hoL b2 hg23 gk3 sg3 cI3 cO3 cR3 om3 hO3 hz1 hQe hA hB hQok hAr hBr hom hown hlq hbl own4 hlen1 hlen2 hN hN0 x0 x1 x2 x3 x4 x5
  have hmf := hmf_any
  go_wp2_with fail
  ((with_reducible refine HDel.out.mono ?_); rintro e w5 ⟨rfl, h5⟩)
  clear HDel
  obtain ⟨H, S, b0, cI, cR, hVD, ho, hoL⟩ := HH.out
  obtain ⟨b2, hg23, gk3, sg3, cI3, cO3, cR3, om3, hO3, hz1⟩ := HH3.out
  obtain ⟨hQe, hA, hB, hmp', hAr, hBr, hom, hlq, hbl⟩ := HH4.out
  have f35 : Fr (· = b1) w3 w5 := ((Fr.drewN (Fr.refl (fun _ => False) w3) n).mono (fun _ h => h.elim)).trans (fr_grown h5.out.2.2) (fun _ h => .inl h)
  have hb1v : (Value.slice (some ⟨b1, 0, none⟩) (mr.q.map (·.id)).length cc) ∈ g.t.vals ∧ (o.price, Value.slice (some ⟨b1, 0, none⟩) (mr.q.map (·.id)).length cc) ∈ g.t.items := by
    obtain ⟨A3, C3, hpv⟩ := plug_vals c
    obtain ⟨A2, C2, hpi⟩ := plug_items c
    rw [← hh.out.1.eq, hpv, hpi]
    simp only [Tr.vals, Tr.items]
    exact ⟨List.mem_append_left _ (List.mem_append_right _ (List.mem_append_right _ List.mem_cons_self)), List.mem_append_left _ (List.mem_append_right _ (List.mem_append_right _ List.mem_cons_self))⟩
  have hRw : Rew w5 o.side o.price g A [mr] B (c.plug (.node a o.price (.slice (some ⟨b1, 0, none⟩) (mr.q.map (·.id)).length cc) (oldQ o.id (mr.q.map (·.id))) l r)) :=
    rew_place sg3 hh.out.1 rfl hVD f35 (by rw [oldQ_len]; have := h5.out.2.1; rw [HN.out.2] at this; exact this) hAr hBr
  generalize hTw : c.plug (.node a o.price (.slice (some ⟨b1, 0, none⟩) (mr.q.map (·.id)).length cc) (oldQ o.id (mr.q.map (·.id))) l r) = Tw at hRw
  have f35s : Fr (sfoot g) w3 w5 := f35.mono (fun k hk => .inl (by subst hk; exact .inr (.inr (.inr ⟨_, hb1v.1, rfl⟩))))
  obtain ⟨cu, hcu⟩ := sg3.tr.vcl _ hb1v.1 b1 rfl
  have cO5 : Cl 24 w5 w1.heap.size (OC o) := f35.blk cO3 (cl_ne cO3 hcu (by decide))
  have cR5 : Cl 24 w5 (w.heap.size + 1) (OC ⟨0, 0, 0, 0, 0, 0⟩) := f35.blk cR3 (cl_ne cR3 hcu (by decide))
  obtain ⟨x0, x1, x2, x3, x4, x5⟩ := six_of cO5
  have hN0I : (0 : Int) ≤ (N : Int) := by omega
  by_cases hz : N = 0
  · have ez : ((N : Int) == 0) = true := by simp [hz]
    have hnil : outO o.id mr.q = [] := by
      have h1 := HN.out.1
      rw [HLe.out.1, hz] at h1
      exact List.eq_nil_of_length_eq_zero h1.symm
    have HDr := Lib.hid (tDrop_c g.tb g.sb o.side o.price Tw w5 hsd hRw.sg.box hRw.sg.cx hRw.sg.tr hRw.sg.srt hRw.sg.nd)
    have HT6 := Lib.hid (fun w6 T' (h6 : TDrop w5 w6 g.tb g.sb o.side o.price Tw T') => take_drop S H.ids b2 hg23 sg3 om3 hO3 hQe (by rw [hmp']; exact hA) (by rw [hmp']; exact hB) hom hnil (by rw [hmp']; exact hRw) f35s (by rw [hmp']; exact h6))
    have CH5 := Lib.hid (fun w6 T' (h6 : TDrop w5 w6 g.tb g.sb o.side o.price Tw T') => And.intro (h6.fr.blk cO5 (put_off hRw.sg cO5 (by decide) (by decide))) (h6.fr.blk cR5 (put_off hRw.sg cR5 (by decide) (by decide))))
    clear H S b0 cI cR hVD ho hoL b2 hg23 gk3 sg3 cI3 cO3 cR3 om3 hO3 hQe hA hB hAr hBr hom hlq hbl f35 hb1v hRw f35s hcu cO5 cR5 h5 hnil hh hz
    go_wp2_with fail
    ((with_reducible refine HDr.out.mono ?_); rintro e w6 ⟨rfl, T', h6⟩)
    have HT6 := Lib.hid (HT6.out w6 T' h6.out)
    obtain ⟨cO6, cR6⟩ := CH5.out w6 T' h6.out
    clear HDr h6 x0 x1 x2 x3 x4 x5
    obtain ⟨x0, x1, x2, x3, x4, x5⟩ := six_of cO6
    obtain ⟨z0, z1, z2, z3, z4, z5⟩ := six_of cR6
    have f0 := Cl.f cR6 (k := 0); have f1 := Cl.f cR6 (k := 1); have f2 := Cl.f cR6 (k := 2); have f3 := Cl.f cR6 (k := 3); have f4 := Cl.f cR6 (k := 4); have f5 := Cl.f cR6 (k := 5)
    have HR6 := Lib.hid cR6
    clear cO6 cR6 CH5
    go_wp2_with fail
    have hf7 : Fr (· = w.heap.size + 1) w6 (put6 w6 (w.heap.size + 1) o) := put6_frg o (Fr.refl _ _)
    have hX := put6_cl o HR6.out
    refine bodyPost_ret (retOt rfl _ _ _ rfl o _ hX _ rfl) rfl ?_
    exact ⟨rfl, Lib.hid (gtake_more HT6.out hf7 HR6.out (by omega))⟩
  · have ez : ((N : Int) == 0) = false := by simp; omega
    have hnn : outO o.id mr.q ≠ [] := fun e => hz (by rw [HN.out.1, HLe.out.1, e]; rfl)
    have HPt := Lib.hid (tPut_c g.tb g.sb o.side o.price Tw (.slice (some ⟨b1, 0, none⟩) N cc) ((outO o.id mr.q).map (·.id)) w5 hsd hRw.sg.box hRw.sg.cx hRw.sg.tr hRw.sg.srt hRw.sg.nd (by have := h5.out.1; rw [← HN.out.1]; exact this))
    have HT6 := Lib.hid (fun w6 T' (h6 : TPut w5 w6 g.tb g.sb o.side o.price Tw T' (.slice (some ⟨b1, 0, none⟩) N cc) ((outO o.id mr.q).map (·.id))) => take_put (v := .slice (some ⟨b1, 0, none⟩) (mr.q.map (·.id)).length cc) (v' := .slice (some ⟨b1, 0, none⟩) N cc) S hsd H.ids b2 hg23 sg3 om3 hO3 hQe (by rw [hmp']; exact hA) (by rw [hmp']; exact hB) hom hnn (by rw [hmp']; exact hRw) f35s (by rw [hmp']; exact hb1v.2) rfl (by rw [hmp']; exact h6))
    have CH5 := Lib.hid (fun w6 T' (h6 : TPut w5 w6 g.tb g.sb o.side o.price Tw T' (.slice (some ⟨b1, 0, none⟩) N cc) ((outO o.id mr.q).map (·.id))) => And.intro (h6.fr.blk cO5 (put_off hRw.sg cO5 (by decide) (by decide))) (h6.fr.blk cR5 (put_off hRw.sg cR5 (by decide) (by decide))))
    clear H S b0 cI cR hVD ho hoL b2 hg23 gk3 sg3 cI3 cO3 cR3 om3 hO3 hQe hA hB hAr hBr hom hlq hbl f35 hb1v hRw f35s hcu cO5 cR5 h5 hnn hh hz
    go_wp2_with fail
    ((with_reducible refine HPt.out.mono ?_); rintro e w6 ⟨rfl, T', h6⟩)
    have HT6 := Lib.hid (HT6.out w6 T' h6.out)
    obtain ⟨cO6, cR6⟩ := CH5.out w6 T' h6.out
    clear HPt h6 x0 x1 x2 x3 x4 x5
    obtain ⟨x0, x1, x2, x3, x4, x5⟩ := six_of cO6
    obtain ⟨z0, z1, z2, z3, z4, z5⟩ := six_of cR6
    have f0 := Cl.f cR6 (k := 0); have f1 := Cl.f cR6 (k := 1); have f2 := Cl.f cR6 (k := 2); have f3 := Cl.f cR6 (k := 3); have f4 := Cl.f cR6 (k := 4); have f5 := Cl.f cR6 (k := 5)
    have HR6 := Lib.hid cR6
    clear cO6 cR6 CH5
    go_wp2_with fail
    have hf7 : Fr (· = w.heap.size + 1) w6 (put6 w6 (w.heap.size + 1) o) := put6_frg o (Fr.refl _ _)
    have hX := put6_cl o HR6.out
    refine bodyPost_ret (retOt rfl _ _ _ rfl o _ hX _ rfl) rfl ?_
    exact ⟨rfl, Lib.hid (gtake_more HT6.out hf7 HR6.out (by omega))⟩
end Go.Proofs.Ytgbmgdffgmablaa

/- grove: Take, whole; an ID that is not there. -/
namespace Go.Proofs.Ytgbmgdffgmablaa
open Go.RowKit Go.Sort Go.Lib Go.Maps Go.Shelf
set_option linter.unusedVariables false

structure gTakeIs (w w' : World) (p : Nat) (m : Nat × Nat) (s1 s2 s1' s2' : Gd) (o : Od) : Prop where
  tu : gTurnIs w w' p m s1 s2 s1' s2'
  perm : (bookL s1.rs s2.rs).Perm (o :: bookL s1'.rs s2'.rs)
  e2 : o.side = 1 → s2' = s2
  e1 : o.side = 2 → s1' = s1
theorem out_same {L M : List Od} {o : Od} (hi : Ids L) (ho : o ∈ L) (h : L.Perm (o :: M)) : (outO o.id L).Perm M := ((outO_perm hi ho).symm.trans h).cons_inv
theorem take_all {L M : List Od} {o : Od} {w w' : World} (hi : Ids L) (h : L.Perm (o :: M)) (hl : L.length ≤ 64) (hok : ∀ x ∈ L, Od.ok w x ∧ goodO x = true) : Ids M ∧ M.length ≤ 64 ∧ ∀ x ∈ M, Od.ok w' x ∧ goodO x = true := by
  have hi' := idsP hi h
  refine ⟨(List.pairwise_cons.1 hi').2, ?_, fun x hx => hok x (h.mem_iff.2 (List.mem_cons_of_mem _ hx))⟩
  have := h.length_eq
  simp at this
  omega
theorem gtake_w1 {w w' : World} {p : Nat} {m : Nat × Nat} {D : DataW Value} {s1 s2 : Gd} {o : Od} (H : GW w p m.1 m.2 D s1.g s2.g s1.rs s2.rs) (h : TakeMem w w' m.1 1 s1.g s1.rs (bookL s1.rs s2.rs) o) (hs : o.side = 1) (ho : o ∈ bookL s1.rs s2.rs) :
    ∃ s1', gTakeIs w w' p m s1 s2 s1' s2 o := by
  obtain ⟨D', T', Q', om, hO, sT, er, ok, pm, vd⟩ := h
  have hperm : (bookL s1.rs s2.rs).Perm (o :: bookL Q' s2.rs) := pm.append_right (flatR s2.rs)
  obtain ⟨i', l', k'⟩ := take_all (w' := w') H.ids hperm H.len H.ok
  have hio : Ids (outO o.id (bookL s1.rs s2.rs)) := H.ids.filter _
  have hlt : ∀ u ∈ s1.g.t.vals ++ s2.g.t.vals, ∀ k, u.ownBlock = some k → k < w.heap.size := fun u hu k hk => by
    rcases List.mem_append.1 hu with hu | hu
    · exact (H.gk.s1 rfl).tr.vlt u hu k hk
    · exact (H.gk.s2 rfl).tr.vlt u hu k hk
  exact ⟨⟨⟨s1.g.tb, s1.g.sb, T'⟩, Q'⟩, turn1 H sT om (hO.perm hio (out_same H.ids ho hperm)) er ok i' l' k' (vd _ H.vd hlt), hperm, fun _ => rfl, fun h => by omega⟩
theorem gtake_w2 {w w' : World} {p : Nat} {m : Nat × Nat} {D : DataW Value} {s1 s2 : Gd} {o : Od} (H : GW w p m.1 m.2 D s1.g s2.g s1.rs s2.rs) (h : TakeMem w w' m.1 2 s2.g s2.rs (bookL s1.rs s2.rs) o) (hs : o.side = 2) (ho : o ∈ bookL s1.rs s2.rs) :
    ∃ s2', gTakeIs w w' p m s1 s2 s1 s2' o := by
  obtain ⟨D', T', Q', om, hO, sT, er, ok, pm, vd⟩ := h
  have hperm : (bookL s1.rs s2.rs).Perm (o :: bookL s1.rs Q') := (pm.append_left (flatR s1.rs)).trans List.perm_middle
  obtain ⟨i', l', k'⟩ := take_all (w' := w') H.ids hperm H.len H.ok
  have hio : Ids (outO o.id (bookL s1.rs s2.rs)) := H.ids.filter _
  have hlt : ∀ u ∈ s2.g.t.vals ++ s1.g.t.vals, ∀ k, u.ownBlock = some k → k < w.heap.size := fun u hu k hk => by
    rcases List.mem_append.1 hu with hu | hu
    · exact (H.gk.s2 rfl).tr.vlt u hu k hk
    · exact (H.gk.s1 rfl).tr.vlt u hu k hk
  exact ⟨⟨⟨s2.g.tb, s2.g.sb, T'⟩, Q'⟩, turn2 H sT om (hO.perm hio (out_same H.ids ho hperm)) er ok i' l' k' ((vd _ (H.vd.perm List.perm_append_comm) hlt).perm List.perm_append_comm), hperm, fun h => by omega, fun _ => rfl⟩
theorem gTake_c (p : Nat) (m : Nat × Nat) (s1 s2 : Gd) (o : Od) (id : Int) (w : World) (H : gWhole w p m s1 s2) (ho : o ∈ bookL s1.rs s2.rs) (hid : o.id = id) :
    Calls Try.prog 8 #[.pointer (some ⟨p, 0, none⟩), .int .u64 id] w fun e w' => e = .returned (.tuple #[optV (some o), .bool true]) ∧ ∃ s1' s2', Hid (gTakeIs w w' p m s1 s2 s1' s2' o) := by
  subst hid
  obtain ⟨D, H⟩ := H
  rcases List.mem_append.1 ho with ho1 | ho1
  · have hs := flat_side H.ok1 o ho1
    refine (gTake_w p m.1 m.2 D s1.g s2.g s1.rs s2.rs 1 s1.g s1.rs o w H H.own1 (.inl ⟨rfl, rfl⟩) (List.pairwise_append.1 H.vd).1 hs ho1).mono fun e w' h => ⟨h.1, ?_⟩
    obtain ⟨s1', h'⟩ := gtake_w1 H h.2.out hs ho
    exact ⟨s1', s2, Lib.hid h'⟩
  · have hs := flat_side H.ok2 o ho1
    refine (gTake_w p m.1 m.2 D s1.g s2.g s1.rs s2.rs 2 s2.g s2.rs o w H H.own2 (.inr ⟨rfl, rfl⟩) (List.pairwise_append.1 H.vd).2.1 hs ho1).mono fun e w' h => ⟨h.1, ?_⟩
    obtain ⟨s2', h'⟩ := gtake_w2 H h.2.out hs ho
    exact ⟨s1, s2', Lib.hid h'⟩
section
variable {ops : Array Oper} {rest : List Oper} {o : Oper} {a : Act} {w : World} {Q : Exit → Act → World → Prop}
theorem storeOd (hgd : o.guard = none) (x y : Operand) (ho : o.op = .store 24 x y) (g : Nat) (z : Od) (hx : a.eval x = .pointer (some ⟨g, 0, none⟩)) (hy : a.eval y = .agg (OC z)) (z' : Od) (t : TypeId)
    (hg : Cl t w g (OC z')) (h : wpList Try.prog ops Q rest (a.put o.dst undef) (w.setRow g (OC z))) : wpList Try.prog ops Q (o :: rest) a w :=
  wpList_plain hgd fun K hK => wp_store_row _ x y ho g _ hx hy _ _ hg (size_oc z) rfl (all_oneCell_toArray (cs := encO z) (enc_one z)) (hK _ _ h)
end
theorem cl_row {T : TypeId} {w : World} {k g : Nat} {cs cs' : Array Value} (h : Cl T w k cs) (hne : k ≠ g) : Cl T (w.setRow g cs') k cs := (setRow_other w g k cs' hne).trans h
set_option maxHeartbeats 4000000 in
set_option maxRecDepth 100000 in
theorem gTake_none (p : Nat) (m : Nat × Nat) (s1 s2 : Gd) (id : Int) (hwf : (Lit.int .u64 id).wf = true) (w : World) (H : gWhole w p m s1 s2) (hno : ∀ x ∈ bookL s1.rs s2.rs, ¬ x.id = id) :
    Calls Try.prog 8 #[.pointer (some ⟨p, 0, none⟩), .int .u64 id] w fun e w' => e = .returned (.tuple #[optV none, .bool false]) ∧ Hid (Below w.heap.size w w') := by
  obtain ⟨D, H⟩ := H
  obtain ⟨w0, hw0⟩ : ∃ w0, ((w.alloc (.cells #[.int .u64 id] 22)).alloc (.cells (OC ⟨0, 0, 0, 0, 0, 0⟩) 24)) = w0 := ⟨_, rfl⟩
  have b0 : Below w.heap.size w w0 := by rw [← hw0]; exact ((Below.refl _ _).alloc (Nat.le_refl _) _).alloc (by simp) _
  have cI : Cl 22 w0 w.heap.size #[.int .u64 id] := by rw [← hw0]; exact hd_prev (by simp) (hd_last rfl)
  have cR : Cl 24 w0 (w.heap.size + 1) (OC ⟨0, 0, 0, 0, 0, 0⟩) := by rw [← hw0]; exact hd_last (by simp)
  have hz0 : w0.heap.size = w.heap.size + 2 := by rw [← hw0]; simp
  have HGet := Lib.hid (gGet_c p m.1 m.2 D s1.g s2.g s1.rs s2.rs id hwf w0 (H.below b0))
  rw [omL_none.2 hno] at HGet
  have kI : w0.cell? ⟨w.heap.size, 0, none⟩ = some (.int .u64 id) := (Cl.c cI 0).trans rfl
  have HH := Lib.hid (And.intro b0 (And.intro cR hz0))
  clear H b0 cI cR hz0
  go_enter Try.func8, Try.ntmps8
  go_wp2_with fail
  ((with_reducible refine HGet.out.mono ?_); rintro e w1 ⟨rfl, hb1⟩)
  clear HGet kI
  dsimp only [Option.getD, Option.isSome, zO]
  obtain ⟨b0, cR, hz0⟩ := HH.out
  have b1 : Below w.heap.size w w1 := b0.trans (hb1.out.mono b0.size)
  have cR1 : Cl 24 w1 (w.heap.size + 1) (OC ⟨0, 0, 0, 0, 0, 0⟩) := (hb1.out.block _ (blk_lt cR)).trans cR
  have hne : w.heap.size + 1 < w1.heap.size := blk_lt cR1
  obtain ⟨w2, hw2⟩ : ∃ w2, w1.alloc (.cells (OC ⟨0, 0, 0, 0, 0, 0⟩) 24) = w2 := ⟨_, rfl⟩
  have b12 : Below w1.heap.size w1 w2 := by rw [← hw2]; exact (Below.refl _ _).alloc (Nat.le_refl _) _
  have cR2 : Cl 24 w2 (w.heap.size + 1) (OC ⟨0, 0, 0, 0, 0, 0⟩) := (b12.block _ hne).trans cR1
  have cN2 : Cl 24 w2 w1.heap.size (OC ⟨0, 0, 0, 0, 0, 0⟩) := by rw [← hw2]; exact hd_last rfl
  have HR := Lib.hid (And.intro cR2 (And.intro (b1.trans (b12.mono b1.size)) (And.intro cN2 hne)))
  have HNE : Hid (w.heap.size + 1 ≠ w1.heap.size) := Lib.hid (by omega)
  clear b0 cR hz0 b1 cR1 b12 cR2 hb1 cN2 hne
  go_wp2_with (first | ((with_reducible apply storeOd); rfl; rfl; rfl; rfl; exact HR.out.2.2.1; skip) | (refine storeOd rfl _ _ rfl (w.heap.size + 1) ⟨0, 0, 0, 0, 0, 0⟩ rfl rfl _ _ (cl_row HR.out.1 HNE.out) ?_))
  have hX : Cl 24 ((w2.setRow w1.heap.size (OC ⟨0, 0, 0, 0, 0, 0⟩)).setRow (w.heap.size + 1) (OC ⟨0, 0, 0, 0, 0, 0⟩)) (w.heap.size + 1) (OC ⟨0, 0, 0, 0, 0, 0⟩) := setRow_heap _ _ _ _ _ _ (cl_row HR.out.1 HNE.out)
  have hb := below_row (cs := OC ⟨0, 0, 0, 0, 0, 0⟩) (below_row (cs := OC ⟨0, 0, 0, 0, 0, 0⟩) HR.out.2.1 (show w.heap.size ≤ w1.heap.size by have := HR.out.2.2.2; omega)) (show w.heap.size ≤ w.heap.size + 1 by omega)
  refine bodyPost_ret (retOt rfl _ _ _ rfl ⟨0, 0, 0, 0, 0, 0⟩ _ hX _ rfl) rfl ?_
  exact ⟨rfl, Lib.hid hb⟩
end Go.Proofs.Ytgbmgdffgmablaa

/- slices.Delete of one element. (By mklea.py.) -/
namespace Go.Proofs.Ytgbmgdffgmablaa
open Go.RowKit Go.Sort Go.Lib Go.Shelf

/-- What block g holds behind a removal in place. -/
def delC (cur z : List Value) (n i k : Nat) : List Value := cur.take (i * k) ++ (cur.drop ((i + 1) * k)).take ((n - 1 - i) * k) ++ z ++ cur.drop (n * k)
theorem delC_steps {cur z : List Value} {n i k c : Nat} (hi : i < n) (hc : n ≤ c) (hl : cur.length = c * k) (hz : z.length = k) :
    (cur.take (i * k) ++ (cur.drop ((i + 1) * k)).take ((n - 1 - i) * k) ++ cur.drop (i * k + ((cur.drop ((i + 1) * k)).take ((n - 1 - i) * k)).length)).take ((n - 1) * k) ++ z ++
      (cur.take (i * k) ++ (cur.drop ((i + 1) * k)).take ((n - 1 - i) * k) ++ cur.drop (i * k + ((cur.drop ((i + 1) * k)).take ((n - 1 - i) * k)).length)).drop ((n - 1) * k + z.length) = delC cur z n i k := by
  obtain ⟨m, rfl⟩ : ∃ m, n = i + 1 + m := ⟨n - (i + 1), by omega⟩
  have e0 : i + 1 + m - 1 - i = m := by omega
  have e1 : (i + 1) * k = i * k + k := Nat.succ_mul i k
  have e2 : (i + 1 + m) * k = i * k + k + m * k := by rw [Nat.add_mul, e1]
  have e3 : (i + 1 + m - 1) * k = i * k + m * k := by rw [show i + 1 + m - 1 = i + m by omega, Nat.add_mul]
  have h2 : i * k + k + m * k ≤ c * k := by rw [← e2]; exact Nat.mul_le_mul_right k hc
  unfold delC
  rw [e0, e2, e3]
  have lx : ((cur.drop ((i + 1) * k)).take (m * k)).length = m * k := by rw [List.length_take, List.length_drop]; omega
  have ly : (cur.take (i * k)).length = i * k := by rw [List.length_take]; omega
  rw [lx, List.take_append_of_le_length (by rw [List.length_append]; omega), List.take_of_length_le (by rw [List.length_append]; omega), List.drop_append, List.length_append, lx, ly]
  rw [List.drop_eq_nil_of_le («as» := cur.take (i * k) ++ (cur.drop ((i + 1) * k)).take (m * k)) (by rw [List.length_append]; omega), List.nil_append, List.drop_drop, hz]
  rw [show i * k + m * k + (i * k + m * k + k - (i * k + m * k)) = i * k + k + m * k by omega]
theorem delC_take {cur z xs : List Value} {n i k c : Nat} (hi : i < n) (hc : n ≤ c) (hl : cur.length = c * k) (hz : z.length = k) (hx : cur.take (n * k) = xs) :
    (delC cur z n i k).length = c * k ∧ (delC cur z n i k).take ((n - 1) * k) = xs.take (i * k) ++ xs.drop ((i + 1) * k) := by
  obtain ⟨m, rfl⟩ : ∃ m, n = i + 1 + m := ⟨n - (i + 1), by omega⟩
  have e0 : i + 1 + m - 1 - i = m := by omega
  have e1 : (i + 1) * k = i * k + k := Nat.succ_mul i k
  have e2 : (i + 1 + m) * k = i * k + k + m * k := by rw [Nat.add_mul, e1]
  have e3 : (i + 1 + m - 1) * k = i * k + m * k := by rw [show i + 1 + m - 1 = i + m by omega, Nat.add_mul]
  have h2 : i * k + k + m * k ≤ c * k := by rw [← e2]; exact Nat.mul_le_mul_right k hc
  subst hx
  unfold delC
  rw [e0, e2, e3, e1]
  have lx : ((cur.drop (i * k + k)).take (m * k)).length = m * k := by rw [List.length_take, List.length_drop]; omega
  have ly : (cur.take (i * k)).length = i * k := by rw [List.length_take]; omega
  refine ⟨?_, ?_⟩
  · simp only [List.length_append, lx, ly, hz, List.length_drop]; omega
  · rw [List.append_assoc, List.take_append_of_le_length (by rw [List.length_append]; omega), List.take_of_length_le (by rw [List.length_append]; omega)]
    rw [List.take_take, Nat.min_eq_left (by omega), List.drop_take, show i * k + k + m * k - (i * k + k) = m * k by omega]
theorem step_app2 {P : Program} {ops : Array Oper} {o : Oper} {a : Act} {w : World} {K : Act → World → Prop} {Q : Exit → Act → World → Prop} {E : Prop}
    (hg : o.guard = none) (s x : Operand) (t : TypeId) (hop : o.op = Op.call { callee := Callee.builtin Builtin.append, args := #[s, x], argTypes := #[t, t] })
    (v u : Value) (hs : a.eval s = v) (hx : a.eval x = u) {v' : Value} {w' : World} (hr : (Builtin.append_ #[t, t] o.type #[v, u]).run P w = .ok v' w') (hK : K (a.put o.dst v') w') :
    if Region.wanted o (yielded ops a.tmps) = true then Oper.wp P o a w K Q else E := by
  have hw : Region.wanted o (yielded ops a.tmps) = true := by simp [Region.wanted, hg]
  rw [if_pos hw]
  unfold Oper.wp
  simp [execOp, hop, resolve, invoke, builtin, hs, hx, hr, Result.andThen]
  exact hK
theorem clear_O (w : World) (ty : TypeId) (g o n c : Nat) (cur : Array Value) (hn : n = 1) (hg : w.heap[g]? = some (.cells cur 24 (0, 0))) (hfit : o + 6 ≤ cur.size) :
    (Builtin.clear_ #[37] ty #[.slice (some ⟨g, o, none⟩) n c]).run Try.prog w = .ok (.tuple #[]) (w.setRow g (cur.toList.take o ++ ((OC ⟨0, 0, 0, 0, 0, 0⟩) : Array Value).toList ++ cur.toList.drop (o + ((OC ⟨0, 0, 0, 0, 0, 0⟩) : Array Value).toList.length)).toArray) := by
  subst hn
  have hst := run_storeCells_at Try.prog g o 24 ((OC ⟨0, 0, 0, 0, 0, 0⟩) : Array Value).toList 0 cur w hg (by simpa using hfit) (by decide)
  simp only [Nat.add_zero] at hst
  have hz : (Builtin.zeroCells (Value.cells (.agg (OC ⟨0, 0, 0, 0, 0, 0⟩))) 1).toList = ((OC ⟨0, 0, 0, 0, 0, 0⟩) : Array Value).toList := by kernel_rfl
  simp [Builtin.clear_, run_underlying Try.underlying37, hz, hst]
end Go.Proofs.Ytgbmgdffgmablaa

/- ladder: Take, in memory. (By mkleb.py.) -/
namespace Go.Proofs.Ytgbmgdffgmablaa
open Go.RowKit Go.Shelf Go.Sort Go.Maps

/-- A queue has got other orders, in its row. -/
def DelOf (W4 w5 : World) (qv v' : Value) (n' : Nat) (q' : List Od) : Prop :=
  w5.ownsRow 0 24 6 v' n' (ol q') ∧ W4.grownBy w5 qv.ownBlock ∧ v'.ownBlock = qv.ownBlock
theorem del_of {W4 w5 : World} {qn i c g : Nat} {q : List Od} {cur : Array Value} (hq : q.length = qn) (hi : i < qn) (_hg : W4.heap[g]? = some (.cells cur 24 (0, 0))) (hc : qn ≤ c) (hcm : c ≤ maxLen) (hs : cur.size = c * 6) (ht : cur.toList.take (qn * 6) = ol q)
    (h : InsIn W4 g 24 (delC cur.toList (OC ⟨0, 0, 0, 0, 0, 0⟩).toList qn i 6) w5) : DelOf W4 w5 (.slice (some ⟨g, 0, none⟩) qn c) (.slice (some ⟨g, 0, none⟩) (qn - 1) c) (qn - 1) (q.eraseIdx i) := by
  obtain ⟨h1, h2⟩ := delC_take (k := 6) (z := (OC ⟨0, 0, 0, 0, 0, 0⟩).toList) hi hc (by simpa using hs) rfl ht
  have e : ol (q.eraseIdx i) = (ol q).take (i * 6) ++ (ol q).drop ((i + 1) * 6) := by
    rw [(ol_take q i (by omega)).1, (ol_take q (i + 1) (by omega)).2, ← ol_append, List.eraseIdx_eq_take_drop_succ]
  refine ⟨⟨?_, .inr ⟨g, c, _, rfl, Nat.zero_le _, h.2, by omega, hcm, by rw [List.size_toArray]; exact h1, ?_⟩⟩, h.1, rfl⟩
  · rw [ol_len, List.length_eraseIdx, if_pos (by omega)]; omega
  · rw [List.toList_toArray, h2, e]
theorem put6_fr (X : World) (c : Nat) (o : Od) : Fr (fun k => k = c) X (put6 X c o) := by
  unfold put6
  exact ((((((Fr.refl (fun k => k = c) X).set (p := ⟨c, 0, none⟩) (.inl rfl) _).set (p := ⟨c, 1, none⟩) (.inl rfl) _).set (p := ⟨c, 2, none⟩) (.inl rfl) _).set (p := ⟨c, 3, none⟩) (.inl rfl) _).set (p := ⟨c, 4, none⟩) (.inl rfl) _).set (p := ⟨c, 5, none⟩) (.inl rfl) _
end Go.Proofs.Ytgbmgdffgmablaa

/- ladder: Take where its row goes, in memory. (By mklec.py.) -/
namespace Go.Proofs.Ytgbmgdffgmablaa
open Go.RowKit Go.Shelf Go.Sort Go.Maps

theorem rows_of {R : List Rw} (h : ∀ r ∈ R, r.v.oneCell' = true) : ∀ u ∈ rl R, u.oneCell' = true := by
  intro u hu
  obtain ⟨r, hr, hu⟩ := List.mem_flatMap.1 hu
  exact row_one r u hu (h r hr)
end Go.Proofs.Ytgbmgdffgmablaa

/- ladder: Take, whole. (By mkled.py.) -/
namespace Go.Proofs.Ytgbmgdffgmablaa
open Go.RowKit Go.Shelf Go.Sort Go.Maps

theorem ahd_irr (x : Od) : ahdO x x = false := by
  cases h : ahdO x x with
  | false => rfl
  | true => have := lt_of_ahd h; rw [lt_irr] at this; cases this
theorem bet_irr (s a : Int) : betN s a a = false := by
  cases h : betN s a a with
  | false => rfl
  | true => have := (bet_iff s a a).1 h; omega
theorem que_place {o : Od} {q : List Od} (hp : q.Pairwise (fun x y => ahdO x y = true)) (ho : o ∈ q) : plN o q < q.length ∧ q[plN o q]! = o := by
  obtain ⟨h1, h2⟩ := split_pw (fun x => ahdO x o) q (que_mono hp)
  have hd : o ∈ q.drop (plN o q) := by
    have := ho
    rw [← List.take_append_drop (plN o q) q] at this
    rcases List.mem_append.1 this with h | h
    · have h' : ahdO o o = true := h1 o h
      rw [ahd_irr] at h'; cases h'
    · exact h
  cases e : q.drop (plN o q) with
  | nil => rw [e] at hd; cases hd
  | cons y rest =>
    have hlt : plN o q < q.length := by
      rcases Nat.lt_or_ge (plN o q) q.length with h | h
      · exact h
      · rw [List.drop_eq_nil_of_le h] at e; cases e
    refine ⟨hlt, ?_⟩
    have hy : q[plN o q]! = y := by
      rw [getElem!_pos q _ hlt]
      have := List.drop_eq_getElem_cons hlt
      rw [e] at this
      injection this with a _
      exact a.symm
    rw [hy]
    rw [e] at hd
    rcases List.mem_cons.1 hd with h | h
    · exact h.symm
    · exfalso
      have hpd : (q.drop (plN o q)).Pairwise (fun x y => ahdO x y = true) := List.Pairwise.sublist (List.drop_sublist _ _) hp
      rw [e, List.pairwise_cons] at hpd
      have a := hpd.1 o h
      have b : ahdO y o = false := h2 y (by show y ∈ q.drop (plN o q); rw [e]; exact List.mem_cons_self)
      rw [a] at b; cases b
theorem row_place {s : Int} {o : Od} {R : List Rw} (hs : s = 1 ∨ s = 2) (h : SideOk s R) (ho : o ∈ flatR R) : atN s o.price R < R.length ∧ (R[atN s o.price R]!).pr = o.price ∧ o ∈ (R[atN s o.price R]!).q := by
  obtain ⟨r, hr, hor⟩ := List.mem_flatMap.1 ho
  have hp : r.pr = o.price := (h.mem r hr o hor).2.symm
  obtain ⟨h1, h2, h3, h4⟩ := row_split (p := o.price) hs h.rows
  have hd : r ∈ R.drop (atN s o.price R) := by
    have := hr
    rw [← List.take_append_drop (atN s o.price R) R] at this
    rcases List.mem_append.1 this with h' | h'
    · have h'' := h1 r h'
      rw [hp, bet_irr] at h''; cases h''
    · exact h'
  cases e : R.drop (atN s o.price R) with
  | nil => rw [e] at hd; cases hd
  | cons y rest =>
    have hlt : atN s o.price R < R.length := by
      rcases Nat.lt_or_ge (atN s o.price R) R.length with h' | h'
      · exact h'
      · rw [List.drop_eq_nil_of_le h'] at e; cases e
    have hy : R[atN s o.price R]! = y := by
      rw [getElem!_pos R _ hlt]
      have := List.drop_eq_getElem_cons hlt
      rw [e] at this
      injection this with a _
      exact a.symm
    rw [hy]
    rw [e] at hd
    have hry : r = y := by
      by_cases hyp : y.pr = o.price
      · rcases List.mem_cons.1 hd with h' | h'
        · exact h'
        · have := h4 y rest e hyp r h'
          rw [hp, bet_irr] at this; cases this
      · have := h3 y rest e hyp r hd
        rw [hp, bet_irr] at this; cases this
    rw [← hry]
    exact ⟨hlt, hp, hor⟩
theorem era_perm {q : List Od} {i : Nat} {o : Od} (h : i < q.length) (e : q[i]! = o) : q.Perm (o :: q.eraseIdx i) := by
  rw [getElem!_pos q i h] at e
  have h1 : q = q.take i ++ o :: q.drop (i + 1) := by
    rw [← e, ← List.drop_eq_getElem_cons h, List.take_append_drop]
  rw [List.eraseIdx_eq_take_drop_succ]
  conv => lhs; rw [h1]
  exact List.perm_middle
theorem ids_inj : ∀ {L : List Od}, L.Pairwise (fun x y => ¬ x.id = y.id) → ∀ {x y : Od}, x ∈ L → y ∈ L → x.id = y.id → x = y
  | [], _, _, _, hx, _, _ => by cases hx
  | a :: L, h, x, y, hx, hy, e => by
    rw [List.pairwise_cons] at h
    rcases List.mem_cons.1 hx with rfl | hx'
    · rcases List.mem_cons.1 hy with rfl | hy'
      · rfl
      · exact absurd e (h.1 y hy')
    · rcases List.mem_cons.1 hy with rfl | hy'
      · exact absurd e.symm (h.1 x hx')
      · exact ids_inj h.2 hx' hy' e
theorem flat_take {A B M X : List Rw} {o : Od} (h : (flatR M).Perm (o :: flatR X)) : (flatR (A ++ M ++ B)).Perm (o :: flatR (A ++ X ++ B)) := by
  have e : ∀ Y : List Rw, flatR (A ++ Y ++ B) = flatR A ++ flatR Y ++ flatR B := fun Y => by unfold flatR; rw [List.flatMap_append, List.flatMap_append]
  rw [e, e]
  refine ((h.append_left _).append_right _).trans ?_
  rw [List.append_assoc, List.cons_append]
  refine List.perm_middle.trans ?_
  rw [List.append_assoc]
end Go.Proofs.Ytgbmgdffgmablaa

/- ladder: Cut where the order is made less, in memory. (By mklee.py.) -/
namespace Go.Proofs.Ytgbmgdffgmablaa
open Go.RowKit Go.Shelf Go.Sort Go.Maps

/-- An order made less. -/
def lessO (o : Od) (qty : Int) : Od := ⟨o.id, o.acc, o.side, o.price, o.qty - qty, o.seq⟩
theorem ol_less {q : List Od} {i : Nat} {o : Od} {qty : Int} (h : i < q.length) (e : q[i]! = o) : (ol q).set (i * 6 + 4) (.int .i64 (o.qty - qty)) = ol (q.set i (lessO o qty)) := by
  rw [getElem!_pos q i h] at e
  have e1 : q = q.take i ++ o :: q.drop (i + 1) := by
    rw [← e, ← List.drop_eq_getElem_cons h, List.take_append_drop]
  have e2 : q.set i (lessO o qty) = q.take i ++ lessO o qty :: q.drop (i + 1) := List.set_eq_take_append_cons_drop.trans (if_pos h)
  have hl : (ol (q.take i)).length = i * 6 := by rw [ol_len, List.length_take, Nat.min_eq_left (Nat.le_of_lt h)]
  conv => lhs; rw [e1]
  rw [e2, ol_append, ol_append, List.set_append, if_neg (by omega)]
  congr 1
  rw [hl, show i * 6 + 4 - i * 6 = 4 by omega]
  rfl
end Go.Proofs.Ytgbmgdffgmablaa

/- ladder: Cut, whole. (By mklef.py.) -/
namespace Go.Proofs.Ytgbmgdffgmablaa
open Go.RowKit Go.Shelf Go.Sort Go.Maps

theorem set_self : ∀ {l : List Value} {n : Nat} {v : Value}, l[n]? = some v → l.set n v = l
  | [], _, _, h => by cases h
  | a :: l, 0, v, h => by injection h with h; rw [← h]; rfl
  | a :: l, n + 1, v, h => by
    show a :: l.set n v = a :: l
    rw [set_self (l := l) (n := n) (v := v) h]
/-- What a book's orders are when one was made less. -/
def lessF (id qty : Int) (x : Od) : Od := if x.id = id then lessO x qty else x
theorem less_id (id qty : Int) (x : Od) : (lessF id qty x).id = x.id ∧ (lessF id qty x).side = x.side ∧ (lessF id qty x).price = x.price := by
  unfold lessF
  split <;> exact ⟨rfl, rfl, rfl⟩
theorem less_ahd (id qty : Int) (x y : Od) : ahdO (lessF id qty x) (lessF id qty y) = ahdO x y := by
  unfold lessF
  split <;> split <;> rfl
theorem less_map {P T : List Od} {o : Od} {qty : Int} (h : (P ++ o :: T).Pairwise (fun x y => ¬ x.id = y.id)) : (P ++ o :: T).map (lessF o.id qty) = P ++ lessO o qty :: T := by
  rw [List.pairwise_append, List.pairwise_cons] at h
  obtain ⟨_, ⟨h2, _⟩, h3⟩ := h
  have e1 : P.map (lessF o.id qty) = P := by
    conv => rhs; rw [← List.map_id P]
    exact List.map_congr_left (fun x hx => if_neg (h3 x hx o List.mem_cons_self))
  have e2 : T.map (lessF o.id qty) = T := by
    conv => rhs; rw [← List.map_id T]
    exact List.map_congr_left (fun x hx => if_neg (fun e => h2 x hx e.symm))
  rw [List.map_append, List.map_cons, e1, e2]
  show P ++ lessF o.id qty o :: T = _
  unfold lessF
  rw [if_pos rfl]
theorem less_good {w : World} {o : Od} {qty : Int} (h : Od.ok w o ∧ goodO o = true) (h1 : ¬ qty < 1) (h2 : qty < o.qty) : Od.ok w (lessO o qty) ∧ goodO (lessO o qty) = true := by
  obtain ⟨ho, hg⟩ := h
  have hg' := hg
  unfold goodO at hg
  simp only [Bool.and_eq_true, decide_eq_true_eq] at hg
  obtain ⟨g1, g2, g3, g4, g5, g6, g7⟩ := hg
  unfold Od.ok at ho ⊢
  refine ⟨⟨ho.1, ho.2.1, ho.2.2.1, ho.2.2.2.1, ⟨by show _ ≤ o.qty - qty; omega, by show o.qty - qty ≤ _; omega⟩, ho.2.2.2.2.2⟩, ?_⟩
  unfold goodO
  simp only [Bool.and_eq_true, decide_eq_true_eq]
  exact ⟨g1, g2, g3, g4, g5, by show 1 ≤ o.qty - qty; omega, by show o.qty - qty ≤ _; omega⟩
end Go.Proofs.Ytgbmgdffgmablaa

/- grove: Cut. (By mkgwq.py.) -/
namespace Go.Proofs.Ytgbmgdffgmablaa
open Go.RowKit Go.Sort Go.Lib Go.Maps Go.Shelf
set_option linter.unusedVariables false

structure gLessIs (w w' : World) (p : Nat) (m : Nat × Nat) (s1 s2 s1' s2' : Gd) (o : Od) (qty : Int) : Prop where
  tu : gTurnIs w w' p m s1 s2 s1' s2'
  now : bookL s1'.rs s2'.rs = (bookL s1.rs s2.rs).map (lessF o.id qty)
  e2 : o.side = 1 → s2' = s2
  e1 : o.side = 2 → s1' = s1
/-- What Cut tells, and leaves. -/
def gCutIs (w w' : World) (p : Nat) (m : Nat × Nat) (s1 s2 s1' s2' : Gd) (id qty c : Int) : Prop :=
  (c = 51 ∧ (∀ x ∈ bookL s1.rs s2.rs, ¬ x.id = id) ∧ s1' = s1 ∧ s2' = s2 ∧ Below w.heap.size w w') ∨
  ∃ o ∈ bookL s1.rs s2.rs, o.id = id ∧ ((c = 2 ∧ (qty < 1 ∨ o.qty < qty) ∧ s1' = s1 ∧ s2' = s2 ∧ Below w.heap.size w w') ∨ (c = 0 ∧ ¬ qty < 1 ∧ qty = o.qty ∧ gTakeIs w w' p m s1 s2 s1' s2' o) ∨ (c = 0 ∧ ¬ qty < 1 ∧ qty < o.qty ∧ gLessIs w w' p m s1 s2 s1' s2' o qty))
def lessR (id qty : Int) (r : Rw) : Rw := ⟨r.pr, r.v, r.q.map (lessF id qty)⟩
theorem lessR_rq (id qty : Int) (Q : List Rw) : (Q.map (lessR id qty)).map rqOf = Q.map rqOf := by
  rw [List.map_map]
  apply List.map_congr_left
  intro r _
  simp only [Function.comp, rqOf, lessR, List.map_map]
  congr 1
  apply List.map_congr_left
  intro x _
  exact (less_id id qty x).1
theorem lessR_flat (id qty : Int) (Q : List Rw) : flatR (Q.map (lessR id qty)) = (flatR Q).map (lessF id qty) := by
  unfold flatR
  rw [List.flatMap_map, List.map_flatMap]
  rfl
theorem lessR_ok {s id qty : Int} {Q : List Rw} (h : SideOk s Q) : SideOk s (Q.map (lessR id qty)) := by
  refine ⟨List.pairwise_map.2 h.rows, fun r hr => ?_, fun r hr x hx => ?_, fun r hr => ?_⟩
  · obtain ⟨r0, h0, rfl⟩ := List.mem_map.1 hr
    have := h.some r0 h0
    simpa [lessR] using this
  · obtain ⟨r0, h0, rfl⟩ := List.mem_map.1 hr
    obtain ⟨y, hy, rfl⟩ := List.mem_map.1 hx
    have := h.mem r0 h0 y hy
    rw [(less_id id qty y).2.1, (less_id id qty y).2.2]
    exact this
  · obtain ⟨r0, h0, rfl⟩ := List.mem_map.1 hr
    refine List.pairwise_map.2 ((h.que r0 h0).imp fun {x y} hxy => ?_)
    rw [less_ahd]; exact hxy
theorem lessR_none {id qty : Int} {Q : List Rw} (h : ∀ x ∈ flatR Q, ¬ x.id = id) : Q.map (lessR id qty) = Q := by
  rw [List.map_congr_left (g := fun r => r)]
  · exact List.map_id' Q
  · intro r hr
    obtain ⟨p, v, q⟩ := r
    have : q.map (lessF id qty) = q.map (fun x => x) := List.map_congr_left fun x hx => if_neg (h x (List.mem_flatMap.2 ⟨_, hr, hx⟩))
    simp only [lessR]
    rw [this, List.map_id']
theorem omL_less {L : List Od} {o : Od} {qty : Int} (hi : Ids L) (ho : o ∈ L) (id : Int) : omL (L.map (lessF o.id qty)) id = if id = (lessO o qty).id then some (lessO o qty) else omL L id := by
  have hi' : Ids (L.map (lessF o.id qty)) := List.pairwise_map.2 (hi.imp fun {x y} h => by rw [(less_id _ _ x).1, (less_id _ _ y).1]; exact h)
  apply Option.ext
  intro x
  rw [omL_some hi']
  by_cases e : id = o.id
  · rw [if_pos (by exact e)]
    constructor
    · rintro ⟨hx, hxi⟩
      obtain ⟨y, hy, rfl⟩ := List.mem_map.1 hx
      have hyo : y = o := ids_eq hi hy ho (by rw [(less_id _ _ y).1] at hxi; rw [hxi, e])
      subst hyo
      unfold lessF
      rw [if_pos rfl]
    · intro h
      injection h with h
      subst h
      refine ⟨List.mem_map.2 ⟨o, ho, by unfold lessF; rw [if_pos rfl]⟩, e.symm⟩
  · rw [if_neg (by exact e), omL_some hi]
    constructor
    · rintro ⟨hx, hxi⟩
      obtain ⟨y, hy, rfl⟩ := List.mem_map.1 hx
      have hyo : ¬ y.id = o.id := fun h => e (by rw [← hxi, (less_id _ _ y).1, h])
      have e1 : lessF o.id qty y = y := if_neg hyo
      rw [e1] at hxi ⊢
      exact ⟨hy, hxi⟩
    · rintro ⟨hx, hxi⟩
      exact ⟨List.mem_map.2 ⟨x, hx, if_neg (fun h => e (by rw [← hxi, h]))⟩, hxi⟩
/-- The book when an order was made less. -/
theorem less_turn {w w0 w' : World} {p m1 m2 : Nat} {D D' : DataW Value} {s1 s2 : Gd} {o : Od} {qty : Int} (H : GW w0 p m1 m2 D s1.g s2.g s1.rs s2.rs) (b0 : Below w.heap.size w w0) (hg : w0.grownBy w' (some m1)) (om : w'.ownsMap Try.prog 22 RV m1 64 D') (hO : OmT D' ((bookL s1.rs s2.rs).map (lessF o.id qty)))
    (ho : o ∈ bookL s1.rs s2.rs) (h1 : ¬ qty < 1) (h2 : qty < o.qty) : ∃ s1' s2', gLessIs w w' p (m1, m2) s1 s2 s1' s2' o qty := by
  have hbk : bookL (s1.rs.map (lessR o.id qty)) (s2.rs.map (lessR o.id qty)) = (bookL s1.rs s2.rs).map (lessF o.id qty) := by
    unfold bookL
    rw [lessR_flat, lessR_flat, List.map_append]
  have hft : ∀ k, gft p (m1, m2) ⟨s1.g, s1.rs.map (lessR o.id qty)⟩ ⟨s2.g, s2.rs.map (lessR o.id qty)⟩ k → gft p (m1, m2) s1 s2 k := fun k h => h
  refine ⟨⟨s1.g, s1.rs.map (lessR o.id qty)⟩, ⟨s2.g, s2.rs.map (lessR o.id qty)⟩, ⟨⟨D', H.gk.setom hg om H.mm, by rw [hbk]; exact hO, ?_, ?_, lessR_ok H.ok1, lessR_ok H.ok2, ?_, ?_, ?_, H.vd, H.bd, H.tb, H.mm, H.sb⟩, ?_, fun k hk => .inl (hft k hk)⟩, hbk, fun hs => ?_, fun hs => ?_⟩
  · dsimp only; rw [lessR_rq]; exact H.e1
  · dsimp only; rw [lessR_rq]; exact H.e2
  · dsimp only; rw [hbk]
    exact List.pairwise_map.2 (H.ids.imp fun {x y} h => by rw [(less_id _ _ x).1, (less_id _ _ y).1]; exact h)
  · dsimp only; rw [hbk, List.length_map]; exact H.len
  · dsimp only; rw [hbk]
    intro x hx
    obtain ⟨y, hy, rfl⟩ := List.mem_map.1 hx
    unfold lessF
    split
    · rename_i hyo
      have : y = o := ids_eq H.ids hy ho hyo
      subst this
      exact less_good (H.ok y hy) h1 h2
    · exact H.ok y hy
  · exact ((Fr.of_below (S := gft p (m1, m2) s1 s2) b0).trans (fr_grown hg) (fun k h => .inl (by subst h; exact .inr (.inl rfl))))
  · have hn : ∀ x ∈ flatR s2.rs, ¬ x.id = o.id := fun x hx e => by
      have := ids_eq H.ids (List.mem_append_right _ hx) ho e
      subst this
      have := flat_side H.ok2 x hx
      omega
    obtain ⟨gg, rr⟩ := s2
    dsimp only at hn ⊢
    rw [lessR_none hn]
  · have hn : ∀ x ∈ flatR s1.rs, ¬ x.id = o.id := fun x hx e => by
      have := ids_eq H.ids (List.mem_append_left _ hx) ho e
      subst this
      have := flat_side H.ok1 x hx
      omega
    obtain ⟨gg, rr⟩ := s1
    dsimp only at hn ⊢
    rw [lessR_none hn]
theorem gTake_back {w W w' : World} {p : Nat} {m : Nat × Nat} {s1 s2 s1' s2' : Gd} {o : Od} (hb : Below w.heap.size w W) (h : gTakeIs W w' p m s1 s2 s1' s2' o) : gTakeIs w w' p m s1 s2 s1' s2' o :=
  ⟨⟨h.tu.wh, (Fr.of_below hb : Fr (gft p m s1 s2) w W).trans h.tu.fr (fun _ h => .inl h), fun k hk => (h.tu.ft k hk).imp id (fun h' => Nat.le_trans hb.size h')⟩, h.perm, h.e2, h.e1⟩

set_option maxHeartbeats 4000000 in
set_option maxRecDepth 100000 in
theorem gCut_none (p : Nat) (m : Nat × Nat) (s1 s2 : Gd) (id qty : Int) (hwf : (Lit.int .u64 id).wf = true) (w : World) (H : gWhole w p m s1 s2) (hno : ∀ x ∈ bookL s1.rs s2.rs, ¬ x.id = id) :
    Calls Try.prog 11 #[.pointer (some ⟨p, 0, none⟩), .int .u64 id, .int .i64 qty] w fun e w' => e = .returned (.int .i64 51) ∧ Hid (Below w.heap.size w w') := by
  obtain ⟨D, H⟩ := H
  have HM := Lib.hid (gMade_c (some ⟨p, 0, none⟩) (some (m.1, m.2)) D s1.g s2.g w H.gk)
  have k0 : w.cell? ⟨p, 0, none⟩ = some (.map (some m.1)) := (H.bookp.c 0).trans rfl
  have hl := look_ok (H.gk.om _ _ rfl) H.om id hwf
  rw [omL_none.2 hno] at hl
  have hl' : (Instr.lookup 26 (.map (some m.1)) (.int .u64 id) true).run Try.prog w = .ok (.tuple #[.agg (OC ⟨0, 0, 0, 0, 0, 0⟩), .bool false]) w := hl
  clear H hl
  obtain ⟨m1, m2⟩ := m
  dsimp only at HM k0 hl'
  go_enter Try.func11, Try.ntmps11
  go_wp2_with ((with_reducible refine HM.out.mono ?_); rintro e w1 ⟨rfl, rfl⟩; clear HM)
  go_ret
  exact ⟨rfl, Lib.hid ((Below.refl _ _).alloc (Nat.le_refl _) _)⟩

set_option maxHeartbeats 4000000 in
set_option maxRecDepth 100000 in
theorem gCut_bad (p : Nat) (m : Nat × Nat) (s1 s2 : Gd) (o : Od) (id qty : Int) (w : World) (H : gWhole w p m s1 s2) (ho : o ∈ bookL s1.rs s2.rs) (hid : o.id = id) (hq : qty < 1 ∨ o.qty < qty) :
    Calls Try.prog 11 #[.pointer (some ⟨p, 0, none⟩), .int .u64 id, .int .i64 qty] w fun e w' => e = .returned (.int .i64 2) ∧ Hid (Below w.heap.size w w') := by
  obtain ⟨D, H⟩ := H
  obtain ⟨m1, m2⟩ := m
  subst hid
  have hwf := wf_u (H.ok o ho).1.1
  have HM := Lib.hid (gMade_c (some ⟨p, 0, none⟩) (some (m1, m2)) D s1.g s2.g w H.gk)
  have k0 : w.cell? ⟨p, 0, none⟩ = some (.map (some m1)) := (H.bookp.c 0).trans rfl
  have hl := look_ok (H.gk.om _ _ rfl) H.om o.id hwf
  rw [(omL_some H.ids).2 ⟨ho, rfl⟩] at hl
  have hl' : (Instr.lookup 26 (.map (some m1)) (.int .u64 o.id) true).run Try.prog w = .ok (.tuple #[.agg (OC o), .bool true]) w := hl
  clear H hl ho
  have hB : Below w.heap.size w (w.alloc (.cells (OC o) 24)) := (Below.refl _ _).alloc (Nat.le_refl _) _
  by_cases q1 : qty < 1
  · have g1 : decide (qty < 1) = true := decide_eq_true q1
    clear hq
    go_enter Try.func11, Try.ntmps11
    go_wp2_with ((with_reducible refine HM.out.mono ?_); rintro e w1 ⟨rfl, rfl⟩; clear HM)
    go_ret
    exact ⟨rfl, Lib.hid hB⟩
  · have g1 : decide (qty < 1) = false := decide_eq_false q1
    have q2 : o.qty < qty := by omega
    have g2 : decide (o.qty < qty) = true := decide_eq_true q2
    clear hq
    go_enter Try.func11, Try.ntmps11
    go_wp2_with ((with_reducible refine HM.out.mono ?_); rintro e w1 ⟨rfl, rfl⟩; clear HM)
    go_ret
    exact ⟨rfl, Lib.hid hB⟩

set_option maxHeartbeats 4000000 in
set_option maxRecDepth 100000 in
theorem gCut_all (p : Nat) (m : Nat × Nat) (s1 s2 : Gd) (o : Od) (id qty : Int) (w : World) (H : gWhole w p m s1 s2) (ho : o ∈ bookL s1.rs s2.rs) (hid : o.id = id) (q1 : ¬ qty < 1) (hq : qty = o.qty) :
    Calls Try.prog 11 #[.pointer (some ⟨p, 0, none⟩), .int .u64 id, .int .i64 qty] w fun e w' => e = .returned (.int .i64 0) ∧ ∃ s1' s2', Hid (gTakeIs w w' p m s1 s2 s1' s2' o) := by
  obtain ⟨D, H⟩ := H
  obtain ⟨m1, m2⟩ := m
  subst hid
  have hwf := wf_u (H.ok o ho).1.1
  have HM := Lib.hid (gMade_c (some ⟨p, 0, none⟩) (some (m1, m2)) D s1.g s2.g w H.gk)
  have k0 : w.cell? ⟨p, 0, none⟩ = some (.map (some m1)) := (H.bookp.c 0).trans rfl
  have hl := look_ok (H.gk.om _ _ rfl) H.om o.id hwf
  rw [(omL_some H.ids).2 ⟨ho, rfl⟩] at hl
  have hl' : (Instr.lookup 26 (.map (some m1)) (.int .u64 o.id) true).run Try.prog w = .ok (.tuple #[.agg (OC o), .bool true]) w := hl
  have hB : Below w.heap.size w (w.alloc (.cells (OC o) 24)) := (Below.refl _ _).alloc (Nat.le_refl _) _
  have HT := Lib.hid (gTake_c p (m1, m2) s1 s2 o o.id _ ⟨D, H.below hB⟩ ho rfl)
  have g1 : decide (o.qty < 1) = false := decide_eq_false (by omega)
  have g2 : decide (o.qty < o.qty) = false := decide_eq_false (by omega)
  have g3 : ¬ o.qty < 1 := by omega
  have g4 : ¬ o.qty < o.qty := by omega
  have g5 : (o.qty == o.qty) = true := by simp
  have HB := Lib.hid hB
  subst hq
  clear H hl ho q1 hB
  go_enter Try.func11, Try.ntmps11
  go_wp2_with (first | ((with_reducible refine HM.out.mono ?_); rintro e w1 ⟨rfl, rfl⟩; clear HM) | ((with_reducible refine HT.out.mono ?_); rintro e w5 ⟨rfl, s1', s2', h5⟩; clear HT))
  go_ret
  exact ⟨rfl, s1', s2', Lib.hid (gTake_back HB.out h5.out)⟩

set_option maxHeartbeats 4000000 in
set_option maxRecDepth 100000 in
theorem gCut_less (p : Nat) (m : Nat × Nat) (s1 s2 : Gd) (o : Od) (id qty : Int) (w : World) (H : gWhole w p m s1 s2) (ho : o ∈ bookL s1.rs s2.rs) (hid : o.id = id) (q1 : ¬ qty < 1) (hq : qty < o.qty) :
    Calls Try.prog 11 #[.pointer (some ⟨p, 0, none⟩), .int .u64 id, .int .i64 qty] w fun e w' => e = .returned (.int .i64 0) ∧ ∃ s1' s2', Hid (gLessIs w w' p m s1 s2 s1' s2' o qty) := by
  obtain ⟨D, H⟩ := H
  obtain ⟨m1, m2⟩ := m
  subst hid
  have hwf := wf_u (H.ok o ho).1.1
  have HM := Lib.hid (gMade_c (some ⟨p, 0, none⟩) (some (m1, m2)) D s1.g s2.g w H.gk)
  have k0 : w.cell? ⟨p, 0, none⟩ = some (.map (some m1)) := (H.bookp.c 0).trans rfl
  have hl := look_ok (H.gk.om _ _ rfl) H.om o.id hwf
  rw [(omL_some H.ids).2 ⟨ho, rfl⟩] at hl
  have hl' : (Instr.lookup 26 (.map (some m1)) (.int .u64 o.id) true).run Try.prog w = .ok (.tuple #[.agg (OC o), .bool true]) w := hl
  have hB : Below w.heap.size w (w.alloc (.cells (OC o) 24)) := (Below.refl _ _).alloc (Nat.le_refl _) _
  obtain ⟨w3, hw3⟩ : ∃ w3, w.alloc (.cells (OC (lessO o qty)) 24) = w3 := ⟨_, rfl⟩
  have b3 : Below w.heap.size w w3 := by rw [← hw3]; exact (Below.refl _ _).alloc (Nat.le_refl _) _
  have cO : Cl 24 w3 w.heap.size (OC (lessO o qty)) := by rw [← hw3]; exact hd_last rfl
  have G3 := H.below b3
  have om3 := G3.gk.om _ _ rfl
  have hoq := (H.ok o ho).1
  obtain ⟨w', hr, D', om', hO', hg'⟩ := put_o (M := (bookL s1.rs s2.rs).map (lessF o.id qty)) (om3.drew) (by omega) H.om (lessO o qty) hwf (omL_less H.ids ho) (by rw [List.length_map]; rw [if_pos (by show (omL _ o.id).isSome = true; rw [(omL_some H.ids).2 ⟨ho, rfl⟩]; rfl)]) (by rw [List.length_map]; exact H.len)
  have hg3 : w3.grownBy w' (some m1) := ⟨hg'.os, hg'.tape, hg'.output, hg'.size, hg'.block⟩
  have HR : Hid ((Instr.mapUpdate 26 (.map (some m1)) (.int .u64 o.id) (.agg (OC (lessO o qty)))).run Try.prog w3.drew = .ok () w') := Lib.hid hr
  have HG3 := Lib.hid hg3
  have nO := cl_ne_map cO om3
  have nP := cl_ne_map G3.bookp om3
  have HP : Hid (∀ W, w3.grownBy W (some m1) → W.cell? ⟨p, 0, none⟩ = some (.map (some m1))) := Lib.hid fun W h => (Cl.c ((fr_grown h).blk G3.bookp nP) 0).trans rfl
  have HO : Hid (∀ W, w3.grownBy W (some m1) → Cl 24 W w.heap.size (OC (lessO o qty))) := Lib.hid fun W h => (fr_grown h).blk cO nO
  have HF := Lib.hid (less_turn (qty := qty) G3 b3 hg3 om' hO' ho q1 hq)
  have hqr : -9223372036854775808 ≤ o.qty ∧ o.qty ≤ 9223372036854775807 := hoq.2.2.2.2.1
  have g1 : decide (qty < 1) = false := decide_eq_false q1
  have g2 : decide (o.qty < qty) = false := decide_eq_false (by omega)
  have g4 : ¬ o.qty < qty := by omega
  have g5 : (qty == o.qty) = false := by simp; omega
  have ew : IntKind.i64.wrap (o.qty - qty) = o.qty - qty := by rw [IntKind.wrap_i64]; omega
  have ew2 : wrap64 (o.qty - qty) = o.qty - qty := by unfold wrap64; omega
  clear H hl ho hB b3 cO G3 om3 hoq hr om' hO' hg' hg3 nO nP hqr hq
  go_enter Try.func11, Try.ntmps11
  go_wp2_with ((with_reducible refine HM.out.mono ?_); rintro e w1 ⟨rfl, rfl⟩; clear HM)
  rw [show w.alloc (.cells #[.int .u64 o.id, .int .i64 o.acc, .int .i64 o.side, .int .i64 o.price, .int .i64 (o.qty - qty), .int .u64 o.seq] 24) = w3 from hw3]
  refine wp_region_held_drew (S := fun W => w3.grownBy W (some m1)) (by kernel_rfl) (by exact ⟨rfl, rfl, rfl, Nat.le_refl _, fun _ _ _ => rfl⟩) (fun hHeld => ?_)
  refine wpAnyH_take (i := 0) (oi := ⟨some 43, _, _, _, _, _⟩) (v := ?_) rfl (by kernel_rfl) (by kernel_rfl) (by kernel_rfl) (fun _ _ _ h => h) (Or.inl ⟨by kernel_rfl, ?_⟩) (by assumption) ?_
  rotate_left
  · (intro w hSw; (try dsimp only at hSw); go_simp; try with_reducible rfl)
  (repeat (first | simp only [Act.put] | simp only [List.setIfInBounds_toArray] | simp only [List.set_cons_succ] | simp only [List.set_cons_zero]))
  refine wpAnyH_take (i := 1) (oi := ⟨some 44, _, _, _, _, _⟩) (v := ?_) rfl (by kernel_rfl) (by kernel_rfl) (by kernel_rfl) (fun _ _ _ h => h) (Or.inl ⟨by kernel_rfl, ?_⟩) (by assumption) ?_
  rotate_left
  · (intro w hSw; (try dsimp only at hSw); go_simp; try with_reducible rfl)
  (repeat (first | simp only [Act.put] | simp only [List.setIfInBounds_toArray] | simp only [List.set_cons_succ] | simp only [List.set_cons_zero]))
  refine wpAnyH_take (i := 2) (oi := ⟨some 45, _, _, _, _, _⟩) (v := ?_) rfl (by kernel_rfl) (by kernel_rfl) (by kernel_rfl) (fun _ _ _ h => h) (Or.inl ⟨by kernel_rfl, ?_⟩) (by assumption) ?_
  rotate_left
  · (intro w hSw; (try dsimp only at hSw); go_simp; try with_reducible rfl)
  (repeat (first | simp only [Act.put] | simp only [List.setIfInBounds_toArray] | simp only [List.set_cons_succ] | simp only [List.set_cons_zero]))
  refine wpAnyH_take (i := 3) (oi := ⟨some 46, _, _, _, _, _⟩) (v := ?_) rfl (by kernel_rfl) (by kernel_rfl) (by kernel_rfl) (fun _ _ _ h => h) (Or.inl ⟨by kernel_rfl, ?_⟩) (by assumption) ?_
  rotate_left
  · (intro w hSw; have hs := HP.out _ hSw; (try dsimp only at hSw); go_simp; try with_reducible rfl)
  (repeat (first | simp only [Act.put] | simp only [List.setIfInBounds_toArray] | simp only [List.set_cons_succ] | simp only [List.set_cons_zero]))
  refine wpAnyH_take (i := 4) (oi := ⟨some 47, _, _, _, _, _⟩) (v := ?_) rfl (by kernel_rfl) (by kernel_rfl) (by kernel_rfl) (fun _ _ _ h => h) (Or.inl ⟨by kernel_rfl, ?_⟩) (by assumption) ?_
  rotate_left
  · (intro w hSw; (try dsimp only at hSw); go_simp; try with_reducible rfl)
  (repeat (first | simp only [Act.put] | simp only [List.setIfInBounds_toArray] | simp only [List.set_cons_succ] | simp only [List.set_cons_zero]))
  refine wpAnyH_take (i := 5) (oi := ⟨some 48, _, _, _, _, _⟩) (v := ?_) rfl (by kernel_rfl) (by kernel_rfl) (by kernel_rfl) (fun _ _ _ h => h) (Or.inl ⟨by kernel_rfl, ?_⟩) (by assumption) ?_
  rotate_left
  · (intro w hSw; obtain ⟨x0, x1, x2, x3, x4, x5⟩ := six_of (HO.out _ hSw); (try dsimp only at hSw); go_simp; try with_reducible rfl)
  (repeat (first | simp only [Act.put] | simp only [List.setIfInBounds_toArray] | simp only [List.set_cons_succ] | simp only [List.set_cons_zero]))
  refine wpAnyH_ready (rs := [6]) (by kernel_rfl) (by simp) ?_
  refine AllReadyH.cons (o := ⟨none, _, _, _, _, _⟩) rfl (fun K hK => ?_) AllReadyH.nil
  ((with_reducible apply any_upd); rfl; rfl; rfl; rfl; rfl; exact HR.out; skip)
  refine hK.out _ _ (by exact HG3.out) (fun hHeld => ?_)
  clear hK K
  (repeat (first | simp only [Act.put] | simp only [List.setIfInBounds_toArray] | simp only [List.set_cons_succ] | simp only [List.set_cons_zero]))
  refine wpAnyH_done (by kernel_rfl) ?_ _
  clear HP HO HR
  go_wp2_with fail
  go_ret
  obtain ⟨s1', s2', h⟩ := HF.out
  exact ⟨rfl, s1', s2', Lib.hid h⟩
theorem gCut_c (p : Nat) (m : Nat × Nat) (s1 s2 : Gd) (id qty : Int) (hwf : (Lit.int .u64 id).wf = true) (w : World) (H : gWhole w p m s1 s2) :
    Calls Try.prog 11 #[.pointer (some ⟨p, 0, none⟩), .int .u64 id, .int .i64 qty] w fun e w' => ∃ c s1' s2', e = .returned (.int .i64 c) ∧ Hid (gCutIs w w' p m s1 s2 s1' s2' id qty c) := by
  by_cases hx : ∃ x ∈ bookL s1.rs s2.rs, x.id = id
  · obtain ⟨o, ho, hid⟩ := hx
    by_cases h1 : qty < 1
    · exact (gCut_bad p m s1 s2 o id qty w H ho hid (.inl h1)).mono fun e w' h => ⟨2, s1, s2, h.1, Lib.hid (.inr ⟨o, ho, hid, .inl ⟨rfl, .inl h1, rfl, rfl, h.2.out⟩⟩)⟩
    by_cases h2 : o.qty < qty
    · exact (gCut_bad p m s1 s2 o id qty w H ho hid (.inr h2)).mono fun e w' h => ⟨2, s1, s2, h.1, Lib.hid (.inr ⟨o, ho, hid, .inl ⟨rfl, .inr h2, rfl, rfl, h.2.out⟩⟩)⟩
    by_cases h3 : qty = o.qty
    · exact (gCut_all p m s1 s2 o id qty w H ho hid h1 h3).mono fun e w' ⟨h, s1', s2', k⟩ => ⟨0, s1', s2', h, Lib.hid (.inr ⟨o, ho, hid, .inr (.inl ⟨rfl, h1, h3, k.out⟩)⟩)⟩
    · exact (gCut_less p m s1 s2 o id qty w H ho hid h1 (by omega)).mono fun e w' ⟨h, s1', s2', k⟩ => ⟨0, s1', s2', h, Lib.hid (.inr ⟨o, ho, hid, .inr (.inr ⟨rfl, h1, by omega, k.out⟩)⟩)⟩
  · have hno : ∀ x ∈ bookL s1.rs s2.rs, ¬ x.id = id := fun x hxm e => hx ⟨x, hxm, e⟩
    exact (gCut_none p m s1 s2 id qty hwf w H hno).mono fun e w' h => ⟨51, s1, s2, h.1, Lib.hid (.inl ⟨rfl, hno, rfl, rfl, h.2.out⟩)⟩
end Go.Proofs.Ytgbmgdffgmablaa

/- grove: New. -/
namespace Go.Proofs.Ytgbmgdffgmablaa
open Go.RowKit Go.Sort Go.Lib Go.Maps Go.Shelf
set_option linter.unusedVariables false

theorem sid_put (a b : Nat) (t1 t2 : Sg) (h1 : t1.tb = a) (h2 : t2.tb = b) : ((DataW.map ([] : List (Lit × DataW Value))).put (.int .i64 1) (.held (.pointer (some ⟨a, 0, none⟩)))).put (.int .i64 2) (.held (.pointer (some ⟨b, 0, none⟩))) = sidD t1 t2 := by
  subst h1 h2
  simp [sidD, DataW.put, DataW.insert, Lit.sameKey, Lit.before]
set_option maxHeartbeats 4000000 in
set_option maxRecDepth 100000 in
theorem gNew_c (w : World) : Calls Try.prog 18 #[] w fun e w' => ∃ p m s1 s2, e = .returned (.pointer (some ⟨p, 0, none⟩)) ∧ Hid (gWhole w' p m s1 s2 ∧ bookL s1.rs s2.rs = [] ∧ Below w.heap.size w w' ∧ ∀ k, gft p m s1 s2 k → w.heap.size ≤ k) := by
  have hmm := @run_makeMap Try.prog
  obtain ⟨W1, hW1⟩ : ∃ W1, (w.alloc (.map #[] 0)).alloc (.map #[] 0) = W1 := ⟨_, rfl⟩
  have b1 : Below w.heap.size w W1 := by rw [← hW1]; exact ((Below.refl _ _).alloc (Nat.le_refl _) _).alloc (by simp) _
  have z1 : W1.heap.size = w.heap.size + 2 := by rw [← hW1]; simp
  have om1 : W1.ownsMap Try.prog 22 RV w.heap.size 0 (.map []) := by
    rw [← hW1]
    exact (World.ownsMap_made w Try.prog 22 RV).alloc _
  have sm1 : W1.ownsMap Try.prog 3 RV (w.heap.size + 1) 0 (.map []) := by
    rw [← hW1]
    have := World.ownsMap_made (w.alloc (.map #[] 0)) Try.prog 3 RV
    rw [World.size_alloc] at this
    exact this
  have HH := Lib.hid (And.intro b1 (And.intro z1 (And.intro om1 sm1)))
  have HP1 := Lib.hid (planted_c 1 W1)
  clear b1 z1 om1 sm1
  go_enter Try.func18, Try.ntmps18
  go_wp2_with fail
  ((with_reducible refine HP1.out.mono ?_); rintro e w2 ⟨rfl, h2⟩)
  obtain ⟨b1, z1, om1, sm1⟩ := HH.out
  have sm2 := ownsMap_fr sm1 (Fr.of_below (S := fun _ => False) h2.out.2.1) (fun h => h)
  obtain ⟨w3, hr3, sm3, t3⟩ := sm2.store keyI Try.underlying27 (by unfold maxLen; omega) (keyOf_int_mk Try.underlying3 (by decide : (Lit.int .i64 1).wf = true)) (show RV (.pointer (some ⟨W1.heap.size + 1, 0, none⟩)) = some (.held (.pointer (some ⟨W1.heap.size + 1, 0, none⟩)), []) from rfl)
  have HP2 := Lib.hid (planted_c 2 w3)
  have HH2 := Lib.hid (And.intro h2.out (And.intro sm3 t3.grown))
  clear b1 z1 om1 sm1 h2 sm2 sm3 t3 HP1
  go_wp2_with fail
  ((with_reducible refine HP2.out.mono ?_); rintro e w4 ⟨rfl, h4⟩)
  obtain ⟨⟨sg2, b2, z2⟩, sm3, g3⟩ := HH2.out
  have sm4 := ownsMap_fr sm3 (Fr.of_below (S := fun _ => False) h4.out.2.1) (fun h => h)
  obtain ⟨w5, hr5, sm5, t5⟩ := sm4.store keyI Try.underlying27 (by unfold maxLen; omega) (keyOf_int_mk Try.underlying3 (by decide : (Lit.int .i64 2).wf = true)) (show RV (.pointer (some ⟨w3.heap.size + 1, 0, none⟩)) = some (.held (.pointer (some ⟨w3.heap.size + 1, 0, none⟩)), []) from rfl)
  have HH4 := Lib.hid (And.intro h4.out (And.intro sm5 t5.grown))
  clear sg2 b2 z2 sm3 g3 sm4 sm5 t5 h4 HP2
  go_wp2_with fail
  go_ret
  obtain ⟨b1, z1, om1, sm1⟩ := HH.out
  obtain ⟨⟨sg2, b2, z2⟩, _, g3⟩ := HH2.out
  obtain ⟨⟨sg4, b4, z4⟩, sm5, g5⟩ := HH4.out
  rw [sid_put (W1.heap.size + 1) (w3.heap.size + 1) ⟨W1.heap.size + 1, W1.heap.size, .nil⟩ ⟨w3.heap.size + 1, w3.heap.size, .nil⟩ rfl rfl] at sm5
  have hz3 := g3.size
  have hz5 := g5.size
  have f23 := fr_grown g3
  have f45 := fr_grown g5
  -- side 1
  have k1 : SgIn w3 1 ⟨W1.heap.size + 1, W1.heap.size, .nil⟩ := sg2.keep f23 (fun k hk => sg2.no_map (ownsMap_fr sm1 (Fr.of_below (S := fun _ => False) b2) (fun h => h)) k hk)
  have k2 := k1.below b4
  have sm4 := ownsMap_fr (HH2.out.2.1) (Fr.of_below (S := fun _ => False) b4) (fun h => h)
  have k3 : SgIn w5 1 ⟨W1.heap.size + 1, W1.heap.size, .nil⟩ := k2.keep f45 (fun k hk => k2.no_map sm4 k hk)
  have k4 : SgIn w5 2 ⟨w3.heap.size + 1, w3.heap.size, .nil⟩ := sg4.keep f45 (fun k hk => sg4.no_map sm4 k hk)
  have om2 := ownsMap_fr om1 (Fr.of_below (S := fun _ => False) b2) (fun h => h)
  have om3 := ownsMap_fr om2 f23 (by omega)
  have om4 := ownsMap_fr om3 (Fr.of_below (S := fun _ => False) b4) (fun h => h)
  have om5 := ownsMap_fr om4 f45 (by omega)
  have bw3 : Below w.heap.size w w3 := (b1.trans (b2.mono b1.size)).trans ((f23.below (B := w.heap.size) (fun k hk => by rw [hk]; omega) (by have := b2.size; omega)))
  have bw5 : Below w.heap.size w w5 := (bw3.trans (b4.mono bw3.size)).trans ((f45.below (B := w.heap.size) (fun k hk => by rw [hk]; omega) (by have := b4.size; omega)))
  have b6 : Below w5.heap.size w5 (w5.alloc (.cells #[.map (some w.heap.size), .map (some (w.heap.size + 1))] 29)) := (Below.refl _ _).alloc (Nat.le_refl _) _
  refine ⟨w5.heap.size, (w.heap.size, w.heap.size + 1), ⟨⟨W1.heap.size + 1, W1.heap.size, .nil⟩, []⟩, ⟨⟨w3.heap.size + 1, w3.heap.size, .nil⟩, []⟩, rfl, Lib.hid ⟨⟨.map [], ⟨⟨.inr ⟨_, rfl, hd_last rfl⟩, fun a b e => ?_, fun a b e => ?_, fun _ => k3.below b6, fun _ => k4.below b6⟩, omT_empty, rfl, rfl, ⟨List.Pairwise.nil, fun _ h => (by cases h), fun _ h => (by cases h), fun _ h => (by cases h)⟩, ⟨List.Pairwise.nil, fun _ h => (by cases h), fun _ h => (by cases h), fun _ h => (by cases h)⟩, List.Pairwise.nil, by simp [bookL, flatR], fun _ h => (by cases h), List.Pairwise.nil, fun _ h => (by cases h), ?_, ?_, ?_⟩⟩, rfl, bw5.trans (b6.mono bw5.size), ?_⟩⟩
  · injection e with e; injection e with e1 e2
    subst e1
    exact (ownsMap_fr om5 (Fr.of_below (S := fun _ => False) b6) (fun h => h)).mono (by omega)
  · injection e with e; injection e with e1 e2
    subst e2
    exact ownsMap_fr sm5 (Fr.of_below (S := fun _ => False) b6) (fun h => h)
  · show W1.heap.size + 1 ≠ w3.heap.size + 1
    omega
  · show w.heap.size ≠ w.heap.size + 1
    omega
  · show W1.heap.size ≠ w3.heap.size
    omega
  · have hb2 := b2.size
    have hb4 := b4.size
    rintro k (rfl | rfl | rfl | hk | hk)
    · omega
    · exact Nat.le_refl _
    · exact Nat.le_succ _
    · rcases hk with rfl | rfl | hk | ⟨v, hv, _⟩
      · show w.heap.size ≤ W1.heap.size; omega
      · show w.heap.size ≤ W1.heap.size + 1; omega
      · cases hk
      · cases hv
    · rcases hk with rfl | rfl | hk | ⟨v, hv, _⟩
      · show w.heap.size ≤ w3.heap.size; omega
      · show w.heap.size ≤ w3.heap.size + 1; omega
      · cases hk
      · cases hv
end Go.Proofs.Ytgbmgdffgmablaa

/- grove: each as a range; Prices. -/
namespace Go.Proofs.Ytgbmgdffgmablaa
open Go.RowKit Go.Sort Go.Lib Go.Maps Go.Shelf
set_option linter.unusedVariables false
attribute [local go_sem] Oper.semAt_some

theorem each_c (tb : Nat) (w : World) :
    Calls Try.prog 35 #[.pointer (some ⟨tb, 0, none⟩)] w fun e w' => e = .returned (.func (.func 53) #[] #[.pointer (some ⟨w.heap.size, 0, none⟩)]) ∧ w' = w.alloc (.cells #[.pointer (some ⟨tb, 0, none⟩)] 64) := by
  have hmf := hmf_any
  go_enter Try.func35, Try.ntmps35
  go_wp2_with fail
  go_ret
  exact ⟨rfl, rfl⟩
abbrev kv (x : Int × Value) : Array Value := #[.int .i64 x.1, x.2]
theorem each_stops (n : Nat) (S : Nat → Prop) (Bt tb sb : Nat) (s : Int) (T : Tr) (I : Int × Value → Prop) (w : World) (hBt : Cl 64 w Bt #[.pointer (some ⟨tb, 0, none⟩)]) (hS : SgIn w s ⟨tb, sb, T⟩) (hb : ∀ b ∈ T.blks, ¬ S b) (hv : ∀ v ∈ T.vals, ∀ k, v.ownBlock = some k → ¬ S k) :
    SeqStopsK Fence.wide n Try.prog 53 #[.pointer (some ⟨Bt, 0, none⟩)] kv (Fr S) (fun ys => ys = T.items) (fun pre => pre <+: T.items) T.items.length w := fun ll J Jx W hW hJ _ hY h0 => by
  have sW := hS.below hW
  have cW := (hW.block _ (blk_lt hBt)).trans hBt
  refine (each1_in n ll Bt tb sb S T (fun _ => True) J Jx (fun pre W h => hJ pre W W.drew none h ⟨rfl, rfl, rfl, Nat.le_refl _, fun _ _ _ => rfl⟩ (fun r e => by cases e))
    (fun m pre x W1 hp hl _ => yield_any rfl m (hY pre x W1 hp hl)) W ((Cl.c cW 0).trans rfl) sW.cx sW.tr hb hv (fun _ _ => trivial) h0).mono ?_
  rintro e w' ⟨he, h⟩
  exact ⟨he, h⟩
def keyV (l : List (Int × Value)) : List Value := l.map (fun x => .int .i64 x.1)
theorem keyV_snoc (l : List (Int × Value)) (x : Int × Value) : keyV (l ++ [x]) = keyV l ++ [.int .i64 x.1] := by unfold keyV; rw [List.map_append]; rfl
theorem keyV_items (t : Tr) : keyV t.items = t.rows.map (fun r => .int .i64 r.1) := by
  have h := congrArg (List.map (fun k : Int => Value.int .i64 k)) (items_fst t)
  rw [List.map_map, List.map_map] at h
  exact h
def AxK (tm : Array Value) (x : Int × Value) (a' : Act) (_ : World) : Prop := a' = { tmps := ((tm.setIfInBounds 11 (.int .i64 x.1)).setIfInBounds 12 x.2).setIfInBounds 6 (.int .i64 x.1), defers := [] }
set_option maxHeartbeats 4000000 in
set_option maxRecDepth 100000 in
theorem gPrices_w (b : Option Addr) (sd : Int) (g : Sg) (w : World) (hlen : g.t.items.length ≤ 64)
    (HS : Hid (∀ W, Below w.heap.size w W → w.heap.size < W.heap.size → Calls Try.prog 26 #[.pointer b, .int .i64 sd] W fun e w' => ∃ g', e = .returned (.pointer (some ⟨g'.tb, 0, none⟩)) ∧ Hid (g'.t = g.t ∧ SgIn w' sd g' ∧ Below W.heap.size W w' ∧ ∀ k, sfoot g' k → k ≠ w.heap.size))) :
    Calls Try.prog 14 #[.pointer b, .int .i64 sd] w fun e w' => ∃ v, e = .returned v ∧ Hid (w'.ownsRow w.heap.size 2 1 v g.t.items.length (keyV g.t.items) ∧ Below w.heap.size w w') := by
  obtain ⟨i0, hi0, hz0, hz1, hz2⟩ := info_parts info_i64
  have hB1 : Below w.heap.size w (w.alloc (.cells #[.slice none 0 0] 40)) := (Below.refl _ _).alloc (Nat.le_refl _) _
  have HS1 := Lib.hid (HS.out _ hB1 (by rw [World.size_alloc]; exact Nat.lt_succ_self _))
  refine (callsIn_wide (n := 5)).1 ?_
  refine callsIn_of_wp_marks Try.func14 rfl trivial ?_ rfl
  simp only [Try.ntmps14, List.size_toArray, List.length_cons, List.length_nil, Nat.reduceAdd, Nat.reduceSub, Array.replicate_succ, Array.replicate_zero, List.push_toArray, List.append_toArray, List.nil_append, List.cons_append]
  gi_wp2_with (first | (refine ⟨trivial, ?_⟩; refine ((callsIn_wide (n := 5 - 1)).2 HS1.out).mono ?_; rintro e w1 ⟨g', rfl, h1⟩) | (refine ⟨trivial, ?_⟩; refine ((callsIn_wide (n := 5 - 1)).2 (each_c _ _)).mono ?_; rintro e w' ⟨rfl, rfl⟩))
  obtain ⟨W0, hW0⟩ : ∃ W0, w1.alloc (.cells #[.pointer (some ⟨g'.tb, 0, none⟩)] 64) = W0 := ⟨_, rfl⟩
  rw [hW0]
  obtain ⟨hgt, hsg, hbw, hsf⟩ := h1.out
  have hz : W0.heap.size = w1.heap.size + 1 := by rw [← hW0]; simp
  have hB2 : Below w.heap.size w w1 := hB1.trans (hbw.mono hB1.size)
  have hw1 : w.heap.size + 1 ≤ w1.heap.size := by have := hbw.size; simp at this; exact this
  have hB0 : Below w.heap.size w W0 := by rw [← hW0]; exact hB2.alloc hB2.size _
  have hc0 : Cl 40 W0 w.heap.size #[.slice none 0 0] := by
    rw [← hW0]
    exact hd_prev (by omega) ((hbw.block _ (by simp)).trans (hd_last rfl))
  have hcB : Cl 64 W0 w1.heap.size #[.pointer (some ⟨g'.tb, 0, none⟩)] := by rw [← hW0]; exact hd_last rfl
  have hsg0 : SgIn W0 sd g' := hsg.below (by rw [← hW0]; exact (Below.refl _ _).alloc (Nat.le_refl _) _)
  have hfl : ∀ k, sfoot g' k → ¬ (k = w.heap.size ∨ W0.heap.size ≤ k) := fun k hk h => by
    rcases h with h | h
    · exact hsf k hk h
    · have := hsg0.lt k hk; omega
  have hlen' : g'.t.items.length ≤ 64 := by rw [hgt]; exact hlen
  have HG := Lib.hid hgt
  clear hsg hbw hsf hw1 hB2 HS HS1 h1 hgt hW0 hB1
  refine wpIn_rangeFunc_ownH rfl (by omega) (gf := 53) (lb := #[.pointer (some ⟨w1.heap.size, 0, none⟩)]) rfl trivial (enters_of Try.func53 (by kernel_rfl) rfl)
    (each_stops (5 - 1) (fun k => k = w.heap.size ∨ W0.heap.size ≤ k) w1.heap.size g'.tb g'.sb sd g'.t (fun _ => True) W0 hcB hsg0 (fun b hb => hfl b (.inr (.inr (.inl hb)))) (fun v hv k hk => hfl k (.inr (.inr (.inr ⟨v, hv, hk⟩))))) Fr.t (fun W l o o' hl ho _ _ => fr_b W l o o' (.inr (by omega)) ho) (Below.refl _ _) (fun _ => rfl)
    (fun pre W => (∃ v, Cl 40 W w.heap.size #[v] ∧ W.ownsRow W0.heap.size 2 1 v pre.length (keyV pre) ∧ W0.heap.size ≤ W.heap.size) ∧ Below w.heap.size w W)
    (fun _ _ _ => False)
    (OwnFrom.and (Own.from (fun s A B row hs hg hr => by obtain ⟨v, h1, h2, h3⟩ := hs; exact ⟨v, h1.own hg hr, own_kept h2 hg hr, Nat.le_trans h3 hg.size⟩) _) (ownFrom_below (Nat.le_refl _) hB0.size))
    (fun _ _ _ _ _ hs _ _ => hs)
    ⟨⟨_, hc0, ⟨rfl, .inl ⟨rfl, rfl⟩⟩, Nat.le_refl _⟩, hB0⟩
    (AxK #[.pointer b, .int .i64 sd, undef, undef, .slice none 0 0, .pointer (some ⟨w.heap.size, 0, none⟩), undef, .pointer b, .int .i64 sd, .pointer (some ⟨g'.tb, 0, none⟩), .func (.func 53) #[] #[.pointer (some ⟨w1.heap.size, 0, none⟩)], undef, undef, undef, undef, undef, undef, undef])
    (fun x a' _ X Y row hs hg hr => hs)
    ?assign ?body ?done ?stop
  case assign =>
    rintro l0 pre x W K hI hK
    unfold AxK at hK
    gi_wp2
    exact hK _ _ ((KeepsOthers.refl _).from _) (Fr.refl _ W) hI rfl
  case body =>
    rintro l0 pre x a' W hl ⟨r, hr⟩ ⟨⟨v, hc, ho, h4⟩, hB⟩ rfl hlt
    obtain ⟨A0, c0, rfl, _⟩ := own_que2 ho
    have p0 : W.cell? ⟨w.heap.size, 0, none⟩ = some (.slice A0 pre.length c0) := (hc.c 0).trans rfl
    have hbd : pre.length + 1 ≤ 65 := by omega
    have ho2 := ho.alloc (.cells #[.int .i64 x.1] 2)
    have hca : Cl 40 (W.alloc (.cells #[.int .i64 x.1] 2)) w.heap.size #[.slice A0 pre.length c0] := hd_prev (blk_lt hc) hc
    have h4a : W0.heap.size ≤ (W.alloc (.cells #[.int .i64 x.1] 2)).heap.size := by rw [World.size_alloc]; omega
    have HW := Lib.hid (And.intro hca (And.intro ho2 (And.intro h4a (And.intro h4 (hB.alloc hB.size (.cells #[.int .i64 x.1] 2))))))
    have hlow : w.heap.size < W0.heap.size := blk_lt hc0
    clear hc h4 hB hl hca h4a
    gi_wp2_with (gi_at_builtin; refine wpListIn_append_own_at _ rfl _ _ _ rfl W0.heap.size _ i0 (.int .i64 0) 1 8 Try.underlying40 hi0 hz0 hz1 hz2 rfl (by decide) _ _ _ rfl ho2 ⟨W.heap.size, 0, none⟩ 1 1 [.int .i64 x.1] rfl rfl (one_news W x.1) (one_cells x.1) (by unfold maxLen; omega) (by omega) HW.out.2.2.1 ?_; intro v' w1' hown' hgrow hnil hloc; obtain ⟨A1, c1, rfl, _⟩ := own_que2 hown'; have hc1 : Cl 40 w1' w.heap.size #[.slice A0 pre.length c0] := own_far HW.out.1 ho2 hgrow hlow; have p2 : w1'.cell? ⟨w.heap.size, 0, none⟩ = some (.slice A0 pre.length c0) := (hc1.c 0).trans rfl; have f2 := hc1.f (k := 0); clear p0)
    have hfa : Fr (fun k => k = w.heap.size ∨ W0.heap.size ≤ k) W (W.alloc (.cells #[.int .i64 x.1] 2)) := (Fr.refl _ W).alloc _
    have hfr : Fr (fun k => k = w.heap.size ∨ W0.heap.size ≤ k) (W.alloc (.cells #[.int .i64 x.1] 2)) w1' := (Fr.refl _ _).grown hgrow (fun j e => .inl (.inr (own_lt ho2 j e).1))
    refine ⟨(((KeepsOthers.alloc _ _).from _).trans (keeps_own _ ho2 hgrow)).trans ((KeepsOthers.setCell _ _ _).from _), (hfa.t hfr).set (.inl (.inl rfl)) _, ⟨.slice A1 (pre.length + 1) c1, (heap_set hc1).trans rfl, ?_, (by rw [show (w1'.setCell ⟨w.heap.size, 0, none⟩ _).heap.size = w1'.heap.size by simp [World.setCell]]; exact Nat.le_trans HW.out.2.2.1 hgrow.size)⟩, (HW.out.2.2.2.2.trans (hfr.below (fun k hk => by rcases hk with h | h <;> omega) HW.out.2.2.2.2.size)).setCell (p := ⟨w.heap.size, 0, none⟩) (Nat.le_refl _) _⟩
    rw [List.length_append, keyV_snoc]
    refine own_fr (S := fun k => k = w.heap.size) hown' ((Fr.refl (fun k => k = w.heap.size) w1').set (p := ⟨w.heap.size, 0, none⟩) (.inl rfl) _) (fun k hk e => ?_)
    have := (own_lt hown' k hk).1
    omega
  case done =>
    rintro D ys W hD rfl ⟨⟨v, hc, ho, h4⟩, hB⟩ hK
    obtain ⟨A0, c0, rfl, _⟩ := own_que2 ho
    have p0 : W.cell? ⟨w.heap.size, 0, none⟩ = some (.slice A0 g'.t.items.length c0) := (hc.c 0).trans rfl
    clear hc0
    gi_wp2_with fail
    refine ⟨by simp, .inl ⟨_, _, rfl, run_takeDeferred hK, ?_⟩⟩
    rw [← HG.out]
    exact ⟨_, results_tmp rfl _ _ _, _, rfl, Lib.hid ⟨own_base (own_put ho D hK rfl) hB0.size, hB.trans (belowK_b (w := w) (Nat.le_refl _) W D _ _ (by have := hB0.size; omega) hK rfl rfl)⟩⟩
  case stop =>
    rintro D c pre W _ _ h _
    exact h.elim
end Go.Proofs.Ytgbmgdffgmablaa

/- grove: Prices of a book. -/
namespace Go.Proofs.Ytgbmgdffgmablaa
open Go.RowKit Go.Sort Go.Lib Go.Maps Go.Shelf
set_option linter.unusedVariables false

theorem items_len (t : Tr) : t.items.length = t.rows.length := by
  have h := congrArg List.length (items_fst t)
  simpa using h
theorem keyV_rq {t : Tr} {Q : List Rw} (h : t.rows = Q.map rqOf) : keyV t.items = prV Q := by
  rw [keyV_items, h, List.map_map]
  rfl
theorem flat_len : ∀ {Q : List Rw}, (∀ r ∈ Q, r.q ≠ []) → Q.length ≤ (flatR Q).length
  | [], _ => Nat.zero_le _
  | r :: Q, h => by
    have h1 := flat_len (Q := Q) (fun x hx => h x (List.mem_cons_of_mem _ hx))
    have h2 : 0 < r.q.length := List.length_pos_iff.2 (h r (List.mem_cons_self ..))
    have e : flatR (r :: Q) = r.q ++ flatR Q := rfl
    rw [e, List.length_append, List.length_cons]
    omega
theorem gPrices_off (b : Option Addr) (mm : Option (Nat × Nat)) (D : DataW Value) (g1 g2 : Sg) (sd : Int) (hn : mm.isSome = false ∨ (¬ sd = 1 ∧ ¬ sd = 2)) (hs : (Lit.int .i64 sd).wf = true) (w : World) (H : Gk w b mm D g1 g2) :
    Calls Try.prog 14 #[.pointer b, .int .i64 sd] w fun e w' => ∃ v, e = .returned v ∧ Hid (w'.ownsRow w.heap.size 2 1 v 0 (prV []) ∧ Below w.heap.size w w') :=
  gPrices_w b sd ⟨0, 0, .nil⟩ w (by decide) (Lib.hid (fun W hB hlt => (gSide_c b mm D g1 g2 sd W hs (gk_below H hB)).mono (by
    rintro e w' ⟨g, rfl, hg⟩
    refine ⟨g, rfl, Lib.hid ?_⟩
    cases hg.out with
    | own1 h1 h2 _ => rcases hn with hn | hn; rw [hn] at h1; cases h1; exact absurd h2 hn.1
    | own2 h1 h2 _ => rcases hn with hn | hn; rw [hn] at h1; cases h1; exact absurd h2 hn.2
    | new _ hb hsg =>
      refine ⟨rfl, hsg, hb, fun k hk e => ?_⟩
      rcases hk with hk | hk | hk | ⟨v, hk, _⟩
      · dsimp only at hk; omega
      · dsimp only at hk; omega
      · cases hk
      · cases hk)))
theorem gPrices_own (p m ms : Nat) (D : DataW Value) (g1 g2 : Sg) (Q1 Q2 : List Rw) (sd : Int) (g : Sg) (Q : List Rw) (w : World) (H : GW w p m ms D g1 g2 Q1 Q2) (S : OwnS w p m ms D g1 g2 Q1 Q2 sd g Q) :
    Calls Try.prog 14 #[.pointer (some ⟨p, 0, none⟩), .int .i64 sd] w fun e w' => ∃ v, e = .returned v ∧ Hid (w'.ownsRow w.heap.size 2 1 v Q.length (prV Q) ∧ Below w.heap.size w w') := by
  have hl : g.t.items.length = Q.length := by rw [items_len, S.eq, List.length_map]
  rw [← hl, ← keyV_rq S.eq]
  refine gPrices_w _ sd g w (by have := flat_len S.ok.some; have := S.len; omega) (Lib.hid (fun W hB hlt => (S.call W (H.below hB)).mono (by
    rintro e w' ⟨rfl, rfl⟩
    exact ⟨g, rfl, Lib.hid ⟨rfl, S.sg.below hB, Below.refl _ _, fun k hk e => by have := S.sg.lt k hk; omega⟩⟩)))
theorem gPrices_c (p m ms : Nat) (D : DataW Value) (g1 g2 : Sg) (Q1 Q2 : List Rw) (sd : Int) (hs : (Lit.int .i64 sd).wf = true) (w : World) (H : GW w p m ms D g1 g2 Q1 Q2) :
    Calls Try.prog 14 #[.pointer (some ⟨p, 0, none⟩), .int .i64 sd] w fun e w' => ∃ v, e = .returned v ∧ Hid (w'.ownsRow w.heap.size 2 1 v (rsq Q1 Q2 sd).length (prV (rsq Q1 Q2 sd)) ∧ Below w.heap.size w w') := by
  unfold rsq
  by_cases h1 : sd = 1
  · subst h1; rw [if_pos rfl]; exact gPrices_own p m ms D g1 g2 Q1 Q2 1 g1 Q1 w H H.own1
  rw [if_neg h1]
  by_cases h2 : sd = 2
  · subst h2; rw [if_pos rfl]; exact gPrices_own p m ms D g1 g2 Q1 Q2 2 g2 Q2 w H H.own2
  rw [if_neg h2]
  exact gPrices_off _ _ D g1 g2 sd (.inr ⟨h1, h2⟩) hs w H.gk
end Go.Proofs.Ytgbmgdffgmablaa

/- grove: told, with what stays as it lay. -/
namespace Go.Proofs.Ytgbmgdffgmablaa
open Go.RowKit Go.Sort Go.Lib Go.Maps
set_option linter.unusedVariables false

set_option maxHeartbeats 4000000 in
set_option maxRecDepth 100000 in
theorem told_k (p m ms : Nat) (D : DataW Value) (g1 g2 : Sg) (Q1 Q2 : List Rw) (w : World) (H : GW w p m ms D g1 g2 Q1 Q2) (B : Nat) (hB : ∀ k, gfoot p m ms g1 g2 k → k < B) (hBw : B ≤ w.heap.size)
    (v : Value) (n : Nat) (X : List Od) (hown : w.ownsRow B 24 6 v n (ol X)) (hn : n ≤ 10000) (A : Option Addr) (c : Nat) (Y : List Od) (hY : ∀ x ∈ Y, x ∈ bookL Q1 Q2) (hQ : QIn w B A Y) (hm : Y.length ≤ 1000) :
    Calls Try.prog 36 #[.pointer (some ⟨p, 0, none⟩), v, .slice A Y.length c] w fun e w' => ∃ v', e = .returned v' ∧ Hid (w'.ownsRow B 24 6 v' (n + Y.length) (ol (X ++ Y)) ∧ Below B w w' ∧ Fr (fun j => v.ownBlock = some j) w w') := by
  obtain ⟨i0, hi0, hz0, hz1, hz2⟩ := info_parts info_or
  have HH := Lib.hid H
  have HB := Lib.hid hB
  have HQ := Lib.hid hQ
  have HY := Lib.hid hY
  clear H hB hQ hY
  have hmI : (Y.length : Int) ≤ 1000 := by omega
  go_enter Try.func36, Try.ntmps36
  go_wp2_with fail
  obtain ⟨N, hN⟩ : ∃ N, N = Y.length := ⟨_, rfl⟩
  rw [← hN] at hm hmI ⊢
  have HN := Lib.hid hN
  clear hN
  go_loopg [1, 11] N (fun kx s1 s11 wr => ∃ k : Nat, s11 = .int .i64 (k : Int) ∧ k ≤ N ∧ N - k ≤ kx ∧ wr.ownsRow B 24 6 s1 (n + k) (ol (X ++ Y.take k)) ∧ Hid (Below B w wr ∧ Fr (fun j => v.ownBlock = some j) w wr ∧ ∀ j, s1.ownBlock = some j → v.ownBlock = some j ∨ w.heap.size ≤ j))
  case atStart => exact ⟨0, rfl, by omega, by omega, by simpa using hown, Below.refl _ _, Fr.refl _ _, fun _ h => .inl h⟩
  case round =>
    obtain ⟨k, rfl, hk, hkx, hown', hd⟩ := hrel
    by_cases hlt : k < N
    · have hltI : (k : Int) < (N : Int) := by omega
      have hk0 : (0 : Int) ≤ (k : Int) := by omega
      have hkY : k < Y.length := by rw [← HN.out]; exact hlt
      obtain ⟨g, rfl, hgB, hc⟩ := (HQ.out.below hd.out.1) k hkY
      obtain ⟨x, ex⟩ : ∃ x, Y[k]! = x := ⟨_, rfl⟩
      rw [ex] at hc
      have hxY : x ∈ Y := by rw [← ex, getElem!_pos Y k hkY]; exact List.getElem_mem _
      have hxL := HY.out x hxY
      have G := HH.out.fr (fr_below hd.out.1) (fun j hj hbad => by have := HB.out j hj; omega)
      have hsome : omL (bookL Q1 Q2) x.id = some x := (omL_some G.ids).2 ⟨hxL, rfl⟩
      have hl := look_o (G.gk.om _ _ rfl) G.om x.id (wf_u (G.ok x hxL).1.1)
      rw [hsome] at hl
      have hl' : (Instr.lookup 26 (.map (some m)) (.int .u64 x.id) false).run Try.prog wr = .ok (.agg (OC x)) wr := hl
      have k0 : wr.cell? ⟨p, 0, none⟩ = some (.map (some m)) := (G.bookp.c 0).trans rfl
      have HS : Hid (ol (X ++ Y.take (k + 1)) = ol (X ++ Y.take k) ++ encO x) := Lib.hid (by
        rw [List.take_succ_eq_append_getElem hkY, ← List.append_assoc, ol_app, ← getElem!_pos Y k hkY, ex])
      have hsz := hd.out.1.size
      have hnk : n + k ≤ 11000 := by omega
      clear ex hxY hxL G hsome hl
      generalize x.id = xi at *
      go_wp2_with (at_builtin; refine wpList_append_own_at _ rfl _ _ 37 rfl B 24 i0 (.agg (OC ⟨0, 0, 0, 0, 0, 0⟩)) 6 48 Try.underlying37 hi0 hz0 hz1 hz2 rfl (by decide) _ _ _ rfl (hown'.alloc _) ⟨wr.heap.size, 0, none⟩ 1 1 (encO x) rfl rfl ?c1 ?c2 ?c3 ?c4 ?c5 ?_)
      case c1 => exact six_o wr x _
      case c2 => exact enc_one x
      case c3 => unfold maxLen; omega
      case c4 => omega
      case c5 => simp; omega
      intro v1 w1 hown1 hg1 _ hloc
      have hB1 : Hid (Below B w w1 ∧ Fr (fun j => v.ownBlock = some j) w w1 ∧ ∀ j, v1.ownBlock = some j → v.ownBlock = some j ∨ w.heap.size ≤ j) := Lib.hid ⟨Below.grown (hd.out.1.alloc (Nat.le_trans hBw hsz) _) hg1 (by simp; omega) (fun k hk => (hown'.lt k hk).1), (hd.out.2.1.alloc _).grown hg1 hd.out.2.2, fun j e => by
        rcases hloc with h | h
        · exact hd.out.2.2 j (by rw [← h]; exact e)
        · rw [h] at e; injection e with e; right; rw [← e]; omega⟩
      rw [← HS.out] at hown1
      clear hg1 hloc hown' hd
      go_wp2_with fail
      go_roundg (N - (k + 1))
      case measure => omega
      case rel => exact ⟨k + 1, by go_num, by omega, by omega, hown1, hB1⟩
    · have hltI : ¬ (k : Int) < (N : Int) := by omega
      obtain rfl : k = N := by omega
      rw [List.take_of_length_le (by rw [← HN.out]; exact Nat.le_refl _)] at hown'
      have HF := Lib.hid (And.intro hown' (And.intro hd.out.1 hd.out.2.1))
      clear hown' hd
      go_wp2_with fail
      go_ret
      have eN := HN.out
      subst eN
      refine ⟨?v, ?e, ?h⟩
      case h => exact HF
      case e => rfl

end Go.Proofs.Ytgbmgdffgmablaa

/- grove: All, in plain words; each, at what comes. -/
namespace Go.Proofs.Ytgbmgdffgmablaa
open Go.RowKit Go.Sort Go.Lib Go.Maps Go.Shelf
set_option linter.unusedVariables false

abbrev Ix (T : Tr) := { x : Int × Value // x ∈ T.items }
def ivals {T : Tr} (l : List (Ix T)) : List (Int × Value) := l.map Subtype.val
theorem ivals_snoc {T : Tr} (l : List (Ix T)) (x : Ix T) : ivals (l ++ [x]) = ivals l ++ [x.1] := by unfold ivals; simp
/-- each, where what comes is known to be of the tree. -/
theorem each_stops_at (n : Nat) (S : Nat → Prop) (Bt tb sb : Nat) (s : Int) (T : Tr) (w : World) (hBt : Cl 64 w Bt #[.pointer (some ⟨tb, 0, none⟩)]) (hS : SgIn w s ⟨tb, sb, T⟩) (hb : ∀ b ∈ T.blks, ¬ S b) (hv : ∀ v ∈ T.vals, ∀ k, v.ownBlock = some k → ¬ S k) :
    SeqStopsK Fence.wide n Try.prog 53 #[.pointer (some ⟨Bt, 0, none⟩)] (fun x : Ix T => kv x.1) (Fr S) (fun ys => ivals ys = T.items) (fun pre => ivals pre <+: T.items) T.items.length w := fun ll J Jx W hW hJ _ hY h0 => by
  have sW := hS.below hW
  have cW := (hW.block _ (blk_lt hBt)).trans hBt
  refine (each1_in n ll Bt tb sb S T (fun x => x ∈ T.items) (fun l W => ∃ pre : List (Ix T), ivals pre = l ∧ J pre W) (fun l W => ∃ pre : List (Ix T), ivals pre = l ∧ Jx pre W) (fun l W h => by
      obtain ⟨pre, e, h⟩ := h
      exact ⟨pre, e, hJ pre W W.drew none h ⟨rfl, rfl, rfl, Nat.le_refl _, fun _ _ _ => rfl⟩ (fun r e => by cases e)⟩)
    (fun m l x W1 hp hl hx => by
      obtain ⟨pre, rfl, hp⟩ := hp
      refine yield_any rfl m ((hY pre ⟨x, hx⟩ W1 hp (by unfold ivals at hl; simpa using hl)).mono ?_)
      rintro e W' (⟨h1, h2, h3⟩ | ⟨h1, h2⟩)
      · exact .inl ⟨h1, ⟨_, ivals_snoc pre ⟨x, hx⟩, h2⟩, h3⟩
      · exact .inr ⟨h1, ⟨_, ivals_snoc pre ⟨x, hx⟩, h2⟩⟩) W ((Cl.c cW 0).trans rfl) sW.cx sW.tr hb hv (fun _ h => h) ⟨[], rfl, h0⟩).mono ?_
  rintro e w' ⟨he, (⟨ys, e1, pre, e2, h⟩ | ⟨l, h1, pre, e2, h⟩)⟩
  · exact ⟨he, .inl ⟨pre, e2.trans e1, h⟩⟩
  · exact ⟨he, .inr ⟨pre, (by show ivals pre <+: T.items; rw [e2]; exact h1), h⟩⟩
theorem item_own {W : World} : ∀ {t : Tr}, TrIn W t → ∀ x ∈ t.items, ∃ q, (x.1, q) ∈ t.rows ∧ W.ownsRow 0 22 1 x.2 q.length (idV q) ∧ x.2 ∈ t.vals
  | .nil, _, x, h => (by cases h)
  | .node a k v q l r, ht, x, h => by
    obtain ⟨_, h1, h2, h3⟩ := ht
    unfold Tr.items at h
    rcases List.mem_append.1 h with h | h
    · obtain ⟨q', e1, e2, e3⟩ := item_own h2 x h
      exact ⟨q', by simp [Tr.rows, e1], e2, by simp [Tr.vals, e3]⟩
    · rcases List.mem_cons.1 h with rfl | h
      · exact ⟨q, by simp [Tr.rows], h1, by simp [Tr.vals]⟩
      · obtain ⟨q', e1, e2, e3⟩ := item_own h3 x h
        exact ⟨q', by simp [Tr.rows, e1], e2, by simp [Tr.vals, e3]⟩
theorem atP_mem {s : Int} {Q : List Rw} (h : SideOk s Q) {r : Rw} (hr : r ∈ Q) : atP r.pr Q = r.q := by
  obtain ⟨A, B, rfl⟩ := List.append_of_mem hr
  have e : A ++ r :: B = A ++ [r] ++ B := by simp
  have hp := h.rows
  rw [e] at h hp ⊢
  have h1 := (List.pairwise_append.1 hp).1
  have h2 := (List.pairwise_append.1 hp).2.2
  have h3 := (List.pairwise_append.1 h1).2.2
  rw [atP_split h (fun a ha => h3 a ha r (by simp)) (fun b hb => h2 r (by simp) b hb) (fun x hx => by rw [List.mem_singleton.1 hx])]
  simp [flatR]
/-- What a queue tells. -/
def toldL (Q : List Rw) (l : List (Int × Value)) : List Od := l.flatMap (fun x => atP x.1 Q)
theorem toldL_snoc (Q : List Rw) (l : List (Int × Value)) (x : Int × Value) : toldL Q (l ++ [x]) = toldL Q l ++ atP x.1 Q := by unfold toldL; simp
theorem toldL_all {s : Int} {Q : List Rw} {t : Tr} (h : SideOk s Q) (e : t.rows = Q.map rqOf) : toldL Q t.items = flatR Q := by
  have h1 : toldL Q t.items = (t.items.map Prod.fst).flatMap (fun p => atP p Q) := by unfold toldL; rw [List.flatMap_map]
  rw [h1, items_fst, e, List.map_map, List.flatMap_map]
  unfold flatR
  have : ∀ {l : List Rw}, (∀ r ∈ l, r ∈ Q) → l.flatMap (fun a => atP ((Prod.fst ∘ rqOf) a) Q) = l.flatMap (·.q) := by
    intro l
    induction l with
    | nil => intro _; rfl
    | cons r l ih =>
      intro hl
      rw [List.flatMap_cons, List.flatMap_cons, ih (fun x hx => hl x (List.mem_cons_of_mem _ hx))]
      rw [show atP ((Prod.fst ∘ rqOf) r) Q = r.q from atP_mem h (hl r (List.mem_cons_self ..))]
  exact this (fun r hr => hr)
theorem toldL_len (Q : List Rw) (l : List (Int × Value)) (h : (flatR Q).length ≤ 64) : (toldL Q l).length ≤ l.length * 64 := by
  induction l with
  | nil => simp [toldL]
  | cons x l ih =>
    have e : toldL Q (x :: l) = atP x.1 Q ++ toldL Q l := rfl
    have h1 : (atP x.1 Q).length ≤ (flatR Q).length := List.length_filter_le _ _
    rw [e, List.length_append, List.length_cons]
    omega
/-- A queue that comes: its orders. -/
theorem item_q {W : World} {g : Sg} {s : Int} {Q : List Rw} (hS : SgIn W s g) (e : g.t.rows = Q.map rqOf) (hQ : SideOk s Q) {B : Nat} (hB : ∀ k, sfoot g k → k < B) {x : Int × Value} (hx : x ∈ g.t.items) :
    ∃ A cc, x.2 = .slice A (atP x.1 Q).length cc ∧ QIn W B A (atP x.1 Q) := by
  obtain ⟨q, h1, ho, h3⟩ := item_own hS.tr x hx
  rw [e] at h1
  obtain ⟨r, hr, er⟩ := List.mem_map.1 h1
  have e1 : r.pr = x.1 := congrArg Prod.fst er
  have e2 : r.q.map (·.id) = q := congrArg Prod.snd er
  rw [← e1, atP_mem hQ hr]
  subst e2
  rw [List.length_map] at ho
  rcases ho.2 with ⟨hv, h0⟩ | ⟨gg, cap, cur, hv, _⟩
  · rw [hv, h0] at ho
    have := row_q (Y := r.q) (B := B) ho (fun k hk => by cases hk)
    exact ⟨none, 0, by rw [hv, h0], this.2⟩
  · rw [hv] at ho ⊢
    have := row_q (Y := r.q) (B := B) ho (fun k hk => hB k (.inr (.inr (.inr ⟨_, h3, by rw [hv]; exact hk⟩))))
    exact ⟨_, _, rfl, this.2⟩
end Go.Proofs.Ytgbmgdffgmablaa

/- grove: All. -/
namespace Go.Proofs.Ytgbmgdffgmablaa
open Go.RowKit Go.Sort Go.Lib Go.Maps Go.Shelf
set_option linter.unusedVariables false
attribute [local go_sem] Oper.semAt_some

/-- A side, as All has it. -/
structure SideT (b : Option Addr) (w : World) (sd : Int) (T : Tr) (Q : List Rw) : Prop where
  len : T.items.length ≤ 64
  flat : (flatR Q).length ≤ 64
  blks : ∀ k ∈ T.blks, k < w.heap.size
  vals : ∀ v ∈ T.vals, ∀ k, v.ownBlock = some k → k < w.heap.size
  side : ∀ W, Below w.heap.size w W → w.heap.size < W.heap.size → Calls Try.prog 26 #[.pointer b, .int .i64 sd] W fun e w' => ∃ g', e = .returned (.pointer (some ⟨g'.tb, 0, none⟩)) ∧ Hid (g'.t = T ∧ SgIn w' sd g' ∧ Below W.heap.size W w')
  told : ∀ x ∈ T.items, ∃ A c, x.2 = .slice A (atP x.1 Q).length c ∧ ∀ W v n X, Below w.heap.size w W → w.heap.size + 3 ≤ W.heap.size → W.ownsRow (w.heap.size + 3) 24 6 v n (ol X) → n ≤ 10000 → Calls Try.prog 36 #[.pointer b, v, .slice A (atP x.1 Q).length c] W fun e w' => ∃ v', e = .returned v' ∧ Hid (w'.ownsRow (w.heap.size + 3) 24 6 v' (n + (atP x.1 Q).length) (ol (X ++ atP x.1 Q)) ∧ Below (w.heap.size + 3) W w' ∧ Fr (fun j => v.ownBlock = some j) W w')
theorem keeps_fr {T : TypeId} {W w1 : World} (B : Nat) {base n size : Nat} {v : Value} {xs : List Value} (ho : W.ownsRow base T size v n xs) (hf : Fr (fun j => v.ownBlock = some j) W w1) : KeepsFrom B W w1 := by
  refine ⟨hf.size, fun i o _ hi hc => ?_⟩
  refine hf.blk hi (fun e => ?_)
  rcases ho.2 with ⟨hv, _⟩ | ⟨k, cap, cur, hv, _, hk, _⟩
  · rw [hv] at e; cases e
  · rw [hv] at e
    injection e with e
    subst e
    rw [hk] at hi; cases hi; cases hc
def AxA (tm : Array Value) {T : Tr} (x : Ix T) (a' : Act) (_ : World) : Prop := a' = { tmps := ((tm.setIfInBounds 18 (.int .i64 x.1.1)).setIfInBounds 19 x.1.2).setIfInBounds 7 x.1.2, defers := [] }
set_option maxHeartbeats 4000000 in
set_option maxRecDepth 100000 in
theorem gAll_w (b : Option Addr) (w : World) (T1 T2 : Tr) (Q1 Q2 : List Rw) (H1 : SideT b w 1 T1 Q1) (H2 : SideT b w 2 T2 Q2) :
    Calls Try.prog 12 #[.pointer b] w fun e w' => ∃ v, e = .returned v ∧ Hid (w'.ownsRow w.heap.size 24 6 v (toldL Q1 T1.items ++ toldL Q2 T2.items).length (ol (toldL Q1 T1.items ++ toldL Q2 T2.items)) ∧ Below w.heap.size w w') := by
  have G1 := Lib.hid H1
  have G2 := Lib.hid H2
  clear H1 H2
  refine (callsIn_wide (n := 5)).1 ?_
  refine callsIn_of_wp_marks Try.func12 rfl trivial ?_ rfl
  simp only [Try.ntmps12, List.size_toArray, List.length_cons, List.length_nil, Nat.reduceAdd, Nat.reduceSub, Array.replicate_succ, Array.replicate_zero, List.push_toArray, List.append_toArray, List.nil_append, List.cons_append]
  gi_wp2_with fail
  obtain ⟨W0, hW0⟩ : ∃ W0, ((w.alloc (.cells #[.pointer b] 25)).alloc (.cells #[.slice none 0 0] 37)).alloc (.cells #[.int .i64 1, .int .i64 2] 3) = W0 := ⟨_, rfl⟩
  have hz0 : W0.heap.size = w.heap.size + 3 := by rw [← hW0]; simp
  have hB00 : Below w.heap.size w W0 := by rw [← hW0]; exact (((Below.refl _ _).alloc (Nat.le_refl _) _).alloc (by simp) _).alloc (by simp; omega) _
  have cb0 : Cl 25 W0 w.heap.size #[.pointer b] := by rw [← hW0]; exact hd_prev (by simp; omega) (hd_prev (by simp) (hd_last rfl))
  have cl0 : Cl 37 W0 (w.heap.size + 1) #[.slice none 0 0] := by rw [← hW0]; exact hd_prev (by simp) (hd_last (by simp))
  have cs0 : Cl 3 W0 (w.heap.size + 2) #[.int .i64 1, .int .i64 2] := by rw [← hW0]; exact hd_last (by simp)
  rw [hW0, show w.heap.size + 1 + 1 = w.heap.size + 2 from rfl]
  clear hW0
  refine wpIn_loop_rounds 3 ?_
  rw [roundsIn_succ]
  have HS1 := Lib.hid (G1.out.side W0 hB00 (by omega))
  have k0 : W0.cell? ⟨w.heap.size, 0, none⟩ = some (.pointer b) := (cb0.c 0).trans rfl
  have k1 : W0.cell? ⟨w.heap.size + 2, 0, none⟩ = some (.int .i64 1) := (cs0.c 0).trans rfl
  gi_wp2_with (first | (refine ⟨trivial, ?_⟩; refine ((callsIn_wide (n := 5 - 1)).2 HS1.out).mono ?_; rintro e w1 ⟨g1, rfl, h1⟩) | (refine ⟨trivial, ?_⟩; refine ((callsIn_wide (n := 5 - 1)).2 (each_c _ _)).mono ?_; rintro e w1' ⟨rfl, rfl⟩))
  have HB1 := hB00
  have HI1 : (∃ v, Cl 37 W0 (w.heap.size + 1) #[v] ∧ W0.ownsRow (w.heap.size + 3) 24 6 v ([] : List Od).length (ol []) ∧ Cl 25 W0 w.heap.size #[.pointer b] ∧ Cl 3 W0 (w.heap.size + 2) #[.int .i64 1, .int .i64 2] ∧ w.heap.size + 3 ≤ W0.heap.size) := ⟨_, cl0, World.ownsRow_nil _ _ _ _, cb0, cs0, by omega⟩
  obtain ⟨X1, hX1⟩ : ∃ X : List Od, X = [] := ⟨_, rfl⟩
  rw [← hX1] at HI1
  have hXl1 : X1.length ≤ 5000 := by rw [hX1]; exact Nat.zero_le _
  have HX1 := Lib.hid hX1
  clear hX1
  clear k0 k1 cl0 cb0 cs0 hB00
  obtain ⟨Y1, hY1⟩ : ∃ W, w1.alloc (.cells #[.pointer (some ⟨g1.tb, 0, none⟩)] 64) = W := ⟨_, rfl⟩
  rw [hY1]
  obtain ⟨hgt1, hsg1, hbw1⟩ := h1.out
  have hyz1 : Y1.heap.size = w1.heap.size + 1 := by rw [← hY1]; simp
  have hws1 := hbw1.size
  have hBy1 : Below W0.heap.size W0 Y1 := by rw [← hY1]; exact hbw1.alloc hbw1.size _
  have hB11 : Below w.heap.size w Y1 := HB1.trans (hBy1.mono HB1.size)
  have hcB1 : Cl 64 Y1 w1.heap.size #[.pointer (some ⟨g1.tb, 0, none⟩)] := by rw [← hY1]; exact hd_last rfl
  have hsg01 : SgIn Y1 1 ⟨g1.tb, g1.sb, T1⟩ := by
    have := hsg1.below (w' := Y1) (by rw [← hY1]; exact (Below.refl _ _).alloc (Nat.le_refl _) _)
    rw [← hgt1]; exact this
  have hbl1 : ∀ j ∈ T1.blks, ¬ (j = w.heap.size + 1 ∨ w.heap.size + 3 ≤ j) := fun j hj h => by have := G1.out.blks j hj; omega
  have hvl1 : ∀ v ∈ T1.vals, ∀ j, v.ownBlock = some j → ¬ (j = w.heap.size + 1 ∨ w.heap.size + 3 ≤ j) := fun v hv j e h => by have := G1.out.vals v hv j e; omega
  have hi1 : (∃ v, Cl 37 Y1 (w.heap.size + 1) #[v] ∧ Y1.ownsRow (w.heap.size + 3) 24 6 v (X1).length (ol (X1)) ∧ Cl 25 Y1 w.heap.size #[.pointer b] ∧ Cl 3 Y1 (w.heap.size + 2) #[.int .i64 1, .int .i64 2] ∧ w.heap.size + 3 ≤ Y1.heap.size) := by
    obtain ⟨v, a1, a2, a3, a4, a5⟩ := HI1
    exact ⟨v, (hBy1.block _ (blk_lt a1)).trans a1, own_fr (S := fun _ => False) a2 (Fr.of_below hBy1) (fun _ _ h => h), (hBy1.block _ (blk_lt a3)).trans a3, (hBy1.block _ (blk_lt a4)).trans a4, Nat.le_trans a5 hBy1.size⟩
  have hd1 : True := trivial
  clear hsg1 hbw1 hY1 h1 hgt1 HS1 HI1 hBy1
  refine wpIn_rangeFunc_ownH rfl (by omega) (gf := 53) (lb := #[.pointer (some ⟨w1.heap.size, 0, none⟩)]) rfl trivial (enters_of Try.func53 (by kernel_rfl) rfl)
    (each_stops_at (5 - 1) (fun j => j = w.heap.size + 1 ∨ w.heap.size + 3 ≤ j) w1.heap.size g1.tb g1.sb 1 T1 Y1 hcB1 hsg01 hbl1 hvl1) Fr.t (fun W l o o' hl ho _ _ => fr_b W l o o' (.inr (by have := HB1.size; omega)) ho) (Below.refl _ _) (fun _ => rfl)
    (fun pre W => (∃ v, Cl 37 W (w.heap.size + 1) #[v] ∧ W.ownsRow (w.heap.size + 3) 24 6 v (X1 ++ toldL Q1 (ivals pre)).length (ol (X1 ++ toldL Q1 (ivals pre))) ∧ Cl 25 W w.heap.size #[.pointer b] ∧ Cl 3 W (w.heap.size + 2) #[.int .i64 1, .int .i64 2] ∧ w.heap.size + 3 ≤ W.heap.size) ∧ True ∧ Below w.heap.size w W)
    (fun _ _ _ => False)
    (OwnFrom.and (Own.from (fun s A B row hs hg hr => by obtain ⟨v, a1, a2, a3, a4, a5⟩ := hs; exact ⟨v, a1.own hg hr, own_kept a2 hg hr, a3.own hg hr, a4.own hg hr, Nat.le_trans a5 hg.size⟩) _) (OwnFrom.and (fun _ _ _ _ _ _ _ => trivial) (ownFrom_below (Nat.le_refl _) hB11.size)))
    (fun _ _ _ _ _ hs _ _ => hs)
    ⟨by rw [show toldL Q1 (ivals ([] : List (Ix T1))) = [] from rfl, List.append_nil]; exact hi1, hd1, hB11⟩
    (AxA #[.pointer b, .pointer (some ⟨w.heap.size, 0, none⟩), .slice none 0 0, .pointer (some ⟨w.heap.size + 1, 0, none⟩), undef, .int .i64 1, undef, undef, .slice (some ⟨w.heap.size + 2, 0, none⟩) 2 2, .int .i64 2, .int .i64 0, .bool true, .pointer (some ⟨w.heap.size + 2, 0, none⟩), .int .i64 1, .pointer b, .int .i64 1, .pointer (some ⟨g1.tb, 0, none⟩), .func (.func 53) #[] #[.pointer (some ⟨w1.heap.size, 0, none⟩)], undef, undef, undef, undef, undef, undef, undef, undef])
    (fun x a' _ X Y row hs hg hr => hs)
    ?assign1 ?body1 ?done1 ?stop1
  case assign1 =>
    rintro l0 pre x W K hI hK
    unfold AxA at hK
    gi_wp2
    exact hK _ _ ((KeepsOthers.refl _).from _) (Fr.refl _ W) hI rfl
  case body1 =>
    rintro l0 pre x a' W hl ⟨r, hr⟩ ⟨⟨v, a1, a2, a3, a4, a5⟩, hd, hB⟩ rfl hlt
    obtain ⟨A, c, ex, HT⟩ := G1.out.told x.1 x.2
    have hbd : (X1 ++ toldL Q1 (ivals pre)).length ≤ 10000 := by
      have b1 := toldL_len Q1 (ivals pre) G1.out.flat
      have b2 : (ivals pre).length = pre.length := by unfold ivals; simp
      have b3 := G1.out.len
      rw [List.length_append]
      have b4 := hXl1
      omega
    obtain ⟨N, hN⟩ : ∃ N, N = (X1 ++ toldL Q1 (ivals pre)).length := ⟨_, rfl⟩
    rw [← hN] at a2 hbd
    have HN := Lib.hid hN
    clear hN
    have HT2 := Lib.hid (HT W v _ _ hB a5 a2 hbd)
    have p0 : W.cell? ⟨w.heap.size, 0, none⟩ = some (.pointer b) := (a3.c 0).trans rfl
    have p1 : W.cell? ⟨w.heap.size + 1, 0, none⟩ = some v := (a1.c 0).trans rfl
    have HW := Lib.hid (And.intro a1 (And.intro a2 (And.intro a3 (And.intro a4 (And.intro a5 (And.intro hd hB))))))
    clear HT a1 a2 a3 a4 a5 hd hB hbd
    simp only [ex]
    gi_wp2_with (refine ⟨trivial, ?_⟩; refine ((callsIn_wide).2 HT2.out).mono ?_; rintro e w3 ⟨v', rfl, h3⟩; obtain ⟨A3, cc3, rfl, _⟩ := own_que2 h3.out.1; have c3 : Cl 37 w3 (w.heap.size + 1) #[v] := h3.out.2.2.blk HW.out.1 (fun e => by have := (own_lt HW.out.2.1 _ e).1; omega); have p3 : w3.cell? ⟨w.heap.size + 1, 0, none⟩ = some v := (c3.c 0).trans rfl; have f3 := c3.f (k := 0); clear p0 p1)
    obtain ⟨a1, a2, a3, a4, a5, hd, hB⟩ := HW.out
    obtain ⟨h5, h6, h7⟩ := h3.out
    have hsz := h7.size
    have hfr : Fr (fun j => j = w.heap.size + 1 ∨ w.heap.size + 3 ≤ j) W (w3.setCell ⟨w.heap.size + 1, 0, none⟩ (.slice A3 (N + (atP x.1.1 Q1).length) cc3)) := (h7.mono (fun j hj => .inl (.inr (own_lt a2 j hj).1))).set (.inl (.inl rfl)) _
    refine ⟨(keeps_fr _ a2 h7).trans ((KeepsOthers.setCell _ _ _).from _), hfr, ⟨_, (heap_set c3).trans rfl, ?_, hfr.blk a3 (by omega), hfr.blk a4 (by omega), Nat.le_trans a5 hfr.size⟩, trivial, (hB.trans (h6.mono (by omega))).setCell (p := ⟨w.heap.size + 1, 0, none⟩) (Nat.le_succ _) _⟩
    rw [ivals_snoc, toldL_snoc, ← List.append_assoc, List.length_append, ← HN.out]
    refine own_fr (S := fun j => j = w.heap.size + 1) h5 ((Fr.refl (fun j => j = w.heap.size + 1) w3).set (p := ⟨w.heap.size + 1, 0, none⟩) (.inl rfl) _) (fun j hj e => ?_)
    have := (own_lt h5 j hj).1
    omega
  case stop1 =>
    rintro D c pre W _ _ h _
    exact h.elim
  case done1 =>
    rintro D1 ys W1 hD1 hys1 ⟨HI, hdd, HB⟩ hK1
    rw [hys1] at HI
    obtain ⟨X2, hX2⟩ : ∃ X, X = X1 ++ toldL Q1 T1.items := ⟨_, rfl⟩
    rw [← hX2] at HI
    have hXl2 : X2.length ≤ 5000 := by
      have b1 := toldL_len Q1 T1.items G1.out.flat
      have b2 := G1.out.len
      have b3 : X1.length = 0 := by rw [HX1.out]; rfl
      rw [hX2, List.length_append]
      omega
    have HX := Lib.hid hX2
    have HS2 := Lib.hid (G2.out.side W1 HB (by have := HB.size; have := hD1; omega))
    have HI2 := HI
    obtain ⟨v, a1, a2, a3, a4, a5⟩ := HI
    have k0 : W1.cell? ⟨w.heap.size, 0, none⟩ = some (.pointer b) := (a3.c 0).trans rfl
    have k1 : W1.cell? ⟨w.heap.size + 2, 1, none⟩ = some (.int .i64 2) := (a4.c 1).trans rfl
    clear a1 a2 a3 a4 a5 hys1 hdd hcB1 hsg01 hbl1 hvl1 hi1 hd1 hXl1 hX2
    gi_wp2_with fail
    rw [roundsIn_succ]
    gi_wp2_with (first | (refine ⟨trivial, ?_⟩; refine ((callsIn_wide (n := 5 - 1)).2 HS2.out).mono ?_; rintro e w2 ⟨g2, rfl, h2⟩) | (refine ⟨trivial, ?_⟩; refine ((callsIn_wide (n := 5 - 1)).2 (each_c _ _)).mono ?_; rintro e w2' ⟨rfl, rfl⟩))
    clear k0 k1
    have HB2 := HB
    obtain ⟨Y2, hY2⟩ : ∃ W, w2.alloc (.cells #[.pointer (some ⟨g2.tb, 0, none⟩)] 64) = W := ⟨_, rfl⟩
    rw [hY2]
    obtain ⟨hgt2, hsg2, hbw2⟩ := h2.out
    have hyz2 : Y2.heap.size = w2.heap.size + 1 := by rw [← hY2]; simp
    have hws2 := hbw2.size
    have hBy2 : Below W1.heap.size W1 Y2 := by rw [← hY2]; exact hbw2.alloc hbw2.size _
    have hB12 : Below w.heap.size w Y2 := HB2.trans (hBy2.mono HB2.size)
    have hcB2 : Cl 64 Y2 w2.heap.size #[.pointer (some ⟨g2.tb, 0, none⟩)] := by rw [← hY2]; exact hd_last rfl
    have hsg02 : SgIn Y2 2 ⟨g2.tb, g2.sb, T2⟩ := by
      have := hsg2.below (w' := Y2) (by rw [← hY2]; exact (Below.refl _ _).alloc (Nat.le_refl _) _)
      rw [← hgt2]; exact this
    have hbl2 : ∀ j ∈ T2.blks, ¬ (j = w.heap.size + 1 ∨ w.heap.size + 3 ≤ j) := fun j hj h => by have := G2.out.blks j hj; omega
    have hvl2 : ∀ v ∈ T2.vals, ∀ j, v.ownBlock = some j → ¬ (j = w.heap.size + 1 ∨ w.heap.size + 3 ≤ j) := fun v hv j e h => by have := G2.out.vals v hv j e; omega
    have hi2 : (∃ v, Cl 37 Y2 (w.heap.size + 1) #[v] ∧ Y2.ownsRow (w.heap.size + 3) 24 6 v (X2).length (ol (X2)) ∧ Cl 25 Y2 w.heap.size #[.pointer b] ∧ Cl 3 Y2 (w.heap.size + 2) #[.int .i64 1, .int .i64 2] ∧ w.heap.size + 3 ≤ Y2.heap.size) := by
      obtain ⟨v, a1, a2, a3, a4, a5⟩ := HI2
      exact ⟨v, (hBy2.block _ (blk_lt a1)).trans a1, own_fr (S := fun _ => False) a2 (Fr.of_below hBy2) (fun _ _ h => h), (hBy2.block _ (blk_lt a3)).trans a3, (hBy2.block _ (blk_lt a4)).trans a4, Nat.le_trans a5 hBy2.size⟩
    have hd2 : Y2.heap[D1]? = some (.deferred (some [])) := (hBy2.block _ (blk_lt hK1)).trans hK1
    clear hsg2 hbw2 hY2 h2 hgt2 HS2 HI2 hBy2
    refine wpIn_rangeFunc_ownH rfl (by omega) (gf := 53) (lb := #[.pointer (some ⟨w2.heap.size, 0, none⟩)]) rfl trivial (enters_of Try.func53 (by kernel_rfl) rfl)
      (each_stops_at (5 - 1) (fun j => j = w.heap.size + 1 ∨ w.heap.size + 3 ≤ j) w2.heap.size g2.tb g2.sb 2 T2 Y2 hcB2 hsg02 hbl2 hvl2) Fr.t (fun W l o o' hl ho _ _ => fr_b W l o o' (.inr (by have := HB2.size; omega)) ho) (Below.refl _ _) (fun _ => rfl)
      (fun pre W => (∃ v, Cl 37 W (w.heap.size + 1) #[v] ∧ W.ownsRow (w.heap.size + 3) 24 6 v (X2 ++ toldL Q2 (ivals pre)).length (ol (X2 ++ toldL Q2 (ivals pre))) ∧ Cl 25 W w.heap.size #[.pointer b] ∧ Cl 3 W (w.heap.size + 2) #[.int .i64 1, .int .i64 2] ∧ w.heap.size + 3 ≤ W.heap.size) ∧ W.heap[D1]? = some (.deferred (some [])) ∧ Below w.heap.size w W)
      (fun _ _ _ => False)
      (OwnFrom.and (Own.from (fun s A B row hs hg hr => by obtain ⟨v, a1, a2, a3, a4, a5⟩ := hs; exact ⟨v, a1.own hg hr, own_kept a2 hg hr, a3.own hg hr, a4.own hg hr, Nat.le_trans a5 hg.size⟩) _) (OwnFrom.and (fun s A B row hs hg hr => (hg.block _ (blk_lt hs) (fun e => by have := (hr D1 e.symm).1; have := blk_lt hd2; omega)).trans hs) (ownFrom_below (Nat.le_refl _) hB12.size)))
      (fun _ _ _ _ _ hs _ _ => hs)
      ⟨by rw [show toldL Q2 (ivals ([] : List (Ix T2))) = [] from rfl, List.append_nil]; exact hi2, hd2, hB12⟩
      (AxA #[.pointer b, .pointer (some ⟨w.heap.size, 0, none⟩), .slice none 0 0, .pointer (some ⟨w.heap.size + 1, 0, none⟩), undef, .int .i64 2, undef, undef, .slice (some ⟨w.heap.size + 2, 0, none⟩) 2 2, .int .i64 2, .int .i64 1, .bool true, .pointer (some ⟨w.heap.size + 2, 1, none⟩), .int .i64 2, .pointer b, .int .i64 2, .pointer (some ⟨g2.tb, 0, none⟩), .func (.func 53) #[] #[.pointer (some ⟨w2.heap.size, 0, none⟩)], undef, undef, undef, undef, undef, undef, .int .i64 1, undef])
      (fun x a' _ X Y row hs hg hr => hs)
      ?assign2 ?body2 ?done2 ?stop2
    case assign2 =>
      rintro l0 pre x W K hI hK
      unfold AxA at hK
      gi_wp2
      exact hK _ _ ((KeepsOthers.refl _).from _) (Fr.refl _ W) hI rfl
    case body2 =>
      rintro l0 pre x a' W hl ⟨r, hr⟩ ⟨⟨v, a1, a2, a3, a4, a5⟩, hd, hB⟩ rfl hlt
      obtain ⟨A, c, ex, HT⟩ := G2.out.told x.1 x.2
      have hbd : (X2 ++ toldL Q2 (ivals pre)).length ≤ 10000 := by
        have b1 := toldL_len Q2 (ivals pre) G2.out.flat
        have b2 : (ivals pre).length = pre.length := by unfold ivals; simp
        have b3 := G2.out.len
        rw [List.length_append]
        have b4 := hXl2
        omega
      obtain ⟨N, hN⟩ : ∃ N, N = (X2 ++ toldL Q2 (ivals pre)).length := ⟨_, rfl⟩
      rw [← hN] at a2 hbd
      have HN := Lib.hid hN
      clear hN
      have HT2 := Lib.hid (HT W v _ _ hB a5 a2 hbd)
      have p0 : W.cell? ⟨w.heap.size, 0, none⟩ = some (.pointer b) := (a3.c 0).trans rfl
      have p1 : W.cell? ⟨w.heap.size + 1, 0, none⟩ = some v := (a1.c 0).trans rfl
      have HW := Lib.hid (And.intro a1 (And.intro a2 (And.intro a3 (And.intro a4 (And.intro a5 (And.intro hd hB))))))
      clear HT a1 a2 a3 a4 a5 hd hB hbd
      simp only [ex]
      gi_wp2_with (refine ⟨trivial, ?_⟩; refine ((callsIn_wide).2 HT2.out).mono ?_; rintro e w3 ⟨v', rfl, h3⟩; obtain ⟨A3, cc3, rfl, _⟩ := own_que2 h3.out.1; have c3 : Cl 37 w3 (w.heap.size + 1) #[v] := h3.out.2.2.blk HW.out.1 (fun e => by have := (own_lt HW.out.2.1 _ e).1; omega); have p3 : w3.cell? ⟨w.heap.size + 1, 0, none⟩ = some v := (c3.c 0).trans rfl; have f3 := c3.f (k := 0); clear p0 p1)
      obtain ⟨a1, a2, a3, a4, a5, hd, hB⟩ := HW.out
      obtain ⟨h5, h6, h7⟩ := h3.out
      have hsz := h7.size
      have hfr : Fr (fun j => j = w.heap.size + 1 ∨ w.heap.size + 3 ≤ j) W (w3.setCell ⟨w.heap.size + 1, 0, none⟩ (.slice A3 (N + (atP x.1.1 Q2).length) cc3)) := (h7.mono (fun j hj => .inl (.inr (own_lt a2 j hj).1))).set (.inl (.inl rfl)) _
      refine ⟨(keeps_fr _ a2 h7).trans ((KeepsOthers.setCell _ _ _).from _), hfr, ⟨_, (heap_set c3).trans rfl, ?_, hfr.blk a3 (by omega), hfr.blk a4 (by omega), Nat.le_trans a5 hfr.size⟩, ((keeps_fr 0 a2 h7).trans ((KeepsOthers.setCell _ _ _).from _)).same D1 _ (Nat.zero_le _) hd rfl, (hB.trans (h6.mono (by omega))).setCell (p := ⟨w.heap.size + 1, 0, none⟩) (Nat.le_succ _) _⟩
      rw [ivals_snoc, toldL_snoc, ← List.append_assoc, List.length_append, ← HN.out]
      refine own_fr (S := fun j => j = w.heap.size + 1) h5 ((Fr.refl (fun j => j = w.heap.size + 1) w3).set (p := ⟨w.heap.size + 1, 0, none⟩) (.inl rfl) _) (fun j hj e => ?_)
      have := (own_lt h5 j hj).1
      omega
    case stop2 =>
      rintro D c pre W _ _ h _
      exact h.elim
    case done2 =>
      rintro D2 ys W2 hD2 hys2 ⟨HI, hdd, HB⟩ hK2
      rw [hys2] at HI
      rw [show X2 ++ toldL Q2 T2.items = toldL Q1 T1.items ++ toldL Q2 T2.items by rw [HX.out, HX1.out, List.nil_append]] at HI
      obtain ⟨N, hN⟩ : ∃ N, N = (toldL Q1 T1.items ++ toldL Q2 T2.items).length := ⟨_, rfl⟩
      rw [← hN] at HI
      have HN := Lib.hid hN
      obtain ⟨v, a1, a2, a3, a4, a5⟩ := HI
      obtain ⟨A9, c9, rfl, _⟩ := own_que2 a2
      have p1 : W2.cell? ⟨w.heap.size + 1, 0, none⟩ = some (.slice A9 N c9) := (a1.c 0).trans rfl
      clear hys2 hcB2 hsg02 hbl2 hvl2 hi2 hd2 hXl2 a1 a3 a4 hN
      gi_wp2_with fail
      rw [roundsIn_succ]
      gi_wp2_with fail
      have hDD : D1 < Y2.heap.size := by have := blk_lt hK1; omega
      have hL1 : w.heap.size + 3 ≤ D1 := by have := HB1.size; omega
      have hL2 : w.heap.size + 3 ≤ D2 := by omega
      have hK1' : (W2.putObj D2 (.deferred none)).heap[D1]? = some (.deferred (some [])) := ((grownBy_putObj' W2 D2 (.deferred none)).block D1 (blk_lt hdd) (by intro e; injection e; omega)).trans hdd
      refine ⟨by simp, .inl ⟨_, _, rfl, run_takeDeferred hK2, ?_⟩⟩
      refine ⟨by simp, .inl ⟨_, _, rfl, run_takeDeferred hK1', ?_⟩⟩
      refine ⟨_, results_tmp rfl _ _ _, _, rfl, Lib.hid ⟨?_, (HB.trans (belowK_b (w := w) (Nat.le_refl _) W2 D2 _ _ (by omega) hK2 rfl rfl)).trans (belowK_b (w := w) (Nat.le_refl _) _ D1 _ _ (by omega) hK1' rfl rfl)⟩⟩
      rw [← HN.out]
      exact own_base (own_put (own_put a2 D2 hK2 rfl) D1 hK1' rfl) (by omega)
end Go.Proofs.Ytgbmgdffgmablaa

/- grove: All of a book. -/
namespace Go.Proofs.Ytgbmgdffgmablaa
open Go.RowKit Go.Sort Go.Lib Go.Maps Go.Shelf
set_option linter.unusedVariables false

theorem sideT {p m ms : Nat} {D : DataW Value} {g1 g2 : Sg} {Q1 Q2 : List Rw} {sd : Int} {g : Sg} {Q : List Rw} {w : World} (H : GW w p m ms D g1 g2 Q1 Q2) (S : OwnS w p m ms D g1 g2 Q1 Q2 sd g Q) : SideT (some ⟨p, 0, none⟩) w sd g.t Q := by
  have hl : g.t.items.length = Q.length := by rw [items_len, S.eq, List.length_map]
  refine ⟨by have := flat_len S.ok.some; have := S.len; omega, S.len, fun k hk => S.sg.lt k (.inr (.inr (.inl hk))), fun v hv k hk => S.sg.lt k (.inr (.inr (.inr ⟨v, hv, hk⟩))), fun W hB _ => (S.call W (H.below hB)).mono ?_, fun x hx => ?_⟩
  · rintro e w' ⟨rfl, rfl⟩
    exact ⟨g, rfl, Lib.hid ⟨rfl, S.sg.below hB, Below.refl _ _⟩⟩
  · obtain ⟨A, c, ex, hq⟩ := item_q S.sg S.eq S.ok (B := w.heap.size) (fun k hk => S.sg.lt k hk) hx
    refine ⟨A, c, ex, fun W v n X hB hz ho hn => ?_⟩
    refine told_k p m ms D g1 g2 Q1 Q2 W (H.below hB) (w.heap.size + 3) (fun k hk => by have := H.lt k hk; omega) hz v n X ho hn A c (atP x.1 Q) (fun y hy => S.mem y (List.mem_filter.1 hy).1) (fun k hk => ?_) (by
      have h1 : (atP x.1 Q).length ≤ (flatR Q).length := List.length_filter_le _ _
      have h2 := S.len
      omega)
    obtain ⟨gg, h1, h2, h3⟩ := hq.below hB k hk
    exact ⟨gg, h1, by omega, h3⟩
theorem gAll_c (p m ms : Nat) (D : DataW Value) (g1 g2 : Sg) (Q1 Q2 : List Rw) (w : World) (H : GW w p m ms D g1 g2 Q1 Q2) :
    Calls Try.prog 12 #[.pointer (some ⟨p, 0, none⟩)] w fun e w' => ∃ v, e = .returned v ∧ Hid (w'.ownsRow w.heap.size 24 6 v (bookL Q1 Q2).length (ol (bookL Q1 Q2)) ∧ Below w.heap.size w w') := by
  have h := gAll_w _ w g1.t g2.t Q1 Q2 (sideT H H.own1) (sideT H H.own2)
  rw [toldL_all H.ok1 H.e1, toldL_all H.ok2 H.e2] at h
  exact h
theorem sideT_no {b : Option Addr} {D : DataW Value} {g1 g2 : Sg} {w : World} (H : Gk w b none D g1 g2) (sd : Int) (hs : (Lit.int .i64 sd).wf = true) : SideT b w sd .nil [] := by
  refine ⟨by decide, by decide, fun k hk => (by cases hk), fun v hv => (by cases hv), fun W hB hlt => (gSide_c b none D g1 g2 sd W hs (gk_below H hB)).mono ?_, fun x hx => (by cases hx)⟩
  rintro e w' ⟨g, rfl, hg⟩
  refine ⟨g, rfl, Lib.hid ?_⟩
  cases hg.out with
  | own1 h1 _ _ => cases h1
  | own2 h1 _ _ => cases h1
  | new _ hb hsg => exact ⟨rfl, hsg, hb⟩
theorem gAll_no (b : Option Addr) (D : DataW Value) (g1 g2 : Sg) (w : World) (H : Gk w b none D g1 g2) :
    Calls Try.prog 12 #[.pointer b] w fun e w' => ∃ v, e = .returned v ∧ Hid (w'.ownsRow w.heap.size 24 6 v 0 (ol []) ∧ Below w.heap.size w w') :=
  gAll_w _ w .nil .nil [] [] (sideT_no H 1 (by decide)) (sideT_no H 2 (by decide))
end Go.Proofs.Ytgbmgdffgmablaa

/- grove: what is told, by the orders; the chapter's example. -/
namespace Go.Proofs.Ytgbmgdffgmablaa
open Go.RowKit Go.Sort Go.Lib Go.Maps Go.Shelf
set_option linter.unusedVariables false

theorem gWhole.pw {w : World} {p : Nat} {m : Nat × Nat} {s1 s2 : Gd} (H : gWhole w p m s1 s2) : (bookL s1.rs s2.rs).Pairwise (fun x y => ltO x y = true) := by
  obtain ⟨D, h⟩ := H
  exact book_pw h.ok1 h.ok2
theorem sideQ {Q1 Q2 : List Rw} (o1 : SideOk 1 Q1) (o2 : SideOk 2 Q2) (sd : Int) : sideL sd (bookL Q1 Q2) = flatR (rsq Q1 Q2 sd) := by
  have h1 := flat_side o1
  have h2 := flat_side o2
  unfold bookL
  rw [show sideL sd (flatR Q1 ++ flatR Q2) = sideL sd (flatR Q1) ++ sideL sd (flatR Q2) from List.filter_append _ _]
  unfold rsq
  by_cases e1 : sd = 1
  · subst e1
    rw [if_pos rfl, sideL_all h1, sideL_none h2 (by decide), List.append_nil]
  · rw [if_neg e1]
    by_cases e2 : sd = 2
    · subst e2
      rw [if_pos rfl, sideL_all h2, sideL_none h1 (by decide), List.nil_append]
    · rw [if_neg e2, sideL_none h1 (fun e => e1 e.symm), sideL_none h2 (fun e => e2 e.symm)]
      rfl
theorem rsq_ok {Q1 Q2 : List Rw} (o1 : SideOk 1 Q1) (o2 : SideOk 2 Q2) (sd : Int) : rsq Q1 Q2 sd = [] ∨ ((sd = 1 ∨ sd = 2) ∧ SideOk sd (rsq Q1 Q2 sd)) := by
  unfold rsq
  by_cases e1 : sd = 1
  · subst e1; exact .inr ⟨.inl rfl, by rw [if_pos rfl]; exact o1⟩
  · rw [if_neg e1]
    by_cases e2 : sd = 2
    · subst e2; exact .inr ⟨.inr rfl, by rw [if_pos rfl]; exact o2⟩
    · rw [if_neg e2]; exact .inl rfl
theorem bestQ {Q1 Q2 : List Rw} (o1 : SideOk 1 Q1) (o2 : SideOk 2 Q2) (sd : Int) : bstQ Q1 Q2 sd = bestL sd (bookL Q1 Q2) := by
  unfold bstQ fstO bestL
  rw [sideQ o1 o2]
theorem prsQ {Q1 Q2 : List Rw} (o1 : SideOk 1 Q1) (o2 : SideOk 2 Q2) (sd : Int) : (rsq Q1 Q2 sd).map (·.pr) = prs (sideL sd (bookL Q1 Q2)) := by
  rw [sideQ o1 o2 sd]
  rcases rsq_ok o1 o2 sd with h | ⟨hs, h⟩
  · rw [h]; rfl
  · unfold prs
    rw [prs_flat hs _ _ h (fun p e => by cases e), List.nil_append]
theorem hBest (p : Nat) (m : Nat × Nat) (s1 s2 : Gd) (sd : Int) (hs : (Lit.int .i64 sd).wf = true) (w : World) (H : gWhole w p m s1 s2) :
    Calls Try.prog 9 #[.pointer (some ⟨p, 0, none⟩), .int .i64 sd] w fun e w' => e = .returned (.tuple #[optV (bestL sd (bookL s1.rs s2.rs)), .bool (bestL sd (bookL s1.rs s2.rs)).isSome]) ∧ Hid (Below w.heap.size w w') := by
  obtain ⟨D, h⟩ := H
  rw [← bestQ h.ok1 h.ok2]
  exact gBest_c p m.1 m.2 D s1.g s2.g s1.rs s2.rs sd hs w h
def prI (l : List Int) : List Value := l.map (fun p => .int .i64 p)
theorem hPrices (p : Nat) (m : Nat × Nat) (s1 s2 : Gd) (sd : Int) (hs : (Lit.int .i64 sd).wf = true) (w : World) (H : gWhole w p m s1 s2) :
    Calls Try.prog 14 #[.pointer (some ⟨p, 0, none⟩), .int .i64 sd] w fun e w' => ∃ v, e = .returned v ∧ Hid (w'.ownsRow w.heap.size 2 1 v (prs (sideL sd (bookL s1.rs s2.rs))).length (prI (prs (sideL sd (bookL s1.rs s2.rs)))) ∧ Below w.heap.size w w') := by
  obtain ⟨D, h⟩ := H
  have := gPrices_c p m.1 m.2 D s1.g s2.g s1.rs s2.rs sd hs w h
  rw [prV_map, prsQ h.ok1 h.ok2] at this
  have e : (rsq s1.rs s2.rs sd).length = (prs (sideL sd (bookL s1.rs s2.rs))).length := by rw [← prsQ h.ok1 h.ok2, List.length_map]
  rw [e] at this
  exact this
theorem hLen (p : Nat) (m : Nat × Nat) (s1 s2 : Gd) (w : World) (H : gWhole w p m s1 s2) :
    Calls Try.prog 15 #[.pointer (some ⟨p, 0, none⟩)] w fun e w' => e = .returned (.int .i64 (bookL s1.rs s2.rs).length) ∧ w = w' := by
  obtain ⟨D, h⟩ := H
  exact gLen_c p m.1 m.2 D s1.g s2.g s1.rs s2.rs w h
theorem hAll (p : Nat) (m : Nat × Nat) (s1 s2 : Gd) (w : World) (H : gWhole w p m s1 s2) :
    Calls Try.prog 12 #[.pointer (some ⟨p, 0, none⟩)] w fun e w' => ∃ v, e = .returned v ∧ Hid (w'.ownsRow w.heap.size 24 6 v (bookL s1.rs s2.rs).length (ol (bookL s1.rs s2.rs)) ∧ Below w.heap.size w w') := by
  obtain ⟨D, h⟩ := H
  exact gAll_c p m.1 m.2 D s1.g s2.g s1.rs s2.rs w h
theorem gft.lt {w : World} {p : Nat} {m : Nat × Nat} {s1 s2 : Gd} (H : gWhole w p m s1 s2) : ∀ k, gft p m s1 s2 k → k < w.heap.size := by
  obtain ⟨D, h⟩ := H
  exact h.lt
/-- An order of the example is put in. -/
theorem gex_add {w w' : World} {p k : Nat} {m : Nat × Nat} {s1 s2 s1' s2' : Gd} {o : Od} {c : Int} (h : gAddIs w w' p m s1 s2 s1' s2' o c) (hg : goodO o = true) (hid : ∀ x ∈ exO.take k, ¬ x.id = o.id) (hp : (bookL s1.rs s2.rs).Perm (exO.take k)) (hk : exO.take (k + 1) = exO.take k ++ [o]) (hk3 : k < 3) : gPutIs w w' p m s1 s2 s1' s2' o ∧ (bookL s1'.rs s2'.rs).Perm (exO.take (k + 1)) := by
  have hP : gPutIs w w' p m s1 s2 s1' s2' o := by
    rcases h with ⟨_, h, _⟩ | ⟨_, _, ⟨x, hx, hi⟩, _⟩ | ⟨_, _, ⟨_, hl, _⟩ | ⟨_, _, h⟩⟩
    · rw [hg] at h; cases h
    · exact absurd hi (hid x (hp.mem_iff.1 hx))
    · rw [hp.length_eq, List.length_take] at hl
      omega
    · exact h
  refine ⟨hP, hP.perm.trans ?_⟩
  rw [hk]
  exact (hp.cons o).trans (List.perm_append_comm (l₁ := [o]) (l₂ := exO.take k))
theorem gex_is {w : World} {p : Nat} {m : Nat × Nat} {s1 s2 : Gd} (H : gWhole w p m s1 s2) (h : (bookL s1.rs s2.rs).Perm exO) : bookL s1.rs s2.rs = exL := by
  refine uniq (h.trans ?_) H.pw (by decide +kernel)
  exact List.perm_append_comm (l₁ := [_]) (l₂ := [_, _])
/-- What the example's loop leaves. -/
def gLvI (w : World) (p : Nat) (m : Nat × Nat) (g k : Nat) (wr : World) (s1 s2 : Gd) : Prop :=
  gWhole wr p m s1 s2 ∧ (bookL s1.rs s2.rs).Perm (exO.take k) ∧ Cl 2 wr g #[.int .i64 7, .int .i64 5, .int .i64 6] ∧ ¬ gft p m s1 s2 g ∧ Below w.heap.size w wr ∧ (∀ j, gft p m s1 s2 j → w.heap.size ≤ j)
theorem glv_step {w wr w' : World} {p g k : Nat} {m : Nat × Nat} {s1 s2 s1' s2' : Gd} {o : Od} (I : gLvI w p m g k wr s1 s2) (hP : gPutIs wr w' p m s1 s2 s1' s2' o) (hp : (bookL s1'.rs s2'.rs).Perm (exO.take (k + 1))) : gLvI w p m g (k + 1) w' s1' s2' := by
  obtain ⟨h1, h2, h3, h4, h5, h6⟩ := I
  refine ⟨hP.tu.wh, hp, hP.tu.fr.blk h3 h4, fun hf => ?_, ?_, fun j hj => ?_⟩
  · rcases hP.tu.ft g hf with h | h
    · exact h4 h
    · have := blk_lt h3; omega
  · exact h5.trans (hP.tu.fr.below h6 h5.size)
  · rcases hP.tu.ft j hj with h | h
    · exact h6 j h
    · exact Nat.le_trans h5.size h
set_option maxHeartbeats 4000000 in
set_option maxRecDepth 100000 in
theorem lives14_c (w : World) : Calls Try.prog 17 #[] w fun e w' => e = .returned (.bool true) ∧ Below w.heap.size w w' := by
  have mixed : Try.prog.follows .mixedOrders = true := by kernel_rfl
  have HN := Lib.hid (gNew_c w)
  go_enter Try.func17, Try.ntmps17
  go_wp2_with ((with_reducible refine HN.out.mono ?_); rintro e w1 ⟨p, m, z1, z2, rfl, hn⟩; clear HN)
  obtain ⟨g, hg⟩ : ∃ g, w1.heap.size = g := ⟨_, rfl⟩
  have I0 : Hid (gLvI w p m g 0 (w1.alloc (.cells #[.int .i64 7, .int .i64 5, .int .i64 6] 2)) z1 z2) := by
    obtain ⟨hW, hb0, hbe, hft⟩ := hn.out
    rw [← hg]
    refine ⟨hW.below ((Below.refl _ _).alloc (Nat.le_refl _) _), by rw [hb0]; exact List.Perm.refl _, hd_last rfl, fun h => ?_, hbe.alloc hbe.size _, hft⟩
    have := gft.lt hW _ h
    omega
  rw [hg]
  clear hn hg
  go_loopw [10] (fun s wr => ∃ (k : Nat) (s1 s2 : Gd), s = .int .i64 (k : Int) ∧ Hid (k ≤ 3 ∧ gLvI w p m g k wr s1 s2)) (fun s _ => match s with | .int _ z => 3 - z.toNat | _ => 0)
  case atStart => exact ⟨0, z1, z2, rfl, Nat.zero_le _, I0.out⟩
  case round =>
    clear I0
    obtain ⟨k, s1, s2, rfl, hd⟩ := hrel
    have hd2 := hd.out
    obtain ⟨hk3, I⟩ := hd2
    have HI := Lib.hid I
    have hcl := I.2.2.1
    have c0 : wr.cell? ⟨g, 0, none⟩ = some (.int .i64 7) := (hcl.c 0).trans rfl
    have c1 : wr.cell? ⟨g, 1, none⟩ = some (.int .i64 5) := (hcl.c 1).trans rfl
    have c2 : wr.cell? ⟨g, 2, none⟩ = some (.int .i64 6) := (hcl.c 2).trans rfl
    clear hcl I hd
    have hk : k = 0 ∨ k = 1 ∨ k = 2 ∨ k = 3 := by omega
    rcases hk with rfl | rfl | rfl | rfl
    · have HA := Lib.hid (gAdd_c p m s1 s2 ⟨0, 0, 2, 7, 1, 0⟩ wr HI.out.1 (by unfold Od.ok; decide))
      go_wp2_with ((with_reducible refine HA.out.mono ?_); rintro e w2 ⟨cc, s1', s2', rfl, ha⟩)
      obtain ⟨hP, hp⟩ := gex_add (k := 0) ha.out (by decide +kernel) (by decide +kernel) HI.out.2.1 rfl (by decide)
      exact ⟨⟨1, s1', s2', rfl, by decide, glv_step HI.out hP hp⟩, by decide⟩
    · have HA := Lib.hid (gAdd_c p m s1 s2 ⟨1, 0, 2, 5, 1, 1⟩ wr HI.out.1 (by unfold Od.ok; decide))
      go_wp2_with ((with_reducible refine HA.out.mono ?_); rintro e w2 ⟨cc, s1', s2', rfl, ha⟩)
      obtain ⟨hP, hp⟩ := gex_add (k := 1) ha.out (by decide +kernel) (by decide +kernel) HI.out.2.1 rfl (by decide)
      exact ⟨⟨2, s1', s2', rfl, by decide, glv_step HI.out hP hp⟩, by decide⟩
    · have HA := Lib.hid (gAdd_c p m s1 s2 ⟨2, 0, 2, 6, 1, 2⟩ wr HI.out.1 (by unfold Od.ok; decide))
      go_wp2_with ((with_reducible refine HA.out.mono ?_); rintro e w2 ⟨cc, s1', s2', rfl, ha⟩)
      obtain ⟨hP, hp⟩ := gex_add (k := 2) ha.out (by decide +kernel) (by decide +kernel) HI.out.2.1 rfl (by decide)
      exact ⟨⟨3, s1', s2', rfl, by decide, glv_step HI.out hP hp⟩, by decide⟩
    · have hL := gex_is HI.out.1 HI.out.2.1
      have HB := Lib.hid (hBest p m s1 s2 2 (by decide) wr HI.out.1)
      rw [hL, show bestL 2 exL = some ⟨1, 0, 2, 5, 1, 1⟩ from rfl] at HB
      have HPr : Hid (∀ W, Below wr.heap.size wr W → Calls Try.prog 14 #[.pointer (some ⟨p, 0, none⟩), .int .i64 2] W fun e w' => ∃ v, e = .returned v ∧ Hid (w'.ownsRow W.heap.size 2 1 v 3 [.int .i64 5, .int .i64 6, .int .i64 7] ∧ Below W.heap.size W w')) := fun W hW => by
        have := hPrices p m s1 s2 2 (by decide) W (HI.out.1.below hW)
        rwa [hL, show prs (sideL 2 exL) = [5, 6, 7] by decide +kernel] at this
      have HLn : Hid (∀ W, Below wr.heap.size wr W → Calls Try.prog 15 #[.pointer (some ⟨p, 0, none⟩)] W fun e w' => e = .returned (.int .i64 3) ∧ Hid (Below W.heap.size W w')) := fun W hW => by
        have := hLen p m s1 s2 W (HI.out.1.below hW)
        rw [hL] at this
        exact this.mono fun e w' ⟨h1, h2⟩ => ⟨h1, by rw [h2]; exact Lib.hid (Below.refl _ _)⟩
      clear hL
      go_wp2_with (first | ((with_reducible refine HB.out.mono ?_); rintro e w2 ⟨rfl, hb2⟩; dsimp only [optV, Option.isSome]; have B2 : Hid (Below wr.heap.size wr (w2.alloc (.cells (OC ⟨1, 0, 2, 5, 1, 1⟩) 24))) := hb2.out.alloc hb2.out.size _; clear hb2) | ((with_reducible refine (HPr.out _ B2.out).mono ?_); rintro e w3 ⟨v, rfl, hv⟩; have B3 : Hid (Below wr.heap.size wr w3) := B2.out.trans (hv.out.2.mono B2.out.size); have hbx : w3.cell? ⟨w2.heap.size, 3, none⟩ = some (.int .i64 5) := (Cl.c (T := 24) (cs := OC ⟨1, 0, 2, 5, 1, 1⟩) ((hv.out.2.block _ (by rw [World.size_alloc]; exact Nat.lt_succ_self _)).trans (hd_last rfl)) 3).trans rfl; obtain ⟨gg, gc, rfl, q0, q1, q2⟩ := own_three hv.out.1) | ((with_reducible refine (HLn.out _ B3.out).mono ?_); rintro e w4 ⟨rfl, hb4⟩))
      go_ret
      exact ⟨rfl, HI.out.2.2.2.2.1.trans ((B3.out.trans (hb4.out.mono B3.out.size)).mono HI.out.2.2.2.2.1.size)⟩
end Go.Proofs.Ytgbmgdffgmablaa

/- grove: what a book tells that is nil, or that no call made. -/
namespace Go.Proofs.Ytgbmgdffgmablaa
open Go.RowKit Go.Shelf Go.Sort
set_option linter.unusedVariables false

/-- No book, or one that no call made, beside an order in its box. -/
structure NbS (w : World) (b : Option Addr) (ob : Nat) (o : Od) (W : World) : Prop where
  bk : Gn W b
  cl : Cl 24 W ob (OC o)
  be : Below w.heap.size w W
theorem NbS.below {w W W' : World} {b : Option Addr} {ob : Nat} {o : Od} (h : NbS w b ob o W) (hb : Below W.heap.size W W') : NbS w b ob o W' :=
  ⟨Gn.below h.bk hb, (hb.block _ (blk_lt h.cl)).trans h.cl, h.be.trans (hb.mono h.be.size)⟩
theorem NbS.drew {w W : World} {b : Option Addr} {ob : Nat} {o : Od} (h : NbS w b ob o W) : NbS w b ob o W.drew := h.below (Below.refl _ _).drew
theorem NbS.alloc {w W : World} {b : Option Addr} {ob : Nat} {o : Od} (h : NbS w b ob o W) (x : Obj) : NbS w b ob o (W.alloc x) := h.below ((Below.refl _ _).alloc (Nat.le_refl _) _)
theorem gslice_nil {w' : World} {base size n : Nat} {T : TypeId} {v : Value} {xs : List Value} (h : w'.ownsRow base T size v n xs) (hn : n = 0) : ∃ A c, v = .slice A 0 c := by
  obtain ⟨A, c, hv, _⟩ := own_que2 h
  rw [hn] at hv
  exact ⟨A, c, hv⟩
theorem gnb_all {b : Option Addr} {W : World} (h : Gn W b) : Calls Try.prog 12 #[.pointer b] W fun e w' => ∃ A c, e = .returned (.slice A 0 c) ∧ Hid (Below W.heap.size W w') :=
  (gAll_no b _ _ _ W h).mono fun e w' ⟨v, he, hv⟩ => by
    obtain ⟨A, c, rfl⟩ := gslice_nil hv.out.1 rfl
    exact ⟨A, c, he, Lib.hid hv.out.2⟩
theorem gnb_prices {b : Option Addr} {W : World} (sd : Int) (hs : (Lit.int .i64 sd).wf = true) (h : Gn W b) : Calls Try.prog 14 #[.pointer b, .int .i64 sd] W fun e w' => ∃ A c, e = .returned (.slice A 0 c) ∧ Hid (Below W.heap.size W w') :=
  (gPrices_off b none _ _ _ sd (.inl rfl) hs W h).mono fun e w' ⟨v, he, hv⟩ => by
    obtain ⟨A, c, rfl⟩ := gslice_nil hv.out.1 rfl
    exact ⟨A, c, he, Lib.hid hv.out.2⟩
end Go.Proofs.Ytgbmgdffgmablaa

/- GroveNobody, walked. (By mkgnob.py.) -/
namespace Go.Proofs.Ytgbmgdffgmablaa
open Go.RowKit Go.Shelf Go.Sort

theorem gz6_cl (W : World) : Cl 24 (W.alloc (.cells (OC ⟨0, 0, 0, 0, 0, 0⟩) 24)) W.heap.size (OC ⟨0, 0, 0, 0, 0, 0⟩) := hd_last rfl
set_option maxHeartbeats 8000000 in
set_option maxRecDepth 100000 in
theorem gnobody_w (x0 : Od) (a1 a2 : Int) (w : World) (ho : x0.ok w) :
    Calls Try.prog 3 #[.agg #[.int .u64 x0.id, .int .i64 x0.acc, .int .i64 x0.side, .int .i64 x0.price, .int .i64 x0.qty, .int .u64 x0.seq], .int .u64 a1, .int .i64 a2] w fun e w' => e = .returned (.bool true) ∧ Below w.heap.size w w' := by
  have mixed : Try.prog.follows .mixedOrders = true := by kernel_rfl
  have HL := Lib.hid lives14_c
  have HS := Lib.hid (WalkArith.wf_i64 ho.2.2.1)
  clear ho
  have HAdd : Hid (∀ {b : Option Addr} W, NbS w b w.heap.size x0 W → Calls Try.prog 10 #[.pointer b, (.agg #[.int .u64 x0.id, .int .i64 x0.acc, .int .i64 x0.side, .int .i64 x0.price, .int .i64 x0.qty, .int .u64 x0.seq])] W fun e w' => e = .returned (.int .i64 1) ∧ Hid (Below W.heap.size W w')) := fun W h => gAdd_no _ x0 W h.bk
  have HCut : Hid (∀ {b : Option Addr} W, NbS w b w.heap.size x0 W → Calls Try.prog 11 #[.pointer b, .int .u64 a1, .int .i64 a2] W fun e w' => e = .returned (.int .i64 1) ∧ Hid (Below W.heap.size W w')) := fun W h => (gCut_no _ a1 a2 W h.bk).mono fun e w' ⟨he, hw⟩ => ⟨he, by rw [← hw]; exact Below.refl _ _⟩
  have HAll : Hid (∀ {b : Option Addr} W, NbS w b w.heap.size x0 W → Calls Try.prog 12 #[.pointer b] W fun e w' => ∃ A c, e = .returned (.slice A 0 c) ∧ Hid (Below W.heap.size W w')) := fun W h => gnb_all h.bk
  have HLev : Hid (∀ {b : Option Addr} W, NbS w b w.heap.size x0 W → Calls Try.prog 13 #[.pointer b, .int .i64 x0.side, .int .i64 x0.price] W fun e w' => ∃ A c, e = .returned (.slice A 0 c) ∧ Hid (Below W.heap.size W w')) := fun W h => gLevel_no _ x0.side x0.price HS.out W h.bk
  have HPri : Hid (∀ {b : Option Addr} W, NbS w b w.heap.size x0 W → Calls Try.prog 14 #[.pointer b, .int .i64 x0.side] W fun e w' => ∃ A c, e = .returned (.slice A 0 c) ∧ Hid (Below W.heap.size W w')) := fun W h => gnb_prices x0.side HS.out h.bk
  have HLen : Hid (∀ {b : Option Addr} W, NbS w b w.heap.size x0 W → Calls Try.prog 15 #[.pointer b] W fun e w' => e = .returned (.int .i64 0) ∧ Hid (Below W.heap.size W w')) := fun W h => (gLen_no _ W h.bk).mono fun e w' ⟨he, hw⟩ => ⟨he, by rw [← hw]; exact Below.refl _ _⟩
  have HGet : Hid (∀ {b : Option Addr} W, NbS w b w.heap.size x0 W → Calls Try.prog 7 #[.pointer b, .int .u64 a1] W fun e w' => e = .returned (.tuple #[optV none, .bool false]) ∧ Hid (Below W.heap.size W w')) := fun W h => gGet_no _ a1 W h.bk
  have HTak : Hid (∀ {b : Option Addr} W, NbS w b w.heap.size x0 W → Calls Try.prog 8 #[.pointer b, .int .u64 a1] W fun e w' => e = .returned (.tuple #[optV none, .bool false]) ∧ Hid (Below W.heap.size W w')) := fun W h => gTake_no _ a1 W h.bk
  have HBes : Hid (∀ {b : Option Addr} W, NbS w b w.heap.size x0 W → Calls Try.prog 9 #[.pointer b, .int .i64 x0.side] W fun e w' => e = .returned (.tuple #[optV none, .bool false]) ∧ Hid (Below W.heap.size W w')) := fun W h => gBest_no _ x0.side HS.out W h.bk
  have HClo : Hid (∀ W, Calls Try.prog 16 #[.pointer none] W fun e w' => e = .returned (.pointer none) ∧ w' = W) := fun W => (gClone_no none W (gn_none W)).mono fun e w' ⟨he, hw⟩ => ⟨he, hw.symm⟩
  obtain ⟨W0, hW0⟩ : ∃ W0, ((w.alloc (.cells (OC x0) 24)).alloc (.cells #[.map none, .map none] 29)).alloc (.cells #[.pointer none, .pointer (some ⟨w.heap.size + 1, 0, none⟩)] 25) = W0 := ⟨_, rfl⟩
  have B0 : Below w.heap.size w W0 := by rw [← hW0]; exact (((Below.refl _ _).alloc (Nat.le_refl _) _).alloc (by simp) _).alloc (by simp; omega) _
  have C0 : Cl 24 W0 w.heap.size (OC x0) := by rw [← hW0]; exact hd_prev (by simp; omega) (hd_prev (by simp) (hd_last rfl))
  have C1 : Cl 29 W0 (w.heap.size + 1) #[.map none, .map none] := by rw [← hW0]; exact hd_prev (by simp) (hd_last (by simp))
  have C2 : Cl 25 W0 (w.heap.size + 2) #[.pointer none, .pointer (some ⟨w.heap.size + 1, 0, none⟩)] := by rw [← hW0]; exact hd_last (by simp)
  have HC := Lib.hid (And.intro B0 (And.intro C0 (And.intro C1 C2)))
  clear B0 C0 C1 C2
  go_enter Try.func3, Try.ntmps3
  go_wp2_with fail
  clear hW0
  go_loopw [21] (fun s wr => ∃ k : Nat, s = .int .i64 (k : Int) ∧ Hid (k ≤ 2 ∧ Below W0.heap.size W0 wr)) (fun s _ => match s with | .int _ z => 2 - z.toNat | _ => 0)
  case atStart => exact ⟨0, rfl, Nat.zero_le _, Below.refl _ _⟩
  case round =>
    obtain ⟨k, rfl, hd⟩ := hrel
    have hb := hd.out.2
    have C2 : Cl 25 wr (w.heap.size + 2) #[.pointer none, .pointer (some ⟨w.heap.size + 1, 0, none⟩)] := (hb.block _ (blk_lt HC.out.2.2.2)).trans HC.out.2.2.2
    have C1 : Cl 29 wr (w.heap.size + 1) #[.map none, .map none] := (hb.block _ (blk_lt HC.out.2.2.1)).trans HC.out.2.2.1
    have C0 : Cl 24 wr w.heap.size (OC x0) := (hb.block _ (blk_lt HC.out.2.1)).trans HC.out.2.1
    by_cases hk : k < 2
    · obtain ⟨b, hcb, hbk⟩ : ∃ b, wr.cell? ⟨w.heap.size + 2, k, none⟩ = some (.pointer b) ∧ NbS w b w.heap.size x0 wr := by
        have hk' : k = 0 ∨ k = 1 := by omega
        have hbe : Below w.heap.size w wr := HC.out.1.trans (hb.mono HC.out.1.size)
        rcases hk' with rfl | rfl
        · exact ⟨none, (C2.c 0).trans rfl, gn_none wr, C0, hbe⟩
        · exact ⟨_, (C2.c 1).trans rfl, gn_bare C1, C0, hbe⟩
      have hkI : (k : Int) < 2 := by omega
      have Hk := Lib.hid hk
      have HX0 := Lib.hid hbk
      clear hb C2 C1 C0 hk hbk
      go_wp2_with (first | ((with_reducible refine (HGet.out _ HX0.out).mono ?_); rintro e v1 ⟨rfl, hb1⟩; dsimp only [optV]; have HX1 := Lib.hid ((HX0.out.below hb1.out).alloc (.cells (OC ⟨0, 0, 0, 0, 0, 0⟩) 24)); have HF1 : Hid (Below W0.heap.size W0 (v1.alloc (.cells (OC ⟨0, 0, 0, 0, 0, 0⟩) 24))) := (hd.out.2.trans (hb1.out.mono hd.out.2.size)).alloc (Nat.le_trans hd.out.2.size hb1.out.size) _; clear hb1 HX0) | ((with_reducible refine (HTak.out _ HX1.out).mono ?_); rintro e v2 ⟨rfl, hb2⟩; dsimp only [optV]; have HX2 := Lib.hid ((HX1.out.below hb2.out).alloc (.cells (OC ⟨0, 0, 0, 0, 0, 0⟩) 24)); have HF2 : Hid (Below W0.heap.size W0 (v2.alloc (.cells (OC ⟨0, 0, 0, 0, 0, 0⟩) 24))) := (HF1.out.trans (hb2.out.mono HF1.out.size)).alloc (Nat.le_trans HF1.out.size hb2.out.size) _; have hx2 : (v2.alloc (.cells (OC ⟨0, 0, 0, 0, 0, 0⟩) 24)).cell? ⟨w.heap.size, 2, none⟩ = some (.int .i64 x0.side) := (HX2.out.cl.c 2).trans rfl; clear hb2 HX1) | ((with_reducible refine (HBes.out _ HX2.out).mono ?_); rintro e v3 ⟨rfl, hb3⟩; dsimp only [optV]; have HX3 := Lib.hid ((HX2.out.below hb3.out).alloc (.cells (OC ⟨0, 0, 0, 0, 0, 0⟩) 24)); have HF3 : Hid (Below W0.heap.size W0 (v3.alloc (.cells (OC ⟨0, 0, 0, 0, 0, 0⟩) 24))) := (HF2.out.trans (hb3.out.mono HF2.out.size)).alloc (Nat.le_trans HF2.out.size hb3.out.size) _; clear hb3 HX2 hx2))
      refine wp_region_held_drew (S := fun W => NbS w b w.heap.size x0 W ∧ Below W0.heap.size W0 W) (by kernel_rfl) (by exact ⟨HX3.out.drew, HF3.out.drew⟩) (fun hHeld => ?_)
      refine wpAnyH_take (i := 0) (oi := ⟨some 44, _, _, _, _, _⟩) (v := ?_) rfl (by kernel_rfl) (by kernel_rfl) (by kernel_rfl) (fun _ _ _ h => h) (Or.inl ⟨by kernel_rfl, ?_⟩) (by assumption) ?_
      rotate_left
      · (intro w hSw; (try dsimp only at hSw); go_simp; try with_reducible rfl)
      (repeat (first | simp only [Act.put] | simp only [List.setIfInBounds_toArray] | simp only [List.set_cons_succ] | simp only [List.set_cons_zero]))
      refine wpAnyH_take (i := 1) (oi := ⟨some 45, _, _, _, _, _⟩) (v := ?_) rfl (by kernel_rfl) (by kernel_rfl) (by kernel_rfl) (fun _ _ _ h => h) (Or.inl ⟨by kernel_rfl, ?_⟩) (by assumption) ?_
      rotate_left
      · (intro w hSw; obtain ⟨hs0, hs1, hs2, hs3, hs4, hs5⟩ := six_of hSw.1.cl; (try dsimp only at hSw); go_simp; try with_reducible rfl)
      (repeat (first | simp only [Act.put] | simp only [List.setIfInBounds_toArray] | simp only [List.set_cons_succ] | simp only [List.set_cons_zero]))
      refine wpAnyH_ready (rs := [2]) (by kernel_rfl) (by simp) ?_
      refine AllReadyH.cons (o := ⟨some 46, _, _, _, _, _⟩) rfl (fun K hK => ?_) AllReadyH.nil
      go_simp
      ((with_reducible refine (HAdd.out _ hHeld.1).mono ?_); rintro e y1 ⟨rfl, hb⟩)
      refine hK.out _ _ (by exact ⟨hHeld.1.below hb.out, hHeld.2.trans (hb.out.mono hHeld.2.size)⟩) (fun hHeld => ?_)
      clear hK K
      (repeat (first | simp only [Act.put] | simp only [List.setIfInBounds_toArray] | simp only [List.set_cons_succ] | simp only [List.set_cons_zero]))
      refine wpAnyH_take (i := 3) (oi := ⟨some 47, _, _, _, _, _⟩) (v := ?_) rfl (by kernel_rfl) (by kernel_rfl) (by kernel_rfl) (fun _ _ _ h => h) (Or.inl ⟨by kernel_rfl, ?_⟩) (by assumption) ?_
      rotate_left
      · (intro w hSw; (try dsimp only at hSw); go_simp; try with_reducible rfl)
      (repeat (first | simp only [Act.put] | simp only [List.setIfInBounds_toArray] | simp only [List.set_cons_succ] | simp only [List.set_cons_zero]))
      refine wpAnyH_take (i := 4) (oi := ⟨some 48, _, _, _, _, _⟩) (v := ?_) rfl (by kernel_rfl) (by kernel_rfl) (by kernel_rfl) (fun _ _ _ h => h) (Or.inl ⟨by kernel_rfl, ?_⟩) (by assumption) ?_
      rotate_left
      · (intro w hSw; (try dsimp only at hSw); go_simp; try with_reducible rfl)
      (repeat (first | simp only [Act.put] | simp only [List.setIfInBounds_toArray] | simp only [List.set_cons_succ] | simp only [List.set_cons_zero]))
      refine wpAnyH_take (i := 5) (oi := ⟨some 49, _, _, _, _, _⟩) (v := ?_) rfl (by kernel_rfl) (by kernel_rfl) (by kernel_rfl) (fun _ _ _ h => h) (Or.inl ⟨by kernel_rfl, ?_⟩) (by assumption) ?_
      rotate_left
      · (intro w hSw; (try dsimp only at hSw); go_simp; try with_reducible rfl)
      (repeat (first | simp only [Act.put] | simp only [List.setIfInBounds_toArray] | simp only [List.set_cons_succ] | simp only [List.set_cons_zero]))
      refine wpAnyH_take (i := 6) (oi := ⟨some 50, _, _, _, _, _⟩) (v := ?_) rfl (by kernel_rfl) (by kernel_rfl) (by kernel_rfl) (fun _ _ _ h => h) (Or.inl ⟨by kernel_rfl, ?_⟩) (by assumption) ?_
      rotate_left
      · (intro w hSw; (try dsimp only at hSw); go_simp; try with_reducible rfl)
      (repeat (first | simp only [Act.put] | simp only [List.setIfInBounds_toArray] | simp only [List.set_cons_succ] | simp only [List.set_cons_zero]))
      refine wpAnyH_take (i := 7) (oi := ⟨some 51, _, _, _, _, _⟩) (v := ?_) rfl (by kernel_rfl) (by kernel_rfl) (by kernel_rfl) (fun _ _ _ h => h) (Or.inl ⟨by kernel_rfl, ?_⟩) (by assumption) ?_
      rotate_left
      · (intro w hSw; (try dsimp only at hSw); go_simp; try with_reducible rfl)
      (repeat (first | simp only [Act.put] | simp only [List.setIfInBounds_toArray] | simp only [List.set_cons_succ] | simp only [List.set_cons_zero]))
      refine wpAnyH_ready (rs := [8]) (by kernel_rfl) (by simp) ?_
      refine AllReadyH.cons (o := ⟨some 52, _, _, _, _, _⟩) rfl (fun K hK => ?_) AllReadyH.nil
      go_simp
      ((with_reducible refine (HCut.out _ hHeld.1).mono ?_); rintro e y2 ⟨rfl, hb⟩)
      refine hK.out _ _ (by exact ⟨hHeld.1.below hb.out, hHeld.2.trans (hb.out.mono hHeld.2.size)⟩) (fun hHeld => ?_)
      clear hK K
      (repeat (first | simp only [Act.put] | simp only [List.setIfInBounds_toArray] | simp only [List.set_cons_succ] | simp only [List.set_cons_zero]))
      refine wpAnyH_take (i := 9) (oi := ⟨some 53, _, _, _, _, _⟩) (v := ?_) rfl (by kernel_rfl) (by kernel_rfl) (by kernel_rfl) (fun _ _ _ h => h) (Or.inl ⟨by kernel_rfl, ?_⟩) (by assumption) ?_
      rotate_left
      · (intro w hSw; (try dsimp only at hSw); go_simp; try with_reducible rfl)
      (repeat (first | simp only [Act.put] | simp only [List.setIfInBounds_toArray] | simp only [List.set_cons_succ] | simp only [List.set_cons_zero]))
      refine wpAnyH_take (i := 10) (oi := ⟨some 54, _, _, _, _, _⟩) (v := ?_) rfl (by kernel_rfl) (by kernel_rfl) (by kernel_rfl) (fun _ _ _ h => h) (Or.inl ⟨by kernel_rfl, ?_⟩) (by assumption) ?_
      rotate_left
      · (intro w hSw; (try dsimp only at hSw); go_simp; try with_reducible rfl)
      (repeat (first | simp only [Act.put] | simp only [List.setIfInBounds_toArray] | simp only [List.set_cons_succ] | simp only [List.set_cons_zero]))
      refine wpAnyH_take (i := 11) (oi := ⟨some 55, _, _, _, _, _⟩) (v := ?_) rfl (by kernel_rfl) (by kernel_rfl) (by kernel_rfl) (fun _ _ _ h => h) (Or.inl ⟨by kernel_rfl, ?_⟩) (by assumption) ?_
      rotate_left
      · (intro w hSw; (try dsimp only at hSw); go_simp; try with_reducible rfl)
      (repeat (first | simp only [Act.put] | simp only [List.setIfInBounds_toArray] | simp only [List.set_cons_succ] | simp only [List.set_cons_zero]))
      refine wpAnyH_take (i := 12) (oi := ⟨some 56, _, _, _, _, _⟩) (v := ?_) rfl (by kernel_rfl) (by kernel_rfl) (by kernel_rfl) (fun _ _ _ h => h) (Or.inl ⟨by kernel_rfl, ?_⟩) (by assumption) ?_
      rotate_left
      · (intro w hSw; (try dsimp only at hSw); go_simp; try with_reducible rfl)
      (repeat (first | simp only [Act.put] | simp only [List.setIfInBounds_toArray] | simp only [List.set_cons_succ] | simp only [List.set_cons_zero]))
      refine wpAnyH_take (i := 13) (oi := ⟨some 57, _, _, _, _, _⟩) (v := ?_) rfl (by kernel_rfl) (by kernel_rfl) (by kernel_rfl) (fun _ _ _ h => h) (Or.inl ⟨by kernel_rfl, ?_⟩) (by assumption) ?_
      rotate_left
      · (intro w hSw; (try dsimp only at hSw); go_simp; try with_reducible rfl)
      (repeat (first | simp only [Act.put] | simp only [List.setIfInBounds_toArray] | simp only [List.set_cons_succ] | simp only [List.set_cons_zero]))
      refine wpAnyH_take (i := 14) (oi := ⟨some 58, _, _, _, _, _⟩) (v := ?_) rfl (by kernel_rfl) (by kernel_rfl) (by kernel_rfl) (fun _ _ _ h => h) (Or.inl ⟨by kernel_rfl, ?_⟩) (by assumption) ?_
      rotate_left
      · (intro w hSw; (try dsimp only at hSw); go_simp; try with_reducible rfl)
      (repeat (first | simp only [Act.put] | simp only [List.setIfInBounds_toArray] | simp only [List.set_cons_succ] | simp only [List.set_cons_zero]))
      refine wpAnyH_take (i := 15) (oi := ⟨some 59, _, _, _, _, _⟩) (v := ?_) rfl (by kernel_rfl) (by kernel_rfl) (by kernel_rfl) (fun _ _ _ h => h) (Or.inl ⟨by kernel_rfl, ?_⟩) (by assumption) ?_
      rotate_left
      · (intro w hSw; (try dsimp only at hSw); go_simp; try with_reducible rfl)
      (repeat (first | simp only [Act.put] | simp only [List.setIfInBounds_toArray] | simp only [List.set_cons_succ] | simp only [List.set_cons_zero]))
      refine wpAnyH_take (i := 16) (oi := ⟨some 60, _, _, _, _, _⟩) (v := ?_) rfl (by kernel_rfl) (by kernel_rfl) (by kernel_rfl) (fun _ _ _ h => h) (Or.inl ⟨by kernel_rfl, ?_⟩) (by assumption) ?_
      rotate_left
      · (intro w hSw; (try dsimp only at hSw); go_simp; try with_reducible rfl)
      (repeat (first | simp only [Act.put] | simp only [List.setIfInBounds_toArray] | simp only [List.set_cons_succ] | simp only [List.set_cons_zero]))
      refine wpAnyH_take (i := 17) (oi := ⟨some 61, _, _, _, _, _⟩) (v := ?_) rfl (by kernel_rfl) (by kernel_rfl) (by kernel_rfl) (fun _ _ _ h => h) (Or.inl ⟨by kernel_rfl, ?_⟩) (by assumption) ?_
      rotate_left
      · (intro w hSw; (try dsimp only at hSw); go_simp; try with_reducible rfl)
      (repeat (first | simp only [Act.put] | simp only [List.setIfInBounds_toArray] | simp only [List.set_cons_succ] | simp only [List.set_cons_zero]))
      refine wpAnyH_take (i := 18) (oi := ⟨some 62, _, _, _, _, _⟩) (v := ?_) rfl (by kernel_rfl) (by kernel_rfl) (by kernel_rfl) (fun _ _ _ h => h) (Or.inl ⟨by kernel_rfl, ?_⟩) (by assumption) ?_
      rotate_left
      · (intro w hSw; (try dsimp only at hSw); go_simp; try with_reducible rfl)
      (repeat (first | simp only [Act.put] | simp only [List.setIfInBounds_toArray] | simp only [List.set_cons_succ] | simp only [List.set_cons_zero]))
      refine wpAnyH_take (i := 19) (oi := ⟨some 63, _, _, _, _, _⟩) (v := ?_) rfl (by kernel_rfl) (by kernel_rfl) (by kernel_rfl) (fun _ _ _ h => h) (Or.inl ⟨by kernel_rfl, ?_⟩) (by assumption) ?_
      rotate_left
      · (intro w hSw; (try dsimp only at hSw); go_simp; try with_reducible rfl)
      (repeat (first | simp only [Act.put] | simp only [List.setIfInBounds_toArray] | simp only [List.set_cons_succ] | simp only [List.set_cons_zero]))
      refine wpAnyH_take (i := 20) (oi := ⟨some 64, _, _, _, _, _⟩) (v := ?_) rfl (by kernel_rfl) (by kernel_rfl) (by kernel_rfl) (fun _ _ _ h => h) (Or.inl ⟨by kernel_rfl, ?_⟩) (by assumption) ?_
      rotate_left
      · (intro w hSw; (try dsimp only at hSw); go_simp; try with_reducible rfl)
      (repeat (first | simp only [Act.put] | simp only [List.setIfInBounds_toArray] | simp only [List.set_cons_succ] | simp only [List.set_cons_zero]))
      refine wpAnyH_take (i := 21) (oi := ⟨some 65, _, _, _, _, _⟩) (v := ?_) rfl (by kernel_rfl) (by kernel_rfl) (by kernel_rfl) (fun _ _ _ h => h) (Or.inl ⟨by kernel_rfl, ?_⟩) (by assumption) ?_
      rotate_left
      · (intro w hSw; (try dsimp only at hSw); go_simp; try with_reducible rfl)
      (repeat (first | simp only [Act.put] | simp only [List.setIfInBounds_toArray] | simp only [List.set_cons_succ] | simp only [List.set_cons_zero]))
      refine wpAnyH_take (i := 24) (oi := ⟨some 68, _, _, _, _, _⟩) (v := ?_) rfl (by kernel_rfl) (by kernel_rfl) (by kernel_rfl) (fun _ _ _ h => h) (Or.inl ⟨by kernel_rfl, ?_⟩) (by assumption) ?_
      rotate_left
      · (intro w hSw; (try dsimp only at hSw); go_simp; try with_reducible rfl)
      (repeat (first | simp only [Act.put] | simp only [List.setIfInBounds_toArray] | simp only [List.set_cons_succ] | simp only [List.set_cons_zero]))
      refine wpAnyH_take (i := 25) (oi := ⟨some 69, _, _, _, _, _⟩) (v := ?_) rfl (by kernel_rfl) (by kernel_rfl) (by kernel_rfl) (fun _ _ _ h => h) (Or.inl ⟨by kernel_rfl, ?_⟩) (by assumption) ?_
      rotate_left
      · (intro w hSw; (try dsimp only at hSw); go_simp; try with_reducible rfl)
      (repeat (first | simp only [Act.put] | simp only [List.setIfInBounds_toArray] | simp only [List.set_cons_succ] | simp only [List.set_cons_zero]))
      refine wpAnyH_take (i := 26) (oi := ⟨some 70, _, _, _, _, _⟩) (v := ?_) rfl (by kernel_rfl) (by kernel_rfl) (by kernel_rfl) (fun _ _ _ h => h) (Or.inl ⟨by kernel_rfl, ?_⟩) (by assumption) ?_
      rotate_left
      · (intro w hSw; obtain ⟨hs0, hs1, hs2, hs3, hs4, hs5⟩ := six_of hSw.1.cl; (try dsimp only at hSw); go_simp; try with_reducible rfl)
      (repeat (first | simp only [Act.put] | simp only [List.setIfInBounds_toArray] | simp only [List.set_cons_succ] | simp only [List.set_cons_zero]))
      refine wpAnyH_take (i := 27) (oi := ⟨some 71, _, _, _, _, _⟩) (v := ?_) rfl (by kernel_rfl) (by kernel_rfl) (by kernel_rfl) (fun _ _ _ h => h) (Or.inl ⟨by kernel_rfl, ?_⟩) (by assumption) ?_
      rotate_left
      · (intro w hSw; (try dsimp only at hSw); go_simp; try with_reducible rfl)
      (repeat (first | simp only [Act.put] | simp only [List.setIfInBounds_toArray] | simp only [List.set_cons_succ] | simp only [List.set_cons_zero]))
      refine wpAnyH_take (i := 28) (oi := ⟨some 72, _, _, _, _, _⟩) (v := ?_) rfl (by kernel_rfl) (by kernel_rfl) (by kernel_rfl) (fun _ _ _ h => h) (Or.inl ⟨by kernel_rfl, ?_⟩) (by assumption) ?_
      rotate_left
      · (intro w hSw; obtain ⟨hs0, hs1, hs2, hs3, hs4, hs5⟩ := six_of hSw.1.cl; (try dsimp only at hSw); go_simp; try with_reducible rfl)
      (repeat (first | simp only [Act.put] | simp only [List.setIfInBounds_toArray] | simp only [List.set_cons_succ] | simp only [List.set_cons_zero]))
      refine wpAnyH_take (i := 32) (oi := ⟨some 76, _, _, _, _, _⟩) (v := ?_) rfl (by kernel_rfl) (by kernel_rfl) (by kernel_rfl) (fun _ _ _ h => h) (Or.inl ⟨by kernel_rfl, ?_⟩) (by assumption) ?_
      rotate_left
      · (intro w hSw; (try dsimp only at hSw); go_simp; try with_reducible rfl)
      (repeat (first | simp only [Act.put] | simp only [List.setIfInBounds_toArray] | simp only [List.set_cons_succ] | simp only [List.set_cons_zero]))
      refine wpAnyH_take (i := 33) (oi := ⟨some 77, _, _, _, _, _⟩) (v := ?_) rfl (by kernel_rfl) (by kernel_rfl) (by kernel_rfl) (fun _ _ _ h => h) (Or.inl ⟨by kernel_rfl, ?_⟩) (by assumption) ?_
      rotate_left
      · (intro w hSw; (try dsimp only at hSw); go_simp; try with_reducible rfl)
      (repeat (first | simp only [Act.put] | simp only [List.setIfInBounds_toArray] | simp only [List.set_cons_succ] | simp only [List.set_cons_zero]))
      refine wpAnyH_take (i := 34) (oi := ⟨some 78, _, _, _, _, _⟩) (v := ?_) rfl (by kernel_rfl) (by kernel_rfl) (by kernel_rfl) (fun _ _ _ h => h) (Or.inl ⟨by kernel_rfl, ?_⟩) (by assumption) ?_
      rotate_left
      · (intro w hSw; obtain ⟨hs0, hs1, hs2, hs3, hs4, hs5⟩ := six_of hSw.1.cl; (try dsimp only at hSw); go_simp; try with_reducible rfl)
      (repeat (first | simp only [Act.put] | simp only [List.setIfInBounds_toArray] | simp only [List.set_cons_succ] | simp only [List.set_cons_zero]))
      refine wpAnyH_take (i := 38) (oi := ⟨some 82, _, _, _, _, _⟩) (v := ?_) rfl (by kernel_rfl) (by kernel_rfl) (by kernel_rfl) (fun _ _ _ h => h) (Or.inl ⟨by kernel_rfl, ?_⟩) (by assumption) ?_
      rotate_left
      · (intro w hSw; (try dsimp only at hSw); go_simp; try with_reducible rfl)
      (repeat (first | simp only [Act.put] | simp only [List.setIfInBounds_toArray] | simp only [List.set_cons_succ] | simp only [List.set_cons_zero]))
      refine wpAnyH_ready (rs := [22]) (by kernel_rfl) (by simp) ?_
      refine AllReadyH.cons (o := ⟨some 66, _, _, _, _, _⟩) rfl (fun K hK => ?_) AllReadyH.nil
      go_simp
      ((with_reducible refine (HAll.out _ hHeld.1).mono ?_); rintro e y3 ⟨A3, c3, rfl, hb⟩)
      refine hK.out _ _ (by exact ⟨hHeld.1.below hb.out, hHeld.2.trans (hb.out.mono hHeld.2.size)⟩) (fun hHeld => ?_)
      clear hK K
      (repeat (first | simp only [Act.put] | simp only [List.setIfInBounds_toArray] | simp only [List.set_cons_succ] | simp only [List.set_cons_zero]))
      refine wpAnyH_take (i := 23) (oi := ⟨some 67, _, _, _, _, _⟩) (v := ?_) rfl (by kernel_rfl) (by kernel_rfl) (by kernel_rfl) (fun _ _ _ h => h) (Or.inl ⟨by kernel_rfl, ?_⟩) (by assumption) ?_
      rotate_left
      · (intro w hSw; (try dsimp only at hSw); go_simp; try with_reducible rfl)
      (repeat (first | simp only [Act.put] | simp only [List.setIfInBounds_toArray] | simp only [List.set_cons_succ] | simp only [List.set_cons_zero]))
      refine wpAnyH_ready (rs := [29]) (by kernel_rfl) (by simp) ?_
      refine AllReadyH.cons (o := ⟨some 73, _, _, _, _, _⟩) rfl (fun K hK => ?_) AllReadyH.nil
      go_simp
      ((with_reducible refine (HLev.out _ hHeld.1).mono ?_); rintro e y4 ⟨A4, c4, rfl, hb⟩)
      refine hK.out _ _ (by exact ⟨hHeld.1.below hb.out, hHeld.2.trans (hb.out.mono hHeld.2.size)⟩) (fun hHeld => ?_)
      clear hK K
      (repeat (first | simp only [Act.put] | simp only [List.setIfInBounds_toArray] | simp only [List.set_cons_succ] | simp only [List.set_cons_zero]))
      refine wpAnyH_take (i := 30) (oi := ⟨some 74, _, _, _, _, _⟩) (v := ?_) rfl (by kernel_rfl) (by kernel_rfl) (by kernel_rfl) (fun _ _ _ h => h) (Or.inl ⟨by kernel_rfl, ?_⟩) (by assumption) ?_
      rotate_left
      · (intro w hSw; (try dsimp only at hSw); go_simp; try with_reducible rfl)
      (repeat (first | simp only [Act.put] | simp only [List.setIfInBounds_toArray] | simp only [List.set_cons_succ] | simp only [List.set_cons_zero]))
      refine wpAnyH_take (i := 31) (oi := ⟨some 75, _, _, _, _, _⟩) (v := ?_) rfl (by kernel_rfl) (by kernel_rfl) (by kernel_rfl) (fun _ _ _ h => h) (Or.inl ⟨by kernel_rfl, ?_⟩) (by assumption) ?_
      rotate_left
      · (intro w hSw; (try dsimp only at hSw); go_simp; try with_reducible rfl)
      (repeat (first | simp only [Act.put] | simp only [List.setIfInBounds_toArray] | simp only [List.set_cons_succ] | simp only [List.set_cons_zero]))
      refine wpAnyH_ready (rs := [35]) (by kernel_rfl) (by simp) ?_
      refine AllReadyH.cons (o := ⟨some 79, _, _, _, _, _⟩) rfl (fun K hK => ?_) AllReadyH.nil
      go_simp
      ((with_reducible refine (HPri.out _ hHeld.1).mono ?_); rintro e y5 ⟨A5, c5, rfl, hb⟩)
      refine hK.out _ _ (by exact ⟨hHeld.1.below hb.out, hHeld.2.trans (hb.out.mono hHeld.2.size)⟩) (fun hHeld => ?_)
      clear hK K
      (repeat (first | simp only [Act.put] | simp only [List.setIfInBounds_toArray] | simp only [List.set_cons_succ] | simp only [List.set_cons_zero]))
      refine wpAnyH_take (i := 36) (oi := ⟨some 80, _, _, _, _, _⟩) (v := ?_) rfl (by kernel_rfl) (by kernel_rfl) (by kernel_rfl) (fun _ _ _ h => h) (Or.inl ⟨by kernel_rfl, ?_⟩) (by assumption) ?_
      rotate_left
      · (intro w hSw; (try dsimp only at hSw); go_simp; try with_reducible rfl)
      (repeat (first | simp only [Act.put] | simp only [List.setIfInBounds_toArray] | simp only [List.set_cons_succ] | simp only [List.set_cons_zero]))
      refine wpAnyH_take (i := 37) (oi := ⟨some 81, _, _, _, _, _⟩) (v := ?_) rfl (by kernel_rfl) (by kernel_rfl) (by kernel_rfl) (fun _ _ _ h => h) (Or.inl ⟨by kernel_rfl, ?_⟩) (by assumption) ?_
      rotate_left
      · (intro w hSw; (try dsimp only at hSw); go_simp; try with_reducible rfl)
      (repeat (first | simp only [Act.put] | simp only [List.setIfInBounds_toArray] | simp only [List.set_cons_succ] | simp only [List.set_cons_zero]))
      refine wpAnyH_ready (rs := [39]) (by kernel_rfl) (by simp) ?_
      refine AllReadyH.cons (o := ⟨some 83, _, _, _, _, _⟩) rfl (fun K hK => ?_) AllReadyH.nil
      go_simp
      ((with_reducible refine (HLen.out _ hHeld.1).mono ?_); rintro e y6 ⟨rfl, hb⟩)
      refine hK.out _ _ (by exact ⟨hHeld.1.below hb.out, hHeld.2.trans (hb.out.mono hHeld.2.size)⟩) (fun hHeld => ?_)
      clear hK K
      (repeat (first | simp only [Act.put] | simp only [List.setIfInBounds_toArray] | simp only [List.set_cons_succ] | simp only [List.set_cons_zero]))
      refine wpAnyH_take (i := 40) (oi := ⟨some 84, _, _, _, _, _⟩) (v := ?_) rfl (by kernel_rfl) (by kernel_rfl) (by kernel_rfl) (fun _ _ _ h => h) (Or.inl ⟨by kernel_rfl, ?_⟩) (by assumption) ?_
      rotate_left
      · (intro w hSw; (try dsimp only at hSw); go_simp; try with_reducible rfl)
      (repeat (first | simp only [Act.put] | simp only [List.setIfInBounds_toArray] | simp only [List.set_cons_succ] | simp only [List.set_cons_zero]))
      refine wpAnyH_take (i := 41) (oi := ⟨some 85, _, _, _, _, _⟩) (v := ?_) rfl (by kernel_rfl) (by kernel_rfl) (by kernel_rfl) (fun _ _ _ h => h) (Or.inl ⟨by kernel_rfl, ?_⟩) (by assumption) ?_
      rotate_left
      · (intro w hSw; (try dsimp only at hSw); go_simp; try with_reducible rfl)
      (repeat (first | simp only [Act.put] | simp only [List.setIfInBounds_toArray] | simp only [List.set_cons_succ] | simp only [List.set_cons_zero]))
      refine wpAnyH_take (i := 42) (oi := ⟨some 86, _, _, _, _, _⟩) (v := ?_) rfl (by kernel_rfl) (by kernel_rfl) (by kernel_rfl) (fun _ _ _ h => h) (Or.inl ⟨by kernel_rfl, ?_⟩) (by assumption) ?_
      rotate_left
      · (intro w hSw; (try dsimp only at hSw); go_simp; try with_reducible rfl)
      (repeat (first | simp only [Act.put] | simp only [List.setIfInBounds_toArray] | simp only [List.set_cons_succ] | simp only [List.set_cons_zero]))
      refine wpAnyH_done (by kernel_rfl) ?_ _
      clear HX3 HF3
      go_wp2_with fail
      exact ⟨⟨k + 1, rfl, Hk.out, hHeld.2⟩, less_left Hk.out⟩
    · obtain rfl : k = 2 := by have := hd.out.1; omega
      have hkI : ¬ ((2 : Nat) : Int) < 2 := by decide
      have HBe : Hid (Below w.heap.size w wr) := HC.out.1.trans (hb.mono HC.out.1.size)
      clear hb C2 C1 C0 hk hd
      go_wp2_with (first | ((with_reducible refine (HClo.out _).mono ?_); rintro e v1 ⟨rfl, rfl⟩) | ((with_reducible refine (HL.out _).mono ?_); rintro e v2 ⟨rfl, hb2⟩))
      go_ret
      exact ⟨rfl, HBe.out.trans (hb2.mono HBe.out.size)⟩
end Go.Proofs.Ytgbmgdffgmablaa
