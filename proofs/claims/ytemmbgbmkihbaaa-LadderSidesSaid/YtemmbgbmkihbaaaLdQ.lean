/- ladder: Add. (By mkldq.py.) -/
import Derived.Test.YtemmbgbmkihbaaaLdO
namespace Go.Proofs.Ytemmbgbmkihbaaa
open Go.RowKit Go.Shelf Go.Sort Go.Maps

/-- What Add tells, and leaves. -/
def AddIs (w w' : World) (p m : Nat) (s1 s2 s1' s2' : Sd) (o : Od) (c : Int) : Prop :=
  (c = 2 ∧ goodO o = false ∧ s1' = s1 ∧ s2' = s2 ∧ Below w.heap.size w w') ∨
  (goodO o = true ∧ c = 52 ∧ (∃ x ∈ bookL s1.rs s2.rs, x.id = o.id) ∧ s1' = s1 ∧ s2' = s2 ∧ Below w.heap.size w w') ∨
  (goodO o = true ∧ (∀ x ∈ bookL s1.rs s2.rs, ¬ x.id = o.id) ∧ ((c = 50 ∧ (bookL s1.rs s2.rs).length = 64 ∧ s1' = s1 ∧ s2' = s2 ∧ Below w.heap.size w w') ∨ (c = 0 ∧ (bookL s1.rs s2.rs).length < 64 ∧ PutIs w w' p m s1 s2 s1' s2' o)))
/-- What was put behind other calls. -/
theorem put_back {w W w' : World} {p m : Nat} {s1 s2 s1' s2' : Sd} {o : Od} (hb : Below w.heap.size w W) (h : PutIs W w' p m s1 s2 s1' s2' o) : PutIs w w' p m s1 s2 s1' s2' o :=
  ⟨h.wh, h.perm, (Fr.of_below hb : Fr (foot (some ⟨p, 0, none⟩) (some m) s1 s2) w W).t h.fr, fun k hk => (h.ft k hk).imp id (fun h' => Nat.le_trans hb.size h'), h.e2, h.e1⟩
set_option maxHeartbeats 4000000 in
set_option maxRecDepth 100000 in
theorem add_bad (p m : Nat) (s1 s2 : Sd) (o : Od) (w : World) (H : Whole w p m s1 s2) (ho : Od.ok w o) (hg : goodO o = false) :
    Calls Try.prog 17 #[.pointer (some ⟨p, 0, none⟩), .agg #[.int .u64 o.id, .int .i64 o.acc, .int .i64 o.side, .int .i64 o.price, .int .i64 o.qty, .int .u64 o.seq]] w fun e w' => ∃ c s1' s2', e = .returned (.int .i64 c) ∧ Hid (AddIs w w' p m s1 s2 s1' s2' o c) := by
  have hn := H.n1
  obtain ⟨w0, hw0⟩ : ∃ w0, w.alloc (.cells #[.int .u64 o.id, .int .i64 o.acc, .int .i64 o.side, .int .i64 o.price, .int .i64 o.qty, .int .u64 o.seq] 32) = w0 := ⟨_, rfl⟩
  have B0 : Below w.heap.size w w0 := by rw [← hw0]; exact (Below.refl _ _).alloc (Nat.le_refl _) _
  have hO0 : Cl 32 w0 w.heap.size (OC o) := by rw [← hw0]; exact hd_last rfl
  have HH := Lib.hid H
  have HO := Lib.hid ho
  have HN := Lib.hid hn
  have HM := Lib.hid (made_c (some ⟨p, 0, none⟩) (some m) s1 s2 w0 (H.below B0).bk)
  have HG : Hid (∀ W, Calls Try.prog 48 #[.agg #[.int .u64 o.id, .int .i64 o.acc, .int .i64 o.side, .int .i64 o.price, .int .i64 o.qty, .int .u64 o.seq]] W fun e w' => e = .returned (.bool (goodO o)) ∧ Gw W w') := fun W => good_c o W
  obtain ⟨x0, x1, x2, x3, x4, x5⟩ := six_of hO0
  obtain ⟨ob, hob⟩ : ∃ ob, w.heap.size = ob := ⟨_, rfl⟩
  rw [hob] at hO0 x0 x1 x2 x3 x4 x5
  have HB0 := Lib.hid B0
  rw [hg] at HG
  clear H ho hn B0
  go_enter Try.func17, Try.ntmps17
  go_wp2_with (first | ((with_reducible refine HM.out.mono ?_); rintro e w1' ⟨rfl, rfl⟩; clear HM) | ((with_reducible refine (HG.out _).mono ?_); rintro e w1 ⟨rfl, k1⟩; have hO1 : Cl 32 w1 ob (OC o) := hO0.gw k1; have HB1 : Hid (Below w.heap.size w w1) := HB0.out.trans (k1.b.mono HB0.out.size); obtain ⟨y0, y1, y2, y3, y4, y5⟩ := six_of hO1; clear x0 x1 x2 x3 x4 x5 HG HB0 k1 hO0))
  go_ret
  exact ⟨2, s1, s2, rfl, Lib.hid (.inl ⟨rfl, hg, rfl, rfl, HB1.out⟩)⟩
set_option maxHeartbeats 4000000 in
set_option maxRecDepth 100000 in
theorem add_there (p m : Nat) (s1 s2 : Sd) (o : Od) (w : World) (H : Whole w p m s1 s2) (ho : Od.ok w o) (hg : goodO o = true) (x : Od) (hx : x ∈ bookL s1.rs s2.rs) (hxi : x.id = o.id) :
    Calls Try.prog 17 #[.pointer (some ⟨p, 0, none⟩), .agg #[.int .u64 o.id, .int .i64 o.acc, .int .i64 o.side, .int .i64 o.price, .int .i64 o.qty, .int .u64 o.seq]] w fun e w' => ∃ c s1' s2', e = .returned (.int .i64 c) ∧ Hid (AddIs w w' p m s1 s2 s1' s2' o c) := by
  have hn := H.n1
  obtain ⟨w0, hw0⟩ : ∃ w0, w.alloc (.cells #[.int .u64 o.id, .int .i64 o.acc, .int .i64 o.side, .int .i64 o.price, .int .i64 o.qty, .int .u64 o.seq] 32) = w0 := ⟨_, rfl⟩
  have B0 : Below w.heap.size w w0 := by rw [← hw0]; exact (Below.refl _ _).alloc (Nat.le_refl _) _
  have hO0 : Cl 32 w0 w.heap.size (OC o) := by rw [← hw0]; exact hd_last rfl
  have HH := Lib.hid H
  have HO := Lib.hid ho
  have HN := Lib.hid hn
  have HM := Lib.hid (made_c (some ⟨p, 0, none⟩) (some m) s1 s2 w0 (H.below B0).bk)
  have HG : Hid (∀ W, Calls Try.prog 48 #[.agg #[.int .u64 o.id, .int .i64 o.acc, .int .i64 o.side, .int .i64 o.price, .int .i64 o.qty, .int .u64 o.seq]] W fun e w' => e = .returned (.bool (goodO o)) ∧ Gw W w') := fun W => good_c o W
  obtain ⟨x0, x1, x2, x3, x4, x5⟩ := six_of hO0
  obtain ⟨ob, hob⟩ : ∃ ob, w.heap.size = ob := ⟨_, rfl⟩
  rw [hob] at hO0 x0 x1 x2 x3 x4 x5
  have HB0 := Lib.hid B0
  rw [hg] at HG
  have HGet : Hid (∀ W, Below w.heap.size w W → Calls Try.prog 24 #[.pointer (some ⟨p, 0, none⟩), .int .u64 o.id] W fun e w' => ∃ r, e = .returned (.tuple #[optV r, .bool r.isSome]) ∧ Hid (GetIs o.id (bookL s1.rs s2.rs) r ∧ Below W.heap.size W w')) := fun W hW => lGet_c _ _ s1 s2 o.id W (HH.out.below hW).bk (by have := HN.out; omega) (by have := HN.out; omega) (by have := HN.out; omega)
  have HLen : Hid (∀ W, Below w.heap.size w W → Calls Try.prog 27 #[.pointer (some ⟨p, 0, none⟩)] W fun e w' => e = .returned (.int .i64 ((bookL s1.rs s2.rs).length : Nat)) ∧ Hid (Below W.heap.size W w')) := fun W hW => by
    have := lLen_c _ _ s1 s2 W (HH.out.below hW).bk (by have := HN.out; omega) (by have := HN.out; omega) (by have := HN.out; omega)
    rwa [lenQ_flat, flatR_app] at this
  clear H ho hn B0
  go_enter Try.func17, Try.ntmps17
  go_wp2_with (first | ((with_reducible refine HM.out.mono ?_); rintro e w1' ⟨rfl, rfl⟩; clear HM) | ((with_reducible refine (HG.out _).mono ?_); rintro e w1 ⟨rfl, k1⟩; have hO1 : Cl 32 w1 ob (OC o) := hO0.gw k1; have HB1 : Hid (Below w.heap.size w w1) := HB0.out.trans (k1.b.mono HB0.out.size); obtain ⟨y0, y1, y2, y3, y4, y5⟩ := six_of hO1; clear x0 x1 x2 x3 x4 x5 HG HB0 k1 hO0) | ((with_reducible refine (HGet.out _ HB1.out).mono ?_); rintro e w2 ⟨r, rfl, hr⟩; obtain ⟨y, rfl⟩ : ∃ y, r = some y := (by cases r with | none => exact absurd hxi (hr.out.1 x hx) | some y => exact ⟨y, rfl⟩); dsimp only [optV, Option.isSome]))
  go_ret
  exact ⟨52, s1, s2, rfl, Lib.hid (.inr (.inl ⟨hg, rfl, ⟨x, hx, hxi⟩, rfl, rfl, (HB1.out.trans (hr.out.2.mono HB1.out.size)).alloc (Nat.le_trans HB1.out.size hr.out.2.size) _⟩))⟩
set_option maxHeartbeats 4000000 in
set_option maxRecDepth 100000 in
theorem add_full (p m : Nat) (s1 s2 : Sd) (o : Od) (w : World) (H : Whole w p m s1 s2) (ho : Od.ok w o) (hg : goodO o = true) (hid : ∀ x ∈ bookL s1.rs s2.rs, ¬ x.id = o.id) (hl : (bookL s1.rs s2.rs).length = 64) :
    Calls Try.prog 17 #[.pointer (some ⟨p, 0, none⟩), .agg #[.int .u64 o.id, .int .i64 o.acc, .int .i64 o.side, .int .i64 o.price, .int .i64 o.qty, .int .u64 o.seq]] w fun e w' => ∃ c s1' s2', e = .returned (.int .i64 c) ∧ Hid (AddIs w w' p m s1 s2 s1' s2' o c) := by
  have hn := H.n1
  obtain ⟨w0, hw0⟩ : ∃ w0, w.alloc (.cells #[.int .u64 o.id, .int .i64 o.acc, .int .i64 o.side, .int .i64 o.price, .int .i64 o.qty, .int .u64 o.seq] 32) = w0 := ⟨_, rfl⟩
  have B0 : Below w.heap.size w w0 := by rw [← hw0]; exact (Below.refl _ _).alloc (Nat.le_refl _) _
  have hO0 : Cl 32 w0 w.heap.size (OC o) := by rw [← hw0]; exact hd_last rfl
  have HH := Lib.hid H
  have HO := Lib.hid ho
  have HN := Lib.hid hn
  have HM := Lib.hid (made_c (some ⟨p, 0, none⟩) (some m) s1 s2 w0 (H.below B0).bk)
  have HG : Hid (∀ W, Calls Try.prog 48 #[.agg #[.int .u64 o.id, .int .i64 o.acc, .int .i64 o.side, .int .i64 o.price, .int .i64 o.qty, .int .u64 o.seq]] W fun e w' => e = .returned (.bool (goodO o)) ∧ Gw W w') := fun W => good_c o W
  obtain ⟨x0, x1, x2, x3, x4, x5⟩ := six_of hO0
  obtain ⟨ob, hob⟩ : ∃ ob, w.heap.size = ob := ⟨_, rfl⟩
  rw [hob] at hO0 x0 x1 x2 x3 x4 x5
  have HB0 := Lib.hid B0
  rw [hg] at HG
  have HGet : Hid (∀ W, Below w.heap.size w W → Calls Try.prog 24 #[.pointer (some ⟨p, 0, none⟩), .int .u64 o.id] W fun e w' => ∃ r, e = .returned (.tuple #[optV r, .bool r.isSome]) ∧ Hid (GetIs o.id (bookL s1.rs s2.rs) r ∧ Below W.heap.size W w')) := fun W hW => lGet_c _ _ s1 s2 o.id W (HH.out.below hW).bk (by have := HN.out; omega) (by have := HN.out; omega) (by have := HN.out; omega)
  have HLen : Hid (∀ W, Below w.heap.size w W → Calls Try.prog 27 #[.pointer (some ⟨p, 0, none⟩)] W fun e w' => e = .returned (.int .i64 ((bookL s1.rs s2.rs).length : Nat)) ∧ Hid (Below W.heap.size W w')) := fun W hW => by
    have := lLen_c _ _ s1 s2 W (HH.out.below hW).bk (by have := HN.out; omega) (by have := HN.out; omega) (by have := HN.out; omega)
    rwa [lenQ_flat, flatR_app] at this
  rw [hl] at HLen
  clear H ho hn B0
  go_enter Try.func17, Try.ntmps17
  go_wp2_with (first | ((with_reducible refine HM.out.mono ?_); rintro e w1' ⟨rfl, rfl⟩; clear HM) | ((with_reducible refine (HG.out _).mono ?_); rintro e w1 ⟨rfl, k1⟩; have hO1 : Cl 32 w1 ob (OC o) := hO0.gw k1; have HB1 : Hid (Below w.heap.size w w1) := HB0.out.trans (k1.b.mono HB0.out.size); obtain ⟨y0, y1, y2, y3, y4, y5⟩ := six_of hO1; clear x0 x1 x2 x3 x4 x5 HG HB0 k1 hO0) | ((with_reducible refine (HGet.out _ HB1.out).mono ?_); rintro e w2 ⟨r, rfl, hr⟩; obtain rfl : r = none := (by cases r with | none => rfl | some y => exact absurd hr.out.1.2 (hid y hr.out.1.1)); dsimp only [optV, Option.isSome]; have HB2 : Hid (Below w.heap.size w (w2.alloc (.cells (OC ⟨0, 0, 0, 0, 0, 0⟩) 32))) := (HB1.out.trans (hr.out.2.mono HB1.out.size)).alloc (Nat.le_trans HB1.out.size hr.out.2.size) _; have hO2 : Cl 32 (w2.alloc (.cells (OC ⟨0, 0, 0, 0, 0, 0⟩) 32)) ob (OC o) := hd_prev (Nat.lt_of_lt_of_le (blk_lt hO1) hr.out.2.size) ((hr.out.2.block _ (blk_lt hO1)).trans hO1); clear HGet y0 y1 y2 y3 y4 y5 hO1 hr) | ((with_reducible refine (HLen.out _ HB2.out).mono ?_); rintro e w3 ⟨rfl, hb3⟩; have HB3 : Hid (Below w.heap.size w w3) := HB2.out.trans (hb3.out.mono HB2.out.size); have hO3 : Cl 32 w3 ob (OC o) := (hb3.out.block _ (blk_lt hO2)).trans hO2; obtain ⟨z0, z1, z2, z3, z4, z5⟩ := six_of hO3; clear HLen HB2 hO2 hb3))
  go_ret
  exact ⟨50, s1, s2, rfl, Lib.hid (.inr (.inr ⟨hg, hid, .inl ⟨rfl, hl, rfl, rfl, HB3.out⟩⟩))⟩
set_option maxHeartbeats 4000000 in
set_option maxRecDepth 100000 in
theorem add_put (p m : Nat) (s1 s2 : Sd) (o : Od) (w : World) (H : Whole w p m s1 s2) (ho : Od.ok w o) (hg : goodO o = true) (hid : ∀ x ∈ bookL s1.rs s2.rs, ¬ x.id = o.id) (hl : (bookL s1.rs s2.rs).length < 64) :
    Calls Try.prog 17 #[.pointer (some ⟨p, 0, none⟩), .agg #[.int .u64 o.id, .int .i64 o.acc, .int .i64 o.side, .int .i64 o.price, .int .i64 o.qty, .int .u64 o.seq]] w fun e w' => ∃ c s1' s2', e = .returned (.int .i64 c) ∧ Hid (AddIs w w' p m s1 s2 s1' s2' o c) := by
  have hn := H.n1
  obtain ⟨w0, hw0⟩ : ∃ w0, w.alloc (.cells #[.int .u64 o.id, .int .i64 o.acc, .int .i64 o.side, .int .i64 o.price, .int .i64 o.qty, .int .u64 o.seq] 32) = w0 := ⟨_, rfl⟩
  have B0 : Below w.heap.size w w0 := by rw [← hw0]; exact (Below.refl _ _).alloc (Nat.le_refl _) _
  have hO0 : Cl 32 w0 w.heap.size (OC o) := by rw [← hw0]; exact hd_last rfl
  have HH := Lib.hid H
  have HO := Lib.hid ho
  have HN := Lib.hid hn
  have HM := Lib.hid (made_c (some ⟨p, 0, none⟩) (some m) s1 s2 w0 (H.below B0).bk)
  have HG : Hid (∀ W, Calls Try.prog 48 #[.agg #[.int .u64 o.id, .int .i64 o.acc, .int .i64 o.side, .int .i64 o.price, .int .i64 o.qty, .int .u64 o.seq]] W fun e w' => e = .returned (.bool (goodO o)) ∧ Gw W w') := fun W => good_c o W
  obtain ⟨x0, x1, x2, x3, x4, x5⟩ := six_of hO0
  obtain ⟨ob, hob⟩ : ∃ ob, w.heap.size = ob := ⟨_, rfl⟩
  rw [hob] at hO0 x0 x1 x2 x3 x4 x5
  have HB0 := Lib.hid B0
  rw [hg] at HG
  have HGet : Hid (∀ W, Below w.heap.size w W → Calls Try.prog 24 #[.pointer (some ⟨p, 0, none⟩), .int .u64 o.id] W fun e w' => ∃ r, e = .returned (.tuple #[optV r, .bool r.isSome]) ∧ Hid (GetIs o.id (bookL s1.rs s2.rs) r ∧ Below W.heap.size W w')) := fun W hW => lGet_c _ _ s1 s2 o.id W (HH.out.below hW).bk (by have := HN.out; omega) (by have := HN.out; omega) (by have := HN.out; omega)
  have HLen : Hid (∀ W, Below w.heap.size w W → Calls Try.prog 27 #[.pointer (some ⟨p, 0, none⟩)] W fun e w' => e = .returned (.int .i64 ((bookL s1.rs s2.rs).length : Nat)) ∧ Hid (Below W.heap.size W w')) := fun W hW => by
    have := lLen_c _ _ s1 s2 W (HH.out.below hW).bk (by have := HN.out; omega) (by have := HN.out; omega) (by have := HN.out; omega)
    rwa [lenQ_flat, flatR_app] at this
  obtain ⟨nL, hnL⟩ : ∃ nL, (bookL s1.rs s2.rs).length = nL := ⟨_, rfl⟩
  rw [hnL] at HLen
  have hnI : ¬ ((nL : Int) = 64) := by omega
  have HPut : Hid (∀ W, Below w.heap.size w W → Calls Try.prog 47 #[.pointer (some ⟨p, 0, none⟩), .agg #[.int .u64 o.id, .int .i64 o.acc, .int .i64 o.side, .int .i64 o.price, .int .i64 o.qty, .int .u64 o.seq]] W fun e w' => e = .returned (.tuple #[]) ∧ ∃ s1' s2', Hid (PutIs W w' p m s1 s2 s1' s2' o)) := fun W hW => lPut_c p m s1 s2 o W (HH.out.below hW) ⟨HO.out, hg⟩ hid hl
  clear H ho hn B0
  go_enter Try.func17, Try.ntmps17
  go_wp2_with (first | ((with_reducible refine HM.out.mono ?_); rintro e w1' ⟨rfl, rfl⟩; clear HM) | ((with_reducible refine (HG.out _).mono ?_); rintro e w1 ⟨rfl, k1⟩; have hO1 : Cl 32 w1 ob (OC o) := hO0.gw k1; have HB1 : Hid (Below w.heap.size w w1) := HB0.out.trans (k1.b.mono HB0.out.size); obtain ⟨y0, y1, y2, y3, y4, y5⟩ := six_of hO1; clear x0 x1 x2 x3 x4 x5 HG HB0 k1 hO0) | ((with_reducible refine (HGet.out _ HB1.out).mono ?_); rintro e w2 ⟨r, rfl, hr⟩; obtain rfl : r = none := (by cases r with | none => rfl | some y => exact absurd hr.out.1.2 (hid y hr.out.1.1)); dsimp only [optV, Option.isSome]; have HB2 : Hid (Below w.heap.size w (w2.alloc (.cells (OC ⟨0, 0, 0, 0, 0, 0⟩) 32))) := (HB1.out.trans (hr.out.2.mono HB1.out.size)).alloc (Nat.le_trans HB1.out.size hr.out.2.size) _; have hO2 : Cl 32 (w2.alloc (.cells (OC ⟨0, 0, 0, 0, 0, 0⟩) 32)) ob (OC o) := hd_prev (Nat.lt_of_lt_of_le (blk_lt hO1) hr.out.2.size) ((hr.out.2.block _ (blk_lt hO1)).trans hO1); clear HGet y0 y1 y2 y3 y4 y5 hO1 hr) | ((with_reducible refine (HLen.out _ HB2.out).mono ?_); rintro e w3 ⟨rfl, hb3⟩; have HB3 : Hid (Below w.heap.size w w3) := HB2.out.trans (hb3.out.mono HB2.out.size); have hO3 : Cl 32 w3 ob (OC o) := (hb3.out.block _ (blk_lt hO2)).trans hO2; obtain ⟨z0, z1, z2, z3, z4, z5⟩ := six_of hO3; clear HLen HB2 hO2 hb3) | ((with_reducible refine (HPut.out _ HB3.out).mono ?_); rintro e w4 ⟨rfl, s1', s2', hp⟩; have HB3' := HB3; clear HPut HB3 z0 z1 z2 z3 z4 z5 hO3))
  go_ret
  exact ⟨0, s1', s2', rfl, Lib.hid (.inr (.inr ⟨hg, hid, .inr ⟨rfl, hl, put_back HB3'.out hp.out⟩⟩))⟩
theorem lAdd_c (p m : Nat) (s1 s2 : Sd) (o : Od) (w : World) (H : Whole w p m s1 s2) (ho : Od.ok w o) :
    Calls Try.prog 17 #[.pointer (some ⟨p, 0, none⟩), .agg #[.int .u64 o.id, .int .i64 o.acc, .int .i64 o.side, .int .i64 o.price, .int .i64 o.qty, .int .u64 o.seq]] w fun e w' => ∃ c s1' s2', e = .returned (.int .i64 c) ∧ Hid (AddIs w w' p m s1 s2 s1' s2' o c) := by
  cases hg : goodO o with
  | false => exact add_bad p m s1 s2 o w H ho hg
  | true =>
    by_cases hx : ∃ x ∈ bookL s1.rs s2.rs, x.id = o.id
    · obtain ⟨x, h1, h2⟩ := hx
      exact add_there p m s1 s2 o w H ho hg x h1 h2
    · have hid : ∀ x ∈ bookL s1.rs s2.rs, ¬ x.id = o.id := fun x h1 h2 => hx ⟨x, h1, h2⟩
      by_cases hl : (bookL s1.rs s2.rs).length = 64
      · exact add_full p m s1 s2 o w H ho hg hid hl
      · exact add_put p m s1 s2 o w H ho hg hid (by have := H.len; omega)
end Go.Proofs.Ytemmbgbmkihbaaa
