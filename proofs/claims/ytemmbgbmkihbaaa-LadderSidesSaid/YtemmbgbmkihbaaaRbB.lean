/- The reference's Add. (By mkrb.py.) -/
import Derived.Test.YtemmbgbmkihbaaaRbA
import Derived.Maps.AppendAt
namespace Go.Proofs.Ytemmbgbmkihbaaa
open Go.RowKit Go.Sort Go.Lib Go.Shelf

theorem step_append {P : Program} {ops : Array Oper} {o : Oper} {a : Act} {w : World} {K : Act → World → Prop} {Q : Exit → Act → World → Prop} {E : Prop}
    (hg : o.guard = none) (s x : Operand) (t : TypeId) (hop : o.op = Op.call { callee := Callee.builtin Builtin.append, args := #[s, x], argTypes := #[t, t] })
    (v u : Value) (hs : a.eval s = v) (hx : a.eval x = u) {v' : Value} {w' : World} (hr : (Builtin.append_ #[t, t] o.type #[v, u]).run P w = .ok v' w') (hK : K (a.put o.dst v') w') :
    if Region.wanted o (yielded ops a.tmps) = true then Oper.wp P o a w K Q else E := by
  have hw : Region.wanted o (yielded ops a.tmps) = true := by simp [Region.wanted, hg]
  rw [if_pos hw]
  unfold Oper.wp
  simp [execOp, hop, resolve, invoke, builtin, hs, hx, hr, Result.andThen]
  exact hK
/-- append of a row of the reference's orders, nil or not. -/
theorem run_app (W : World) (base : Nat) (ty : TypeId) (v : Value) (n : Nat) (xs : List Value) (hown : W.ownsRow base 37 6 v n xs) (A : Option Addr) (m c : Nat) (L : List Od) (hs : W.ownsRow 0 37 6 (.slice A m c) m (ol L)) (hb : n + m ≤ 3000) (hbase : base ≤ W.heap.size) :
    ∃ v' w', (Builtin.append_ #[27, 27] ty #[v, .slice A m c]).run Try.prog W = .ok v' w' ∧ w'.ownsRow base 37 6 v' (n + m) (xs ++ ol L) ∧ W.grownBy w' v.ownBlock ∧ (v'.ownBlock = v.ownBlock ∨ v'.ownBlock = some W.heap.size) := by
  obtain ⟨i0, hi0, hz0, hz1, hz2⟩ := info_parts info_ro
  rcases hs.2 with ⟨hv, h0⟩ | ⟨k, cap, cur, hv, _, hk, _, _, _, ht⟩
  · have hL : L = [] := by have := hs.1; rw [ol_len, h0] at this; exact List.length_eq_zero_iff.1 (by omega)
    rw [hv, h0, hL]
    have hrun := run_append_owned_none (P := Try.prog) (w := W) base 27 ty _ i0 6 Try.underlying27 hi0 v n xs hown
    exact ⟨v, W, hrun, by simpa [ol] using hown, World.grownBy.refl _ _, .inl rfl⟩
  · injection hv with e1 e2 e3
    subst e1
    obtain ⟨v', w', h1, h2, h3, _, h5⟩ := run_append_own_at (P := Try.prog) W base 27 ty _ i0 (.agg (OC ⟨0, 0, 0, 0, 0, 0⟩)) 6 48 Try.underlying27 hi0 hz0 hz1 hz2 rfl (by decide) v n xs hown ⟨k, 0, none⟩ m c (ol L) hs.1 (fun j u hj => by
      rw [addr_add, Nat.zero_add, cell_of_row _ _ _ _ _ _ hk]
      rw [← ht, List.getElem?_take] at hj
      split at hj
      · rw [Array.getElem?_toList] at hj; exact hj
      · cases hj) (ol_one _) (by unfold maxLen; omega) (by omega) hbase
    exact ⟨v', w', h1, h2, h3, h5⟩
theorem own_one {W : World} {vb : Nat} {o : Od} (h : Cl 37 W vb (OC o)) : W.ownsRow 0 37 6 (.slice (some ⟨vb, 0, none⟩) 1 1) 1 (ol [o]) :=
  ⟨rfl, .inr ⟨vb, 1, OC o, rfl, Nat.zero_le _, h, Nat.le_refl _, by unfold maxLen; omega, rfl, rfl⟩⟩
theorem below_own {w W w' : World} {T : TypeId} {v : Value} {n size : Nat} {xs : List Value} (hb : Below w.heap.size w W) (ho : W.ownsRow w.heap.size T size v n xs) (hg : W.grownBy w' v.ownBlock) : Below w.heap.size w w' :=
  hb.trans (Below.grown ((Below.refl _ _).mono hb.size) hg hb.size (fun k hk => (ho.lt k hk).1))
theorem own_low {w W : World} {base n size : Nat} {T : TypeId} {v : Value} {xs : List Value} (h : w.ownsRow base T size v n xs) (hb : Below w.heap.size w W) : W.ownsRow base T size v n xs := own_fr h (S := fun _ => False) (Fr.of_below hb) (fun _ _ h => h)
/-- What the reference's Add tells, and leaves. -/
def RAdd (w w' : World) (wb : Nat) (M M' : List Od) (o : Od) (c : Int) : Prop :=
  RB w' wb M' ∧ Fr (fun k => k = wb) w w' ∧ ((goodO o = false ∧ c = 2 ∧ M' = M) ∨ (goodO o = true ∧ c = 52 ∧ (∃ x ∈ M, x.id = o.id) ∧ M' = M) ∨
    (goodO o = true ∧ (∀ x ∈ M, ¬ x.id = o.id) ∧ ((64 ≤ M.length ∧ c = 50 ∧ M' = M) ∨ (M.length < 64 ∧ c = 0 ∧ M' = sortO (M ++ [o])))))
theorem radd_end {w w1 y2 y3 : World} {wb c : Nat} {A A3 : Option Addr} {c3 : Nat} {M : List Od} {o : Od} (hc : Cl 29 y3 wb #[.slice A M.length c]) (hb : y3.ownsRow y2.heap.size 37 6 (.slice A3 (M.length + 1) c3) (M.length + 1) (ol (sortO (M ++ [o])))) (h1 : Below w.heap.size w w1) (hb3 : Below w1.heap.size w1 y3) :
    RB (y3.setCell ⟨wb, 0, none⟩ (.slice A3 (M.length + 1) c3)) wb (sortO (M ++ [o])) ∧ Fr (fun k => k = wb) w (y3.setCell ⟨wb, 0, none⟩ (.slice A3 (M.length + 1) c3)) := by
  have hl : (sortO (M ++ [o])).length = M.length + 1 := by rw [sortO_len, List.length_append]; rfl
  refine ⟨⟨A3, c3, ?_, ?_⟩, ?_⟩
  · rw [hl]; exact (heap_set hc).trans rfl
  · rw [hl]
    refine own_fr (own_base hb (Nat.zero_le _)) ((Fr.refl (fun k => k = wb) y3).set (p := ⟨wb, 0, none⟩) (.inl rfl) _) (fun k hk e => ?_)
    subst e
    exact own_ne hb hc (by decide) hk
  · exact ((Fr.of_below (h1.trans (hb3.mono h1.size)) : Fr (fun k => k = wb) w y3)).set (p := ⟨wb, 0, none⟩) (.inl rfl) _
set_option maxHeartbeats 4000000 in
set_option maxRecDepth 100000 in
theorem radd_bad (wb : Nat) (M : List Od) (o : Od) (w : World) (H : RB w wb M) (hn : M.length ≤ 1000) (hg : goodO o = false) :
    Calls Try.prog 18 #[.pointer (some ⟨wb, 0, none⟩), (.agg #[.int .u64 o.id, .int .i64 o.acc, .int .i64 o.side, .int .i64 o.price, .int .i64 o.qty, .int .u64 o.seq])] w fun e w' => ∃ c M', e = .returned (.int .i64 c) ∧ Hid (RAdd w w' wb M M' o c) := by
  have mixed : Try.prog.follows .mixedOrders = true := by kernel_rfl
  obtain ⟨A, c, hcl, hrw⟩ := H
  have HH : Hid (∀ W, Below w.heap.size w W → RB W wb M) := fun W hW => ⟨A, c, (hW.block _ (blk_lt hcl)).trans hcl, own_low hrw hW⟩
  have HN := Lib.hid hn
  have HC0 : Hid (∀ W, Below w.heap.size w W → W.cell? ⟨wb, 0, none⟩ = some (.slice A M.length c)) := fun W hW => (Cl.c (T := 29) ((hW.block _ (blk_lt hcl)).trans hcl) 0).trans rfl
  have HB0 : Hid (∀ W, Below w.heap.size w W → Cl 29 W wb #[.slice A M.length c]) := fun W hW => (hW.block _ (blk_lt hcl)).trans hcl
  have HR0 : Hid (∀ W, Below w.heap.size w W → W.ownsRow 0 37 6 (.slice A M.length c) M.length (ol M)) := fun W hW => own_low hrw hW
  have hwb := blk_lt hcl
  obtain ⟨w0, hw0⟩ : ∃ w0, w.alloc (.cells #[.int .u64 o.id, .int .i64 o.acc, .int .i64 o.side, .int .i64 o.price, .int .i64 o.qty, .int .u64 o.seq] 37) = w0 := ⟨_, rfl⟩
  have B0 : Below w.heap.size w w0 := by rw [← hw0]; exact (Below.refl _ _).alloc (Nat.le_refl _) _
  have hO0 : Cl 37 w0 w.heap.size (OC o) := by rw [← hw0]; exact hd_last rfl
  have HG : Hid (∀ W, Calls Try.prog 49 #[(.agg #[.int .u64 o.id, .int .i64 o.acc, .int .i64 o.side, .int .i64 o.price, .int .i64 o.qty, .int .u64 o.seq])] W fun e w' => e = .returned (.bool (goodO o)) ∧ Gw W w') := fun W => rGood_c o W
  have HAt : Hid (∀ W, Below w.heap.size w W → Calls Try.prog 45 #[.pointer (some ⟨wb, 0, none⟩), .int .u64 o.id] W fun e w' => e = .returned (.int .i64 (atI o.id M)) ∧ w' = W) := fun W hW => rAt_c wb o.id M W (HH.out W hW) hn
  obtain ⟨x0, x1, x2, x3, x4, x5⟩ := six_of hO0
  obtain ⟨ob, hob⟩ : ∃ ob, w.heap.size = ob := ⟨_, rfl⟩
  rw [hob] at hO0 x0 x1 x2 x3 x4 x5 hwb
  have HOB := Lib.hid (And.intro hob hwb)
  have HB0' := Lib.hid B0
  rw [hg] at HG
  clear hcl hrw hwb B0
  go_enter Try.func18, Try.ntmps18
  go_wp2_with (first | ((with_reducible refine (HG.out _).mono ?_); rintro e w1 ⟨rfl, k1⟩; have hO1 : Cl 37 w1 ob (OC o) := hO0.gw k1; have HB1 : Hid (Below w.heap.size w w1) := HB0'.out.trans (k1.b.mono HB0'.out.size); obtain ⟨y0, y1, y2, y3, y4, y5⟩ := six_of hO1; clear x0 x1 x2 x3 x4 x5 HG HB0' k1 hO0))
  go_ret
  exact ⟨2, M, rfl, Lib.hid ⟨HH.out _ HB1.out, Fr.of_below HB1.out, .inl ⟨hg, rfl, rfl⟩⟩⟩
set_option maxHeartbeats 4000000 in
set_option maxRecDepth 100000 in
theorem radd_there (wb : Nat) (M : List Od) (o : Od) (w : World) (H : RB w wb M) (hn : M.length ≤ 1000) (hg : goodO o = true) (x : Od) (hx : x ∈ M) (hxi : x.id = o.id) :
    Calls Try.prog 18 #[.pointer (some ⟨wb, 0, none⟩), (.agg #[.int .u64 o.id, .int .i64 o.acc, .int .i64 o.side, .int .i64 o.price, .int .i64 o.qty, .int .u64 o.seq])] w fun e w' => ∃ c M', e = .returned (.int .i64 c) ∧ Hid (RAdd w w' wb M M' o c) := by
  have mixed : Try.prog.follows .mixedOrders = true := by kernel_rfl
  obtain ⟨A, c, hcl, hrw⟩ := H
  have HH : Hid (∀ W, Below w.heap.size w W → RB W wb M) := fun W hW => ⟨A, c, (hW.block _ (blk_lt hcl)).trans hcl, own_low hrw hW⟩
  have HN := Lib.hid hn
  have HC0 : Hid (∀ W, Below w.heap.size w W → W.cell? ⟨wb, 0, none⟩ = some (.slice A M.length c)) := fun W hW => (Cl.c (T := 29) ((hW.block _ (blk_lt hcl)).trans hcl) 0).trans rfl
  have HB0 : Hid (∀ W, Below w.heap.size w W → Cl 29 W wb #[.slice A M.length c]) := fun W hW => (hW.block _ (blk_lt hcl)).trans hcl
  have HR0 : Hid (∀ W, Below w.heap.size w W → W.ownsRow 0 37 6 (.slice A M.length c) M.length (ol M)) := fun W hW => own_low hrw hW
  have hwb := blk_lt hcl
  obtain ⟨w0, hw0⟩ : ∃ w0, w.alloc (.cells #[.int .u64 o.id, .int .i64 o.acc, .int .i64 o.side, .int .i64 o.price, .int .i64 o.qty, .int .u64 o.seq] 37) = w0 := ⟨_, rfl⟩
  have B0 : Below w.heap.size w w0 := by rw [← hw0]; exact (Below.refl _ _).alloc (Nat.le_refl _) _
  have hO0 : Cl 37 w0 w.heap.size (OC o) := by rw [← hw0]; exact hd_last rfl
  have HG : Hid (∀ W, Calls Try.prog 49 #[(.agg #[.int .u64 o.id, .int .i64 o.acc, .int .i64 o.side, .int .i64 o.price, .int .i64 o.qty, .int .u64 o.seq])] W fun e w' => e = .returned (.bool (goodO o)) ∧ Gw W w') := fun W => rGood_c o W
  have HAt : Hid (∀ W, Below w.heap.size w W → Calls Try.prog 45 #[.pointer (some ⟨wb, 0, none⟩), .int .u64 o.id] W fun e w' => e = .returned (.int .i64 (atI o.id M)) ∧ w' = W) := fun W hW => rAt_c wb o.id M W (HH.out W hW) hn
  obtain ⟨x0, x1, x2, x3, x4, x5⟩ := six_of hO0
  obtain ⟨ob, hob⟩ : ∃ ob, w.heap.size = ob := ⟨_, rfl⟩
  rw [hob] at hO0 x0 x1 x2 x3 x4 x5 hwb
  have HOB := Lib.hid (And.intro hob hwb)
  have HB0' := Lib.hid B0
  rw [hg] at HG
  have hi := idx_some hx hxi
  have ha : atI o.id M = ((idxN o.id M : Nat) : Int) := by unfold atI; rw [if_pos hi]
  rw [ha] at HAt
  obtain ⟨i, hi'⟩ : ∃ i, idxN o.id M = i := ⟨_, rfl⟩
  rw [hi'] at HAt
  clear hi ha hi'
  clear hcl hrw hwb B0
  go_enter Try.func18, Try.ntmps18
  go_wp2_with (first | ((with_reducible refine (HG.out _).mono ?_); rintro e w1 ⟨rfl, k1⟩; have hO1 : Cl 37 w1 ob (OC o) := hO0.gw k1; have HB1 : Hid (Below w.heap.size w w1) := HB0'.out.trans (k1.b.mono HB0'.out.size); obtain ⟨y0, y1, y2, y3, y4, y5⟩ := six_of hO1; clear x0 x1 x2 x3 x4 x5 HG HB0' k1 hO0) | ((with_reducible refine (HAt.out _ HB1.out).mono ?_); rintro e w2 ⟨rfl, hw2⟩; have hw3 := hw2.symm; subst hw3; clear HAt))
  go_ret
  exact ⟨52, M, rfl, Lib.hid ⟨HH.out _ HB1.out, Fr.of_below HB1.out, .inr (.inl ⟨hg, rfl, ⟨x, hx, hxi⟩, rfl⟩)⟩⟩
set_option maxHeartbeats 4000000 in
set_option maxRecDepth 100000 in
theorem radd_full (wb : Nat) (M : List Od) (o : Od) (w : World) (H : RB w wb M) (hn : M.length ≤ 1000) (hg : goodO o = true) (hid : ∀ x ∈ M, ¬ x.id = o.id) (hl : 64 ≤ M.length) :
    Calls Try.prog 18 #[.pointer (some ⟨wb, 0, none⟩), (.agg #[.int .u64 o.id, .int .i64 o.acc, .int .i64 o.side, .int .i64 o.price, .int .i64 o.qty, .int .u64 o.seq])] w fun e w' => ∃ c M', e = .returned (.int .i64 c) ∧ Hid (RAdd w w' wb M M' o c) := by
  have mixed : Try.prog.follows .mixedOrders = true := by kernel_rfl
  obtain ⟨A, c, hcl, hrw⟩ := H
  have HH : Hid (∀ W, Below w.heap.size w W → RB W wb M) := fun W hW => ⟨A, c, (hW.block _ (blk_lt hcl)).trans hcl, own_low hrw hW⟩
  have HN := Lib.hid hn
  have HC0 : Hid (∀ W, Below w.heap.size w W → W.cell? ⟨wb, 0, none⟩ = some (.slice A M.length c)) := fun W hW => (Cl.c (T := 29) ((hW.block _ (blk_lt hcl)).trans hcl) 0).trans rfl
  have HB0 : Hid (∀ W, Below w.heap.size w W → Cl 29 W wb #[.slice A M.length c]) := fun W hW => (hW.block _ (blk_lt hcl)).trans hcl
  have HR0 : Hid (∀ W, Below w.heap.size w W → W.ownsRow 0 37 6 (.slice A M.length c) M.length (ol M)) := fun W hW => own_low hrw hW
  have hwb := blk_lt hcl
  obtain ⟨w0, hw0⟩ : ∃ w0, w.alloc (.cells #[.int .u64 o.id, .int .i64 o.acc, .int .i64 o.side, .int .i64 o.price, .int .i64 o.qty, .int .u64 o.seq] 37) = w0 := ⟨_, rfl⟩
  have B0 : Below w.heap.size w w0 := by rw [← hw0]; exact (Below.refl _ _).alloc (Nat.le_refl _) _
  have hO0 : Cl 37 w0 w.heap.size (OC o) := by rw [← hw0]; exact hd_last rfl
  have HG : Hid (∀ W, Calls Try.prog 49 #[(.agg #[.int .u64 o.id, .int .i64 o.acc, .int .i64 o.side, .int .i64 o.price, .int .i64 o.qty, .int .u64 o.seq])] W fun e w' => e = .returned (.bool (goodO o)) ∧ Gw W w') := fun W => rGood_c o W
  have HAt : Hid (∀ W, Below w.heap.size w W → Calls Try.prog 45 #[.pointer (some ⟨wb, 0, none⟩), .int .u64 o.id] W fun e w' => e = .returned (.int .i64 (atI o.id M)) ∧ w' = W) := fun W hW => rAt_c wb o.id M W (HH.out W hW) hn
  obtain ⟨x0, x1, x2, x3, x4, x5⟩ := six_of hO0
  obtain ⟨ob, hob⟩ : ∃ ob, w.heap.size = ob := ⟨_, rfl⟩
  rw [hob] at hO0 x0 x1 x2 x3 x4 x5 hwb
  have HOB := Lib.hid (And.intro hob hwb)
  have HB0' := Lib.hid B0
  rw [hg] at HG
  have ha : atI o.id M = -1 := by unfold atI; rw [idx_none hid, if_neg (Nat.lt_irrefl _)]
  rw [ha] at HAt
  clear ha
  have hlI : (64 : Int) ≤ (M.length : Int) := by omega
  clear hcl hrw hwb B0
  go_enter Try.func18, Try.ntmps18
  go_wp2_with (first | ((with_reducible refine (HG.out _).mono ?_); rintro e w1 ⟨rfl, k1⟩; have hO1 : Cl 37 w1 ob (OC o) := hO0.gw k1; have HB1 : Hid (Below w.heap.size w w1) := HB0'.out.trans (k1.b.mono HB0'.out.size); obtain ⟨y0, y1, y2, y3, y4, y5⟩ := six_of hO1; clear x0 x1 x2 x3 x4 x5 HG HB0' k1 hO0) | ((with_reducible refine (HAt.out _ HB1.out).mono ?_); rintro e w2 ⟨rfl, hw2⟩; have hw3 := hw2.symm; subst hw3; have zc := HC0.out _ HB1.out; clear HAt))
  go_ret
  exact ⟨50, M, rfl, Lib.hid ⟨HH.out _ HB1.out, Fr.of_below HB1.out, .inr (.inr ⟨hg, hid, .inl ⟨hl, rfl, rfl⟩⟩)⟩⟩
set_option maxHeartbeats 4000000 in
set_option maxRecDepth 100000 in
theorem radd_put (wb : Nat) (M : List Od) (o : Od) (w : World) (H : RB w wb M) (hn : M.length ≤ 1000) (hok : ∀ x ∈ M, Od.ok w x) (ho : Od.ok w o) (hg : goodO o = true) (hid : ∀ x ∈ M, ¬ x.id = o.id) (hl : M.length < 64) :
    Calls Try.prog 18 #[.pointer (some ⟨wb, 0, none⟩), (.agg #[.int .u64 o.id, .int .i64 o.acc, .int .i64 o.side, .int .i64 o.price, .int .i64 o.qty, .int .u64 o.seq])] w fun e w' => ∃ c M', e = .returned (.int .i64 c) ∧ Hid (RAdd w w' wb M M' o c) := by
  have mixed : Try.prog.follows .mixedOrders = true := by kernel_rfl
  obtain ⟨A, c, hcl, hrw⟩ := H
  have HH : Hid (∀ W, Below w.heap.size w W → RB W wb M) := fun W hW => ⟨A, c, (hW.block _ (blk_lt hcl)).trans hcl, own_low hrw hW⟩
  have HN := Lib.hid hn
  have HC0 : Hid (∀ W, Below w.heap.size w W → W.cell? ⟨wb, 0, none⟩ = some (.slice A M.length c)) := fun W hW => (Cl.c (T := 29) ((hW.block _ (blk_lt hcl)).trans hcl) 0).trans rfl
  have HB0 : Hid (∀ W, Below w.heap.size w W → Cl 29 W wb #[.slice A M.length c]) := fun W hW => (hW.block _ (blk_lt hcl)).trans hcl
  have HR0 : Hid (∀ W, Below w.heap.size w W → W.ownsRow 0 37 6 (.slice A M.length c) M.length (ol M)) := fun W hW => own_low hrw hW
  have hwb := blk_lt hcl
  obtain ⟨w0, hw0⟩ : ∃ w0, w.alloc (.cells #[.int .u64 o.id, .int .i64 o.acc, .int .i64 o.side, .int .i64 o.price, .int .i64 o.qty, .int .u64 o.seq] 37) = w0 := ⟨_, rfl⟩
  have B0 : Below w.heap.size w w0 := by rw [← hw0]; exact (Below.refl _ _).alloc (Nat.le_refl _) _
  have hO0 : Cl 37 w0 w.heap.size (OC o) := by rw [← hw0]; exact hd_last rfl
  have HG : Hid (∀ W, Calls Try.prog 49 #[(.agg #[.int .u64 o.id, .int .i64 o.acc, .int .i64 o.side, .int .i64 o.price, .int .i64 o.qty, .int .u64 o.seq])] W fun e w' => e = .returned (.bool (goodO o)) ∧ Gw W w') := fun W => rGood_c o W
  have HAt : Hid (∀ W, Below w.heap.size w W → Calls Try.prog 45 #[.pointer (some ⟨wb, 0, none⟩), .int .u64 o.id] W fun e w' => e = .returned (.int .i64 (atI o.id M)) ∧ w' = W) := fun W hW => rAt_c wb o.id M W (HH.out W hW) hn
  obtain ⟨x0, x1, x2, x3, x4, x5⟩ := six_of hO0
  obtain ⟨ob, hob⟩ : ∃ ob, w.heap.size = ob := ⟨_, rfl⟩
  rw [hob] at hO0 x0 x1 x2 x3 x4 x5 hwb
  have HOB := Lib.hid (And.intro hob hwb)
  have HB0' := Lib.hid B0
  rw [hg] at HG
  have ha : atI o.id M = -1 := by unfold atI; rw [idx_none hid, if_neg (Nat.lt_irrefl _)]
  rw [ha] at HAt
  clear ha
  have hlI : ¬ (64 : Int) ≤ (M.length : Int) := by omega
  have hlJ : (M.length : Int) < 64 := by omega
  clear hcl hrw hwb B0
  go_enter Try.func18, Try.ntmps18
  go_wp2_with (first | ((with_reducible refine (HG.out _).mono ?_); rintro e w1 ⟨rfl, k1⟩; have hO1 : Cl 37 w1 ob (OC o) := hO0.gw k1; have HB1 : Hid (Below w.heap.size w w1) := HB0'.out.trans (k1.b.mono HB0'.out.size); obtain ⟨y0, y1, y2, y3, y4, y5⟩ := six_of hO1; clear x0 x1 x2 x3 x4 x5 HG HB0' k1 hO0) | ((with_reducible refine (HAt.out _ HB1.out).mono ?_); rintro e w2 ⟨rfl, hw2⟩; have hw3 := hw2.symm; subst hw3; have zc := HC0.out _ HB1.out; clear HAt))
  have hO1' : ob < w1.heap.size := blk_lt hO1
  have HCo : Hid (∀ W, Fr (fun k => k = wb) w1 W → Cl 37 W ob (OC o)) := fun W hW => hW.blk hO1 (fun e => by have := HOB.out.2; omega)
  have HCc : Hid (∀ W, Below w1.heap.size w1 W → W.cell? ⟨wb, 0, none⟩ = some (.slice A M.length c)) := fun W hW => HC0.out W (HB1.out.trans (hW.mono HB1.out.size))
  have HCb : Hid (∀ W, Below w1.heap.size w1 W → Cl 29 W wb #[.slice A M.length c]) := fun W hW => HB0.out W (HB1.out.trans (hW.mono HB1.out.size))
  have HRw : Hid (∀ W, Below w1.heap.size w1 W → W.ownsRow 0 37 6 (.slice A M.length c) M.length (ol M)) := fun W hW => HR0.out W (HB1.out.trans (hW.mono HB1.out.size))
  have HS : Hid (∀ A2 c2 W, W.ownsRow w1.heap.size 37 6 (.slice A2 (M.length + 1) c2) (M.length + 1) (ol (M ++ [o])) → Calls Try.prog 29 #[.slice A2 (M.length + 1) c2] W fun e w' => ∃ A c, e = .returned (.slice A (M.length + 1) c) ∧ Hid (Below W.heap.size W w' ∧ w'.ownsRow W.heap.size 37 6 (.slice A (M.length + 1) c) (M.length + 1) (ol (sortO (M ++ [o]))))) := fun A2 c2 W hW => by
    have hl1 : (M ++ [o]).length = M.length + 1 := by rw [List.length_append]; rfl
    obtain ⟨A4, c4, hv, _, hod⟩ := own_ods hW (by omega) (fun x hx => by
      rcases List.mem_append.1 hx with h | h
      · exact hok x h
      · rw [List.mem_singleton.1 h]; exact ho)
    injection hv with e1 e2 e3
    subst e1
    have := rSortedO_c A2 (M.length + 1) c2 (M ++ [o]) W hod (by omega)
    rwa [hl1] at this
  clear y0 y1 y2 y3 y4 y5 zc HC0 HB0 HR0 hO1
  have hb0 : Below w1.heap.size w1 w1.drew := (Below.refl _ _).drew
  refine wp_region_held_drew (S := fun W => Fr (fun k => k = wb) w1 W) (by kernel_rfl) (Fr.of_below hb0) (fun hHeld => ?_)
  generalize w1.drew = wd at hb0 hHeld ⊢
  refine wpAnyH_take (i := 0) (oi := ⟨some 19, _, _, _, _, _⟩) (v := ?_) rfl (by kernel_rfl) (by kernel_rfl) (by kernel_rfl) (fun _ _ _ h => h) (Or.inl ⟨by kernel_rfl, ?_⟩) (by assumption) ?_
  rotate_left
  · (intro w hSw; obtain ⟨hs0, hs1, hs2, hs3, hs4, hs5⟩ := six_of (HCo.out _ hSw); clear hSw; go_simp; try with_reducible rfl)
  (repeat (first | simp only [Act.put] | simp only [List.setIfInBounds_toArray] | simp only [List.set_cons_succ] | simp only [List.set_cons_zero]))
  refine wpAnyH_take (i := 2) (oi := ⟨some 21, _, _, _, _, _⟩) (v := ?_) rfl (by kernel_rfl) (by kernel_rfl) (by kernel_rfl) (fun _ _ _ h => h) (Or.inl ⟨by kernel_rfl, ?_⟩) (by assumption) ?_
  rotate_left
  · (intro w hSw; obtain ⟨hs0, hs1, hs2, hs3, hs4, hs5⟩ := six_of (HCo.out _ hSw); clear hSw; go_simp; try with_reducible rfl)
  (repeat (first | simp only [Act.put] | simp only [List.setIfInBounds_toArray] | simp only [List.set_cons_succ] | simp only [List.set_cons_zero]))
  refine wpAnyH_take (i := 3) (oi := ⟨some 22, _, _, _, _, _⟩) (v := ?_) rfl (by kernel_rfl) (by kernel_rfl) (by kernel_rfl) (fun _ _ _ h => h) (Or.inl ⟨by kernel_rfl, ?_⟩) (by assumption) ?_
  rotate_left
  · (intro w hSw; obtain ⟨hs0, hs1, hs2, hs3, hs4, hs5⟩ := six_of (HCo.out _ hSw); clear hSw; go_simp; try with_reducible rfl)
  (repeat (first | simp only [Act.put] | simp only [List.setIfInBounds_toArray] | simp only [List.set_cons_succ] | simp only [List.set_cons_zero]))
  refine wpAnyH_take (i := 4) (oi := ⟨some 23, _, _, _, _, _⟩) (v := ?_) rfl (by kernel_rfl) (by kernel_rfl) (by kernel_rfl) (fun _ _ _ h => h) (Or.inl ⟨by kernel_rfl, ?_⟩) (by assumption) ?_
  rotate_left
  · (intro w hSw; obtain ⟨hs0, hs1, hs2, hs3, hs4, hs5⟩ := six_of (HCo.out _ hSw); clear hSw; go_simp; try with_reducible rfl)
  (repeat (first | simp only [Act.put] | simp only [List.setIfInBounds_toArray] | simp only [List.set_cons_succ] | simp only [List.set_cons_zero]))
  refine wpAnyH_take (i := 7) (oi := ⟨some 26, _, _, _, _, _⟩) (v := ?_) rfl (by kernel_rfl) (by kernel_rfl) (by kernel_rfl) (fun _ _ _ h => h) (Or.inl ⟨by kernel_rfl, ?_⟩) (by assumption) ?_
  rotate_left
  · (intro w hSw; obtain ⟨hs0, hs1, hs2, hs3, hs4, hs5⟩ := six_of (HCo.out _ hSw); clear hSw; go_simp; try with_reducible rfl)
  (repeat (first | simp only [Act.put] | simp only [List.setIfInBounds_toArray] | simp only [List.set_cons_succ] | simp only [List.set_cons_zero]))
  refine wpAnyH_ready (rs := [1, 5, 8]) (by kernel_rfl) (by simp) ?_
  refine AllReadyH.cons (o := ⟨some 20, _, _, _, _, _⟩) rfl (fun K hK => ?_) (AllReadyH.cons (o := ⟨some 24, _, _, _, _, _⟩) rfl (fun K hK => ?_) (AllReadyH.cons (o := ⟨some 27, _, _, _, _, _⟩) rfl (fun K hK => ?_) AllReadyH.nil))
  · go_simp
    (try go_wp2_with fail)
    have hb1 : Below w1.heap.size w1 (wd.alloc (.cells #[] 37)) := (hb0).alloc (Below.size hb0) _
    have hE : (wd.alloc (.cells #[] 37)).ownsRow w1.heap.size 37 6 (.slice (some ⟨wd.heap.size, 0, none⟩) 0 0) 0 (ol []) := ⟨rfl, .inr ⟨wd.heap.size, 0, #[], rfl, (by have := Below.size hb0; omega), hd_last (by simp), Nat.le_refl _, Nat.zero_le _, rfl, rfl⟩⟩
    refine hK.out _ _ (by exact Fr.of_below hb1) (fun hHeld => ?_)
    clear hK K
    (repeat (first | simp only [Act.put] | simp only [List.setIfInBounds_toArray] | simp only [List.set_cons_succ] | simp only [List.set_cons_zero]))
    refine wpAnyH_ready (rs := [5, 8]) (by kernel_rfl) (by simp) ?_
    refine AllReadyH.cons (o := ⟨some 24, _, _, _, _, _⟩) rfl (fun K hK => ?_) (AllReadyH.cons (o := ⟨some 27, _, _, _, _, _⟩) rfl (fun K hK => ?_) AllReadyH.nil)
    · have zc := HCc.out _ hb1
      go_simp
      (try go_wp2_with fail)
      clear zc
      have hb2 := hb1
      refine hK.out _ _ (by exact Fr.of_below hb2) (fun hHeld => ?_)
      clear hK K
      (repeat (first | simp only [Act.put] | simp only [List.setIfInBounds_toArray] | simp only [List.set_cons_succ] | simp only [List.set_cons_zero]))
      refine wpAnyH_ready (rs := [6, 8]) (by kernel_rfl) (by simp) ?_
      refine AllReadyH.cons (o := ⟨some 25, _, _, _, _, _⟩) rfl (fun K hK => ?_) (AllReadyH.cons (o := ⟨some 27, _, _, _, _, _⟩) rfl (fun K hK => ?_) AllReadyH.nil)
      · obtain ⟨v1, y1, hr1, hA, hg1, _⟩ := run_app (wd.alloc (.cells #[] 37)) w1.heap.size 27 _ 0 (ol []) hE _ _ _ _ (HRw.out _ hb2) (by have := HN.out; omega) (Below.size hb2)
        rw [Nat.zero_add, show ol [] ++ ol M = ol M from rfl] at hA
        refine step_append rfl _ _ 27 rfl (.slice (some ⟨wd.heap.size, 0, none⟩) 0 0) (.slice A M.length c) rfl rfl hr1 ?_
        have hb3 : Below w1.heap.size w1 y1 := below_own hb2 hE hg1
        refine hK.out _ _ (by exact Fr.of_below hb3) (fun hHeld => ?_)
        clear hK K
        (repeat (first | simp only [Act.put] | simp only [List.setIfInBounds_toArray] | simp only [List.set_cons_succ] | simp only [List.set_cons_zero]))
        refine wpAnyH_ready (rs := [8]) (by kernel_rfl) (by simp) ?_
        refine AllReadyH.cons (o := ⟨some 27, _, _, _, _, _⟩) rfl (fun K hK => ?_) AllReadyH.nil
        go_simp
        (try go_wp2_with fail)
        have hb4 : Below w1.heap.size w1 (y1.alloc (.cells (OC o) 37)) := (hb3).alloc (Below.size hb3) _
        have hV : Cl 37 (y1.alloc (.cells (OC o) 37)) (y1.heap.size) (OC o) := hd_last (by simp)
        replace hA := hA.alloc (.cells (OC o) 37)
        refine hK.out _ _ (by exact Fr.of_below hb4) (fun hHeld => ?_)
        clear hK K
        (repeat (first | simp only [Act.put] | simp only [List.setIfInBounds_toArray] | simp only [List.set_cons_succ] | simp only [List.set_cons_zero]))
        refine wpAnyH_ready (rs := [9]) (by kernel_rfl) (by simp) ?_
        refine AllReadyH.cons (o := ⟨some 28, _, _, _, _, _⟩) rfl (fun K hK => ?_) AllReadyH.nil
        obtain ⟨v2, y2, hr2, hA2, hg2, _⟩ := run_app (y1.alloc (.cells (OC o) 37)) w1.heap.size 27 v1 M.length (ol M) hA (some ⟨y1.heap.size, 0, none⟩) 1 1 [o] (own_one hV) (by have := HN.out; omega) (Below.size hb4)
        refine step_append rfl _ _ 27 rfl v1 (.slice (some ⟨y1.heap.size, 0, none⟩) 1 1) rfl rfl hr2 ?_
        have hbb : Below w1.heap.size w1 y2 := below_own hb4 hA hg2
        obtain ⟨A2, c2, rfl, _⟩ := own_que2 hA2
        rw [← ol_append] at hA2
        refine hK.out _ _ (by exact Fr.of_below hbb) (fun hHeld => ?_)
        clear hK K
        (repeat (first | simp only [Act.put] | simp only [List.setIfInBounds_toArray] | simp only [List.set_cons_succ] | simp only [List.set_cons_zero]))
        refine wpAnyH_ready (rs := [10]) (by kernel_rfl) (by simp) ?_
        refine AllReadyH.cons (o := ⟨some 29, _, _, _, _, _⟩) rfl (fun K hK => ?_) AllReadyH.nil
        go_simp
        refine (HS.out _ _ _ hA2).mono ?_
        rintro e y3 ⟨A3, c3, rfl, hb3⟩
        have hbc : Below w1.heap.size w1 y3 := hbb.trans (hb3.out.1.mono (Below.size hbb))
        refine hK.out _ _ (by exact Fr.of_below hbc) (fun hHeld => ?_)
        clear hK K
        (repeat (first | simp only [Act.put] | simp only [List.setIfInBounds_toArray] | simp only [List.set_cons_succ] | simp only [List.set_cons_zero]))
        refine wpAnyH_take (i := 11) (oi := ⟨some 30, _, _, _, _, _⟩) (v := ?_) rfl (by kernel_rfl) (by kernel_rfl) (by kernel_rfl) (fun _ _ _ h => h) (Or.inl ⟨by kernel_rfl, ?_⟩) (by assumption) ?_
        rotate_left
        · (intro w hSw; obtain ⟨hs0, hs1, hs2, hs3, hs4, hs5⟩ := six_of (HCo.out _ hSw); clear hSw; go_simp; try with_reducible rfl)
        (repeat (first | simp only [Act.put] | simp only [List.setIfInBounds_toArray] | simp only [List.set_cons_succ] | simp only [List.set_cons_zero]))
        refine wpAnyH_take (i := 12) (oi := ⟨some 31, _, _, _, _, _⟩) (v := ?_) rfl (by kernel_rfl) (by kernel_rfl) (by kernel_rfl) (fun _ _ _ h => h) (Or.inl ⟨by kernel_rfl, ?_⟩) (by assumption) ?_
        rotate_left
        · (intro w hSw; obtain ⟨hs0, hs1, hs2, hs3, hs4, hs5⟩ := six_of (HCo.out _ hSw); clear hSw; go_simp; try with_reducible rfl)
        (repeat (first | simp only [Act.put] | simp only [List.setIfInBounds_toArray] | simp only [List.set_cons_succ] | simp only [List.set_cons_zero]))
        refine wpAnyH_ready (rs := [13]) (by kernel_rfl) (by simp) ?_
        refine AllReadyH.cons (o := ⟨none, _, _, _, _, _⟩) rfl (fun K hK => ?_) AllReadyH.nil
        have zc := HCc.out _ hbc
        have zf := (HCb.out _ hbc).f (k := 0)
        go_simp
        (try go_wp2_with fail)
        refine hK.out _ _ (by exact (Fr.of_below hbc : Fr (fun k => k = wb) w1 y3).set (p := ⟨wb, 0, none⟩) (.inl rfl) _) (fun hHeld => ?_)
        clear hK K
        (repeat (first | simp only [Act.put] | simp only [List.setIfInBounds_toArray] | simp only [List.set_cons_succ] | simp only [List.set_cons_zero]))
        refine wpAnyH_done (by kernel_rfl) ?_ _
        have hF := Lib.hid (radd_end (HCb.out _ hbc) hb3.out.2 HB1.out hbc)
        clear hA2 hHeld zc zf hbb hb3
        go_wp2_with fail
        go_ret
        exact ⟨0, _, rfl, Lib.hid ⟨hF.out.1, hF.out.2, .inr (.inr ⟨hg, hid, .inr ⟨hl, rfl, rfl⟩⟩)⟩⟩
      · go_simp
        (try go_wp2_with fail)
        have hb3 : Below w1.heap.size w1 ((wd.alloc (.cells #[] 37)).alloc (.cells (OC o) 37)) := (hb2).alloc (Below.size hb2) _
        have hV : Cl 37 ((wd.alloc (.cells #[] 37)).alloc (.cells (OC o) 37)) (wd.heap.size + 1) (OC o) := hd_last (by simp)
        have hve : wd.heap.size + 1 ≠ wd.heap.size := (by have h := (own_lt hE _ rfl).2; simp only [World.size_alloc] at h; omega)
        replace hE := hE.alloc (.cells (OC o) 37)
        refine hK.out _ _ (by exact Fr.of_below hb3) (fun hHeld => ?_)
        clear hK K
        (repeat (first | simp only [Act.put] | simp only [List.setIfInBounds_toArray] | simp only [List.set_cons_succ] | simp only [List.set_cons_zero]))
        refine wpAnyH_ready (rs := [6]) (by kernel_rfl) (by simp) ?_
        refine AllReadyH.cons (o := ⟨some 25, _, _, _, _, _⟩) rfl (fun K hK => ?_) AllReadyH.nil
        obtain ⟨v1, y1, hr1, hA, hg1, _⟩ := run_app ((wd.alloc (.cells #[] 37)).alloc (.cells (OC o) 37)) w1.heap.size 27 _ 0 (ol []) hE _ _ _ _ (HRw.out _ hb3) (by have := HN.out; omega) (Below.size hb3)
        rw [Nat.zero_add, show ol [] ++ ol M = ol M from rfl] at hA
        refine step_append rfl _ _ 27 rfl (.slice (some ⟨wd.heap.size, 0, none⟩) 0 0) (.slice A M.length c) rfl rfl hr1 ?_
        have hb4 : Below w1.heap.size w1 y1 := below_own hb3 hE hg1
        replace hV : Cl 37 y1 (wd.heap.size + 1) (OC o) := (hg1.block _ (blk_lt hV) (fun e => hve (Option.some.inj e))).trans hV
        refine hK.out _ _ (by exact Fr.of_below hb4) (fun hHeld => ?_)
        clear hK K
        (repeat (first | simp only [Act.put] | simp only [List.setIfInBounds_toArray] | simp only [List.set_cons_succ] | simp only [List.set_cons_zero]))
        refine wpAnyH_ready (rs := [9]) (by kernel_rfl) (by simp) ?_
        refine AllReadyH.cons (o := ⟨some 28, _, _, _, _, _⟩) rfl (fun K hK => ?_) AllReadyH.nil
        obtain ⟨v2, y2, hr2, hA2, hg2, _⟩ := run_app y1 w1.heap.size 27 v1 M.length (ol M) hA (some ⟨wd.heap.size + 1, 0, none⟩) 1 1 [o] (own_one hV) (by have := HN.out; omega) (Below.size hb4)
        refine step_append rfl _ _ 27 rfl v1 (.slice (some ⟨wd.heap.size + 1, 0, none⟩) 1 1) rfl rfl hr2 ?_
        have hbb : Below w1.heap.size w1 y2 := below_own hb4 hA hg2
        obtain ⟨A2, c2, rfl, _⟩ := own_que2 hA2
        rw [← ol_append] at hA2
        refine hK.out _ _ (by exact Fr.of_below hbb) (fun hHeld => ?_)
        clear hK K
        (repeat (first | simp only [Act.put] | simp only [List.setIfInBounds_toArray] | simp only [List.set_cons_succ] | simp only [List.set_cons_zero]))
        refine wpAnyH_ready (rs := [10]) (by kernel_rfl) (by simp) ?_
        refine AllReadyH.cons (o := ⟨some 29, _, _, _, _, _⟩) rfl (fun K hK => ?_) AllReadyH.nil
        go_simp
        refine (HS.out _ _ _ hA2).mono ?_
        rintro e y3 ⟨A3, c3, rfl, hb3⟩
        have hbc : Below w1.heap.size w1 y3 := hbb.trans (hb3.out.1.mono (Below.size hbb))
        refine hK.out _ _ (by exact Fr.of_below hbc) (fun hHeld => ?_)
        clear hK K
        (repeat (first | simp only [Act.put] | simp only [List.setIfInBounds_toArray] | simp only [List.set_cons_succ] | simp only [List.set_cons_zero]))
        refine wpAnyH_take (i := 11) (oi := ⟨some 30, _, _, _, _, _⟩) (v := ?_) rfl (by kernel_rfl) (by kernel_rfl) (by kernel_rfl) (fun _ _ _ h => h) (Or.inl ⟨by kernel_rfl, ?_⟩) (by assumption) ?_
        rotate_left
        · (intro w hSw; obtain ⟨hs0, hs1, hs2, hs3, hs4, hs5⟩ := six_of (HCo.out _ hSw); clear hSw; go_simp; try with_reducible rfl)
        (repeat (first | simp only [Act.put] | simp only [List.setIfInBounds_toArray] | simp only [List.set_cons_succ] | simp only [List.set_cons_zero]))
        refine wpAnyH_take (i := 12) (oi := ⟨some 31, _, _, _, _, _⟩) (v := ?_) rfl (by kernel_rfl) (by kernel_rfl) (by kernel_rfl) (fun _ _ _ h => h) (Or.inl ⟨by kernel_rfl, ?_⟩) (by assumption) ?_
        rotate_left
        · (intro w hSw; obtain ⟨hs0, hs1, hs2, hs3, hs4, hs5⟩ := six_of (HCo.out _ hSw); clear hSw; go_simp; try with_reducible rfl)
        (repeat (first | simp only [Act.put] | simp only [List.setIfInBounds_toArray] | simp only [List.set_cons_succ] | simp only [List.set_cons_zero]))
        refine wpAnyH_ready (rs := [13]) (by kernel_rfl) (by simp) ?_
        refine AllReadyH.cons (o := ⟨none, _, _, _, _, _⟩) rfl (fun K hK => ?_) AllReadyH.nil
        have zc := HCc.out _ hbc
        have zf := (HCb.out _ hbc).f (k := 0)
        go_simp
        (try go_wp2_with fail)
        refine hK.out _ _ (by exact (Fr.of_below hbc : Fr (fun k => k = wb) w1 y3).set (p := ⟨wb, 0, none⟩) (.inl rfl) _) (fun hHeld => ?_)
        clear hK K
        (repeat (first | simp only [Act.put] | simp only [List.setIfInBounds_toArray] | simp only [List.set_cons_succ] | simp only [List.set_cons_zero]))
        refine wpAnyH_done (by kernel_rfl) ?_ _
        have hF := Lib.hid (radd_end (HCb.out _ hbc) hb3.out.2 HB1.out hbc)
        clear hA2 hHeld zc zf hbb hb3
        go_wp2_with fail
        go_ret
        exact ⟨0, _, rfl, Lib.hid ⟨hF.out.1, hF.out.2, .inr (.inr ⟨hg, hid, .inr ⟨hl, rfl, rfl⟩⟩)⟩⟩
    · go_simp
      (try go_wp2_with fail)
      have hb2 : Below w1.heap.size w1 ((wd.alloc (.cells #[] 37)).alloc (.cells (OC o) 37)) := (hb1).alloc (Below.size hb1) _
      have hV : Cl 37 ((wd.alloc (.cells #[] 37)).alloc (.cells (OC o) 37)) (wd.heap.size + 1) (OC o) := hd_last (by simp)
      have hve : wd.heap.size + 1 ≠ wd.heap.size := (by have h := (own_lt hE _ rfl).2; simp only [World.size_alloc] at h; omega)
      replace hE := hE.alloc (.cells (OC o) 37)
      refine hK.out _ _ (by exact Fr.of_below hb2) (fun hHeld => ?_)
      clear hK K
      (repeat (first | simp only [Act.put] | simp only [List.setIfInBounds_toArray] | simp only [List.set_cons_succ] | simp only [List.set_cons_zero]))
      refine wpAnyH_ready (rs := [5]) (by kernel_rfl) (by simp) ?_
      refine AllReadyH.cons (o := ⟨some 24, _, _, _, _, _⟩) rfl (fun K hK => ?_) AllReadyH.nil
      have zc := HCc.out _ hb2
      go_simp
      (try go_wp2_with fail)
      clear zc
      have hb3 := hb2
      refine hK.out _ _ (by exact Fr.of_below hb3) (fun hHeld => ?_)
      clear hK K
      (repeat (first | simp only [Act.put] | simp only [List.setIfInBounds_toArray] | simp only [List.set_cons_succ] | simp only [List.set_cons_zero]))
      refine wpAnyH_ready (rs := [6]) (by kernel_rfl) (by simp) ?_
      refine AllReadyH.cons (o := ⟨some 25, _, _, _, _, _⟩) rfl (fun K hK => ?_) AllReadyH.nil
      obtain ⟨v1, y1, hr1, hA, hg1, _⟩ := run_app ((wd.alloc (.cells #[] 37)).alloc (.cells (OC o) 37)) w1.heap.size 27 _ 0 (ol []) hE _ _ _ _ (HRw.out _ hb3) (by have := HN.out; omega) (Below.size hb3)
      rw [Nat.zero_add, show ol [] ++ ol M = ol M from rfl] at hA
      refine step_append rfl _ _ 27 rfl (.slice (some ⟨wd.heap.size, 0, none⟩) 0 0) (.slice A M.length c) rfl rfl hr1 ?_
      have hb4 : Below w1.heap.size w1 y1 := below_own hb3 hE hg1
      replace hV : Cl 37 y1 (wd.heap.size + 1) (OC o) := (hg1.block _ (blk_lt hV) (fun e => hve (Option.some.inj e))).trans hV
      refine hK.out _ _ (by exact Fr.of_below hb4) (fun hHeld => ?_)
      clear hK K
      (repeat (first | simp only [Act.put] | simp only [List.setIfInBounds_toArray] | simp only [List.set_cons_succ] | simp only [List.set_cons_zero]))
      refine wpAnyH_ready (rs := [9]) (by kernel_rfl) (by simp) ?_
      refine AllReadyH.cons (o := ⟨some 28, _, _, _, _, _⟩) rfl (fun K hK => ?_) AllReadyH.nil
      obtain ⟨v2, y2, hr2, hA2, hg2, _⟩ := run_app y1 w1.heap.size 27 v1 M.length (ol M) hA (some ⟨wd.heap.size + 1, 0, none⟩) 1 1 [o] (own_one hV) (by have := HN.out; omega) (Below.size hb4)
      refine step_append rfl _ _ 27 rfl v1 (.slice (some ⟨wd.heap.size + 1, 0, none⟩) 1 1) rfl rfl hr2 ?_
      have hbb : Below w1.heap.size w1 y2 := below_own hb4 hA hg2
      obtain ⟨A2, c2, rfl, _⟩ := own_que2 hA2
      rw [← ol_append] at hA2
      refine hK.out _ _ (by exact Fr.of_below hbb) (fun hHeld => ?_)
      clear hK K
      (repeat (first | simp only [Act.put] | simp only [List.setIfInBounds_toArray] | simp only [List.set_cons_succ] | simp only [List.set_cons_zero]))
      refine wpAnyH_ready (rs := [10]) (by kernel_rfl) (by simp) ?_
      refine AllReadyH.cons (o := ⟨some 29, _, _, _, _, _⟩) rfl (fun K hK => ?_) AllReadyH.nil
      go_simp
      refine (HS.out _ _ _ hA2).mono ?_
      rintro e y3 ⟨A3, c3, rfl, hb3⟩
      have hbc : Below w1.heap.size w1 y3 := hbb.trans (hb3.out.1.mono (Below.size hbb))
      refine hK.out _ _ (by exact Fr.of_below hbc) (fun hHeld => ?_)
      clear hK K
      (repeat (first | simp only [Act.put] | simp only [List.setIfInBounds_toArray] | simp only [List.set_cons_succ] | simp only [List.set_cons_zero]))
      refine wpAnyH_take (i := 11) (oi := ⟨some 30, _, _, _, _, _⟩) (v := ?_) rfl (by kernel_rfl) (by kernel_rfl) (by kernel_rfl) (fun _ _ _ h => h) (Or.inl ⟨by kernel_rfl, ?_⟩) (by assumption) ?_
      rotate_left
      · (intro w hSw; obtain ⟨hs0, hs1, hs2, hs3, hs4, hs5⟩ := six_of (HCo.out _ hSw); clear hSw; go_simp; try with_reducible rfl)
      (repeat (first | simp only [Act.put] | simp only [List.setIfInBounds_toArray] | simp only [List.set_cons_succ] | simp only [List.set_cons_zero]))
      refine wpAnyH_take (i := 12) (oi := ⟨some 31, _, _, _, _, _⟩) (v := ?_) rfl (by kernel_rfl) (by kernel_rfl) (by kernel_rfl) (fun _ _ _ h => h) (Or.inl ⟨by kernel_rfl, ?_⟩) (by assumption) ?_
      rotate_left
      · (intro w hSw; obtain ⟨hs0, hs1, hs2, hs3, hs4, hs5⟩ := six_of (HCo.out _ hSw); clear hSw; go_simp; try with_reducible rfl)
      (repeat (first | simp only [Act.put] | simp only [List.setIfInBounds_toArray] | simp only [List.set_cons_succ] | simp only [List.set_cons_zero]))
      refine wpAnyH_ready (rs := [13]) (by kernel_rfl) (by simp) ?_
      refine AllReadyH.cons (o := ⟨none, _, _, _, _, _⟩) rfl (fun K hK => ?_) AllReadyH.nil
      have zc := HCc.out _ hbc
      have zf := (HCb.out _ hbc).f (k := 0)
      go_simp
      (try go_wp2_with fail)
      refine hK.out _ _ (by exact (Fr.of_below hbc : Fr (fun k => k = wb) w1 y3).set (p := ⟨wb, 0, none⟩) (.inl rfl) _) (fun hHeld => ?_)
      clear hK K
      (repeat (first | simp only [Act.put] | simp only [List.setIfInBounds_toArray] | simp only [List.set_cons_succ] | simp only [List.set_cons_zero]))
      refine wpAnyH_done (by kernel_rfl) ?_ _
      have hF := Lib.hid (radd_end (HCb.out _ hbc) hb3.out.2 HB1.out hbc)
      clear hA2 hHeld zc zf hbb hb3
      go_wp2_with fail
      go_ret
      exact ⟨0, _, rfl, Lib.hid ⟨hF.out.1, hF.out.2, .inr (.inr ⟨hg, hid, .inr ⟨hl, rfl, rfl⟩⟩)⟩⟩
  · have zc := HCc.out _ hb0
    go_simp
    (try go_wp2_with fail)
    clear zc
    have hb1 := hb0
    refine hK.out _ _ (by exact Fr.of_below hb1) (fun hHeld => ?_)
    clear hK K
    (repeat (first | simp only [Act.put] | simp only [List.setIfInBounds_toArray] | simp only [List.set_cons_succ] | simp only [List.set_cons_zero]))
    refine wpAnyH_ready (rs := [1, 8]) (by kernel_rfl) (by simp) ?_
    refine AllReadyH.cons (o := ⟨some 20, _, _, _, _, _⟩) rfl (fun K hK => ?_) (AllReadyH.cons (o := ⟨some 27, _, _, _, _, _⟩) rfl (fun K hK => ?_) AllReadyH.nil)
    · go_simp
      (try go_wp2_with fail)
      have hb2 : Below w1.heap.size w1 (wd.alloc (.cells #[] 37)) := (hb1).alloc (Below.size hb1) _
      have hE : (wd.alloc (.cells #[] 37)).ownsRow w1.heap.size 37 6 (.slice (some ⟨wd.heap.size, 0, none⟩) 0 0) 0 (ol []) := ⟨rfl, .inr ⟨wd.heap.size, 0, #[], rfl, (by have := Below.size hb0; omega), hd_last (by simp), Nat.le_refl _, Nat.zero_le _, rfl, rfl⟩⟩
      refine hK.out _ _ (by exact Fr.of_below hb2) (fun hHeld => ?_)
      clear hK K
      (repeat (first | simp only [Act.put] | simp only [List.setIfInBounds_toArray] | simp only [List.set_cons_succ] | simp only [List.set_cons_zero]))
      refine wpAnyH_ready (rs := [6, 8]) (by kernel_rfl) (by simp) ?_
      refine AllReadyH.cons (o := ⟨some 25, _, _, _, _, _⟩) rfl (fun K hK => ?_) (AllReadyH.cons (o := ⟨some 27, _, _, _, _, _⟩) rfl (fun K hK => ?_) AllReadyH.nil)
      · obtain ⟨v1, y1, hr1, hA, hg1, _⟩ := run_app (wd.alloc (.cells #[] 37)) w1.heap.size 27 _ 0 (ol []) hE _ _ _ _ (HRw.out _ hb2) (by have := HN.out; omega) (Below.size hb2)
        rw [Nat.zero_add, show ol [] ++ ol M = ol M from rfl] at hA
        refine step_append rfl _ _ 27 rfl (.slice (some ⟨wd.heap.size, 0, none⟩) 0 0) (.slice A M.length c) rfl rfl hr1 ?_
        have hb3 : Below w1.heap.size w1 y1 := below_own hb2 hE hg1
        refine hK.out _ _ (by exact Fr.of_below hb3) (fun hHeld => ?_)
        clear hK K
        (repeat (first | simp only [Act.put] | simp only [List.setIfInBounds_toArray] | simp only [List.set_cons_succ] | simp only [List.set_cons_zero]))
        refine wpAnyH_ready (rs := [8]) (by kernel_rfl) (by simp) ?_
        refine AllReadyH.cons (o := ⟨some 27, _, _, _, _, _⟩) rfl (fun K hK => ?_) AllReadyH.nil
        go_simp
        (try go_wp2_with fail)
        have hb4 : Below w1.heap.size w1 (y1.alloc (.cells (OC o) 37)) := (hb3).alloc (Below.size hb3) _
        have hV : Cl 37 (y1.alloc (.cells (OC o) 37)) (y1.heap.size) (OC o) := hd_last (by simp)
        replace hA := hA.alloc (.cells (OC o) 37)
        refine hK.out _ _ (by exact Fr.of_below hb4) (fun hHeld => ?_)
        clear hK K
        (repeat (first | simp only [Act.put] | simp only [List.setIfInBounds_toArray] | simp only [List.set_cons_succ] | simp only [List.set_cons_zero]))
        refine wpAnyH_ready (rs := [9]) (by kernel_rfl) (by simp) ?_
        refine AllReadyH.cons (o := ⟨some 28, _, _, _, _, _⟩) rfl (fun K hK => ?_) AllReadyH.nil
        obtain ⟨v2, y2, hr2, hA2, hg2, _⟩ := run_app (y1.alloc (.cells (OC o) 37)) w1.heap.size 27 v1 M.length (ol M) hA (some ⟨y1.heap.size, 0, none⟩) 1 1 [o] (own_one hV) (by have := HN.out; omega) (Below.size hb4)
        refine step_append rfl _ _ 27 rfl v1 (.slice (some ⟨y1.heap.size, 0, none⟩) 1 1) rfl rfl hr2 ?_
        have hbb : Below w1.heap.size w1 y2 := below_own hb4 hA hg2
        obtain ⟨A2, c2, rfl, _⟩ := own_que2 hA2
        rw [← ol_append] at hA2
        refine hK.out _ _ (by exact Fr.of_below hbb) (fun hHeld => ?_)
        clear hK K
        (repeat (first | simp only [Act.put] | simp only [List.setIfInBounds_toArray] | simp only [List.set_cons_succ] | simp only [List.set_cons_zero]))
        refine wpAnyH_ready (rs := [10]) (by kernel_rfl) (by simp) ?_
        refine AllReadyH.cons (o := ⟨some 29, _, _, _, _, _⟩) rfl (fun K hK => ?_) AllReadyH.nil
        go_simp
        refine (HS.out _ _ _ hA2).mono ?_
        rintro e y3 ⟨A3, c3, rfl, hb3⟩
        have hbc : Below w1.heap.size w1 y3 := hbb.trans (hb3.out.1.mono (Below.size hbb))
        refine hK.out _ _ (by exact Fr.of_below hbc) (fun hHeld => ?_)
        clear hK K
        (repeat (first | simp only [Act.put] | simp only [List.setIfInBounds_toArray] | simp only [List.set_cons_succ] | simp only [List.set_cons_zero]))
        refine wpAnyH_take (i := 11) (oi := ⟨some 30, _, _, _, _, _⟩) (v := ?_) rfl (by kernel_rfl) (by kernel_rfl) (by kernel_rfl) (fun _ _ _ h => h) (Or.inl ⟨by kernel_rfl, ?_⟩) (by assumption) ?_
        rotate_left
        · (intro w hSw; obtain ⟨hs0, hs1, hs2, hs3, hs4, hs5⟩ := six_of (HCo.out _ hSw); clear hSw; go_simp; try with_reducible rfl)
        (repeat (first | simp only [Act.put] | simp only [List.setIfInBounds_toArray] | simp only [List.set_cons_succ] | simp only [List.set_cons_zero]))
        refine wpAnyH_take (i := 12) (oi := ⟨some 31, _, _, _, _, _⟩) (v := ?_) rfl (by kernel_rfl) (by kernel_rfl) (by kernel_rfl) (fun _ _ _ h => h) (Or.inl ⟨by kernel_rfl, ?_⟩) (by assumption) ?_
        rotate_left
        · (intro w hSw; obtain ⟨hs0, hs1, hs2, hs3, hs4, hs5⟩ := six_of (HCo.out _ hSw); clear hSw; go_simp; try with_reducible rfl)
        (repeat (first | simp only [Act.put] | simp only [List.setIfInBounds_toArray] | simp only [List.set_cons_succ] | simp only [List.set_cons_zero]))
        refine wpAnyH_ready (rs := [13]) (by kernel_rfl) (by simp) ?_
        refine AllReadyH.cons (o := ⟨none, _, _, _, _, _⟩) rfl (fun K hK => ?_) AllReadyH.nil
        have zc := HCc.out _ hbc
        have zf := (HCb.out _ hbc).f (k := 0)
        go_simp
        (try go_wp2_with fail)
        refine hK.out _ _ (by exact (Fr.of_below hbc : Fr (fun k => k = wb) w1 y3).set (p := ⟨wb, 0, none⟩) (.inl rfl) _) (fun hHeld => ?_)
        clear hK K
        (repeat (first | simp only [Act.put] | simp only [List.setIfInBounds_toArray] | simp only [List.set_cons_succ] | simp only [List.set_cons_zero]))
        refine wpAnyH_done (by kernel_rfl) ?_ _
        have hF := Lib.hid (radd_end (HCb.out _ hbc) hb3.out.2 HB1.out hbc)
        clear hA2 hHeld zc zf hbb hb3
        go_wp2_with fail
        go_ret
        exact ⟨0, _, rfl, Lib.hid ⟨hF.out.1, hF.out.2, .inr (.inr ⟨hg, hid, .inr ⟨hl, rfl, rfl⟩⟩)⟩⟩
      · go_simp
        (try go_wp2_with fail)
        have hb3 : Below w1.heap.size w1 ((wd.alloc (.cells #[] 37)).alloc (.cells (OC o) 37)) := (hb2).alloc (Below.size hb2) _
        have hV : Cl 37 ((wd.alloc (.cells #[] 37)).alloc (.cells (OC o) 37)) (wd.heap.size + 1) (OC o) := hd_last (by simp)
        have hve : wd.heap.size + 1 ≠ wd.heap.size := (by have h := (own_lt hE _ rfl).2; simp only [World.size_alloc] at h; omega)
        replace hE := hE.alloc (.cells (OC o) 37)
        refine hK.out _ _ (by exact Fr.of_below hb3) (fun hHeld => ?_)
        clear hK K
        (repeat (first | simp only [Act.put] | simp only [List.setIfInBounds_toArray] | simp only [List.set_cons_succ] | simp only [List.set_cons_zero]))
        refine wpAnyH_ready (rs := [6]) (by kernel_rfl) (by simp) ?_
        refine AllReadyH.cons (o := ⟨some 25, _, _, _, _, _⟩) rfl (fun K hK => ?_) AllReadyH.nil
        obtain ⟨v1, y1, hr1, hA, hg1, _⟩ := run_app ((wd.alloc (.cells #[] 37)).alloc (.cells (OC o) 37)) w1.heap.size 27 _ 0 (ol []) hE _ _ _ _ (HRw.out _ hb3) (by have := HN.out; omega) (Below.size hb3)
        rw [Nat.zero_add, show ol [] ++ ol M = ol M from rfl] at hA
        refine step_append rfl _ _ 27 rfl (.slice (some ⟨wd.heap.size, 0, none⟩) 0 0) (.slice A M.length c) rfl rfl hr1 ?_
        have hb4 : Below w1.heap.size w1 y1 := below_own hb3 hE hg1
        replace hV : Cl 37 y1 (wd.heap.size + 1) (OC o) := (hg1.block _ (blk_lt hV) (fun e => hve (Option.some.inj e))).trans hV
        refine hK.out _ _ (by exact Fr.of_below hb4) (fun hHeld => ?_)
        clear hK K
        (repeat (first | simp only [Act.put] | simp only [List.setIfInBounds_toArray] | simp only [List.set_cons_succ] | simp only [List.set_cons_zero]))
        refine wpAnyH_ready (rs := [9]) (by kernel_rfl) (by simp) ?_
        refine AllReadyH.cons (o := ⟨some 28, _, _, _, _, _⟩) rfl (fun K hK => ?_) AllReadyH.nil
        obtain ⟨v2, y2, hr2, hA2, hg2, _⟩ := run_app y1 w1.heap.size 27 v1 M.length (ol M) hA (some ⟨wd.heap.size + 1, 0, none⟩) 1 1 [o] (own_one hV) (by have := HN.out; omega) (Below.size hb4)
        refine step_append rfl _ _ 27 rfl v1 (.slice (some ⟨wd.heap.size + 1, 0, none⟩) 1 1) rfl rfl hr2 ?_
        have hbb : Below w1.heap.size w1 y2 := below_own hb4 hA hg2
        obtain ⟨A2, c2, rfl, _⟩ := own_que2 hA2
        rw [← ol_append] at hA2
        refine hK.out _ _ (by exact Fr.of_below hbb) (fun hHeld => ?_)
        clear hK K
        (repeat (first | simp only [Act.put] | simp only [List.setIfInBounds_toArray] | simp only [List.set_cons_succ] | simp only [List.set_cons_zero]))
        refine wpAnyH_ready (rs := [10]) (by kernel_rfl) (by simp) ?_
        refine AllReadyH.cons (o := ⟨some 29, _, _, _, _, _⟩) rfl (fun K hK => ?_) AllReadyH.nil
        go_simp
        refine (HS.out _ _ _ hA2).mono ?_
        rintro e y3 ⟨A3, c3, rfl, hb3⟩
        have hbc : Below w1.heap.size w1 y3 := hbb.trans (hb3.out.1.mono (Below.size hbb))
        refine hK.out _ _ (by exact Fr.of_below hbc) (fun hHeld => ?_)
        clear hK K
        (repeat (first | simp only [Act.put] | simp only [List.setIfInBounds_toArray] | simp only [List.set_cons_succ] | simp only [List.set_cons_zero]))
        refine wpAnyH_take (i := 11) (oi := ⟨some 30, _, _, _, _, _⟩) (v := ?_) rfl (by kernel_rfl) (by kernel_rfl) (by kernel_rfl) (fun _ _ _ h => h) (Or.inl ⟨by kernel_rfl, ?_⟩) (by assumption) ?_
        rotate_left
        · (intro w hSw; obtain ⟨hs0, hs1, hs2, hs3, hs4, hs5⟩ := six_of (HCo.out _ hSw); clear hSw; go_simp; try with_reducible rfl)
        (repeat (first | simp only [Act.put] | simp only [List.setIfInBounds_toArray] | simp only [List.set_cons_succ] | simp only [List.set_cons_zero]))
        refine wpAnyH_take (i := 12) (oi := ⟨some 31, _, _, _, _, _⟩) (v := ?_) rfl (by kernel_rfl) (by kernel_rfl) (by kernel_rfl) (fun _ _ _ h => h) (Or.inl ⟨by kernel_rfl, ?_⟩) (by assumption) ?_
        rotate_left
        · (intro w hSw; obtain ⟨hs0, hs1, hs2, hs3, hs4, hs5⟩ := six_of (HCo.out _ hSw); clear hSw; go_simp; try with_reducible rfl)
        (repeat (first | simp only [Act.put] | simp only [List.setIfInBounds_toArray] | simp only [List.set_cons_succ] | simp only [List.set_cons_zero]))
        refine wpAnyH_ready (rs := [13]) (by kernel_rfl) (by simp) ?_
        refine AllReadyH.cons (o := ⟨none, _, _, _, _, _⟩) rfl (fun K hK => ?_) AllReadyH.nil
        have zc := HCc.out _ hbc
        have zf := (HCb.out _ hbc).f (k := 0)
        go_simp
        (try go_wp2_with fail)
        refine hK.out _ _ (by exact (Fr.of_below hbc : Fr (fun k => k = wb) w1 y3).set (p := ⟨wb, 0, none⟩) (.inl rfl) _) (fun hHeld => ?_)
        clear hK K
        (repeat (first | simp only [Act.put] | simp only [List.setIfInBounds_toArray] | simp only [List.set_cons_succ] | simp only [List.set_cons_zero]))
        refine wpAnyH_done (by kernel_rfl) ?_ _
        have hF := Lib.hid (radd_end (HCb.out _ hbc) hb3.out.2 HB1.out hbc)
        clear hA2 hHeld zc zf hbb hb3
        go_wp2_with fail
        go_ret
        exact ⟨0, _, rfl, Lib.hid ⟨hF.out.1, hF.out.2, .inr (.inr ⟨hg, hid, .inr ⟨hl, rfl, rfl⟩⟩)⟩⟩
    · go_simp
      (try go_wp2_with fail)
      have hb2 : Below w1.heap.size w1 (wd.alloc (.cells (OC o) 37)) := (hb1).alloc (Below.size hb1) _
      have hV : Cl 37 (wd.alloc (.cells (OC o) 37)) (wd.heap.size) (OC o) := hd_last (by simp)
      refine hK.out _ _ (by exact Fr.of_below hb2) (fun hHeld => ?_)
      clear hK K
      (repeat (first | simp only [Act.put] | simp only [List.setIfInBounds_toArray] | simp only [List.set_cons_succ] | simp only [List.set_cons_zero]))
      refine wpAnyH_ready (rs := [1]) (by kernel_rfl) (by simp) ?_
      refine AllReadyH.cons (o := ⟨some 20, _, _, _, _, _⟩) rfl (fun K hK => ?_) AllReadyH.nil
      go_simp
      (try go_wp2_with fail)
      have hb3 : Below w1.heap.size w1 ((wd.alloc (.cells (OC o) 37)).alloc (.cells #[] 37)) := (hb2).alloc (Below.size hb2) _
      have hE : ((wd.alloc (.cells (OC o) 37)).alloc (.cells #[] 37)).ownsRow w1.heap.size 37 6 (.slice (some ⟨wd.heap.size + 1, 0, none⟩) 0 0) 0 (ol []) := ⟨rfl, .inr ⟨wd.heap.size + 1, 0, #[], rfl, (by have := Below.size hb0; omega), hd_last (by simp), Nat.le_refl _, Nat.zero_le _, rfl, rfl⟩⟩
      have hve : wd.heap.size ≠ wd.heap.size + 1 := (by have h := blk_lt hV; simp only [World.size_alloc] at h; omega)
      replace hV : Cl 37 ((wd.alloc (.cells (OC o) 37)).alloc (.cells #[] 37)) (wd.heap.size) (OC o) := hd_prev (blk_lt hV) hV
      refine hK.out _ _ (by exact Fr.of_below hb3) (fun hHeld => ?_)
      clear hK K
      (repeat (first | simp only [Act.put] | simp only [List.setIfInBounds_toArray] | simp only [List.set_cons_succ] | simp only [List.set_cons_zero]))
      refine wpAnyH_ready (rs := [6]) (by kernel_rfl) (by simp) ?_
      refine AllReadyH.cons (o := ⟨some 25, _, _, _, _, _⟩) rfl (fun K hK => ?_) AllReadyH.nil
      obtain ⟨v1, y1, hr1, hA, hg1, _⟩ := run_app ((wd.alloc (.cells (OC o) 37)).alloc (.cells #[] 37)) w1.heap.size 27 _ 0 (ol []) hE _ _ _ _ (HRw.out _ hb3) (by have := HN.out; omega) (Below.size hb3)
      rw [Nat.zero_add, show ol [] ++ ol M = ol M from rfl] at hA
      refine step_append rfl _ _ 27 rfl (.slice (some ⟨wd.heap.size + 1, 0, none⟩) 0 0) (.slice A M.length c) rfl rfl hr1 ?_
      have hb4 : Below w1.heap.size w1 y1 := below_own hb3 hE hg1
      replace hV : Cl 37 y1 (wd.heap.size) (OC o) := (hg1.block _ (blk_lt hV) (fun e => hve (Option.some.inj e))).trans hV
      refine hK.out _ _ (by exact Fr.of_below hb4) (fun hHeld => ?_)
      clear hK K
      (repeat (first | simp only [Act.put] | simp only [List.setIfInBounds_toArray] | simp only [List.set_cons_succ] | simp only [List.set_cons_zero]))
      refine wpAnyH_ready (rs := [9]) (by kernel_rfl) (by simp) ?_
      refine AllReadyH.cons (o := ⟨some 28, _, _, _, _, _⟩) rfl (fun K hK => ?_) AllReadyH.nil
      obtain ⟨v2, y2, hr2, hA2, hg2, _⟩ := run_app y1 w1.heap.size 27 v1 M.length (ol M) hA (some ⟨wd.heap.size, 0, none⟩) 1 1 [o] (own_one hV) (by have := HN.out; omega) (Below.size hb4)
      refine step_append rfl _ _ 27 rfl v1 (.slice (some ⟨wd.heap.size, 0, none⟩) 1 1) rfl rfl hr2 ?_
      have hbb : Below w1.heap.size w1 y2 := below_own hb4 hA hg2
      obtain ⟨A2, c2, rfl, _⟩ := own_que2 hA2
      rw [← ol_append] at hA2
      refine hK.out _ _ (by exact Fr.of_below hbb) (fun hHeld => ?_)
      clear hK K
      (repeat (first | simp only [Act.put] | simp only [List.setIfInBounds_toArray] | simp only [List.set_cons_succ] | simp only [List.set_cons_zero]))
      refine wpAnyH_ready (rs := [10]) (by kernel_rfl) (by simp) ?_
      refine AllReadyH.cons (o := ⟨some 29, _, _, _, _, _⟩) rfl (fun K hK => ?_) AllReadyH.nil
      go_simp
      refine (HS.out _ _ _ hA2).mono ?_
      rintro e y3 ⟨A3, c3, rfl, hb3⟩
      have hbc : Below w1.heap.size w1 y3 := hbb.trans (hb3.out.1.mono (Below.size hbb))
      refine hK.out _ _ (by exact Fr.of_below hbc) (fun hHeld => ?_)
      clear hK K
      (repeat (first | simp only [Act.put] | simp only [List.setIfInBounds_toArray] | simp only [List.set_cons_succ] | simp only [List.set_cons_zero]))
      refine wpAnyH_take (i := 11) (oi := ⟨some 30, _, _, _, _, _⟩) (v := ?_) rfl (by kernel_rfl) (by kernel_rfl) (by kernel_rfl) (fun _ _ _ h => h) (Or.inl ⟨by kernel_rfl, ?_⟩) (by assumption) ?_
      rotate_left
      · (intro w hSw; obtain ⟨hs0, hs1, hs2, hs3, hs4, hs5⟩ := six_of (HCo.out _ hSw); clear hSw; go_simp; try with_reducible rfl)
      (repeat (first | simp only [Act.put] | simp only [List.setIfInBounds_toArray] | simp only [List.set_cons_succ] | simp only [List.set_cons_zero]))
      refine wpAnyH_take (i := 12) (oi := ⟨some 31, _, _, _, _, _⟩) (v := ?_) rfl (by kernel_rfl) (by kernel_rfl) (by kernel_rfl) (fun _ _ _ h => h) (Or.inl ⟨by kernel_rfl, ?_⟩) (by assumption) ?_
      rotate_left
      · (intro w hSw; obtain ⟨hs0, hs1, hs2, hs3, hs4, hs5⟩ := six_of (HCo.out _ hSw); clear hSw; go_simp; try with_reducible rfl)
      (repeat (first | simp only [Act.put] | simp only [List.setIfInBounds_toArray] | simp only [List.set_cons_succ] | simp only [List.set_cons_zero]))
      refine wpAnyH_ready (rs := [13]) (by kernel_rfl) (by simp) ?_
      refine AllReadyH.cons (o := ⟨none, _, _, _, _, _⟩) rfl (fun K hK => ?_) AllReadyH.nil
      have zc := HCc.out _ hbc
      have zf := (HCb.out _ hbc).f (k := 0)
      go_simp
      (try go_wp2_with fail)
      refine hK.out _ _ (by exact (Fr.of_below hbc : Fr (fun k => k = wb) w1 y3).set (p := ⟨wb, 0, none⟩) (.inl rfl) _) (fun hHeld => ?_)
      clear hK K
      (repeat (first | simp only [Act.put] | simp only [List.setIfInBounds_toArray] | simp only [List.set_cons_succ] | simp only [List.set_cons_zero]))
      refine wpAnyH_done (by kernel_rfl) ?_ _
      have hF := Lib.hid (radd_end (HCb.out _ hbc) hb3.out.2 HB1.out hbc)
      clear hA2 hHeld zc zf hbb hb3
      go_wp2_with fail
      go_ret
      exact ⟨0, _, rfl, Lib.hid ⟨hF.out.1, hF.out.2, .inr (.inr ⟨hg, hid, .inr ⟨hl, rfl, rfl⟩⟩)⟩⟩
  · go_simp
    (try go_wp2_with fail)
    have hb1 : Below w1.heap.size w1 (wd.alloc (.cells (OC o) 37)) := (hb0).alloc (Below.size hb0) _
    have hV : Cl 37 (wd.alloc (.cells (OC o) 37)) (wd.heap.size) (OC o) := hd_last (by simp)
    refine hK.out _ _ (by exact Fr.of_below hb1) (fun hHeld => ?_)
    clear hK K
    (repeat (first | simp only [Act.put] | simp only [List.setIfInBounds_toArray] | simp only [List.set_cons_succ] | simp only [List.set_cons_zero]))
    refine wpAnyH_ready (rs := [1, 5]) (by kernel_rfl) (by simp) ?_
    refine AllReadyH.cons (o := ⟨some 20, _, _, _, _, _⟩) rfl (fun K hK => ?_) (AllReadyH.cons (o := ⟨some 24, _, _, _, _, _⟩) rfl (fun K hK => ?_) AllReadyH.nil)
    · go_simp
      (try go_wp2_with fail)
      have hb2 : Below w1.heap.size w1 ((wd.alloc (.cells (OC o) 37)).alloc (.cells #[] 37)) := (hb1).alloc (Below.size hb1) _
      have hE : ((wd.alloc (.cells (OC o) 37)).alloc (.cells #[] 37)).ownsRow w1.heap.size 37 6 (.slice (some ⟨wd.heap.size + 1, 0, none⟩) 0 0) 0 (ol []) := ⟨rfl, .inr ⟨wd.heap.size + 1, 0, #[], rfl, (by have := Below.size hb0; omega), hd_last (by simp), Nat.le_refl _, Nat.zero_le _, rfl, rfl⟩⟩
      have hve : wd.heap.size ≠ wd.heap.size + 1 := (by have h := blk_lt hV; simp only [World.size_alloc] at h; omega)
      replace hV : Cl 37 ((wd.alloc (.cells (OC o) 37)).alloc (.cells #[] 37)) (wd.heap.size) (OC o) := hd_prev (blk_lt hV) hV
      refine hK.out _ _ (by exact Fr.of_below hb2) (fun hHeld => ?_)
      clear hK K
      (repeat (first | simp only [Act.put] | simp only [List.setIfInBounds_toArray] | simp only [List.set_cons_succ] | simp only [List.set_cons_zero]))
      refine wpAnyH_ready (rs := [5]) (by kernel_rfl) (by simp) ?_
      refine AllReadyH.cons (o := ⟨some 24, _, _, _, _, _⟩) rfl (fun K hK => ?_) AllReadyH.nil
      have zc := HCc.out _ hb2
      go_simp
      (try go_wp2_with fail)
      clear zc
      have hb3 := hb2
      refine hK.out _ _ (by exact Fr.of_below hb3) (fun hHeld => ?_)
      clear hK K
      (repeat (first | simp only [Act.put] | simp only [List.setIfInBounds_toArray] | simp only [List.set_cons_succ] | simp only [List.set_cons_zero]))
      refine wpAnyH_ready (rs := [6]) (by kernel_rfl) (by simp) ?_
      refine AllReadyH.cons (o := ⟨some 25, _, _, _, _, _⟩) rfl (fun K hK => ?_) AllReadyH.nil
      obtain ⟨v1, y1, hr1, hA, hg1, _⟩ := run_app ((wd.alloc (.cells (OC o) 37)).alloc (.cells #[] 37)) w1.heap.size 27 _ 0 (ol []) hE _ _ _ _ (HRw.out _ hb3) (by have := HN.out; omega) (Below.size hb3)
      rw [Nat.zero_add, show ol [] ++ ol M = ol M from rfl] at hA
      refine step_append rfl _ _ 27 rfl (.slice (some ⟨wd.heap.size + 1, 0, none⟩) 0 0) (.slice A M.length c) rfl rfl hr1 ?_
      have hb4 : Below w1.heap.size w1 y1 := below_own hb3 hE hg1
      replace hV : Cl 37 y1 (wd.heap.size) (OC o) := (hg1.block _ (blk_lt hV) (fun e => hve (Option.some.inj e))).trans hV
      refine hK.out _ _ (by exact Fr.of_below hb4) (fun hHeld => ?_)
      clear hK K
      (repeat (first | simp only [Act.put] | simp only [List.setIfInBounds_toArray] | simp only [List.set_cons_succ] | simp only [List.set_cons_zero]))
      refine wpAnyH_ready (rs := [9]) (by kernel_rfl) (by simp) ?_
      refine AllReadyH.cons (o := ⟨some 28, _, _, _, _, _⟩) rfl (fun K hK => ?_) AllReadyH.nil
      obtain ⟨v2, y2, hr2, hA2, hg2, _⟩ := run_app y1 w1.heap.size 27 v1 M.length (ol M) hA (some ⟨wd.heap.size, 0, none⟩) 1 1 [o] (own_one hV) (by have := HN.out; omega) (Below.size hb4)
      refine step_append rfl _ _ 27 rfl v1 (.slice (some ⟨wd.heap.size, 0, none⟩) 1 1) rfl rfl hr2 ?_
      have hbb : Below w1.heap.size w1 y2 := below_own hb4 hA hg2
      obtain ⟨A2, c2, rfl, _⟩ := own_que2 hA2
      rw [← ol_append] at hA2
      refine hK.out _ _ (by exact Fr.of_below hbb) (fun hHeld => ?_)
      clear hK K
      (repeat (first | simp only [Act.put] | simp only [List.setIfInBounds_toArray] | simp only [List.set_cons_succ] | simp only [List.set_cons_zero]))
      refine wpAnyH_ready (rs := [10]) (by kernel_rfl) (by simp) ?_
      refine AllReadyH.cons (o := ⟨some 29, _, _, _, _, _⟩) rfl (fun K hK => ?_) AllReadyH.nil
      go_simp
      refine (HS.out _ _ _ hA2).mono ?_
      rintro e y3 ⟨A3, c3, rfl, hb3⟩
      have hbc : Below w1.heap.size w1 y3 := hbb.trans (hb3.out.1.mono (Below.size hbb))
      refine hK.out _ _ (by exact Fr.of_below hbc) (fun hHeld => ?_)
      clear hK K
      (repeat (first | simp only [Act.put] | simp only [List.setIfInBounds_toArray] | simp only [List.set_cons_succ] | simp only [List.set_cons_zero]))
      refine wpAnyH_take (i := 11) (oi := ⟨some 30, _, _, _, _, _⟩) (v := ?_) rfl (by kernel_rfl) (by kernel_rfl) (by kernel_rfl) (fun _ _ _ h => h) (Or.inl ⟨by kernel_rfl, ?_⟩) (by assumption) ?_
      rotate_left
      · (intro w hSw; obtain ⟨hs0, hs1, hs2, hs3, hs4, hs5⟩ := six_of (HCo.out _ hSw); clear hSw; go_simp; try with_reducible rfl)
      (repeat (first | simp only [Act.put] | simp only [List.setIfInBounds_toArray] | simp only [List.set_cons_succ] | simp only [List.set_cons_zero]))
      refine wpAnyH_take (i := 12) (oi := ⟨some 31, _, _, _, _, _⟩) (v := ?_) rfl (by kernel_rfl) (by kernel_rfl) (by kernel_rfl) (fun _ _ _ h => h) (Or.inl ⟨by kernel_rfl, ?_⟩) (by assumption) ?_
      rotate_left
      · (intro w hSw; obtain ⟨hs0, hs1, hs2, hs3, hs4, hs5⟩ := six_of (HCo.out _ hSw); clear hSw; go_simp; try with_reducible rfl)
      (repeat (first | simp only [Act.put] | simp only [List.setIfInBounds_toArray] | simp only [List.set_cons_succ] | simp only [List.set_cons_zero]))
      refine wpAnyH_ready (rs := [13]) (by kernel_rfl) (by simp) ?_
      refine AllReadyH.cons (o := ⟨none, _, _, _, _, _⟩) rfl (fun K hK => ?_) AllReadyH.nil
      have zc := HCc.out _ hbc
      have zf := (HCb.out _ hbc).f (k := 0)
      go_simp
      (try go_wp2_with fail)
      refine hK.out _ _ (by exact (Fr.of_below hbc : Fr (fun k => k = wb) w1 y3).set (p := ⟨wb, 0, none⟩) (.inl rfl) _) (fun hHeld => ?_)
      clear hK K
      (repeat (first | simp only [Act.put] | simp only [List.setIfInBounds_toArray] | simp only [List.set_cons_succ] | simp only [List.set_cons_zero]))
      refine wpAnyH_done (by kernel_rfl) ?_ _
      have hF := Lib.hid (radd_end (HCb.out _ hbc) hb3.out.2 HB1.out hbc)
      clear hA2 hHeld zc zf hbb hb3
      go_wp2_with fail
      go_ret
      exact ⟨0, _, rfl, Lib.hid ⟨hF.out.1, hF.out.2, .inr (.inr ⟨hg, hid, .inr ⟨hl, rfl, rfl⟩⟩)⟩⟩
    · have zc := HCc.out _ hb1
      go_simp
      (try go_wp2_with fail)
      clear zc
      have hb2 := hb1
      refine hK.out _ _ (by exact Fr.of_below hb2) (fun hHeld => ?_)
      clear hK K
      (repeat (first | simp only [Act.put] | simp only [List.setIfInBounds_toArray] | simp only [List.set_cons_succ] | simp only [List.set_cons_zero]))
      refine wpAnyH_ready (rs := [1]) (by kernel_rfl) (by simp) ?_
      refine AllReadyH.cons (o := ⟨some 20, _, _, _, _, _⟩) rfl (fun K hK => ?_) AllReadyH.nil
      go_simp
      (try go_wp2_with fail)
      have hb3 : Below w1.heap.size w1 ((wd.alloc (.cells (OC o) 37)).alloc (.cells #[] 37)) := (hb2).alloc (Below.size hb2) _
      have hE : ((wd.alloc (.cells (OC o) 37)).alloc (.cells #[] 37)).ownsRow w1.heap.size 37 6 (.slice (some ⟨wd.heap.size + 1, 0, none⟩) 0 0) 0 (ol []) := ⟨rfl, .inr ⟨wd.heap.size + 1, 0, #[], rfl, (by have := Below.size hb0; omega), hd_last (by simp), Nat.le_refl _, Nat.zero_le _, rfl, rfl⟩⟩
      have hve : wd.heap.size ≠ wd.heap.size + 1 := (by have h := blk_lt hV; simp only [World.size_alloc] at h; omega)
      replace hV : Cl 37 ((wd.alloc (.cells (OC o) 37)).alloc (.cells #[] 37)) (wd.heap.size) (OC o) := hd_prev (blk_lt hV) hV
      refine hK.out _ _ (by exact Fr.of_below hb3) (fun hHeld => ?_)
      clear hK K
      (repeat (first | simp only [Act.put] | simp only [List.setIfInBounds_toArray] | simp only [List.set_cons_succ] | simp only [List.set_cons_zero]))
      refine wpAnyH_ready (rs := [6]) (by kernel_rfl) (by simp) ?_
      refine AllReadyH.cons (o := ⟨some 25, _, _, _, _, _⟩) rfl (fun K hK => ?_) AllReadyH.nil
      obtain ⟨v1, y1, hr1, hA, hg1, _⟩ := run_app ((wd.alloc (.cells (OC o) 37)).alloc (.cells #[] 37)) w1.heap.size 27 _ 0 (ol []) hE _ _ _ _ (HRw.out _ hb3) (by have := HN.out; omega) (Below.size hb3)
      rw [Nat.zero_add, show ol [] ++ ol M = ol M from rfl] at hA
      refine step_append rfl _ _ 27 rfl (.slice (some ⟨wd.heap.size + 1, 0, none⟩) 0 0) (.slice A M.length c) rfl rfl hr1 ?_
      have hb4 : Below w1.heap.size w1 y1 := below_own hb3 hE hg1
      replace hV : Cl 37 y1 (wd.heap.size) (OC o) := (hg1.block _ (blk_lt hV) (fun e => hve (Option.some.inj e))).trans hV
      refine hK.out _ _ (by exact Fr.of_below hb4) (fun hHeld => ?_)
      clear hK K
      (repeat (first | simp only [Act.put] | simp only [List.setIfInBounds_toArray] | simp only [List.set_cons_succ] | simp only [List.set_cons_zero]))
      refine wpAnyH_ready (rs := [9]) (by kernel_rfl) (by simp) ?_
      refine AllReadyH.cons (o := ⟨some 28, _, _, _, _, _⟩) rfl (fun K hK => ?_) AllReadyH.nil
      obtain ⟨v2, y2, hr2, hA2, hg2, _⟩ := run_app y1 w1.heap.size 27 v1 M.length (ol M) hA (some ⟨wd.heap.size, 0, none⟩) 1 1 [o] (own_one hV) (by have := HN.out; omega) (Below.size hb4)
      refine step_append rfl _ _ 27 rfl v1 (.slice (some ⟨wd.heap.size, 0, none⟩) 1 1) rfl rfl hr2 ?_
      have hbb : Below w1.heap.size w1 y2 := below_own hb4 hA hg2
      obtain ⟨A2, c2, rfl, _⟩ := own_que2 hA2
      rw [← ol_append] at hA2
      refine hK.out _ _ (by exact Fr.of_below hbb) (fun hHeld => ?_)
      clear hK K
      (repeat (first | simp only [Act.put] | simp only [List.setIfInBounds_toArray] | simp only [List.set_cons_succ] | simp only [List.set_cons_zero]))
      refine wpAnyH_ready (rs := [10]) (by kernel_rfl) (by simp) ?_
      refine AllReadyH.cons (o := ⟨some 29, _, _, _, _, _⟩) rfl (fun K hK => ?_) AllReadyH.nil
      go_simp
      refine (HS.out _ _ _ hA2).mono ?_
      rintro e y3 ⟨A3, c3, rfl, hb3⟩
      have hbc : Below w1.heap.size w1 y3 := hbb.trans (hb3.out.1.mono (Below.size hbb))
      refine hK.out _ _ (by exact Fr.of_below hbc) (fun hHeld => ?_)
      clear hK K
      (repeat (first | simp only [Act.put] | simp only [List.setIfInBounds_toArray] | simp only [List.set_cons_succ] | simp only [List.set_cons_zero]))
      refine wpAnyH_take (i := 11) (oi := ⟨some 30, _, _, _, _, _⟩) (v := ?_) rfl (by kernel_rfl) (by kernel_rfl) (by kernel_rfl) (fun _ _ _ h => h) (Or.inl ⟨by kernel_rfl, ?_⟩) (by assumption) ?_
      rotate_left
      · (intro w hSw; obtain ⟨hs0, hs1, hs2, hs3, hs4, hs5⟩ := six_of (HCo.out _ hSw); clear hSw; go_simp; try with_reducible rfl)
      (repeat (first | simp only [Act.put] | simp only [List.setIfInBounds_toArray] | simp only [List.set_cons_succ] | simp only [List.set_cons_zero]))
      refine wpAnyH_take (i := 12) (oi := ⟨some 31, _, _, _, _, _⟩) (v := ?_) rfl (by kernel_rfl) (by kernel_rfl) (by kernel_rfl) (fun _ _ _ h => h) (Or.inl ⟨by kernel_rfl, ?_⟩) (by assumption) ?_
      rotate_left
      · (intro w hSw; obtain ⟨hs0, hs1, hs2, hs3, hs4, hs5⟩ := six_of (HCo.out _ hSw); clear hSw; go_simp; try with_reducible rfl)
      (repeat (first | simp only [Act.put] | simp only [List.setIfInBounds_toArray] | simp only [List.set_cons_succ] | simp only [List.set_cons_zero]))
      refine wpAnyH_ready (rs := [13]) (by kernel_rfl) (by simp) ?_
      refine AllReadyH.cons (o := ⟨none, _, _, _, _, _⟩) rfl (fun K hK => ?_) AllReadyH.nil
      have zc := HCc.out _ hbc
      have zf := (HCb.out _ hbc).f (k := 0)
      go_simp
      (try go_wp2_with fail)
      refine hK.out _ _ (by exact (Fr.of_below hbc : Fr (fun k => k = wb) w1 y3).set (p := ⟨wb, 0, none⟩) (.inl rfl) _) (fun hHeld => ?_)
      clear hK K
      (repeat (first | simp only [Act.put] | simp only [List.setIfInBounds_toArray] | simp only [List.set_cons_succ] | simp only [List.set_cons_zero]))
      refine wpAnyH_done (by kernel_rfl) ?_ _
      have hF := Lib.hid (radd_end (HCb.out _ hbc) hb3.out.2 HB1.out hbc)
      clear hA2 hHeld zc zf hbb hb3
      go_wp2_with fail
      go_ret
      exact ⟨0, _, rfl, Lib.hid ⟨hF.out.1, hF.out.2, .inr (.inr ⟨hg, hid, .inr ⟨hl, rfl, rfl⟩⟩)⟩⟩
theorem rAdd_c (wb : Nat) (M : List Od) (o : Od) (w : World) (H : RB w wb M) (hn : M.length ≤ 1000) (hok : ∀ x ∈ M, Od.ok w x) (ho : Od.ok w o) :
    Calls Try.prog 18 #[.pointer (some ⟨wb, 0, none⟩), (.agg #[.int .u64 o.id, .int .i64 o.acc, .int .i64 o.side, .int .i64 o.price, .int .i64 o.qty, .int .u64 o.seq])] w fun e w' => ∃ c M', e = .returned (.int .i64 c) ∧ Hid (RAdd w w' wb M M' o c) := by
  cases hg : goodO o with
  | false => exact radd_bad wb M o w H hn hg
  | true =>
    by_cases hx : ∃ x ∈ M, x.id = o.id
    · obtain ⟨x, h1, h2⟩ := hx
      exact radd_there wb M o w H hn hg x h1 h2
    · have hid : ∀ x ∈ M, ¬ x.id = o.id := fun x h1 h2 => hx ⟨x, h1, h2⟩
      by_cases hl : 64 ≤ M.length
      · exact radd_full wb M o w H hn hg hid hl
      · exact radd_put wb M o w H hn hok ho hg hid (by omega)
end Go.Proofs.Ytemmbgbmkihbaaa
