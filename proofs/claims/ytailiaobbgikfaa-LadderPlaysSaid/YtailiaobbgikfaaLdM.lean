/- ladder: put, where there is no row yet. (By mkldm.py.) -/
import Derived.Test.YtailiaobbgikfaaLdL
namespace Go.Proofs.Ytailiaobbgikfaa
open Go.RowKit Go.Shelf Go.Sort Go.Maps

theorem row_one (r : Rw) : ∀ u ∈ r.cs, r.v.oneCell' = true → u.oneCell' = true := by
  intro u hu hv
  rcases List.mem_cons.1 hu with rfl | hu
  · rfl
  · rw [List.mem_singleton.1 hu]; exact hv
theorem rows_one {w : World} {R : List Rw} (h : ∀ r ∈ R, w.ownsRow 0 24 6 r.v r.q.length (ol r.q)) : ∀ u ∈ rl R, u.oneCell' = true := by
  intro u hu
  obtain ⟨r, hr, hu⟩ := List.mem_flatMap.1 hu
  obtain ⟨A, c, hv, _⟩ := own_que2 (h r hr)
  exact row_one r u hu (by rw [hv]; rfl)
def RowIns (W w3 : World) (v v2 : Value) (N : Nat) (R2 : List Rw) : Prop :=
  w3.ownsRow 0 100 2 v2 N (rl R2) ∧ W.grownBy w3 v.ownBlock ∧ (v2.ownBlock = v.ownBlock ∨ v2.ownBlock = some W.heap.size)
theorem ins_keep {W w3 : World} {v : Value} {base n : Nat} {xs : List Value} (hr : W.ownsRow base 100 2 v n xs) (hg : W.grownBy w3 v.ownBlock) {j : Nat} {o : Obj} (h : W.heap[j]? = some o) (hne : ∀ cs, o ≠ .cells cs 100 (0, 0)) : w3.heap[j]? = some o :=
  (hg.block j (blk_lt h) (fun e => by
    obtain ⟨cs, hcs⟩ := own_blk hr e.symm
    rw [h] at hcs
    exact hne cs (Option.some.inj hcs))).trans h
theorem map_keep {W w3 : World} {v : Value} {base n b k : Nat} {xs : List Value} {D : DataW Value} (hr : W.ownsRow base 100 2 v n xs) (hg : W.grownBy w3 v.ownBlock) (h : W.ownsMap Try.prog 3 RV b k D) : w3.ownsMap Try.prog 3 RV b k D := by
  obtain ⟨es, clock, hb, F, hs, hD⟩ := h
  exact ⟨es, clock, ins_keep hr hg hb (fun cs e => by cases e), F, hs, hD⟩
theorem turn_keep {W w4 : World} {m j : Nat} (ht : W.mapTurned w4 m) {cs : Array Value} {T : TypeId} (h : W.heap[j]? = some (.cells cs T (0, 0))) : w4.heap[j]? = some (.cells cs T (0, 0)) := by
  refine (ht.grown.block j (blk_lt h) (fun e => ?_)).trans h
  injection e with e
  subst e
  obtain ⟨es, clock, _, _, hb, _⟩ := ht
  rw [h] at hb; cases hb
theorem turn_cell {W w4 : World} {m j k : Nat} {u : Value} (ht : W.mapTurned w4 m) (h : W.cell? ⟨j, k, none⟩ = some u) : w4.cell? ⟨j, k, none⟩ = some u := by
  cases e : W.heap[j]? with
  | none => simp [World.cell?, e] at h
  | some ob =>
    cases ob with
    | cells cs T fz =>
      have hj := World.block_lt_of_cell? W ⟨j, k, none⟩ h
      have : w4.heap[j]? = W.heap[j]? := ht.grown.block j hj (fun e' => by
        injection e' with e'
        subst e'
        obtain ⟨es, clock, _, _, hb, _⟩ := ht
        rw [e] at hb; cases hb)
      rw [World.cell?_of_block (w := W) (a := ⟨j, k, none⟩) this]; exact h
    | _ => simp [World.cell?, e] at h
theorem own_turn {W w4 : World} {m base n size : Nat} {T : TypeId} {v : Value} {xs : List Value} (ht : W.mapTurned w4 m) (h : W.ownsRow base T size v n xs) : w4.ownsRow base T size v n xs := by
  obtain ⟨h1, h2⟩ := h
  refine ⟨h1, ?_⟩
  rcases h2 with hn | ⟨k, cap, cur, rfl, hb, hk, rest⟩
  · exact .inl hn
  · exact .inr ⟨k, cap, cur, rfl, hb, turn_keep ht hk, rest⟩
/-- What there is when a row was put in, with an order. -/
def NewIs (w w' : World) (m : Nat) (D : DataW Value) (v v2 v' : Value) (R : List Rw) (k : Nat) (o : Od) : Prop :=
  w'.ownsRow 0 24 6 v' 1 (ol [o]) ∧ w'.ownsRow 0 100 2 v2 (R.length + 1) (rl (R.take k ++ ⟨o.price, v', [o]⟩ :: R.drop k)) ∧
    w'.ownsMap Try.prog 3 RV m 3 (D.put (.int .i64 o.side) (.held v2)) ∧ Fr (fun j => j = m ∨ v.ownBlock = some j) w w' ∧ (∃ j, v'.ownBlock = some j ∧ w.heap.size ≤ j) ∧ (v2.ownBlock = v.ownBlock ∨ ∃ j, v2.ownBlock = some j ∧ w.heap.size ≤ j)
theorem new_end {w w1 w3 w2 W6 : World} {m g c k : Nat} {D : DataW Value} {v v' : Value} {R R2 : List Rw} {o : Od} (G : Gw w w1) (hI : RowIns w1 w3 v (.slice (some ⟨g, 0, none⟩) R2.length c) R2.length R2) (hturn : w3.drew.mapTurned w2 m)
    (hown2 : w2.ownsMap Try.prog 3 RV m 3 (D.put (.int .i64 o.side) (.held (.slice (some ⟨g, 0, none⟩) R2.length c)))) (hR2 : R.take k ++ (⟨o.price, v0, []⟩ : Rw) :: R.drop k = R2) (hk : k ≤ R.length)
    (F : W6.ownsRow 0 24 6 v' (0 + 1) (ol [o]) ∧ W6.ownsRow 0 100 2 (.slice (some ⟨g, 0, none⟩) R2.length c) R2.length (rl (R2.take k ++ ⟨o.price, v', [o]⟩ :: R2.drop (k + 1))) ∧
      Fr (fun j => (Value.slice (some ⟨g, 0, none⟩) R2.length c).ownBlock = some j ∨ v0.ownBlock = some j) w2 W6 ∧ (v'.ownBlock = v0.ownBlock ∨ ∃ j, v'.ownBlock = some j ∧ w2.heap.size ≤ j)) :
    NewIs w W6 m D v (.slice (some ⟨g, 0, none⟩) R2.length c) v' R k o := by
  obtain ⟨f1, f2, f3, f4⟩ := F
  have hl2 : R2.length = R.length + 1 := by rw [← hR2, List.length_append, List.length_take, List.length_cons, List.length_drop]; omega
  have ht : R2.take k = R.take k := by
    rw [← hR2, List.take_append_of_le_length (by rw [List.length_take]; omega), List.take_take, Nat.min_self]
  have hd : R2.drop (k + 1) = R.drop k := by
    have : (R.take k).length = k := by rw [List.length_take]; omega
    rw [← hR2, List.drop_append, this, List.drop_eq_nil_of_le (by omega), List.nil_append, show k + 1 - k = 1 by omega]
    rfl
  rw [ht, hd] at f2
  have hr2 : w2.ownsRow 0 100 2 (.slice (some ⟨g, 0, none⟩) R2.length c) R2.length (rl R2) := own_turn hturn (show w3.drew.ownsRow _ _ _ _ _ _ from hI.1)
  have hgm : m ≠ g := by
    intro e
    obtain ⟨cs, hcs⟩ := own_blk hr2 (show _ = some g from rfl)
    obtain ⟨es, clock, hb, _⟩ := hown2
    rw [e, hcs] at hb; cases hb
  have h23 : w1.heap.size ≤ w2.heap.size := Nat.le_trans hI.2.1.size hturn.grown.size
  refine ⟨f1, by rw [← hl2]; exact f2, ownsMap_fr hown2 f3 (fun h => by rcases h with h | h; injection h with h; exact hgm h.symm; cases h), ?_, ?_, ?_⟩
  · have a1 : Fr (fun j => j = m ∨ v.ownBlock = some j) w w3 := (Fr.of_below G.b).grown hI.2.1 (fun j e => .inl (.inr e))
    have a2 : Fr (fun j => j = m ∨ v.ownBlock = some j) w w2 := a1.drew.grown hturn.grown (fun j e => by injection e with e; exact .inl (.inl e.symm))
    refine a2.trans f3 (fun j h => ?_)
    rcases h with h | h
    · rcases hI.2.2 with e | e
      · rw [e] at h; exact .inl (.inr h)
      · rw [e] at h
        injection h with h
        exact .inr (by have := G.b.size; omega)
    · cases h
  · rcases f4 with e | ⟨j, e, hj⟩
    · rcases f1.2 with ⟨_, h0⟩ | ⟨q, cap, cur, hv, _⟩
      · cases h0
      · rw [hv] at e; cases e
    · exact ⟨j, e, by have := G.b.size; omega⟩
  · rcases hI.2.2 with e | e
    · exact .inl e
    · exact .inr ⟨_, e, G.b.size⟩
set_option maxHeartbeats 4000000 in
set_option maxRecDepth 100000 in
theorem put_new (p m : Nat) (s1 s2 : Sd) (o : Od) (w : World) (H : Bk w (some ⟨p, 0, none⟩) (some m) s1 s2) (hwf : (Lit.int .i64 o.side).wf = true) (R : List Rw) (hR : rsOf s1 s2 o.side = R) (hs : R.Pairwise (fun a b => betN o.side a.pr b.pr = true))
    (hn : R.length ≤ 1000) (k : Nat) (hk : atN o.side o.price R = k) (hno : ¬ (k < R.length ∧ (R[k]!).pr = o.price)) :
    Calls Try.prog 63 #[.pointer (some ⟨p, 0, none⟩), .agg #[.int .u64 o.id, .int .i64 o.acc, .int .i64 o.side, .int .i64 o.price, .int .i64 o.qty, .int .u64 o.seq]] w fun e w' => e = .returned (.tuple #[]) ∧ ∃ v2 v', Hid (NewIs w w' m (mapD s1 s2) (rowsOf s1 s2 o.side) v2 v' R k o) := by
  have mixed : Try.prog.follows .mixedOrders = true := by kernel_rfl
  have hkl : k ≤ R.length := by rw [← hk]; exact at_le _ _ _
  obtain ⟨w0, hw0⟩ : ∃ w0, w.alloc (.cells #[.int .u64 o.id, .int .i64 o.acc, .int .i64 o.side, .int .i64 o.price, .int .i64 o.qty, .int .u64 o.seq] 24) = w0 := ⟨_, rfl⟩
  have G0 : Gw w w0 := by rw [← hw0]; exact (Gw.refl w).alloc _
  have hO0 : Cl 24 w0 w.heap.size (OC o) := by rw [← hw0]; exact hd_last rfl
  obtain ⟨x0, x1, x2, x3, x4, x5⟩ := six_of hO0
  obtain ⟨hpl, hpc⟩ : p < w.heap.size ∧ w0.cell? ⟨p, 0, none⟩ = some (.map (some m)) := by
    refine ⟨H.lt (.inl rfl), ?_⟩
    rcases (H.gw G0).shape with ⟨h, _⟩ | ⟨pp, hb, hp⟩
    · cases h
    · injection hb with hb'
      injection hb' with hb''
      subst hb''
      rw [cell_of_row _ _ _ _ _ _ hp]; rfl
  have hlk := fun q => look_side ((H.gw (G0.trans ⟨below_drewN (Below.refl _ _) q, Nat.le_add_right _ _⟩)).mp m rfl) H.t1 H.t2 o.side hwf
  have hown := (H.gw G0).own o.side
  rw [hR] at hown
  obtain ⟨A, c0, hv, hra⟩ := own_rows hown
  rw [hv] at hown hlk
  have HF : ∀ q, Calls Try.prog 57 #[.slice A R.length c0, .int .i64 o.side, .int .i64 o.price] (w0.drewN q) fun e w' => e = .returned (.tuple #[.int .i64 (k : Nat), .bool false]) ∧ Gw (w0.drewN q) w' := fun q => by
    have := find_c A R.length c0 R o.side o.price (w0.drewN q) hra hs hn
    rw [hk] at this
    have e : (decide (k < R.length) && (R[k]!).pr == o.price) = false := by
      by_cases h1 : k < R.length
      · have h2 : ¬ (R[k]!).pr = o.price := fun h => hno ⟨h1, h⟩
        have h3 : ((R[k]!).pr == o.price) = false := by
          cases h4 : ((R[k]!).pr == o.price) with
          | false => rfl
          | true => exact absurd (by simpa using h4) (by simpa using h2)
        rw [h3, Bool.and_false]
      · simp [h1]
    rw [e] at this
    exact this
  have HF' := Lib.hid HF
  have HH := Lib.hid H
  have HRo := Lib.hid hown
  have HRw : Hid (w.ownsRow 0 100 2 (.slice A R.length c0) R.length (rl R)) := by have := H.own o.side; rw [hR, hv] at this; exact this
  have H1 : Hid (∀ u ∈ rl R, u.oneCell' = true) := rows_one (fun r hr => H.q r (rsOf_mem (by rw [hR]; exact hr)))
  have hml : m < w.heap.size := H.lt (.inr (.inl rfl))
  obtain ⟨ob, hob⟩ : ∃ ob, w.heap.size = ob := ⟨_, rfl⟩
  rw [hob] at hO0 x0 x1 x2 x3 x4 x5 hpl hml
  have HPl := Lib.hid (And.intro hpl hml)
  have HV := Lib.hid hv
  clear H HF hra hno hown hv hpl hml
  go_enter Try.func63, Try.ntmps63
  go_wp2_with fail
  go_quiet (fail)
  go_wp2_with ((with_reducible refine (HF'.out _).mono ?_); rintro e w1 ⟨rfl, k1⟩; have G1 : Hid (Gw w w1) := (G0.trans ⟨below_drewN (Below.refl _ _) _, Nat.le_add_right _ _⟩).trans k1; have G01 : Gw w0 w1 := Gw.trans ⟨below_drewN (Below.refl _ _) _, Nat.le_add_right _ _⟩ k1; obtain ⟨y0, y1, y2, y3, y4, y5⟩ := six_of (hO0.gw G01); have hO1 : Cl 24 w1 ob (OC o) := hO0.gw G01; have hp1 : w1.cell? ⟨p, 0, none⟩ = some (.map (some m)) := cell_keep (S := fun _ => False) (Fr.of_below G01.b) (fun h => h) hpc; clear x0 x1 x2 x3 x4 x5 hpc hlk k1)
  have HIR : Hid (Calls Try.prog 84 #[.slice A R.length c0, .int .i64 (k : Nat), .slice (some ⟨w1.heap.size, 0, none⟩) 1 1] (w1.alloc (.cells #[.int .i64 o.price, .slice none 0 0] 100)) fun e w3 => ∃ v2, e = .returned v2 ∧ Hid (RowIns (w1.alloc (.cells #[.int .i64 o.price, .slice none 0 0] 100)) w3 (.slice A R.length c0) v2 (R.length + 1) (R.take k ++ ⟨o.price, v0, []⟩ :: R.drop k))) := by
    have hr : (w1.alloc (.cells #[.int .i64 o.price, .slice none 0 0] 100)).ownsRow 0 100 2 (.slice A R.length c0) R.length (rl R) := own_fr HRo.out (S := fun _ => False) (Fr.of_below (G01.alloc _).b) (fun _ _ h => h)
    have hlt := fun j hj => (own_lt HRo.out j hj).2
    refine (ins_R _ 0 R.length k (.slice A R.length c0) (rl R) [.int .i64 o.price, .slice none 0 0] w1.heap.size hr (Nat.zero_le _) hn hkl (fun e => by have := hlt _ e; have := G01.b.size; omega) (hd_last rfl) rfl H1.out (fun u hu => by rcases List.mem_cons.1 hu with rfl | hu; rfl; rw [List.mem_singleton.1 hu]; rfl)).mono fun e w3 ⟨v2, he, h⟩ => ⟨v2, he, Lib.hid ⟨?_, h.out.2.1, h.out.2.2⟩⟩
    rw [← rl_ins R k hkl]
    exact h.out.1
  obtain ⟨R2, hR2⟩ : ∃ R2, R.take k ++ (⟨o.price, v0, []⟩ : Rw) :: R.drop k = R2 := ⟨_, rfl⟩
  have hl2 : R2.length = R.length + 1 := by rw [← hR2, List.length_append, List.length_take, List.length_cons, List.length_drop]; omega
  have hk2 : k < R2.length := by omega
  have hat2 : R2[k]! = ⟨o.price, v0, []⟩ := by
    rw [← hR2, getElem!_pos _ k (by rw [hR2]; exact hk2), List.getElem_append_right (by rw [List.length_take]; omega)]
    simp only [List.length_take, Nat.min_eq_left hkl, Nat.sub_self, List.getElem_cons_zero]
  rw [hR2, ← hl2] at HIR
  have HR1 : Hid ((w1.alloc (.cells #[.int .i64 o.price, .slice none 0 0] 100)).ownsRow 0 100 2 (.slice A R.length c0) R.length (rl R)) := own_fr HRo.out (S := fun _ => False) (Fr.of_below (G01.alloc _).b) (fun _ _ h => h)
  have HOa : Hid (Cl 24 (w1.alloc (.cells #[.int .i64 o.price, .slice none 0 0] 100)) ob (OC o)) := hd_prev (blk_lt hO1) hO1
  have HBa : Hid (Bk (w1.alloc (.cells #[.int .i64 o.price, .slice none 0 0] 100)) (some ⟨p, 0, none⟩) (some m) s1 s2) := HH.out.gw (G1.out.alloc (.cells #[.int .i64 o.price, .slice none 0 0] 100))
  have HGa : Hid (Gw w (w1.alloc (.cells #[.int .i64 o.price, .slice none 0 0] 100))) := G1.out.alloc _
  have HK : Hid (k < R2.length ∧ (R2[k]!).pr = o.price) := ⟨hk2, by rw [hat2]⟩
  have HC : Hid ((rl R2)[k * 2 + 1]? = some v0) := by
    have := rl_get R2 k 1 hk2 (by omega)
    rw [this, hat2]
    rfl
  have HR2 := Lib.hid (And.intro hR2 hkl)
  have hk2I : (k : Int) < (R2.length : Int) := by omega
  clear hk hat2 hR2 hl2 y0 y1 y2 y3 y4 y5 hp1 hO1 hkl
  refine (HIR.out).mono ?_
  rintro e w3 ⟨v2, rfl, hI⟩
  obtain ⟨g, c, hv2, _, _⟩ := row_at hI.out.1 HK.out.1
  subst hv2
  have hO3 : Cl 24 w3 ob (OC o) := ins_keep HR1.out hI.out.2.1 HOa.out (fun cs e => by injection e with _ h; exact absurd h (by decide))
  have hp3 : w3.cell? ⟨p, 0, none⟩ = some (.map (some m)) := by
    rcases HBa.out.shape with ⟨h, _⟩ | ⟨pp, hb, hp⟩
    · cases h
    · injection hb with hb'
      injection hb' with hb''
      subst hb''
      have := ins_keep HR1.out hI.out.2.1 hp (fun cs e => by injection e with _ h; exact absurd h (by decide))
      rw [cell_of_row _ _ _ _ _ _ this]; rfl
  have hm3 : w3.drew.ownsMap Try.prog 3 RV m 2 (mapD s1 s2) := (map_keep HR1.out hI.out.2.1 (HBa.out.mp m rfl)).drew
  obtain ⟨w2, hrun, hown2, hturn⟩ := hm3.store keyI Try.underlying92 (by decide) (keyOf_int_mk Try.underlying3 hwf) (show RV (.slice (some ⟨g, 0, none⟩) R2.length c) = some (.held (.slice (some ⟨g, 0, none⟩) R2.length c), []) from rfl)
  have HT := Lib.hid (And.intro hown2 hturn)
  have HO3 := Lib.hid hO3
  clear hown2 hturn
  obtain ⟨z0, z1, z2, z3, z4, z5⟩ := six_of hO3
  go_wp2_with fail
  refine wp_region_held_drew (S := fun W => Cl 24 W ob (OC o) ∧ W.cell? ⟨p, 0, none⟩ = some (.map (some m))) (by kernel_rfl) ⟨hd_drew hO3, hp3⟩ (fun hHeld => ?_)
  refine wpAnyH_take (i := 0) (oi := ⟨some 33, _, _, _, _, _⟩) (v := ?_) rfl (by kernel_rfl) (by kernel_rfl) (by kernel_rfl) (fun _ _ _ h => h) (Or.inl ⟨by kernel_rfl, ?_⟩) (by assumption) ?_
  rotate_left
  · (intro w hSw; obtain ⟨hsw, hs7⟩ := hSw; obtain ⟨hs0, hs1, hs2, hs3, hs4, hs5⟩ := six_of hsw; clear hsw; go_simp; try with_reducible rfl)
  (repeat (first | simp only [Act.put] | simp only [List.setIfInBounds_toArray] | simp only [List.set_cons_succ] | simp only [List.set_cons_zero]))
  refine wpAnyH_take (i := 1) (oi := ⟨some 34, _, _, _, _, _⟩) (v := ?_) rfl (by kernel_rfl) (by kernel_rfl) (by kernel_rfl) (fun _ _ _ h => h) (Or.inl ⟨by kernel_rfl, ?_⟩) (by assumption) ?_
  rotate_left
  · (intro w hSw; obtain ⟨hsw, hs7⟩ := hSw; obtain ⟨hs0, hs1, hs2, hs3, hs4, hs5⟩ := six_of hsw; clear hsw; go_simp; try with_reducible rfl)
  (repeat (first | simp only [Act.put] | simp only [List.setIfInBounds_toArray] | simp only [List.set_cons_succ] | simp only [List.set_cons_zero]))
  refine wpAnyH_take (i := 2) (oi := ⟨some 35, _, _, _, _, _⟩) (v := ?_) rfl (by kernel_rfl) (by kernel_rfl) (by kernel_rfl) (fun _ _ _ h => h) (Or.inl ⟨by kernel_rfl, ?_⟩) (by assumption) ?_
  rotate_left
  · (intro w hSw; obtain ⟨hsw, hs7⟩ := hSw; obtain ⟨hs0, hs1, hs2, hs3, hs4, hs5⟩ := six_of hsw; clear hsw; go_simp; try with_reducible rfl)
  (repeat (first | simp only [Act.put] | simp only [List.setIfInBounds_toArray] | simp only [List.set_cons_succ] | simp only [List.set_cons_zero]))
  refine wpAnyH_take (i := 3) (oi := ⟨some 36, _, _, _, _, _⟩) (v := ?_) rfl (by kernel_rfl) (by kernel_rfl) (by kernel_rfl) (fun _ _ _ h => h) (Or.inl ⟨by kernel_rfl, ?_⟩) (by assumption) ?_
  rotate_left
  · (intro w hSw; obtain ⟨hsw, hs7⟩ := hSw; obtain ⟨hs0, hs1, hs2, hs3, hs4, hs5⟩ := six_of hsw; clear hsw; go_simp; try with_reducible rfl)
  (repeat (first | simp only [Act.put] | simp only [List.setIfInBounds_toArray] | simp only [List.set_cons_succ] | simp only [List.set_cons_zero]))
  refine wpAnyH_take (i := 4) (oi := ⟨some 37, _, _, _, _, _⟩) (v := ?_) rfl (by kernel_rfl) (by kernel_rfl) (by kernel_rfl) (fun _ _ _ h => h) (Or.inl ⟨by kernel_rfl, ?_⟩) (by assumption) ?_
  rotate_left
  · (intro w hSw; obtain ⟨hsw, hs7⟩ := hSw; obtain ⟨hs0, hs1, hs2, hs3, hs4, hs5⟩ := six_of hsw; clear hsw; go_simp; try with_reducible rfl)
  (repeat (first | simp only [Act.put] | simp only [List.setIfInBounds_toArray] | simp only [List.set_cons_succ] | simp only [List.set_cons_zero]))
  refine wpAnyH_take (i := 5) (oi := ⟨some 38, _, _, _, _, _⟩) (v := ?_) rfl (by kernel_rfl) (by kernel_rfl) (by kernel_rfl) (fun _ _ _ h => h) (Or.inl ⟨by kernel_rfl, ?_⟩) (by assumption) ?_
  rotate_left
  · (intro w hSw; obtain ⟨hsw, hs7⟩ := hSw; obtain ⟨hs0, hs1, hs2, hs3, hs4, hs5⟩ := six_of hsw; clear hsw; go_simp; try with_reducible rfl)
  (repeat (first | simp only [Act.put] | simp only [List.setIfInBounds_toArray] | simp only [List.set_cons_succ] | simp only [List.set_cons_zero]))
  refine wpAnyH_take (i := 6) (oi := ⟨some 39, _, _, _, _, _⟩) (v := ?_) rfl (by kernel_rfl) (by kernel_rfl) (by kernel_rfl) (fun _ _ _ h => h) (Or.inl ⟨by kernel_rfl, ?_⟩) (by assumption) ?_
  rotate_left
  · (intro w hSw; obtain ⟨hsw, hs7⟩ := hSw; obtain ⟨hs0, hs1, hs2, hs3, hs4, hs5⟩ := six_of hsw; clear hsw; go_simp; try with_reducible rfl)
  (repeat (first | simp only [Act.put] | simp only [List.setIfInBounds_toArray] | simp only [List.set_cons_succ] | simp only [List.set_cons_zero]))
  refine wpAnyH_ready (rs := [7]) (by kernel_rfl) (by simp) ?_
  refine AllReadyH.cons (o := ⟨none, _, _, _, _, _⟩) rfl (fun K hK => ?_) AllReadyH.nil
  go_simp
  skip
  refine hK.out _ _ (by exact ⟨turn_keep HT.out.2 (hd_drew HO3.out), turn_cell HT.out.2 hHeld.2⟩) (fun hHeld => ?_)
  clear hK K
  (repeat (first | simp only [Act.put] | simp only [List.setIfInBounds_toArray] | simp only [List.set_cons_succ] | simp only [List.set_cons_zero]))
  refine wpAnyH_done (by kernel_rfl) ?_ _
  clear z0 z1 z2 z3 z4 z5 hp3 hO3 hrun hHeld
  have hO : Cl 24 w2 ob (OC o) := turn_keep HT.out.2 (hd_drew HO3.out)
  have HR : Hid (w2.ownsRow 0 100 2 (.slice (some ⟨g, 0, none⟩) R2.length c) R2.length (rl R2)) := own_turn HT.out.2 (show w3.drew.ownsRow _ _ _ _ _ _ from hI.out.1)
  have hcq : w2.cell? ⟨g, k * 2 + 1, none⟩ = some (.slice none 0 0) := (own_cell HR.out rfl HC.out).1
  go_wp2_with fail
  have HQ : Hid (w2.ownsRow 0 24 6 (.slice none 0 0) 0 (ol [])) := ⟨rfl, .inl ⟨rfl, rfl⟩⟩
  have HP : Hid (∀ W, Gw w2 W → Calls Try.prog 58 #[.slice none 0 0, .agg #[.int .u64 o.id, .int .i64 o.acc, .int .i64 o.side, .int .i64 o.price, .int .i64 o.qty, .int .u64 o.seq]] W fun e w' => e = .returned (.int .i64 0) ∧ Gw W w') := fun W hW => place_c none 0 0 [] o W ⟨rfl, .inl rfl⟩ List.Pairwise.nil (Nat.zero_le _)
  have HI : Hid (∀ W4 vb, Gw w2 W4 → w2.heap.size ≤ vb → Cl 24 W4 vb (OC o) → Calls Try.prog 85 #[.slice none 0 0, .int .i64 0, .slice (some ⟨vb, 0, none⟩) 1 1] W4 fun e w5 => ∃ v', e = .returned v' ∧ Hid (InsOf W4 w5 (.slice none 0 0) v' 0 [o])) := fun W4 vb hG hle hvb => by
    refine (ins_O W4 0 0 0 (.slice none 0 0) [] (encO o) vb ⟨rfl, .inl ⟨rfl, rfl⟩⟩ (Nat.zero_le _) (Nat.zero_le _) (Nat.zero_le _) (fun e => by cases e) hvb rfl (fun u hu => by cases hu) (enc_one o)).mono fun e w5 ⟨v', he, h⟩ => ⟨v', he, Lib.hid ⟨?_, h.out.2.1, h.out.2.2⟩⟩
    have := h.out.1
    simpa [ol] using this
  have HB : Hid (∀ j, (Value.slice none 0 0).ownBlock = some j → j < ob) := fun j hj => by cases hj
  have HG : Hid (ob ≠ g) := by
    rcases hI.out.2.2 with e | e
    · have h1 := (own_lt HRo.out g (by rw [← e]; rfl)).2
      have h2 := (own_lt HRw.out g (by rw [← e]; rfl)).2
      show ob ≠ g
      omega
    · have e' : g = _ := Option.some.inj (show some g = _ from e)
      have h3 := blk_lt HOa.out
      show ob ≠ g
      rw [e']
      exact Nat.ne_of_lt h3
  have HEnd : Hid (∀ v' W6, _ → NewIs w W6 m (mapD s1 s2) (rowsOf s1 s2 o.side) (.slice (some ⟨g, 0, none⟩) R2.length c) v' R k o) := fun v' W6 hF => by
    rw [HV.out]
    exact new_end HGa.out hI.out HT.out.2 HT.out.1 HR2.out.1 HR2.out.2 hF
  refine wp_region_held_drew (S := fun W => Cl 24 W ob (OC o)) (by kernel_rfl) (hd_drew hO) (fun hHeld => ?_)
  refine wpAnyH_take (i := 0) (oi := ⟨some 45, _, _, _, _, _⟩) (v := ?_) rfl (by kernel_rfl) (by kernel_rfl) (by kernel_rfl) (fun _ _ _ h => h) (Or.inl ⟨by kernel_rfl, ?_⟩) (by assumption) ?_
  rotate_left
  · (intro w hSw; obtain ⟨hs0, hs1, hs2, hs3, hs4, hs5⟩ := six_of hSw; clear hSw; go_simp; try with_reducible rfl)
  (repeat (first | simp only [Act.put] | simp only [List.setIfInBounds_toArray] | simp only [List.set_cons_succ] | simp only [List.set_cons_zero]))
  refine wpAnyH_take (i := 1) (oi := ⟨some 46, _, _, _, _, _⟩) (v := ?_) rfl (by kernel_rfl) (by kernel_rfl) (by kernel_rfl) (fun _ _ _ h => h) (Or.inl ⟨by kernel_rfl, ?_⟩) (by assumption) ?_
  rotate_left
  · (intro w hSw; obtain ⟨hs0, hs1, hs2, hs3, hs4, hs5⟩ := six_of hSw; clear hSw; go_simp; try with_reducible rfl)
  (repeat (first | simp only [Act.put] | simp only [List.setIfInBounds_toArray] | simp only [List.set_cons_succ] | simp only [List.set_cons_zero]))
  refine wpAnyH_take (i := 2) (oi := ⟨some 47, _, _, _, _, _⟩) (v := ?_) rfl (by kernel_rfl) (by kernel_rfl) (by kernel_rfl) (fun _ _ _ h => h) (Or.inl ⟨by kernel_rfl, ?_⟩) (by assumption) ?_
  rotate_left
  · (intro w hSw; obtain ⟨hs0, hs1, hs2, hs3, hs4, hs5⟩ := six_of hSw; clear hSw; go_simp; try with_reducible rfl)
  (repeat (first | simp only [Act.put] | simp only [List.setIfInBounds_toArray] | simp only [List.set_cons_succ] | simp only [List.set_cons_zero]))
  refine wpAnyH_take (i := 3) (oi := ⟨some 48, _, _, _, _, _⟩) (v := ?_) rfl (by kernel_rfl) (by kernel_rfl) (by kernel_rfl) (fun _ _ _ h => h) (Or.inl ⟨by kernel_rfl, ?_⟩) (by assumption) ?_
  rotate_left
  · (intro w hSw; obtain ⟨hs0, hs1, hs2, hs3, hs4, hs5⟩ := six_of hSw; clear hSw; go_simp; try with_reducible rfl)
  (repeat (first | simp only [Act.put] | simp only [List.setIfInBounds_toArray] | simp only [List.set_cons_succ] | simp only [List.set_cons_zero]))
  refine wpAnyH_take (i := 4) (oi := ⟨some 49, _, _, _, _, _⟩) (v := ?_) rfl (by kernel_rfl) (by kernel_rfl) (by kernel_rfl) (fun _ _ _ h => h) (Or.inl ⟨by kernel_rfl, ?_⟩) (by assumption) ?_
  rotate_left
  · (intro w hSw; obtain ⟨hs0, hs1, hs2, hs3, hs4, hs5⟩ := six_of hSw; clear hSw; go_simp; try with_reducible rfl)
  (repeat (first | simp only [Act.put] | simp only [List.setIfInBounds_toArray] | simp only [List.set_cons_succ] | simp only [List.set_cons_zero]))
  refine wpAnyH_take (i := 6) (oi := ⟨some 51, _, _, _, _, _⟩) (v := ?_) rfl (by kernel_rfl) (by kernel_rfl) (by kernel_rfl) (fun _ _ _ h => h) (Or.inl ⟨by kernel_rfl, ?_⟩) (by assumption) ?_
  rotate_left
  · (intro w hSw; obtain ⟨hs0, hs1, hs2, hs3, hs4, hs5⟩ := six_of hSw; clear hSw; go_simp; try with_reducible rfl)
  (repeat (first | simp only [Act.put] | simp only [List.setIfInBounds_toArray] | simp only [List.set_cons_succ] | simp only [List.set_cons_zero]))
  refine wpAnyH_ready (rs := [5, 7]) (by kernel_rfl) (by simp) ?_
  refine AllReadyH.cons (o := ⟨some 50, _, _, _, _, _⟩) rfl (fun K hK => ?_) (AllReadyH.cons (o := ⟨some 52, _, _, _, _, _⟩) rfl (fun K hK => ?_) AllReadyH.nil)
  · go_simp
    have hg0 : Gw w2 w2.drew := ⟨(Below.refl _ _).drew, Nat.le_succ _⟩
    refine (HP.out _ hg0).mono ?_
    rintro e w3 ⟨rfl, k3⟩
    have hO3 := Cl.gw hHeld k3
    have hg3 := hg0.trans k3
    refine hK.out _ _ (by exact hO3) (fun hHeld => ?_)
    clear hK K
    (repeat (first | simp only [Act.put] | simp only [List.setIfInBounds_toArray] | simp only [List.set_cons_succ] | simp only [List.set_cons_zero]))
    refine wpAnyH_ready (rs := [7]) (by kernel_rfl) (by simp) ?_
    refine AllReadyH.cons (o := ⟨some 52, _, _, _, _, _⟩) rfl (fun K hK => ?_) AllReadyH.nil
    go_simp
    (try go_wp2_with fail)
    refine hK.out _ _ (by exact hd_prev (blk_lt hO3) hO3) (fun hHeld => ?_)
    clear hK K
    (repeat (first | simp only [Act.put] | simp only [List.setIfInBounds_toArray] | simp only [List.set_cons_succ] | simp only [List.set_cons_zero]))
    refine wpAnyH_ready (rs := [8]) (by kernel_rfl) (by simp) ?_
    refine AllReadyH.cons (o := ⟨some 53, _, _, _, _, _⟩) rfl (fun K hK => ?_) AllReadyH.nil
    go_simp
    have hG4 : Gw w2 (w3.alloc (.cells (OC o) 24)) := hg3.alloc _
    refine (HI.out (w3.alloc (.cells (OC o) 24)) w3.heap.size hG4 (hg3.b.size) (hd_last rfl)).mono ?_
    rintro e w5 ⟨v', rfl, hI⟩
    have hO5 := put_cl hHeld HB.out hI.out
    obtain ⟨va, vc, rfl, _⟩ := own_que2 hI.out.1
    have hR5 := put_mid HR.out HQ.out hG4 hI.out
    obtain ⟨z0, f0⟩ := own_cell hR5 rfl HC.out
    refine hK.out _ _ (by exact hO5) (fun hHeld => ?_)
    clear hK K
    (repeat (first | simp only [Act.put] | simp only [List.setIfInBounds_toArray] | simp only [List.set_cons_succ] | simp only [List.set_cons_zero]))
    refine wpAnyH_take (i := 9) (oi := ⟨some 54, _, _, _, _, _⟩) (v := ?_) rfl (by kernel_rfl) (by kernel_rfl) (by kernel_rfl) (fun _ _ _ h => h) (Or.inl ⟨by kernel_rfl, ?_⟩) (by assumption) ?_
    rotate_left
    · (intro w hSw; obtain ⟨hs0, hs1, hs2, hs3, hs4, hs5⟩ := six_of hSw; clear hSw; go_simp; try with_reducible rfl)
    (repeat (first | simp only [Act.put] | simp only [List.setIfInBounds_toArray] | simp only [List.set_cons_succ] | simp only [List.set_cons_zero]))
    refine wpAnyH_take (i := 10) (oi := ⟨some 55, _, _, _, _, _⟩) (v := ?_) rfl (by kernel_rfl) (by kernel_rfl) (by kernel_rfl) (fun _ _ _ h => h) (Or.inl ⟨by kernel_rfl, ?_⟩) (by assumption) ?_
    rotate_left
    · (intro w hSw; obtain ⟨hs0, hs1, hs2, hs3, hs4, hs5⟩ := six_of hSw; clear hSw; go_simp; try with_reducible rfl)
    (repeat (first | simp only [Act.put] | simp only [List.setIfInBounds_toArray] | simp only [List.set_cons_succ] | simp only [List.set_cons_zero]))
    refine wpAnyH_ready (rs := [11]) (by kernel_rfl) (by simp) ?_
    refine AllReadyH.cons (o := ⟨none, _, _, _, _, _⟩) rfl (fun K hK => ?_) AllReadyH.nil
    go_simp
    (try go_wp2_with fail)
    refine hK.out _ _ (by exact (heap_far (a := ⟨g, k * 2 + 1, none⟩) HG.out).trans hO5) (fun hHeld => ?_)
    clear hK K
    (repeat (first | simp only [Act.put] | simp only [List.setIfInBounds_toArray] | simp only [List.set_cons_succ] | simp only [List.set_cons_zero]))
    refine wpAnyH_done (by kernel_rfl) ?_ _
    have HF := Lib.hid (put_fin HK.out.1 HK.out.2 HR.out HQ.out (Gw.refl w2) hG4 hI.out)
    clear hO5 hR5 z0 f0 hI hHeld
    go_wp2_with fail
    go_end0
    exact ⟨rfl, .slice (some ⟨g, 0, none⟩) R2.length c, .slice va (0 + 1) vc, Lib.hid (HEnd.out _ _ HF.out)⟩
  · go_simp
    have hg0 : Gw w2 w2.drew := ⟨(Below.refl _ _).drew, Nat.le_succ _⟩
    have hO3 : Cl 24 (w2.drew.alloc (.cells (OC o) 24)) ob (OC o) := hd_prev (blk_lt hHeld) hHeld
    (try go_wp2_with fail)
    refine hK.out _ _ (by exact hO3) (fun hHeld => ?_)
    clear hK K
    (repeat (first | simp only [Act.put] | simp only [List.setIfInBounds_toArray] | simp only [List.set_cons_succ] | simp only [List.set_cons_zero]))
    refine wpAnyH_ready (rs := [5]) (by kernel_rfl) (by simp) ?_
    refine AllReadyH.cons (o := ⟨some 50, _, _, _, _, _⟩) rfl (fun K hK => ?_) AllReadyH.nil
    go_simp
    refine (HP.out _ (hg0.alloc _)).mono ?_
    rintro e w3 ⟨rfl, k3⟩
    have hO4 := Cl.gw hHeld k3
    have hv3 : Cl 24 w3 w2.heap.size (OC o) := Cl.gw (X := w2.drew.alloc (.cells (OC o) 24)) (hd_last rfl) k3
    refine hK.out _ _ (by exact hO4) (fun hHeld => ?_)
    clear hK K
    (repeat (first | simp only [Act.put] | simp only [List.setIfInBounds_toArray] | simp only [List.set_cons_succ] | simp only [List.set_cons_zero]))
    refine wpAnyH_ready (rs := [8]) (by kernel_rfl) (by simp) ?_
    refine AllReadyH.cons (o := ⟨some 53, _, _, _, _, _⟩) rfl (fun K hK => ?_) AllReadyH.nil
    go_simp
    have hG4 : Gw w2 w3 := (hg0.alloc _).trans k3
    refine (HI.out w3 w2.heap.size hG4 (Nat.le_refl _) (hv3)).mono ?_
    rintro e w5 ⟨v', rfl, hI⟩
    have hO5 := put_cl hHeld HB.out hI.out
    obtain ⟨va, vc, rfl, _⟩ := own_que2 hI.out.1
    have hR5 := put_mid HR.out HQ.out hG4 hI.out
    obtain ⟨z0, f0⟩ := own_cell hR5 rfl HC.out
    refine hK.out _ _ (by exact hO5) (fun hHeld => ?_)
    clear hK K
    (repeat (first | simp only [Act.put] | simp only [List.setIfInBounds_toArray] | simp only [List.set_cons_succ] | simp only [List.set_cons_zero]))
    refine wpAnyH_take (i := 9) (oi := ⟨some 54, _, _, _, _, _⟩) (v := ?_) rfl (by kernel_rfl) (by kernel_rfl) (by kernel_rfl) (fun _ _ _ h => h) (Or.inl ⟨by kernel_rfl, ?_⟩) (by assumption) ?_
    rotate_left
    · (intro w hSw; obtain ⟨hs0, hs1, hs2, hs3, hs4, hs5⟩ := six_of hSw; clear hSw; go_simp; try with_reducible rfl)
    (repeat (first | simp only [Act.put] | simp only [List.setIfInBounds_toArray] | simp only [List.set_cons_succ] | simp only [List.set_cons_zero]))
    refine wpAnyH_take (i := 10) (oi := ⟨some 55, _, _, _, _, _⟩) (v := ?_) rfl (by kernel_rfl) (by kernel_rfl) (by kernel_rfl) (fun _ _ _ h => h) (Or.inl ⟨by kernel_rfl, ?_⟩) (by assumption) ?_
    rotate_left
    · (intro w hSw; obtain ⟨hs0, hs1, hs2, hs3, hs4, hs5⟩ := six_of hSw; clear hSw; go_simp; try with_reducible rfl)
    (repeat (first | simp only [Act.put] | simp only [List.setIfInBounds_toArray] | simp only [List.set_cons_succ] | simp only [List.set_cons_zero]))
    refine wpAnyH_ready (rs := [11]) (by kernel_rfl) (by simp) ?_
    refine AllReadyH.cons (o := ⟨none, _, _, _, _, _⟩) rfl (fun K hK => ?_) AllReadyH.nil
    go_simp
    (try go_wp2_with fail)
    refine hK.out _ _ (by exact (heap_far (a := ⟨g, k * 2 + 1, none⟩) HG.out).trans hO5) (fun hHeld => ?_)
    clear hK K
    (repeat (first | simp only [Act.put] | simp only [List.setIfInBounds_toArray] | simp only [List.set_cons_succ] | simp only [List.set_cons_zero]))
    refine wpAnyH_done (by kernel_rfl) ?_ _
    have HF := Lib.hid (put_fin HK.out.1 HK.out.2 HR.out HQ.out (Gw.refl w2) hG4 hI.out)
    clear hO5 hR5 z0 f0 hI hHeld
    go_wp2_with fail
    go_end0
    exact ⟨rfl, .slice (some ⟨g, 0, none⟩) R2.length c, .slice va (0 + 1) vc, Lib.hid (HEnd.out _ _ HF.out)⟩

end Go.Proofs.Ytailiaobbgikfaa
