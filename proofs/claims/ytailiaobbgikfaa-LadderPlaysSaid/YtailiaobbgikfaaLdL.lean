/- ladder: put, where there is a row. (By mkldl.py.) -/
import Derived.Test.YtailiaobbgikfaaLdK
namespace Go.Proofs.Ytailiaobbgikfaa
open Go.RowKit Go.Shelf Go.Sort

theorem Bk.gw {w w' : World} {b : Option Addr} {m : Option Nat} {s1 s2 : Sd} (h : Bk w b m s1 s2) (hf : Gw w w') : Bk w' b m s1 s2 := h.below hf.b
theorem Cl.gw {T : TypeId} {X Y : World} {c : Nat} {cs : Array Value} (h : Cl T X c cs) (hf : Gw X Y) : Cl T Y c cs := (hf.b.block _ (blk_lt h)).trans h
theorem Bk.own {w : World} {b : Option Addr} {m : Option Nat} {s1 s2 : Sd} (h : Bk w b m s1 s2) (sd : Int) : w.ownsRow 0 100 2 (rowsOf s1 s2 sd) (rsOf s1 s2 sd).length (rl (rsOf s1 s2 sd)) := by
  unfold rowsOf rsOf
  (repeat' split)
  · exact h.r1
  · exact h.r2
  · exact ⟨rfl, .inl ⟨rfl, rfl⟩⟩
/-- The block of an own row. -/
theorem own_blk {w : World} {base n size g : Nat} {T : TypeId} {v : Value} {xs : List Value} (h : w.ownsRow base T size v n xs) (hv : v.ownBlock = some g) : ∃ cs, w.heap[g]? = some (.cells cs T (0, 0)) := by
  rcases h.2 with ⟨e, _⟩ | ⟨k, cap, cur, e, hb, hk, _⟩
  · rw [e] at hv; cases hv
  · rw [e] at hv
    injection hv with hv
    subst hv
    exact ⟨cur, hk⟩
/-- A queue has got one more order, in its row or in a new one. -/
def InsOf (W4 w5 : World) (qv v' : Value) (qn : Nat) (q' : List Od) : Prop :=
  w5.ownsRow 0 24 6 v' (qn + 1) (ol q') ∧ W4.grownBy w5 qv.ownBlock ∧ (v'.ownBlock = qv.ownBlock ∨ v'.ownBlock = some W4.heap.size)
theorem put_mid {w2 W4 w5 : World} {g n c : Nat} {qv v' : Value} {qn : Nat} {q q' : List Od} {xs : List Value} (hR : w2.ownsRow 0 100 2 (.slice (some ⟨g, 0, none⟩) n c) n xs) (hq : w2.ownsRow 0 24 6 qv qn (ol q)) (G : Gw w2 W4) (hI : InsOf W4 w5 qv v' qn q') :
    w5.ownsRow 0 100 2 (.slice (some ⟨g, 0, none⟩) n c) n xs := by
  refine own_fr hR (S := fun j => qv.ownBlock = some j) ?_ (fun k hk e => ?_)
  · exact ((Fr.of_below G.b).grown hI.2.1 (fun j e => .inl e))
  · injection hk with hk
    subst hk
    obtain ⟨cs, hcs⟩ := own_blk hR rfl
    exact own_ne hq hcs (by decide) e
theorem put_cl {W4 w5 : World} {qv v' : Value} {qn ob : Nat} {q' : List Od} {o : Od} (hO : Cl 24 W4 ob (OC o)) (hq : ∀ j, qv.ownBlock = some j → j < ob) (hI : InsOf W4 w5 qv v' qn q') : Cl 24 w5 ob (OC o) :=
  (hI.2.1.block _ (blk_lt hO) (fun e => by have := hq ob e.symm; omega)).trans hO
/-- What is there when the row has got its queue. -/
theorem put_fin {w w2 W4 w5 : World} {g c : Nat} {qv v' : Value} {R : List Rw} {qn k : Nat} {q q' : List Od} {p : Int} (hk : k < R.length) (hp : (R[k]!).pr = p) (hR : w2.ownsRow 0 100 2 (.slice (some ⟨g, 0, none⟩) R.length c) R.length (rl R)) (hq : w2.ownsRow 0 24 6 qv qn (ol q)) (G2 : Gw w w2) (G : Gw w2 W4) (hI : InsOf W4 w5 qv v' qn q') :
    (w5.setCell ⟨g, k * 2 + 1, none⟩ v').ownsRow 0 24 6 v' (qn + 1) (ol q') ∧ (w5.setCell ⟨g, k * 2 + 1, none⟩ v').ownsRow 0 100 2 (.slice (some ⟨g, 0, none⟩) R.length c) R.length (rl (R.take k ++ ⟨p, v', q'⟩ :: R.drop (k + 1))) ∧
      Fr (fun j => (Value.slice (some ⟨g, 0, none⟩) R.length c).ownBlock = some j ∨ qv.ownBlock = some j) w (w5.setCell ⟨g, k * 2 + 1, none⟩ v') ∧ (v'.ownBlock = qv.ownBlock ∨ ∃ j, v'.ownBlock = some j ∧ w.heap.size ≤ j) := by
  have hR5 := put_mid hR hq G hI
  obtain ⟨cs, hcs⟩ := own_blk hR5 rfl
  refine ⟨?_, ?_, ?_, ?_⟩
  · exact own_fr hI.1 (S := fun j => j = g) ((Fr.refl (fun j => j = g) w5).set (p := ⟨g, k * 2 + 1, none⟩) (.inl rfl) _) (fun j hj e => by subst e; exact own_ne hI.1 hcs (by decide) hj)
  · rw [rl_set R k hk ⟨p, v', q'⟩ hp.symm]
    exact own_setCell hR5 rfl
  · refine Fr.set ?_ (p := ⟨g, k * 2 + 1, none⟩) (.inl (.inl rfl)) _
    exact (Fr.of_below (G2.trans G).b).grown hI.2.1 (fun j e => .inl (.inr e))
  · rcases hI.2.2 with e | e
    · exact .inl e
    · exact .inr ⟨_, e, (G2.trans G).b.size⟩
theorem six_of {T : TypeId} {W : World} {c : Nat} {o : Od} (h : Cl T W c (OC o)) : W.cell? ⟨c, 0, none⟩ = some (.int .u64 o.id) ∧ W.cell? ⟨c, 1, none⟩ = some (.int .i64 o.acc) ∧ W.cell? ⟨c, 2, none⟩ = some (.int .i64 o.side) ∧ W.cell? ⟨c, 3, none⟩ = some (.int .i64 o.price) ∧ W.cell? ⟨c, 4, none⟩ = some (.int .i64 o.qty) ∧ W.cell? ⟨c, 5, none⟩ = some (.int .u64 o.seq) :=
  ⟨(h.c 0).trans rfl, (h.c 1).trans rfl, (h.c 2).trans rfl, (h.c 3).trans rfl, (h.c 4).trans rfl, (h.c 5).trans rfl⟩
/-- Where the k-th row lies, and its queue. -/
theorem row_at {w : World} {v : Value} {R : List Rw} (h : w.ownsRow 0 100 2 v R.length (rl R)) {k : Nat} (hk : k < R.length) : ∃ g c, v = .slice (some ⟨g, 0, none⟩) R.length c ∧ w.cell? ⟨g, k * 2, none⟩ = some (.int .i64 (R[k]!).pr) ∧ w.cell? ⟨g, k * 2 + 1, none⟩ = some (R[k]!).v := by
  obtain ⟨A, c, hv, hr⟩ := own_rows h
  rcases hr.2 with h0 | ⟨g, rfl, _, hc⟩
  · omega
  · exact ⟨g, c, hv, hc k hk⟩
set_option maxHeartbeats 4000000 in
set_option maxRecDepth 100000 in
theorem put_there (p m : Nat) (s1 s2 : Sd) (sd : Int) (o : Od) (w : World) (H : Bk w (some ⟨p, 0, none⟩) (some m) s1 s2) (hsd : o.side = sd) (hwf : (Lit.int .i64 sd).wf = true) (R : List Rw) (hR : rsOf s1 s2 sd = R) (hs : R.Pairwise (fun a b => betN sd a.pr b.pr = true))
    (hn : R.length ≤ 1000) (k : Nat) (hk : atN sd o.price R = k) (hkl : k < R.length) (hp : (R[k]!).pr = o.price) (hq : (R[k]!).q.Pairwise (fun x y => ahdO x y = true)) (hql : (R[k]!).q.length ≤ 1000) :
    Calls Try.prog 63 #[.pointer (some ⟨p, 0, none⟩), .agg #[.int .u64 o.id, .int .i64 o.acc, .int .i64 o.side, .int .i64 o.price, .int .i64 o.qty, .int .u64 o.seq]] w fun e w' => e = .returned (.tuple #[]) ∧ ∃ v', Hid (w'.ownsRow 0 24 6 v' ((R[k]!).q.length + 1) (ol (putQ o (R[k]!).q)) ∧
      w'.ownsRow 0 100 2 (rowsOf s1 s2 sd) R.length (rl (R.take k ++ ⟨o.price, v', putQ o (R[k]!).q⟩ :: R.drop (k + 1))) ∧ Fr (fun j => (rowsOf s1 s2 sd).ownBlock = some j ∨ (R[k]!).v.ownBlock = some j) w w' ∧ (v'.ownBlock = (R[k]!).v.ownBlock ∨ ∃ j, v'.ownBlock = some j ∧ w.heap.size ≤ j)) := by
  have mixed : Try.prog.follows .mixedOrders = true := by kernel_rfl
  subst hsd
  have hmem : R[k]! ∈ s1.rs ++ s2.rs := by
    rw [getElem!_pos R k hkl]
    exact rsOf_mem (by rw [hR]; exact List.getElem_mem hkl)
  obtain ⟨Q, hQd⟩ : ∃ Q, (R[k]!).q = Q := ⟨_, rfl⟩
  obtain ⟨V, hVd⟩ : ∃ V, (R[k]!).v = V := ⟨_, rfl⟩
  rw [hQd] at hq hql ⊢
  rw [hVd]
  obtain ⟨w0, hw0⟩ : ∃ w0, w.alloc (.cells #[.int .u64 o.id, .int .i64 o.acc, .int .i64 o.side, .int .i64 o.price, .int .i64 o.qty, .int .u64 o.seq] 24) = w0 := ⟨_, rfl⟩
  have G0 : Gw w w0 := by rw [← hw0]; exact (Gw.refl w).alloc _
  have hO0 : Cl 24 w0 w.heap.size (OC o) := by rw [← hw0]; exact hd_last rfl
  obtain ⟨x0, x1, x2, x3, x4, x5⟩ := six_of hO0
  obtain ⟨pp, hpp, hpc⟩ : ∃ pp, some (⟨p, 0, none⟩ : Addr) = some ⟨pp, 0, none⟩ ∧ w0.cell? ⟨p, 0, none⟩ = some (.map (some m)) := by
    rcases (H.gw G0).shape with ⟨h, _⟩ | ⟨pp, hb, hp⟩
    · cases h
    · injection hb with hb'
      injection hb' with hb''
      subst hb''
      exact ⟨p, rfl, by rw [cell_of_row _ _ _ _ _ _ hp]; rfl⟩
  clear hpp
  have hlk := fun q => look_side ((H.gw (G0.trans ⟨below_drewN (Below.refl _ _) q, Nat.le_add_right _ _⟩)).mp m rfl) H.t1 H.t2 o.side hwf
  have hown := (H.gw G0).own o.side
  rw [hR] at hown
  obtain ⟨g, c, hv, hc1, hc2⟩ := row_at hown hkl
  rw [hv] at hown hlk
  have HF : ∀ q, Calls Try.prog 57 #[.slice (some ⟨g, 0, none⟩) R.length c, .int .i64 o.side, .int .i64 o.price] (w0.drewN q) fun e w' => e = .returned (.tuple #[.int .i64 (k : Nat), .bool true]) ∧ Gw (w0.drewN q) w' := fun q => by
    have := find_c (some ⟨g, 0, none⟩) R.length c R o.side o.price (w0.drewN q) ?_ hs hn
    · rw [hk, decide_eq_true hkl, hp] at this
      simpa using this
    · obtain ⟨A, c', hv', hr⟩ := own_rows hown
      injection hv' with e1 e2 e3
      rw [e1]
      exact hr
  have HF' := Lib.hid HF
  have HH := Lib.hid H
  have H2 : Hid (∀ {k : Nat}, foot (some ⟨p, 0, none⟩) (some m) s1 s2 k → k < w.heap.size) := fun hk => H.lt hk
  have HGf : Hid (g < w.heap.size) := by
    obtain ⟨A, c', hv', _, hf⟩ := H.rows o.side
    rw [hR] at hv' hf
    rw [hv] at hv'
    injection hv' with e1 e2 e3
    exact H.lt (hf g e1.symm (by omega))
  have hqm := (H.gw G0).q _ hmem
  rw [hQd, hVd] at hqm
  obtain ⟨qa, qc, hqv, hqa⟩ := own_que hqm
  clear hqm
  obtain ⟨qn, hqn⟩ : ∃ qn, Q.length = qn := ⟨_, rfl⟩
  rw [hqn] at hqv hqa hql
  rw [hVd, hqv] at hc2
  obtain ⟨ob, hob⟩ : ∃ ob, w.heap.size = ob := ⟨_, rfl⟩
  rw [hob] at hO0 x0 x1 x2 x3 x4 x5
  clear H HF
  go_enter Try.func63, Try.ntmps63
  go_wp2_with fail
  go_quiet (fail)
  go_wp2_with ((with_reducible refine (HF'.out _).mono ?_); rintro e w2 ⟨rfl, k2⟩; have G2 : Hid (Gw w w2) := (G0.trans ⟨below_drewN (Below.refl _ _) _, Nat.le_add_right _ _⟩).trans k2; have G02 : Gw w0 w2 := Gw.trans ⟨below_drewN (Below.refl _ _) _, Nat.le_add_right _ _⟩ k2; obtain ⟨y0, y1, y2, y3, y4, y5⟩ := six_of (hO0.gw G02); have hcq : w2.cell? ⟨g, k * 2 + 1, none⟩ = some (.slice qa qn qc) := cell_keep (S := fun _ => False) (Fr.of_below G02.b) (fun h => h) hc2; have hO : Cl 24 w2 ob (OC o) := hO0.gw G02; have HR : Hid (w2.ownsRow 0 100 2 (.slice (some ⟨g, 0, none⟩) R.length c) R.length (rl R)) := (by have := (HH.out.gw G2.out).own o.side; rw [hR, hv] at this; exact this); have HQ : Hid (w2.ownsRow 0 24 6 (.slice qa qn qc) qn (ol Q)) := (by have := (HH.out.gw G2.out).q _ hmem; rw [hQd, hVd, hqv, hqn] at this; exact this); clear x0 x1 x2 x3 x4 x5 hpc hlk hc1 hc2 k2)
  obtain ⟨J, hJ⟩ : ∃ J, plN o Q = J := ⟨_, rfl⟩
  obtain ⟨Q', hQ'⟩ : ∃ Q', putQ o Q = Q' := ⟨_, rfl⟩
  have HP : Hid (∀ W, Gw w2 W → Calls Try.prog 58 #[.slice qa qn qc, .agg #[.int .u64 o.id, .int .i64 o.acc, .int .i64 o.side, .int .i64 o.price, .int .i64 o.qty, .int .u64 o.seq]] W fun e w' => e = .returned (.int .i64 (J : Nat)) ∧ Gw W w') := fun W hW => by rw [← hJ]; exact place_c qa qn qc _ o W (by obtain ⟨A, c', hv', hq'⟩ := own_que (own_fr HQ.out (S := fun _ => False) (Fr.of_below hW.b) (fun _ _ h => h)); injection hv' with e1 e2 e3; rw [e1]; exact hq') hq hql
  have HI : Hid (∀ W4 vb, Gw w2 W4 → w2.heap.size ≤ vb → Cl 24 W4 vb (OC o) → Calls Try.prog 85 #[.slice qa qn qc, .int .i64 (J : Nat), .slice (some ⟨vb, 0, none⟩) 1 1] W4 fun e w5 => ∃ v', e = .returned v' ∧ Hid (InsOf W4 w5 (.slice qa qn qc) v' qn Q')) := fun W4 vb hG hle hvb => by
    have hq4 : W4.ownsRow 0 24 6 (.slice qa qn qc) qn (ol Q) := own_fr HQ.out (S := fun _ => False) (Fr.of_below hG.b) (fun _ _ h => h)
    rw [← hJ]
    refine (ins_O W4 0 qn (plN o Q) (.slice qa qn qc) (ol Q) (encO o) vb hq4 (Nat.zero_le _) hql (by rw [← hqn]; exact pl_le o Q) (fun e => by have := (own_lt HQ.out vb e).2; omega) hvb rfl (ol_one Q) (enc_one o)).mono fun e w5 ⟨v', he, h⟩ => ⟨v', he, Lib.hid ⟨?_, h.out.2.1, h.out.2.2⟩⟩
    have := h.out.1
    rw [ol_putQ, hQ'] at this
    exact this
  have HV := Lib.hid (And.intro hv (And.intro hqv (And.intro hqn hQ')))
  have HB : Hid (∀ j, (Value.slice qa qn qc).ownBlock = some j → j < ob) := fun j hj => by
    rw [← hob]; exact H2.out (.inr (.inr (.inr (.inr ⟨_, hmem, by rw [hVd, hqv]; exact hj⟩))))
  have HK := Lib.hid (And.intro hkl hp)
  have HC : Hid ((rl R)[k * 2 + 1]? = some (.slice qa qn qc)) := by
    have := rl_get R k 1 hkl (by omega)
    rw [show k * 2 + 1 = k * 2 + 1 from rfl, this, ← hqv, ← hVd]
    rfl
  have HG : Hid (ob ≠ g) := by
    have := HGf.out
    show ob ≠ g
    omega
  refine wp_region_held_drew (S := fun W => Cl 24 W ob (OC o)) (by kernel_rfl) (hd_drew hO) (fun hHeld => ?_)
  refine wpAnyH_take (i := 0) (oi := ⟨some 45, _, _, _, _, _⟩) (v := ?_) rfl (by kernel_rfl) (by kernel_rfl) (by kernel_rfl) (fun _ _ _ h => h) (Or.inl ⟨by kernel_rfl, ?_⟩) (by assumption) ?_
  rotate_left
  · (intro w hSw; obtain ⟨hs0, hs1, hs2, hs3, hs4, hs5⟩ := six_of hSw; clear hSw; go_simp; try with_reducible rfl)
  (repeat (first | simp only [Act.put] | simp only [List.setIfInBounds_toArray] | simp only [List.set_cons_succ] | simp only [List.set_cons_zero]))
  refine wpAnyH_take (i := 1) (oi := ⟨some 46, _, _, _, _, _⟩) (v := ?_) rfl (by kernel_rfl) (by kernel_rfl) (by kernel_rfl) (fun _ _ _ h => h) (Or.inl ⟨by kernel_rfl, ?_⟩) (by assumption) ?_
  rotate_left
  · (intro w hSw; obtain ⟨hs0, hs1, hs2, hs3, hs4, hs5⟩ := six_of hSw; clear hSw; go_simp; try with_reducible rfl)
  (repeat (first | simp only [Act.put] | simp only [List.setIfInBounds_toArray] | simp only [List.set_cons_succ] | simp only [List.set_cons_zero]))
  refine wpAnyH_take (i := 2) (oi := ⟨some 47, _, _, _, _, _⟩) (v := ?_) rfl (by kernel_rfl) (by kernel_rfl) (by kernel_rfl) (fun _ _ _ h => h) (Or.inl ⟨by kernel_rfl, ?_⟩) (by assumption) ?_
  rotate_left
  · (intro w hSw; obtain ⟨hs0, hs1, hs2, hs3, hs4, hs5⟩ := six_of hSw; clear hSw; go_simp; try with_reducible rfl)
  (repeat (first | simp only [Act.put] | simp only [List.setIfInBounds_toArray] | simp only [List.set_cons_succ] | simp only [List.set_cons_zero]))
  refine wpAnyH_take (i := 3) (oi := ⟨some 48, _, _, _, _, _⟩) (v := ?_) rfl (by kernel_rfl) (by kernel_rfl) (by kernel_rfl) (fun _ _ _ h => h) (Or.inl ⟨by kernel_rfl, ?_⟩) (by assumption) ?_
  rotate_left
  · (intro w hSw; obtain ⟨hs0, hs1, hs2, hs3, hs4, hs5⟩ := six_of hSw; clear hSw; go_simp; try with_reducible rfl)
  (repeat (first | simp only [Act.put] | simp only [List.setIfInBounds_toArray] | simp only [List.set_cons_succ] | simp only [List.set_cons_zero]))
  refine wpAnyH_take (i := 4) (oi := ⟨some 49, _, _, _, _, _⟩) (v := ?_) rfl (by kernel_rfl) (by kernel_rfl) (by kernel_rfl) (fun _ _ _ h => h) (Or.inl ⟨by kernel_rfl, ?_⟩) (by assumption) ?_
  rotate_left
  · (intro w hSw; obtain ⟨hs0, hs1, hs2, hs3, hs4, hs5⟩ := six_of hSw; clear hSw; go_simp; try with_reducible rfl)
  (repeat (first | simp only [Act.put] | simp only [List.setIfInBounds_toArray] | simp only [List.set_cons_succ] | simp only [List.set_cons_zero]))
  refine wpAnyH_take (i := 6) (oi := ⟨some 51, _, _, _, _, _⟩) (v := ?_) rfl (by kernel_rfl) (by kernel_rfl) (by kernel_rfl) (fun _ _ _ h => h) (Or.inl ⟨by kernel_rfl, ?_⟩) (by assumption) ?_
  rotate_left
  · (intro w hSw; obtain ⟨hs0, hs1, hs2, hs3, hs4, hs5⟩ := six_of hSw; clear hSw; go_simp; try with_reducible rfl)
  (repeat (first | simp only [Act.put] | simp only [List.setIfInBounds_toArray] | simp only [List.set_cons_succ] | simp only [List.set_cons_zero]))
  refine wpAnyH_ready (rs := [5, 7]) (by kernel_rfl) (by simp) ?_
  refine AllReadyH.cons (o := ⟨some 50, _, _, _, _, _⟩) rfl (fun K hK => ?_) (AllReadyH.cons (o := ⟨some 52, _, _, _, _, _⟩) rfl (fun K hK => ?_) AllReadyH.nil)
  · go_simp
    have hg0 : Gw w2 w2.drew := ⟨(Below.refl _ _).drew, Nat.le_succ _⟩
    refine (HP.out _ hg0).mono ?_
    rintro e w3 ⟨rfl, k3⟩
    have hO3 := Cl.gw hHeld k3
    have hg3 := hg0.trans k3
    refine hK.out _ _ (by exact hO3) (fun hHeld => ?_)
    clear hK K
    (repeat (first | simp only [Act.put] | simp only [List.setIfInBounds_toArray] | simp only [List.set_cons_succ] | simp only [List.set_cons_zero]))
    refine wpAnyH_ready (rs := [7]) (by kernel_rfl) (by simp) ?_
    refine AllReadyH.cons (o := ⟨some 52, _, _, _, _, _⟩) rfl (fun K hK => ?_) AllReadyH.nil
    go_simp
    (try go_wp2_with fail)
    refine hK.out _ _ (by exact hd_prev (blk_lt hO3) hO3) (fun hHeld => ?_)
    clear hK K
    (repeat (first | simp only [Act.put] | simp only [List.setIfInBounds_toArray] | simp only [List.set_cons_succ] | simp only [List.set_cons_zero]))
    refine wpAnyH_ready (rs := [8]) (by kernel_rfl) (by simp) ?_
    refine AllReadyH.cons (o := ⟨some 53, _, _, _, _, _⟩) rfl (fun K hK => ?_) AllReadyH.nil
    go_simp
    have hG4 : Gw w2 (w3.alloc (.cells (OC o) 24)) := hg3.alloc _
    refine (HI.out (w3.alloc (.cells (OC o) 24)) w3.heap.size hG4 (hg3.b.size) (hd_last rfl)).mono ?_
    rintro e w5 ⟨v', rfl, hI⟩
    have hO5 := put_cl hHeld HB.out hI.out
    obtain ⟨va, vc, rfl, _⟩ := own_que2 hI.out.1
    have hR5 := put_mid HR.out HQ.out hG4 hI.out
    obtain ⟨z0, f0⟩ := own_cell hR5 rfl HC.out
    skip
    refine hK.out _ _ (by exact hO5) (fun hHeld => ?_)
    clear hK K
    (repeat (first | simp only [Act.put] | simp only [List.setIfInBounds_toArray] | simp only [List.set_cons_succ] | simp only [List.set_cons_zero]))
    refine wpAnyH_take (i := 9) (oi := ⟨some 54, _, _, _, _, _⟩) (v := ?_) rfl (by kernel_rfl) (by kernel_rfl) (by kernel_rfl) (fun _ _ _ h => h) (Or.inl ⟨by kernel_rfl, ?_⟩) (by assumption) ?_
    rotate_left
    · (intro w hSw; obtain ⟨hs0, hs1, hs2, hs3, hs4, hs5⟩ := six_of hSw; clear hSw; go_simp; try with_reducible rfl)
    (repeat (first | simp only [Act.put] | simp only [List.setIfInBounds_toArray] | simp only [List.set_cons_succ] | simp only [List.set_cons_zero]))
    refine wpAnyH_take (i := 10) (oi := ⟨some 55, _, _, _, _, _⟩) (v := ?_) rfl (by kernel_rfl) (by kernel_rfl) (by kernel_rfl) (fun _ _ _ h => h) (Or.inl ⟨by kernel_rfl, ?_⟩) (by assumption) ?_
    rotate_left
    · (intro w hSw; obtain ⟨hs0, hs1, hs2, hs3, hs4, hs5⟩ := six_of hSw; clear hSw; go_simp; try with_reducible rfl)
    (repeat (first | simp only [Act.put] | simp only [List.setIfInBounds_toArray] | simp only [List.set_cons_succ] | simp only [List.set_cons_zero]))
    refine wpAnyH_ready (rs := [11]) (by kernel_rfl) (by simp) ?_
    refine AllReadyH.cons (o := ⟨none, _, _, _, _, _⟩) rfl (fun K hK => ?_) AllReadyH.nil
    go_simp
    (try go_wp2_with fail)
    refine hK.out _ _ (by exact (heap_far (a := ⟨g, k * 2 + 1, none⟩) HG.out).trans hO5) (fun hHeld => ?_)
    clear hK K
    (repeat (first | simp only [Act.put] | simp only [List.setIfInBounds_toArray] | simp only [List.set_cons_succ] | simp only [List.set_cons_zero]))
    refine wpAnyH_done (by kernel_rfl) ?_ _
    have HF := Lib.hid (put_fin HK.out.1 HK.out.2 HR.out HQ.out G2.out hG4 hI.out)
    clear hO5 hR5 z0 f0 hI hHeld
    go_wp2_with fail
    go_end0
    refine ⟨rfl, .slice va (qn + 1) vc, Lib.hid ?_⟩
    rw [HV.out.1, HV.out.2.1, HV.out.2.2.1, HV.out.2.2.2]
    exact HF.out
  · go_simp
    have hg0 : Gw w2 w2.drew := ⟨(Below.refl _ _).drew, Nat.le_succ _⟩
    have hO3 : Cl 24 (w2.drew.alloc (.cells (OC o) 24)) ob (OC o) := hd_prev (blk_lt hHeld) hHeld
    (try go_wp2_with fail)
    refine hK.out _ _ (by exact hO3) (fun hHeld => ?_)
    clear hK K
    (repeat (first | simp only [Act.put] | simp only [List.setIfInBounds_toArray] | simp only [List.set_cons_succ] | simp only [List.set_cons_zero]))
    refine wpAnyH_ready (rs := [5]) (by kernel_rfl) (by simp) ?_
    refine AllReadyH.cons (o := ⟨some 50, _, _, _, _, _⟩) rfl (fun K hK => ?_) AllReadyH.nil
    go_simp
    refine (HP.out _ (hg0.alloc _)).mono ?_
    rintro e w3 ⟨rfl, k3⟩
    have hO4 := Cl.gw hHeld k3
    have hv3 : Cl 24 w3 w2.heap.size (OC o) := Cl.gw (X := w2.drew.alloc (.cells (OC o) 24)) (hd_last rfl) k3
    refine hK.out _ _ (by exact hO4) (fun hHeld => ?_)
    clear hK K
    (repeat (first | simp only [Act.put] | simp only [List.setIfInBounds_toArray] | simp only [List.set_cons_succ] | simp only [List.set_cons_zero]))
    refine wpAnyH_ready (rs := [8]) (by kernel_rfl) (by simp) ?_
    refine AllReadyH.cons (o := ⟨some 53, _, _, _, _, _⟩) rfl (fun K hK => ?_) AllReadyH.nil
    go_simp
    have hG4 : Gw w2 w3 := (hg0.alloc _).trans k3
    refine (HI.out w3 w2.heap.size hG4 (Nat.le_refl _) (hv3)).mono ?_
    rintro e w5 ⟨v', rfl, hI⟩
    have hO5 := put_cl hHeld HB.out hI.out
    obtain ⟨va, vc, rfl, _⟩ := own_que2 hI.out.1
    have hR5 := put_mid HR.out HQ.out hG4 hI.out
    obtain ⟨z0, f0⟩ := own_cell hR5 rfl HC.out
    skip
    refine hK.out _ _ (by exact hO5) (fun hHeld => ?_)
    clear hK K
    (repeat (first | simp only [Act.put] | simp only [List.setIfInBounds_toArray] | simp only [List.set_cons_succ] | simp only [List.set_cons_zero]))
    refine wpAnyH_take (i := 9) (oi := ⟨some 54, _, _, _, _, _⟩) (v := ?_) rfl (by kernel_rfl) (by kernel_rfl) (by kernel_rfl) (fun _ _ _ h => h) (Or.inl ⟨by kernel_rfl, ?_⟩) (by assumption) ?_
    rotate_left
    · (intro w hSw; obtain ⟨hs0, hs1, hs2, hs3, hs4, hs5⟩ := six_of hSw; clear hSw; go_simp; try with_reducible rfl)
    (repeat (first | simp only [Act.put] | simp only [List.setIfInBounds_toArray] | simp only [List.set_cons_succ] | simp only [List.set_cons_zero]))
    refine wpAnyH_take (i := 10) (oi := ⟨some 55, _, _, _, _, _⟩) (v := ?_) rfl (by kernel_rfl) (by kernel_rfl) (by kernel_rfl) (fun _ _ _ h => h) (Or.inl ⟨by kernel_rfl, ?_⟩) (by assumption) ?_
    rotate_left
    · (intro w hSw; obtain ⟨hs0, hs1, hs2, hs3, hs4, hs5⟩ := six_of hSw; clear hSw; go_simp; try with_reducible rfl)
    (repeat (first | simp only [Act.put] | simp only [List.setIfInBounds_toArray] | simp only [List.set_cons_succ] | simp only [List.set_cons_zero]))
    refine wpAnyH_ready (rs := [11]) (by kernel_rfl) (by simp) ?_
    refine AllReadyH.cons (o := ⟨none, _, _, _, _, _⟩) rfl (fun K hK => ?_) AllReadyH.nil
    go_simp
    (try go_wp2_with fail)
    refine hK.out _ _ (by exact (heap_far (a := ⟨g, k * 2 + 1, none⟩) HG.out).trans hO5) (fun hHeld => ?_)
    clear hK K
    (repeat (first | simp only [Act.put] | simp only [List.setIfInBounds_toArray] | simp only [List.set_cons_succ] | simp only [List.set_cons_zero]))
    refine wpAnyH_done (by kernel_rfl) ?_ _
    have HF := Lib.hid (put_fin HK.out.1 HK.out.2 HR.out HQ.out G2.out hG4 hI.out)
    clear hO5 hR5 z0 f0 hI hHeld
    go_wp2_with fail
    go_end0
    refine ⟨rfl, .slice va (qn + 1) vc, Lib.hid ?_⟩
    rw [HV.out.1, HV.out.2.1, HV.out.2.2.1, HV.out.2.2.2]
    exact HF.out
end Go.Proofs.Ytailiaobbgikfaa
