/- What the laws lean on, in one row of texts (by shake.py): part 3 of 5. -/
import Derived.Test.YtgbmgdffgmablaaGreatZs2
import Derived.Maps.AppendAt
import Derived.ScopeJumps
import Derived.Deep.QuietTactic
import Derived.BigQuiet
import Derived.WalkMore

namespace Go.Proofs.YtgbmgdffgmablaaGreat
open Go.RowKit Go.Shelf Go.Sort Go.Maps

/-- What is there when an order was put into a book. -/
structure PutIs (w w' : World) (p m : Nat) (s1 s2 s1' s2' : Sd) (o : Od) : Prop where
  wh : Whole w' p m s1' s2'
  perm : (bookL s1'.rs s2'.rs).Perm (o :: bookL s1.rs s2.rs)
  fr : Fr (foot (some ⟨p, 0, none⟩) (some m) s1 s2) w w'
  ft : ∀ k, foot (some ⟨p, 0, none⟩) (some m) s1' s2' k → foot (some ⟨p, 0, none⟩) (some m) s1 s2 k ∨ w.heap.size ≤ k
  e2 : o.side = 1 → s2' = s2
  e1 : o.side = 2 → s1' = s1
theorem good_side {o : Od} (h : goodO o = true) : o.side = 1 ∨ o.side = 2 := by
  unfold goodO at h
  simp only [Bool.and_eq_true] at h
  have h2 := h.2.2.1
  unfold rkN at h2
  by_cases h3 : o.side = 1
  · exact .inl h3
  · rw [if_neg h3] at h2
    by_cases h4 : o.side = 2
    · exact .inr h4
    · rw [if_neg h4] at h2; cases h2
theorem ids_perm {A B : List Od} (h : A.Perm B) (hb : B.Pairwise (fun x y => ¬ x.id = y.id)) : A.Pairwise (fun x y => ¬ x.id = y.id) :=
  h.symm.pairwise hb (fun h e => h e.symm)
theorem map_there {w : World} {p m : Nat} {s1 s2 : Sd} (H : Whole w p m s1 s2) : (s1.rs ≠ [] → s1.there = true) ∧ (s2.rs ≠ [] → s2.there = true) := by
  constructor
  · intro hne
    cases h : s1.there with
    | true => rfl
    | false =>
      have := H.bk.r1
      rw [H.bk.t1 h] at this
      rcases this.2 with ⟨_, h0⟩ | ⟨k, cap, cur, hv, _⟩
      · exact absurd (List.length_eq_zero_iff.1 h0) hne
      · cases hv
  · intro hne
    cases h : s2.there with
    | true => rfl
    | false =>
      have := H.bk.r2
      rw [H.bk.t2 h] at this
      rcases this.2 with ⟨_, h0⟩ | ⟨k, cap, cur, hv, _⟩
      · exact absurd (List.length_eq_zero_iff.1 h0) hne
      · cases hv
theorem split_at (R : List Rw) (k : Nat) (h : k < R.length) : R = R.take k ++ [R[k]!] ++ R.drop (k + 1) := by
  rw [getElem!_pos R k h, List.append_assoc, List.singleton_append, ← List.drop_eq_getElem_cons h, List.take_append_drop]
/-- Side 1 has got an order: what follows of the cells. -/
theorem put_side1 {w w' : World} {p m : Nat} {s1 s2 : Sd} {A B M X : List Rw} {v2 : Value} {o : Od} (H : Whole w p m s1 s2) (ho : Od.ok w o ∧ goodO o = true) (hs : o.side = 1) (hid : ∀ x ∈ bookL s1.rs s2.rs, ¬ x.id = o.id) (hlen : (bookL s1.rs s2.rs).length < 64)
    (hR : s1.rs = A ++ M ++ B) (hX : Swap w.heap.size M X) (hv2 : v2.ownBlock = s1.v.ownBlock ∨ ∃ j, v2.ownBlock = some j ∧ w.heap.size ≤ j)
    (hx : ∀ r ∈ X, w'.ownsRow 0 38 6 r.v r.q.length (ol r.q)) (hr : w'.ownsRow 0 247 2 v2 (A ++ X ++ B).length (rl (A ++ X ++ B))) (hm : w'.ownsMap Tryz.prog 3 RV m 2 (mapD ⟨true, v2, A ++ X ++ B⟩ s2)) (hF : Fr (TurnS m s1.v M) w w')
    (hP : PutR 1 o s1.rs (A ++ X ++ B)) : PutIs w w' p m s1 s2 ⟨true, v2, A ++ X ++ B⟩ s2 o := by
  obtain ⟨b1, b2, b3⟩ := swap1 H hR hX hv2 hx hr hm hF
  have hidS : ∀ x ∈ flatR s1.rs, ¬ x.id = o.id := fun x hx => hid x (by unfold bookL; exact List.mem_append_left _ hx)
  obtain ⟨c1, c2⟩ := putR_ok (.inl rfl) hs H.ok1 hidS hP
  have hperm : (bookL (A ++ X ++ B) s2.rs).Perm (o :: bookL s1.rs s2.rs) := by
    unfold bookL
    exact c2.append_right _
  refine ⟨⟨b1, c1, H.ok2, b2, b3, ids_perm hperm (List.pairwise_cons.2 ⟨fun x hx e => hid x hx e.symm, H.ids⟩), by rw [hperm.length_eq, List.length_cons]; omega, fun x hx => ?_⟩, hperm, ?_, ?_, fun _ => rfl, (fun h => by rw [hs] at h; cases h)⟩
  · rcases List.mem_cons.1 (hperm.mem_iff.1 hx) with rfl | hx
    · exact ho
    · exact H.ok x hx
  · refine hF.mono (fun k hk => .inl ?_)
    rcases hk with rfl | e | ⟨r, hr, e⟩
    · exact .inr (.inl rfl)
    · exact .inr (.inr (.inl e))
    · exact .inr (.inr (.inr (.inr ⟨r, List.mem_append_left _ (by rw [hR]; simp [hr]), e⟩)))
  · intro k hk
    have hn : ∀ u : Value, (u.ownBlock = s1.v.ownBlock ∨ ∃ j, u.ownBlock = some j ∧ w.heap.size ≤ j) → u.ownBlock = some k → foot (some ⟨p, 0, none⟩) (some m) s1 s2 k ∨ w.heap.size ≤ k := by
      intro u hu e
      rcases hu with e' | ⟨j, e', hj⟩
      · rw [e'] at e; exact .inl (.inr (.inr (.inl e)))
      · rw [e'] at e; injection e with e; exact .inr (by omega)
    rcases hk with e | e | e | e | ⟨r, hr, e⟩
    · exact .inl (.inl e)
    · exact .inl (.inr (.inl e))
    · exact hn v2 hv2 e
    · exact .inl (.inr (.inr (.inr (.inl e))))
    · have hr' : r ∈ X ∨ r ∈ s1.rs ++ s2.rs := by
        have hr2 : r ∈ A ++ X ++ B ++ s2.rs := hr
        rw [hR]
        simp only [List.mem_append] at hr2 ⊢
        rcases hr2 with ((h | h) | h) | h
        · exact .inr (.inl (.inl (.inl h)))
        · exact .inl h
        · exact .inr (.inl (.inr h))
        · exact .inr (.inr h)
      rcases hr' with h | h
      · rcases hX.2 with rfl | ⟨x, rfl, hx'⟩
        · cases h
        · obtain rfl := List.mem_singleton.1 h
          rcases hx' with ⟨y, rfl, e'⟩ | ⟨j, e', hj⟩
          · rw [e'] at e
            exact .inl (.inr (.inr (.inr (.inr ⟨y, List.mem_append_left _ (by rw [hR]; simp), e⟩))))
          · rw [e'] at e; injection e with e; exact .inr (by omega)
      · exact .inl (.inr (.inr (.inr (.inr ⟨r, h, e⟩))))
/-- Side 2 has got an order: what follows of the cells. -/
theorem put_side2 {w w' : World} {p m : Nat} {s1 s2 : Sd} {A B M X : List Rw} {v2 : Value} {o : Od} (H : Whole w p m s1 s2) (ho : Od.ok w o ∧ goodO o = true) (hs : o.side = 2) (hid : ∀ x ∈ bookL s1.rs s2.rs, ¬ x.id = o.id) (hlen : (bookL s1.rs s2.rs).length < 64)
    (hR : s2.rs = A ++ M ++ B) (hX : Swap w.heap.size M X) (hv2 : v2.ownBlock = s2.v.ownBlock ∨ ∃ j, v2.ownBlock = some j ∧ w.heap.size ≤ j)
    (hx : ∀ r ∈ X, w'.ownsRow 0 38 6 r.v r.q.length (ol r.q)) (hr : w'.ownsRow 0 247 2 v2 (A ++ X ++ B).length (rl (A ++ X ++ B))) (hm : w'.ownsMap Tryz.prog 3 RV m 2 (mapD s1 ⟨true, v2, A ++ X ++ B⟩)) (hF : Fr (TurnS m s2.v M) w w')
    (hP : PutR 2 o s2.rs (A ++ X ++ B)) : PutIs w w' p m s1 s2 s1 ⟨true, v2, A ++ X ++ B⟩ o := by
  obtain ⟨b1, b2, b3⟩ := swap2 H hR hX hv2 hx hr hm hF
  have hidS : ∀ x ∈ flatR s2.rs, ¬ x.id = o.id := fun x hx => hid x (by unfold bookL; exact List.mem_append_right _ hx)
  obtain ⟨c1, c2⟩ := putR_ok (.inr rfl) hs H.ok2 hidS hP
  have hperm : (bookL s1.rs (A ++ X ++ B)).Perm (o :: bookL s1.rs s2.rs) := by
    unfold bookL
    exact (c2.append_left _).trans List.perm_middle
  refine ⟨⟨b1, H.ok1, c1, b2, b3, ids_perm hperm (List.pairwise_cons.2 ⟨fun x hx e => hid x hx e.symm, H.ids⟩), by rw [hperm.length_eq, List.length_cons]; omega, fun x hx => ?_⟩, hperm, ?_, ?_, (fun h => by rw [hs] at h; cases h), fun _ => rfl⟩
  · rcases List.mem_cons.1 (hperm.mem_iff.1 hx) with rfl | hx
    · exact ho
    · exact H.ok x hx
  · refine hF.mono (fun k hk => .inl ?_)
    rcases hk with rfl | e | ⟨r, hr, e⟩
    · exact .inr (.inl rfl)
    · exact .inr (.inr (.inr (.inl e)))
    · exact .inr (.inr (.inr (.inr ⟨r, List.mem_append_right _ (by rw [hR]; simp [hr]), e⟩)))
  · intro k hk
    have hn : ∀ u : Value, (u.ownBlock = s2.v.ownBlock ∨ ∃ j, u.ownBlock = some j ∧ w.heap.size ≤ j) → u.ownBlock = some k → foot (some ⟨p, 0, none⟩) (some m) s1 s2 k ∨ w.heap.size ≤ k := by
      intro u hu e
      rcases hu with e' | ⟨j, e', hj⟩
      · rw [e'] at e; exact .inl (.inr (.inr (.inr (.inl e))))
      · rw [e'] at e; injection e with e; exact .inr (by omega)
    rcases hk with e | e | e | e | ⟨r, hr, e⟩
    · exact .inl (.inl e)
    · exact .inl (.inr (.inl e))
    · exact .inl (.inr (.inr (.inl e)))
    · exact hn v2 hv2 e
    · have hr' : r ∈ X ∨ r ∈ s1.rs ++ s2.rs := by
        have hr2 : r ∈ s1.rs ++ (A ++ X ++ B) := hr
        rw [hR]
        simp only [List.mem_append] at hr2 ⊢
        rcases hr2 with h | (h | h) | h
        · exact .inr (.inl h)
        · exact .inr (.inr (.inl (.inl h)))
        · exact .inl h
        · exact .inr (.inr (.inr h))
      rcases hr' with h | h
      · rcases hX.2 with rfl | ⟨x, rfl, hx'⟩
        · cases h
        · obtain rfl := List.mem_singleton.1 h
          rcases hx' with ⟨y, rfl, e'⟩ | ⟨j, e', hj⟩
          · rw [e'] at e
            exact .inl (.inr (.inr (.inr (.inr ⟨y, List.mem_append_right _ (by rw [hR]; simp), e⟩))))
          · rw [e'] at e; injection e with e; exact .inr (by omega)
      · exact .inl (.inr (.inr (.inr (.inr ⟨r, h, e⟩))))
set_option maxHeartbeats 4000000 in
set_option maxRecDepth 100000 in
theorem put_w1 (p m : Nat) (s1 s2 : Sd) (o : Od) (w : World) (H : Whole w p m s1 s2) (ho : Od.ok w o ∧ goodO o = true) (hs : o.side = 1) (hid : ∀ x ∈ bookL s1.rs s2.rs, ¬ x.id = o.id) (hlen : (bookL s1.rs s2.rs).length < 64) :
    Calls Tryz.prog 178 #[.pointer (some ⟨p, 0, none⟩), .agg #[.int .u64 o.id, .int .i64 o.acc, .int .i64 o.side, .int .i64 o.price, .int .i64 o.qty, .int .u64 o.seq]] w fun e w' => e = .returned (.tuple #[]) ∧ ∃ s1' s2', Hid (PutIs w w' p m s1 s2 s1' s2' o) := by
  have hwf : (Lit.int .i64 o.side).wf = true := by rw [hs]; decide
  have hR : rsOf s1 s2 o.side = s1.rs := by rw [hs]; rfl
  have hv : rowsOf s1 s2 o.side = s1.v := by rw [hs]; rfl
  have hpw : s1.rs.Pairwise (fun a b => betN o.side a.pr b.pr = true) := by rw [hs]; exact H.ok1.rows
  have hn := H.n1
  obtain ⟨k, hk⟩ : ∃ k, atN o.side o.price s1.rs = k := ⟨_, rfl⟩
  by_cases h : k < s1.rs.length ∧ (s1.rs[k]!).pr = o.price
  · obtain ⟨hkl, hp⟩ := h
    have hmem : s1.rs[k]! ∈ s1.rs := by rw [getElem!_pos s1.rs k hkl]; exact List.getElem_mem hkl
    have hql : (s1.rs[k]!).q.length ≤ 1000 := by
      have h1 : (s1.rs[k]!).q.length ≤ lenQ (s1.rs ++ s2.rs) := lenQ_pre (x := ⟨s1.rs[k]!, List.mem_append_left _ hmem⟩)
      omega
    refine (put_there p m s1 s2 o.side o w H.bk rfl hwf s1.rs hR hpw (by omega) k hk hkl hp (H.ok1.que _ hmem) hql).mono fun e w' ⟨he, v', hh⟩ => ⟨he, ?_⟩
    obtain ⟨h1, h2, h3, h4⟩ := hh.out
    rw [hv] at h2 h3
    have hsp := split_at s1.rs k hkl
    have he2 : s1.rs.take k ++ (⟨o.price, v', putQ o (s1.rs[k]!).q⟩ : Rw) :: s1.rs.drop (k + 1) = s1.rs.take k ++ [⟨o.price, v', putQ o (s1.rs[k]!).q⟩] ++ s1.rs.drop (k + 1) := by rw [List.append_assoc]; rfl
    have hth : s1.there = true := (map_there H).1 (fun e => by rw [e] at hkl; exact absurd hkl (Nat.not_lt_zero _))
    have hmm : w'.ownsMap Tryz.prog 3 RV m 2 (mapD s1 s2) := ownsMap_fr (H.bk.mp m rfl) h3 (fun hS => by
      rcases hS with e | e
      · obtain ⟨cs, hcs⟩ := own_blk H.bk.r1 e
        exact map_ne (H.bk.mp m rfl) hcs rfl
      · obtain ⟨cs, hcs⟩ := own_blk (H.bk.q _ (List.mem_append_left _ hmem)) e
        exact map_ne (H.bk.mp m rfl) hcs rfl)
    rw [he2] at h2
    have hP := putR_there (o := o) (s := 1) (.inl rfl) (R := s1.rs) H.ok1.rows (by rw [← hs, hk]; exact hkl) (by rw [← hs, hk]; exact hp) v'
    rw [← hs, hk, he2, hs] at hP
    refine ⟨_, _, Lib.hid (put_side1 (v2 := s1.v) H ho hs hid hlen hsp ⟨.inr ⟨_, rfl⟩, .inr ⟨_, rfl, h4.imp (fun e => ⟨_, rfl, e⟩) id⟩⟩ (.inl rfl) (fun r hr => ?_) ?_ ?_ ?_ hP)⟩
    · rw [List.mem_singleton.1 hr]
      show w'.ownsRow 0 38 6 v' (putQ o _).length _
      rw [putQ_len]; exact h1
    · rw [← he2, set_len _ _ hkl, he2]; exact h2
    · have : mapD ⟨true, s1.v, s1.rs.take k ++ [⟨o.price, v', putQ o (s1.rs[k]!).q⟩] ++ s1.rs.drop (k + 1)⟩ s2 = mapD s1 s2 := by
        unfold mapD
        rw [hth]
      rw [this]; exact hmm
    · refine h3.mono (fun j hj => .inl ?_)
      rcases hj with e | e
      · exact .inr (.inl e)
      · exact .inr (.inr ⟨_, List.mem_singleton.2 rfl, e⟩)
  · refine (put_new p m s1 s2 o w H.bk hwf s1.rs hR hpw (by omega) k hk h).mono fun e w' ⟨he, v2, v', hh⟩ => ⟨he, ?_⟩
    obtain ⟨h1, h2, h3, h4, h5, h6⟩ := hh.out
    rw [hv] at h4 h6
    have he2 : s1.rs.take k ++ (⟨o.price, v', [o]⟩ : Rw) :: s1.rs.drop k = s1.rs.take k ++ [⟨o.price, v', [o]⟩] ++ s1.rs.drop k := by rw [List.append_assoc]; rfl
    have hkl : k ≤ s1.rs.length := by rw [← hk]; exact at_le _ _ _
    have hln : (s1.rs.take k ++ [(⟨o.price, v', [o]⟩ : Rw)] ++ s1.rs.drop k).length = s1.rs.length + 1 := by
      rw [List.length_append, List.length_append, List.length_take, List.length_drop, List.length_singleton]; omega
    rw [he2] at h2
    have hP := putR_new (o := o) (s := 1) (.inl rfl) (R := s1.rs) H.ok1.rows (by rw [← hs, hk]; exact h) v'
    rw [← hs, hk, he2, hs] at hP
    rw [hs, map_put1 s1 s2 v2 (s1.rs.take k ++ [⟨o.price, v', [o]⟩] ++ s1.rs.drop k)] at h3
    refine ⟨_, _, Lib.hid (put_side1 (M := []) H ho hs hid hlen (by rw [List.append_nil, List.take_append_drop]) ⟨.inl rfl, .inr ⟨_, rfl, .inr h5⟩⟩ h6 (fun r hr => ?_) ?_ (map_two h3) ?_ hP)⟩
    · rw [List.mem_singleton.1 hr]; exact h1
    · rw [hln]; exact h2
    · refine h4.mono (fun j hj => .inl ?_)
      rcases hj with e | e
      · exact .inl e
      · exact .inr (.inl e)
set_option maxHeartbeats 4000000 in
set_option maxRecDepth 100000 in
theorem put_w2 (p m : Nat) (s1 s2 : Sd) (o : Od) (w : World) (H : Whole w p m s1 s2) (ho : Od.ok w o ∧ goodO o = true) (hs : o.side = 2) (hid : ∀ x ∈ bookL s1.rs s2.rs, ¬ x.id = o.id) (hlen : (bookL s1.rs s2.rs).length < 64) :
    Calls Tryz.prog 178 #[.pointer (some ⟨p, 0, none⟩), .agg #[.int .u64 o.id, .int .i64 o.acc, .int .i64 o.side, .int .i64 o.price, .int .i64 o.qty, .int .u64 o.seq]] w fun e w' => e = .returned (.tuple #[]) ∧ ∃ s1' s2', Hid (PutIs w w' p m s1 s2 s1' s2' o) := by
  have hwf : (Lit.int .i64 o.side).wf = true := by rw [hs]; decide
  have hR : rsOf s1 s2 o.side = s2.rs := by rw [hs]; rfl
  have hv : rowsOf s1 s2 o.side = s2.v := by rw [hs]; rfl
  have hpw : s2.rs.Pairwise (fun a b => betN o.side a.pr b.pr = true) := by rw [hs]; exact H.ok2.rows
  have hn := H.n1
  obtain ⟨k, hk⟩ : ∃ k, atN o.side o.price s2.rs = k := ⟨_, rfl⟩
  by_cases h : k < s2.rs.length ∧ (s2.rs[k]!).pr = o.price
  · obtain ⟨hkl, hp⟩ := h
    have hmem : s2.rs[k]! ∈ s2.rs := by rw [getElem!_pos s2.rs k hkl]; exact List.getElem_mem hkl
    have hql : (s2.rs[k]!).q.length ≤ 1000 := by
      have h1 : (s2.rs[k]!).q.length ≤ lenQ (s1.rs ++ s2.rs) := lenQ_pre (x := ⟨s2.rs[k]!, List.mem_append_right _ hmem⟩)
      omega
    refine (put_there p m s1 s2 o.side o w H.bk rfl hwf s2.rs hR hpw (by omega) k hk hkl hp (H.ok2.que _ hmem) hql).mono fun e w' ⟨he, v', hh⟩ => ⟨he, ?_⟩
    obtain ⟨h1, h2, h3, h4⟩ := hh.out
    rw [hv] at h2 h3
    have hsp := split_at s2.rs k hkl
    have he2 : s2.rs.take k ++ (⟨o.price, v', putQ o (s2.rs[k]!).q⟩ : Rw) :: s2.rs.drop (k + 1) = s2.rs.take k ++ [⟨o.price, v', putQ o (s2.rs[k]!).q⟩] ++ s2.rs.drop (k + 1) := by rw [List.append_assoc]; rfl
    have hth : s2.there = true := (map_there H).2 (fun e => by rw [e] at hkl; exact absurd hkl (Nat.not_lt_zero _))
    have hmm : w'.ownsMap Tryz.prog 3 RV m 2 (mapD s1 s2) := ownsMap_fr (H.bk.mp m rfl) h3 (fun hS => by
      rcases hS with e | e
      · obtain ⟨cs, hcs⟩ := own_blk H.bk.r2 e
        exact map_ne (H.bk.mp m rfl) hcs rfl
      · obtain ⟨cs, hcs⟩ := own_blk (H.bk.q _ (List.mem_append_right _ hmem)) e
        exact map_ne (H.bk.mp m rfl) hcs rfl)
    rw [he2] at h2
    have hP := putR_there (o := o) (s := 2) (.inr rfl) (R := s2.rs) H.ok2.rows (by rw [← hs, hk]; exact hkl) (by rw [← hs, hk]; exact hp) v'
    rw [← hs, hk, he2, hs] at hP
    refine ⟨_, _, Lib.hid (put_side2 (v2 := s2.v) H ho hs hid hlen hsp ⟨.inr ⟨_, rfl⟩, .inr ⟨_, rfl, h4.imp (fun e => ⟨_, rfl, e⟩) id⟩⟩ (.inl rfl) (fun r hr => ?_) ?_ ?_ ?_ hP)⟩
    · rw [List.mem_singleton.1 hr]
      show w'.ownsRow 0 38 6 v' (putQ o _).length _
      rw [putQ_len]; exact h1
    · rw [← he2, set_len _ _ hkl, he2]; exact h2
    · have : mapD s1 ⟨true, s2.v, s2.rs.take k ++ [⟨o.price, v', putQ o (s2.rs[k]!).q⟩] ++ s2.rs.drop (k + 1)⟩ = mapD s1 s2 := by
        unfold mapD
        rw [hth]
      rw [this]; exact hmm
    · refine h3.mono (fun j hj => .inl ?_)
      rcases hj with e | e
      · exact .inr (.inl e)
      · exact .inr (.inr ⟨_, List.mem_singleton.2 rfl, e⟩)
  · refine (put_new p m s1 s2 o w H.bk hwf s2.rs hR hpw (by omega) k hk h).mono fun e w' ⟨he, v2, v', hh⟩ => ⟨he, ?_⟩
    obtain ⟨h1, h2, h3, h4, h5, h6⟩ := hh.out
    rw [hv] at h4 h6
    have he2 : s2.rs.take k ++ (⟨o.price, v', [o]⟩ : Rw) :: s2.rs.drop k = s2.rs.take k ++ [⟨o.price, v', [o]⟩] ++ s2.rs.drop k := by rw [List.append_assoc]; rfl
    have hkl : k ≤ s2.rs.length := by rw [← hk]; exact at_le _ _ _
    have hln : (s2.rs.take k ++ [(⟨o.price, v', [o]⟩ : Rw)] ++ s2.rs.drop k).length = s2.rs.length + 1 := by
      rw [List.length_append, List.length_append, List.length_take, List.length_drop, List.length_singleton]; omega
    rw [he2] at h2
    have hP := putR_new (o := o) (s := 2) (.inr rfl) (R := s2.rs) H.ok2.rows (by rw [← hs, hk]; exact h) v'
    rw [← hs, hk, he2, hs] at hP
    rw [hs, map_put2 s1 s2 v2 (s2.rs.take k ++ [⟨o.price, v', [o]⟩] ++ s2.rs.drop k)] at h3
    refine ⟨_, _, Lib.hid (put_side2 (M := []) H ho hs hid hlen (by rw [List.append_nil, List.take_append_drop]) ⟨.inl rfl, .inr ⟨_, rfl, .inr h5⟩⟩ h6 (fun r hr => ?_) ?_ (map_two h3) ?_ hP)⟩
    · rw [List.mem_singleton.1 hr]; exact h1
    · rw [hln]; exact h2
    · refine h4.mono (fun j hj => .inl ?_)
      rcases hj with e | e
      · exact .inl e
      · exact .inr (.inl e)
theorem lPut_c (p m : Nat) (s1 s2 : Sd) (o : Od) (w : World) (H : Whole w p m s1 s2) (ho : Od.ok w o ∧ goodO o = true) (hid : ∀ x ∈ bookL s1.rs s2.rs, ¬ x.id = o.id) (hlen : (bookL s1.rs s2.rs).length < 64) :
    Calls Tryz.prog 178 #[.pointer (some ⟨p, 0, none⟩), .agg #[.int .u64 o.id, .int .i64 o.acc, .int .i64 o.side, .int .i64 o.price, .int .i64 o.qty, .int .u64 o.seq]] w fun e w' => e = .returned (.tuple #[]) ∧ ∃ s1' s2', Hid (PutIs w w' p m s1 s2 s1' s2' o) := by
  rcases good_side ho.2 with h | h
  · exact put_w1 p m s1 s2 o w H ho h hid hlen
  · exact put_w2 p m s1 s2 o w H ho h hid hlen
end Go.Proofs.YtgbmgdffgmablaaGreat

namespace Go.Proofs.YtgbmgdffgmablaaGreat
open Go.RowKit Go.Shelf Go.Sort Go.Maps

/-- What Add tells, and leaves. -/
def AddIs (w w' : World) (p m : Nat) (s1 s2 s1' s2' : Sd) (o : Od) (c : Int) : Prop :=
  (c = 2 ∧ goodO o = false ∧ s1' = s1 ∧ s2' = s2 ∧ Below w.heap.size w w') ∨
  (goodO o = true ∧ c = 52 ∧ (∃ x ∈ bookL s1.rs s2.rs, x.id = o.id) ∧ s1' = s1 ∧ s2' = s2 ∧ Below w.heap.size w w') ∨
  (goodO o = true ∧ (∀ x ∈ bookL s1.rs s2.rs, ¬ x.id = o.id) ∧ ((c = 50 ∧ (bookL s1.rs s2.rs).length = 64 ∧ s1' = s1 ∧ s2' = s2 ∧ Below w.heap.size w w') ∨ (c = 0 ∧ (bookL s1.rs s2.rs).length < 64 ∧ PutIs w w' p m s1 s2 s1' s2' o)))
/-- What was put behind other calls. -/
theorem put_back {w W w' : World} {p m : Nat} {s1 s2 s1' s2' : Sd} {o : Od} (hb : Below w.heap.size w W) (h : PutIs W w' p m s1 s2 s1' s2' o) : PutIs w w' p m s1 s2 s1' s2' o :=
  ⟨h.wh, h.perm, (Fr.of_below hb : Fr (foot (some ⟨p, 0, none⟩) (some m) s1 s2) w W).t h.fr, fun k hk => (h.ft k hk).imp id (fun h' => Nat.le_trans hb.size h'), h.e2, h.e1⟩
set_option maxHeartbeats 4000000 in
set_option maxRecDepth 100000 in
theorem add_bad (p m : Nat) (s1 s2 : Sd) (o : Od) (w : World) (H : Whole w p m s1 s2) (ho : Od.ok w o) (hg : goodO o = false) :
    Calls Tryz.prog 168 #[.pointer (some ⟨p, 0, none⟩), .agg #[.int .u64 o.id, .int .i64 o.acc, .int .i64 o.side, .int .i64 o.price, .int .i64 o.qty, .int .u64 o.seq]] w fun e w' => ∃ c s1' s2', e = .returned (.int .i64 c) ∧ Hid (AddIs w w' p m s1 s2 s1' s2' o c) := by
  have hn := H.n1
  obtain ⟨w0, hw0⟩ : ∃ w0, w.alloc (.cells #[.int .u64 o.id, .int .i64 o.acc, .int .i64 o.side, .int .i64 o.price, .int .i64 o.qty, .int .u64 o.seq] 38) = w0 := ⟨_, rfl⟩
  have B0 : Below w.heap.size w w0 := by rw [← hw0]; exact (Below.refl _ _).alloc (Nat.le_refl _) _
  have hO0 : Cl 38 w0 w.heap.size (OC o) := by rw [← hw0]; exact hd_last rfl
  have HH := Lib.hid H
  have HO := Lib.hid ho
  have HN := Lib.hid hn
  have HM := Lib.hid (made_c (some ⟨p, 0, none⟩) (some m) s1 s2 w0 (H.below B0).bk)
  have HG : Hid (∀ W, Calls Tryz.prog 65 #[.agg #[.int .u64 o.id, .int .i64 o.acc, .int .i64 o.side, .int .i64 o.price, .int .i64 o.qty, .int .u64 o.seq]] W fun e w' => e = .returned (.bool (goodO o)) ∧ Gw W w') := fun W => good_c o W
  obtain ⟨x0, x1, x2, x3, x4, x5⟩ := six_of hO0
  obtain ⟨ob, hob⟩ : ∃ ob, w.heap.size = ob := ⟨_, rfl⟩
  rw [hob] at hO0 x0 x1 x2 x3 x4 x5
  have HB0 := Lib.hid B0
  rw [hg] at HG
  clear H ho hn B0
  go_enter Tryz.func168, Tryz.ntmps168
  go_wp2_with (first | ((with_reducible refine HM.out.mono ?_); rintro e w1' ⟨rfl, rfl⟩; clear HM) | ((with_reducible refine (HG.out _).mono ?_); rintro e w1 ⟨rfl, k1⟩; have hO1 : Cl 38 w1 ob (OC o) := hO0.gw k1; have HB1 : Hid (Below w.heap.size w w1) := HB0.out.trans (k1.b.mono HB0.out.size); obtain ⟨y0, y1, y2, y3, y4, y5⟩ := six_of hO1; clear x0 x1 x2 x3 x4 x5 HG HB0 k1 hO0))
  go_ret
  exact ⟨2, s1, s2, rfl, Lib.hid (.inl ⟨rfl, hg, rfl, rfl, HB1.out⟩)⟩
set_option maxHeartbeats 4000000 in
set_option maxRecDepth 100000 in
theorem add_there (p m : Nat) (s1 s2 : Sd) (o : Od) (w : World) (H : Whole w p m s1 s2) (ho : Od.ok w o) (hg : goodO o = true) (x : Od) (hx : x ∈ bookL s1.rs s2.rs) (hxi : x.id = o.id) :
    Calls Tryz.prog 168 #[.pointer (some ⟨p, 0, none⟩), .agg #[.int .u64 o.id, .int .i64 o.acc, .int .i64 o.side, .int .i64 o.price, .int .i64 o.qty, .int .u64 o.seq]] w fun e w' => ∃ c s1' s2', e = .returned (.int .i64 c) ∧ Hid (AddIs w w' p m s1 s2 s1' s2' o c) := by
  have hn := H.n1
  obtain ⟨w0, hw0⟩ : ∃ w0, w.alloc (.cells #[.int .u64 o.id, .int .i64 o.acc, .int .i64 o.side, .int .i64 o.price, .int .i64 o.qty, .int .u64 o.seq] 38) = w0 := ⟨_, rfl⟩
  have B0 : Below w.heap.size w w0 := by rw [← hw0]; exact (Below.refl _ _).alloc (Nat.le_refl _) _
  have hO0 : Cl 38 w0 w.heap.size (OC o) := by rw [← hw0]; exact hd_last rfl
  have HH := Lib.hid H
  have HO := Lib.hid ho
  have HN := Lib.hid hn
  have HM := Lib.hid (made_c (some ⟨p, 0, none⟩) (some m) s1 s2 w0 (H.below B0).bk)
  have HG : Hid (∀ W, Calls Tryz.prog 65 #[.agg #[.int .u64 o.id, .int .i64 o.acc, .int .i64 o.side, .int .i64 o.price, .int .i64 o.qty, .int .u64 o.seq]] W fun e w' => e = .returned (.bool (goodO o)) ∧ Gw W w') := fun W => good_c o W
  obtain ⟨x0, x1, x2, x3, x4, x5⟩ := six_of hO0
  obtain ⟨ob, hob⟩ : ∃ ob, w.heap.size = ob := ⟨_, rfl⟩
  rw [hob] at hO0 x0 x1 x2 x3 x4 x5
  have HB0 := Lib.hid B0
  rw [hg] at HG
  have HGet : Hid (∀ W, Below w.heap.size w W → Calls Tryz.prog 172 #[.pointer (some ⟨p, 0, none⟩), .int .u64 o.id] W fun e w' => ∃ r, e = .returned (.tuple #[optV r, .bool r.isSome]) ∧ Hid (GetIs o.id (bookL s1.rs s2.rs) r ∧ Below W.heap.size W w')) := fun W hW => lGet_c _ _ s1 s2 o.id W (HH.out.below hW).bk (by have := HN.out; omega) (by have := HN.out; omega) (by have := HN.out; omega)
  have HLen : Hid (∀ W, Below w.heap.size w W → Calls Tryz.prog 173 #[.pointer (some ⟨p, 0, none⟩)] W fun e w' => e = .returned (.int .i64 ((bookL s1.rs s2.rs).length : Nat)) ∧ Hid (Below W.heap.size W w')) := fun W hW => by
    have := lLen_c _ _ s1 s2 W (HH.out.below hW).bk (by have := HN.out; omega) (by have := HN.out; omega) (by have := HN.out; omega)
    rwa [lenQ_flat, flatR_app] at this
  clear H ho hn B0
  go_enter Tryz.func168, Tryz.ntmps168
  go_wp2_with (first | ((with_reducible refine HM.out.mono ?_); rintro e w1' ⟨rfl, rfl⟩; clear HM) | ((with_reducible refine (HG.out _).mono ?_); rintro e w1 ⟨rfl, k1⟩; have hO1 : Cl 38 w1 ob (OC o) := hO0.gw k1; have HB1 : Hid (Below w.heap.size w w1) := HB0.out.trans (k1.b.mono HB0.out.size); obtain ⟨y0, y1, y2, y3, y4, y5⟩ := six_of hO1; clear x0 x1 x2 x3 x4 x5 HG HB0 k1 hO0) | ((with_reducible refine (HGet.out _ HB1.out).mono ?_); rintro e w2 ⟨r, rfl, hr⟩; obtain ⟨y, rfl⟩ : ∃ y, r = some y := (by cases r with | none => exact absurd hxi (hr.out.1 x hx) | some y => exact ⟨y, rfl⟩); dsimp only [optV, Option.isSome]))
  go_ret
  exact ⟨52, s1, s2, rfl, Lib.hid (.inr (.inl ⟨hg, rfl, ⟨x, hx, hxi⟩, rfl, rfl, (HB1.out.trans (hr.out.2.mono HB1.out.size)).alloc (Nat.le_trans HB1.out.size hr.out.2.size) _⟩))⟩
set_option maxHeartbeats 4000000 in
set_option maxRecDepth 100000 in
theorem add_full (p m : Nat) (s1 s2 : Sd) (o : Od) (w : World) (H : Whole w p m s1 s2) (ho : Od.ok w o) (hg : goodO o = true) (hid : ∀ x ∈ bookL s1.rs s2.rs, ¬ x.id = o.id) (hl : (bookL s1.rs s2.rs).length = 64) :
    Calls Tryz.prog 168 #[.pointer (some ⟨p, 0, none⟩), .agg #[.int .u64 o.id, .int .i64 o.acc, .int .i64 o.side, .int .i64 o.price, .int .i64 o.qty, .int .u64 o.seq]] w fun e w' => ∃ c s1' s2', e = .returned (.int .i64 c) ∧ Hid (AddIs w w' p m s1 s2 s1' s2' o c) := by
  have hn := H.n1
  obtain ⟨w0, hw0⟩ : ∃ w0, w.alloc (.cells #[.int .u64 o.id, .int .i64 o.acc, .int .i64 o.side, .int .i64 o.price, .int .i64 o.qty, .int .u64 o.seq] 38) = w0 := ⟨_, rfl⟩
  have B0 : Below w.heap.size w w0 := by rw [← hw0]; exact (Below.refl _ _).alloc (Nat.le_refl _) _
  have hO0 : Cl 38 w0 w.heap.size (OC o) := by rw [← hw0]; exact hd_last rfl
  have HH := Lib.hid H
  have HO := Lib.hid ho
  have HN := Lib.hid hn
  have HM := Lib.hid (made_c (some ⟨p, 0, none⟩) (some m) s1 s2 w0 (H.below B0).bk)
  have HG : Hid (∀ W, Calls Tryz.prog 65 #[.agg #[.int .u64 o.id, .int .i64 o.acc, .int .i64 o.side, .int .i64 o.price, .int .i64 o.qty, .int .u64 o.seq]] W fun e w' => e = .returned (.bool (goodO o)) ∧ Gw W w') := fun W => good_c o W
  obtain ⟨x0, x1, x2, x3, x4, x5⟩ := six_of hO0
  obtain ⟨ob, hob⟩ : ∃ ob, w.heap.size = ob := ⟨_, rfl⟩
  rw [hob] at hO0 x0 x1 x2 x3 x4 x5
  have HB0 := Lib.hid B0
  rw [hg] at HG
  have HGet : Hid (∀ W, Below w.heap.size w W → Calls Tryz.prog 172 #[.pointer (some ⟨p, 0, none⟩), .int .u64 o.id] W fun e w' => ∃ r, e = .returned (.tuple #[optV r, .bool r.isSome]) ∧ Hid (GetIs o.id (bookL s1.rs s2.rs) r ∧ Below W.heap.size W w')) := fun W hW => lGet_c _ _ s1 s2 o.id W (HH.out.below hW).bk (by have := HN.out; omega) (by have := HN.out; omega) (by have := HN.out; omega)
  have HLen : Hid (∀ W, Below w.heap.size w W → Calls Tryz.prog 173 #[.pointer (some ⟨p, 0, none⟩)] W fun e w' => e = .returned (.int .i64 ((bookL s1.rs s2.rs).length : Nat)) ∧ Hid (Below W.heap.size W w')) := fun W hW => by
    have := lLen_c _ _ s1 s2 W (HH.out.below hW).bk (by have := HN.out; omega) (by have := HN.out; omega) (by have := HN.out; omega)
    rwa [lenQ_flat, flatR_app] at this
  rw [hl] at HLen
  clear H ho hn B0
  go_enter Tryz.func168, Tryz.ntmps168
  go_wp2_with (first | ((with_reducible refine HM.out.mono ?_); rintro e w1' ⟨rfl, rfl⟩; clear HM) | ((with_reducible refine (HG.out _).mono ?_); rintro e w1 ⟨rfl, k1⟩; have hO1 : Cl 38 w1 ob (OC o) := hO0.gw k1; have HB1 : Hid (Below w.heap.size w w1) := HB0.out.trans (k1.b.mono HB0.out.size); obtain ⟨y0, y1, y2, y3, y4, y5⟩ := six_of hO1; clear x0 x1 x2 x3 x4 x5 HG HB0 k1 hO0) | ((with_reducible refine (HGet.out _ HB1.out).mono ?_); rintro e w2 ⟨r, rfl, hr⟩; obtain rfl : r = none := (by cases r with | none => rfl | some y => exact absurd hr.out.1.2 (hid y hr.out.1.1)); dsimp only [optV, Option.isSome]; have HB2 : Hid (Below w.heap.size w (w2.alloc (.cells (OC ⟨0, 0, 0, 0, 0, 0⟩) 38))) := (HB1.out.trans (hr.out.2.mono HB1.out.size)).alloc (Nat.le_trans HB1.out.size hr.out.2.size) _; have hO2 : Cl 38 (w2.alloc (.cells (OC ⟨0, 0, 0, 0, 0, 0⟩) 38)) ob (OC o) := hd_prev (Nat.lt_of_lt_of_le (blk_lt hO1) hr.out.2.size) ((hr.out.2.block _ (blk_lt hO1)).trans hO1); clear HGet y0 y1 y2 y3 y4 y5 hO1 hr) | ((with_reducible refine (HLen.out _ HB2.out).mono ?_); rintro e w3 ⟨rfl, hb3⟩; have HB3 : Hid (Below w.heap.size w w3) := HB2.out.trans (hb3.out.mono HB2.out.size); have hO3 : Cl 38 w3 ob (OC o) := (hb3.out.block _ (blk_lt hO2)).trans hO2; obtain ⟨z0, z1, z2, z3, z4, z5⟩ := six_of hO3; clear HLen HB2 hO2 hb3))
  go_ret
  exact ⟨50, s1, s2, rfl, Lib.hid (.inr (.inr ⟨hg, hid, .inl ⟨rfl, hl, rfl, rfl, HB3.out⟩⟩))⟩
set_option maxHeartbeats 4000000 in
set_option maxRecDepth 100000 in
theorem add_put (p m : Nat) (s1 s2 : Sd) (o : Od) (w : World) (H : Whole w p m s1 s2) (ho : Od.ok w o) (hg : goodO o = true) (hid : ∀ x ∈ bookL s1.rs s2.rs, ¬ x.id = o.id) (hl : (bookL s1.rs s2.rs).length < 64) :
    Calls Tryz.prog 168 #[.pointer (some ⟨p, 0, none⟩), .agg #[.int .u64 o.id, .int .i64 o.acc, .int .i64 o.side, .int .i64 o.price, .int .i64 o.qty, .int .u64 o.seq]] w fun e w' => ∃ c s1' s2', e = .returned (.int .i64 c) ∧ Hid (AddIs w w' p m s1 s2 s1' s2' o c) := by
  have hn := H.n1
  obtain ⟨w0, hw0⟩ : ∃ w0, w.alloc (.cells #[.int .u64 o.id, .int .i64 o.acc, .int .i64 o.side, .int .i64 o.price, .int .i64 o.qty, .int .u64 o.seq] 38) = w0 := ⟨_, rfl⟩
  have B0 : Below w.heap.size w w0 := by rw [← hw0]; exact (Below.refl _ _).alloc (Nat.le_refl _) _
  have hO0 : Cl 38 w0 w.heap.size (OC o) := by rw [← hw0]; exact hd_last rfl
  have HH := Lib.hid H
  have HO := Lib.hid ho
  have HN := Lib.hid hn
  have HM := Lib.hid (made_c (some ⟨p, 0, none⟩) (some m) s1 s2 w0 (H.below B0).bk)
  have HG : Hid (∀ W, Calls Tryz.prog 65 #[.agg #[.int .u64 o.id, .int .i64 o.acc, .int .i64 o.side, .int .i64 o.price, .int .i64 o.qty, .int .u64 o.seq]] W fun e w' => e = .returned (.bool (goodO o)) ∧ Gw W w') := fun W => good_c o W
  obtain ⟨x0, x1, x2, x3, x4, x5⟩ := six_of hO0
  obtain ⟨ob, hob⟩ : ∃ ob, w.heap.size = ob := ⟨_, rfl⟩
  rw [hob] at hO0 x0 x1 x2 x3 x4 x5
  have HB0 := Lib.hid B0
  rw [hg] at HG
  have HGet : Hid (∀ W, Below w.heap.size w W → Calls Tryz.prog 172 #[.pointer (some ⟨p, 0, none⟩), .int .u64 o.id] W fun e w' => ∃ r, e = .returned (.tuple #[optV r, .bool r.isSome]) ∧ Hid (GetIs o.id (bookL s1.rs s2.rs) r ∧ Below W.heap.size W w')) := fun W hW => lGet_c _ _ s1 s2 o.id W (HH.out.below hW).bk (by have := HN.out; omega) (by have := HN.out; omega) (by have := HN.out; omega)
  have HLen : Hid (∀ W, Below w.heap.size w W → Calls Tryz.prog 173 #[.pointer (some ⟨p, 0, none⟩)] W fun e w' => e = .returned (.int .i64 ((bookL s1.rs s2.rs).length : Nat)) ∧ Hid (Below W.heap.size W w')) := fun W hW => by
    have := lLen_c _ _ s1 s2 W (HH.out.below hW).bk (by have := HN.out; omega) (by have := HN.out; omega) (by have := HN.out; omega)
    rwa [lenQ_flat, flatR_app] at this
  obtain ⟨nL, hnL⟩ : ∃ nL, (bookL s1.rs s2.rs).length = nL := ⟨_, rfl⟩
  rw [hnL] at HLen
  have hnI : ¬ ((nL : Int) = 64) := by omega
  have HPut : Hid (∀ W, Below w.heap.size w W → Calls Tryz.prog 178 #[.pointer (some ⟨p, 0, none⟩), .agg #[.int .u64 o.id, .int .i64 o.acc, .int .i64 o.side, .int .i64 o.price, .int .i64 o.qty, .int .u64 o.seq]] W fun e w' => e = .returned (.tuple #[]) ∧ ∃ s1' s2', Hid (PutIs W w' p m s1 s2 s1' s2' o)) := fun W hW => lPut_c p m s1 s2 o W (HH.out.below hW) ⟨HO.out, hg⟩ hid hl
  clear H ho hn B0
  go_enter Tryz.func168, Tryz.ntmps168
  go_wp2_with (first | ((with_reducible refine HM.out.mono ?_); rintro e w1' ⟨rfl, rfl⟩; clear HM) | ((with_reducible refine (HG.out _).mono ?_); rintro e w1 ⟨rfl, k1⟩; have hO1 : Cl 38 w1 ob (OC o) := hO0.gw k1; have HB1 : Hid (Below w.heap.size w w1) := HB0.out.trans (k1.b.mono HB0.out.size); obtain ⟨y0, y1, y2, y3, y4, y5⟩ := six_of hO1; clear x0 x1 x2 x3 x4 x5 HG HB0 k1 hO0) | ((with_reducible refine (HGet.out _ HB1.out).mono ?_); rintro e w2 ⟨r, rfl, hr⟩; obtain rfl : r = none := (by cases r with | none => rfl | some y => exact absurd hr.out.1.2 (hid y hr.out.1.1)); dsimp only [optV, Option.isSome]; have HB2 : Hid (Below w.heap.size w (w2.alloc (.cells (OC ⟨0, 0, 0, 0, 0, 0⟩) 38))) := (HB1.out.trans (hr.out.2.mono HB1.out.size)).alloc (Nat.le_trans HB1.out.size hr.out.2.size) _; have hO2 : Cl 38 (w2.alloc (.cells (OC ⟨0, 0, 0, 0, 0, 0⟩) 38)) ob (OC o) := hd_prev (Nat.lt_of_lt_of_le (blk_lt hO1) hr.out.2.size) ((hr.out.2.block _ (blk_lt hO1)).trans hO1); clear HGet y0 y1 y2 y3 y4 y5 hO1 hr) | ((with_reducible refine (HLen.out _ HB2.out).mono ?_); rintro e w3 ⟨rfl, hb3⟩; have HB3 : Hid (Below w.heap.size w w3) := HB2.out.trans (hb3.out.mono HB2.out.size); have hO3 : Cl 38 w3 ob (OC o) := (hb3.out.block _ (blk_lt hO2)).trans hO2; obtain ⟨z0, z1, z2, z3, z4, z5⟩ := six_of hO3; clear HLen HB2 hO2 hb3) | ((with_reducible refine (HPut.out _ HB3.out).mono ?_); rintro e w4 ⟨rfl, s1', s2', hp⟩; have HB3' := HB3; clear HPut HB3 z0 z1 z2 z3 z4 z5 hO3))
  go_ret
  exact ⟨0, s1', s2', rfl, Lib.hid (.inr (.inr ⟨hg, hid, .inr ⟨rfl, hl, put_back HB3'.out hp.out⟩⟩))⟩
theorem lAdd_c (p m : Nat) (s1 s2 : Sd) (o : Od) (w : World) (H : Whole w p m s1 s2) (ho : Od.ok w o) :
    Calls Tryz.prog 168 #[.pointer (some ⟨p, 0, none⟩), .agg #[.int .u64 o.id, .int .i64 o.acc, .int .i64 o.side, .int .i64 o.price, .int .i64 o.qty, .int .u64 o.seq]] w fun e w' => ∃ c s1' s2', e = .returned (.int .i64 c) ∧ Hid (AddIs w w' p m s1 s2 s1' s2' o c) := by
  cases hg : goodO o with
  | false => exact add_bad p m s1 s2 o w H ho hg
  | true =>
    by_cases hx : ∃ x ∈ bookL s1.rs s2.rs, x.id = o.id
    · obtain ⟨x, h1, h2⟩ := hx
      exact add_there p m s1 s2 o w H ho hg x h1 h2
    · have hid : ∀ x ∈ bookL s1.rs s2.rs, ¬ x.id = o.id := fun x h1 h2 => hx ⟨x, h1, h2⟩
      by_cases hl : (bookL s1.rs s2.rs).length = 64
      · exact add_full p m s1 s2 o w H ho hg hid hl
      · exact add_put p m s1 s2 o w H ho hg hid (by have := H.len; omega)
end Go.Proofs.YtgbmgdffgmablaaGreat

namespace Go.Proofs.YtgbmgdffgmablaaGreat
open Go.RowKit Go.Sort Go.Lib Go.Shelf

/-- The reference's book, as it lies. -/
def RB (W : World) (wb : Nat) (M : List Od) : Prop := ∃ A c, Cl 46 W wb #[.slice A M.length c] ∧ W.ownsRow 0 49 6 (.slice A M.length c) M.length (ol M)
/-- The place of an ID. -/
def idxN (id : Int) (M : List Od) : Nat := M.findIdx (fun x => x.id == id)
theorem idx_none {id : Int} {M : List Od} (hn : ∀ x ∈ M, ¬ x.id = id) : idxN id M = M.length := by
  unfold idxN
  rw [List.findIdx_eq_length]
  intro x hx
  simp [hn x hx]
theorem idx_get {id : Int} {M : List Od} (h : idxN id M < M.length) : (M[idxN id M]!).id = id := by
  rw [getElem!_pos M _ h]
  have := List.findIdx_getElem (w := h)
  exact eq_of_beq this
theorem idx_some {id : Int} {M : List Od} {x : Od} (hx : x ∈ M) (he : x.id = id) : idxN id M < M.length := by
  unfold idxN
  rw [List.findIdx_lt_length]
  exact ⟨x, hx, by simp [he]⟩
end Go.Proofs.YtgbmgdffgmablaaGreat

namespace Go.Proofs.YtgbmgdffgmablaaGreat
open Go.RowKit Go.Sort Go.Lib Go.Shelf

theorem own_low {w W : World} {base n size : Nat} {T : TypeId} {v : Value} {xs : List Value} (h : w.ownsRow base T size v n xs) (hb : Below w.heap.size w W) : W.ownsRow base T size v n xs := own_fr h (S := fun _ => False) (Fr.of_below hb) (fun _ _ h => h)
end Go.Proofs.YtgbmgdffgmablaaGreat

namespace Go.Proofs.YtgbmgdffgmablaaGreat
open Go.RowKit Go.Sort Go.Lib Go.Shelf

/-- The blocks of a book are of its own kinds. -/
theorem foot_kind {W : World} {b : Option Addr} {m : Option Nat} {s1 s2 : Sd} (H : Bk W b m s1 s2) {k : Nat} (hk : foot b m s1 s2 k) {cs : Array Value} {T : TypeId} (h : W.heap[k]? = some (.cells cs T (0, 0))) : T = 132 ∨ T = 247 ∨ T = 38 := by
  rcases hk with e | e | e | e | ⟨r, hr, e⟩
  · rcases H.shape with ⟨h0, _⟩ | ⟨p, hb, hp⟩
    · rw [h0] at e; cases e
    · rw [hb] at e; injection e with e; injection e with e; subst e
      rw [h] at hp; injection hp with hp; injection hp with _ hp; exact .inl hp
  · obtain ⟨es, clock, hb, _⟩ := H.mp k e
    rw [h] at hb; cases hb
  · obtain ⟨cs', hc⟩ := own_blk H.r1 e
    rw [h] at hc; injection hc with hc; injection hc with _ hc; exact .inr (.inl hc)
  · obtain ⟨cs', hc⟩ := own_blk H.r2 e
    rw [h] at hc; injection hc with hc; injection hc with _ hc; exact .inr (.inl hc)
  · obtain ⟨cs', hc⟩ := own_blk (H.q r hr) e
    rw [h] at hc; injection hc with hc; injection hc with _ hc; exact .inr (.inr hc)
theorem rb_fr {W W' : World} {wb : Nat} {M : List Od} {b : Option Addr} {m : Option Nat} {s1 s2 : Sd} (R : RB W wb M) (H : Bk W b m s1 s2) (hf : Fr (foot b m s1 s2) W W') : RB W' wb M := by
  obtain ⟨A, c, hc, hr⟩ := R
  refine ⟨A, c, hf.blk hc (fun h => ?_), own_fr hr hf (fun k hk h => ?_)⟩
  · rcases foot_kind H h hc with e | e | e <;> exact absurd e (by decide)
  · obtain ⟨cs, hcs⟩ := own_blk hr hk
    rcases foot_kind H h hcs with e | e | e <;> exact absurd e (by decide)
theorem rb_low {W W' : World} {wb : Nat} {M : List Od} (R : RB W wb M) (hb : Below W.heap.size W W') : RB W' wb M := by
  obtain ⟨A, c, hc, hr⟩ := R
  exact ⟨A, c, (hb.block _ (blk_lt hc)).trans hc, own_low hr hb⟩
/-- What the book has is what Sorted makes of it. -/
theorem put_sort {w w' : World} {p m : Nat} {s1 s2 s1' s2' : Sd} {o : Od} (h : PutIs w w' p m s1 s2 s1' s2' o) : sortO (bookL s1.rs s2.rs ++ [o]) = bookL s1'.rs s2'.rs :=
  sortO_uniq (h.perm.trans (List.perm_append_comm (l₁ := [o]) (l₂ := bookL s1.rs s2.rs))) h.wh.pw
end Go.Proofs.YtgbmgdffgmablaaGreat

namespace Go.Proofs.YtgbmgdffgmablaaGreat
open Go.RowKit Go.Sort Go.Lib Go.Shelf

/-- Two books and the reference's one, side by side. -/
structure Tri (w W : World) (pa ma : Nat) (a1 a2 : Sd) (pb mb : Nat) (b1 b2 : Sd) (wb : Nat) (M : List Od) : Prop where
  wa : Whole W pa ma a1 a2
  wv : Whole W pb mb b1 b2
  rb : RB W wb M
  be : Below w.heap.size w W
  loa : ∀ k, foot (some ⟨pa, 0, none⟩) (some ma) a1 a2 k → w.heap.size ≤ k
  lob : ∀ k, foot (some ⟨pb, 0, none⟩) (some mb) b1 b2 k → w.heap.size ≤ k
  low : w.heap.size ≤ wb
  dj : ∀ k, foot (some ⟨pa, 0, none⟩) (some ma) a1 a2 k → ¬ foot (some ⟨pb, 0, none⟩) (some mb) b1 b2 k
section
variable {w W W' : World} {pa ma pb mb wb : Nat} {a1 a2 b1 b2 : Sd} {M : List Od}
theorem Tri.below (h : Tri w W pa ma a1 a2 pb mb b1 b2 wb M) (hb : Below W.heap.size W W') : Tri w W' pa ma a1 a2 pb mb b1 b2 wb M :=
  ⟨h.wa.below hb, h.wv.below hb, rb_low h.rb hb, h.be.trans (hb.mono h.be.size), h.loa, h.lob, h.low, h.dj⟩
end
end Go.Proofs.YtgbmgdffgmablaaGreat

namespace Go.Proofs.YtgbmgdffgmablaaGreat
open Go.RowKit Go.Shelf Go.Sort Go.Maps
set_option linter.unusedVariables false

/-- What the reference's Get tells. -/
def getO (id : Int) (M : List Od) : Option Od := if idxN id M < M.length then some (M[idxN id M]!) else none
end Go.Proofs.YtgbmgdffgmablaaGreat

namespace Go.Proofs.YtgbmgdffgmablaaGreat
open Go.RowKit Go.Shelf Go.Sort

theorem side_nil (s : Int) : SideOk s [] := ⟨List.Pairwise.nil, fun _ h => (by cases h), fun _ h => (by cases h), fun _ h => (by cases h)⟩
theorem whole_new {w : World} {p m : Nat} (hb : Bk w (some ⟨p, 0, none⟩) (some m) nilS nilS) : Whole w p m nilS nilS :=
  ⟨hb, side_nil 1, side_nil 2, List.Pairwise.nil, fun j h => (by cases h), List.Pairwise.nil, Nat.zero_le _, fun x h => (by cases h)⟩
theorem whole_foot {p m k : Nat} (h : foot (some ⟨p, 0, none⟩) (some m) nilS nilS k) : k = p ∨ k = m := by
  rcases h with h | h | h | h | ⟨r, h, _⟩
  · injection h with h; injection h with h; exact .inl h.symm
  · injection h with h; exact .inr h.symm
  · cases h
  · cases h
  · cases h
end Go.Proofs.YtgbmgdffgmablaaGreat

namespace Go.Proofs.YtgbmgdffgmablaaGreat
open Go.RowKit Go.Sort Go.Lib Go.Shelf

/-- What block g holds behind a removal in place. -/
def delC (cur z : List Value) (n i k : Nat) : List Value := cur.take (i * k) ++ (cur.drop ((i + 1) * k)).take ((n - 1 - i) * k) ++ z ++ cur.drop (n * k)
theorem delC_steps {cur z : List Value} {n i k c : Nat} (hi : i < n) (hc : n ≤ c) (hl : cur.length = c * k) (hz : z.length = k) :
    (cur.take (i * k) ++ (cur.drop ((i + 1) * k)).take ((n - 1 - i) * k) ++ cur.drop (i * k + ((cur.drop ((i + 1) * k)).take ((n - 1 - i) * k)).length)).take ((n - 1) * k) ++ z ++
      (cur.take (i * k) ++ (cur.drop ((i + 1) * k)).take ((n - 1 - i) * k) ++ cur.drop (i * k + ((cur.drop ((i + 1) * k)).take ((n - 1 - i) * k)).length)).drop ((n - 1) * k + z.length) = delC cur z n i k := by
  obtain ⟨m, rfl⟩ : ∃ m, n = i + 1 + m := ⟨n - (i + 1), by omega⟩
  have e0 : i + 1 + m - 1 - i = m := by omega
  have e1 : (i + 1) * k = i * k + k := Nat.succ_mul i k
  have e2 : (i + 1 + m) * k = i * k + k + m * k := by rw [Nat.add_mul, e1]
  have e3 : (i + 1 + m - 1) * k = i * k + m * k := by rw [show i + 1 + m - 1 = i + m by omega, Nat.add_mul]
  have h2 : i * k + k + m * k ≤ c * k := by rw [← e2]; exact Nat.mul_le_mul_right k hc
  unfold delC
  rw [e0, e2, e3]
  have lx : ((cur.drop ((i + 1) * k)).take (m * k)).length = m * k := by rw [List.length_take, List.length_drop]; omega
  have ly : (cur.take (i * k)).length = i * k := by rw [List.length_take]; omega
  rw [lx, List.take_append_of_le_length (by rw [List.length_append]; omega), List.take_of_length_le (by rw [List.length_append]; omega), List.drop_append, List.length_append, lx, ly]
  rw [List.drop_eq_nil_of_le («as» := cur.take (i * k) ++ (cur.drop ((i + 1) * k)).take (m * k)) (by rw [List.length_append]; omega), List.nil_append, List.drop_drop, hz]
  rw [show i * k + m * k + (i * k + m * k + k - (i * k + m * k)) = i * k + k + m * k by omega]
theorem delC_take {cur z xs : List Value} {n i k c : Nat} (hi : i < n) (hc : n ≤ c) (hl : cur.length = c * k) (hz : z.length = k) (hx : cur.take (n * k) = xs) :
    (delC cur z n i k).length = c * k ∧ (delC cur z n i k).take ((n - 1) * k) = xs.take (i * k) ++ xs.drop ((i + 1) * k) := by
  obtain ⟨m, rfl⟩ : ∃ m, n = i + 1 + m := ⟨n - (i + 1), by omega⟩
  have e0 : i + 1 + m - 1 - i = m := by omega
  have e1 : (i + 1) * k = i * k + k := Nat.succ_mul i k
  have e2 : (i + 1 + m) * k = i * k + k + m * k := by rw [Nat.add_mul, e1]
  have e3 : (i + 1 + m - 1) * k = i * k + m * k := by rw [show i + 1 + m - 1 = i + m by omega, Nat.add_mul]
  have h2 : i * k + k + m * k ≤ c * k := by rw [← e2]; exact Nat.mul_le_mul_right k hc
  subst hx
  unfold delC
  rw [e0, e2, e3, e1]
  have lx : ((cur.drop (i * k + k)).take (m * k)).length = m * k := by rw [List.length_take, List.length_drop]; omega
  have ly : (cur.take (i * k)).length = i * k := by rw [List.length_take]; omega
  refine ⟨?_, ?_⟩
  · simp only [List.length_append, lx, ly, hz, List.length_drop]; omega
  · rw [List.append_assoc, List.take_append_of_le_length (by rw [List.length_append]; omega), List.take_of_length_le (by rw [List.length_append]; omega)]
    rw [List.take_take, Nat.min_eq_left (by omega), List.drop_take, show i * k + k + m * k - (i * k + k) = m * k by omega]
theorem step_app2 {P : Program} {ops : Array Oper} {o : Oper} {a : Act} {w : World} {K : Act → World → Prop} {Q : Exit → Act → World → Prop} {E : Prop}
    (hg : o.guard = none) (s x : Operand) (t : TypeId) (hop : o.op = Op.call { callee := Callee.builtin Builtin.append, args := #[s, x], argTypes := #[t, t] })
    (v u : Value) (hs : a.eval s = v) (hx : a.eval x = u) {v' : Value} {w' : World} (hr : (Builtin.append_ #[t, t] o.type #[v, u]).run P w = .ok v' w') (hK : K (a.put o.dst v') w') :
    if Region.wanted o (yielded ops a.tmps) = true then Oper.wp P o a w K Q else E := by
  have hw : Region.wanted o (yielded ops a.tmps) = true := by simp [Region.wanted, hg]
  rw [if_pos hw]
  unfold Oper.wp
  simp [execOp, hop, resolve, invoke, builtin, hs, hx, hr, Result.andThen]
  exact hK
theorem clear_R (w : World) (ty : TypeId) (g o n c : Nat) (cur : Array Value) (hn : n = 1) (hg : w.heap[g]? = some (.cells cur 247 (0, 0))) (hfit : o + 2 ≤ cur.size) :
    (Builtin.clear_ #[248] ty #[.slice (some ⟨g, o, none⟩) n c]).run Tryz.prog w = .ok (.tuple #[]) (w.setRow g (cur.toList.take o ++ (#[.int .i64 0, .slice none 0 0] : Array Value).toList ++ cur.toList.drop (o + (#[.int .i64 0, .slice none 0 0] : Array Value).toList.length)).toArray) := by
  subst hn
  have hst := run_storeCells_at Tryz.prog g o 247 (#[.int .i64 0, .slice none 0 0] : Array Value).toList 0 cur w hg (by simpa using hfit) (by decide)
  simp only [Nat.add_zero] at hst
  have hz : (Builtin.zeroCells (Value.cells (.agg #[.int .i64 0, .slice none 0 0])) 1).toList = (#[.int .i64 0, .slice none 0 0] : Array Value).toList := by kernel_rfl
  simp [Builtin.clear_, run_underlying Tryz.underlying248, hz, hst]
set_option maxHeartbeats 4000000 in
set_option maxRecDepth 1000000 in
theorem del_R (w : World) (g n c i : Nat) (cur : List Value) (hg : w.heap[g]? = some (.cells cur.toArray 247 (0, 0))) (hl : cur.length = c * 2) (hc : n ≤ c) (hi : i < n) (hcm : c ≤ maxLen) (h1 : ∀ v ∈ cur.take (n * 2), v.oneCell' = true) :
    Calls Tryz.prog 184 #[.slice (some ⟨g, 0, none⟩) n c, .int .i64 i, .int .i64 ((i : Int) + 1)] w fun e w' => e = .returned (.slice (some ⟨g, 0, none⟩) (n - 1) c) ∧ Hid (InsIn w g 247 (delC cur (#[.int .i64 0, .slice none 0 0] : Array Value).toList n i 2) w') := by
  have mixed : Tryz.prog.follows .mixedOrders = true := by kernel_rfl
  obtain ⟨i0, hi0, hz0, hz1, hz2⟩ := info_parts info_R
  have hcm' : c ≤ 9223372036854775807 := by unfold maxLen at hcm; omega
  have q1 : ¬ ((i : Int) = (i : Int) + 1) := by omega
  have q2 : (i : Int) ≤ (i : Int) + 1 := by omega
  have q3 : (0 : Int) ≤ (i : Int) + 1 := by omega
  have q4 : (i : Int) + 1 ≤ (n : Int) := by omega
  have q5 : (n : Int) ≤ (c : Int) := by omega
  have q6 : ¬ (n = i) := by omega
  have q7 : (i : Int) + 1 ≤ (c : Int) := by omega
  have q8 : (i : Int) ≤ (c : Int) := by omega
  have q10 : ((i : Int) + 1).toNat = i + 1 := by omega
  have q11 : ¬ (c = n - 1) := by omega
  have q12 : ((n - 1 : Nat) : Int) ≤ (n : Int) := by omega
  have hni : (n - 1 - i) * 2 = n * 2 - (i + 1) * 2 := by omega
  have hnc : n * 2 ≤ c * 2 := by omega
  obtain ⟨X, eX⟩ : ∃ X, X = (cur.drop ((i + 1) * 2)).take ((n - 1 - i) * 2) := ⟨_, rfl⟩
  have lX : X.length = (n - 1 - i) * 2 := by rw [eX, List.length_take, List.length_drop]; omega
  obtain ⟨A1, e1⟩ : ∃ A1, A1 = (cur.take (i * 2) ++ X ++ cur.drop (i * 2 + X.length)) := ⟨_, rfl⟩
  have l1 : A1.length = c * 2 := by rw [e1]; simp only [List.length_append, List.length_take, List.length_drop, lX]; omega
  have e2 : A1.take ((n - 1) * 2) ++ (#[.int .i64 0, .slice none 0 0] : Array Value).toList ++ A1.drop ((n - 1) * 2 + (#[.int .i64 0, .slice none 0 0] : Array Value).toList.length) = delC cur (#[.int .i64 0, .slice none 0 0] : Array Value).toList n i 2 := by rw [e1, eX]; exact delC_steps hi hc hl rfl
  obtain ⟨A, hA, hsrc⟩ : ∃ A : Addr, (if c = i + 1 then some (⟨g, 0, none⟩ : Addr) else some ⟨g, (i + 1) * 2, none⟩) = some A ∧ (∀ j v, X[j]? = some v → w.drew.cell? (A.add j) = some v) := by
    by_cases h : c = i + 1
    · refine ⟨_, if_pos h, fun j v hj => ?_⟩
      have h0 : X.length = 0 := by rw [lX]; omega
      rw [List.length_eq_zero_iff.1 h0] at hj
      cases hj
    · refine ⟨_, if_neg h, fun j v hj => ?_⟩
      rw [addr_add, cell_of_row _ _ _ _ _ _ (hd_drew hg)]
      rw [eX, List.getElem?_take] at hj
      split at hj
      · rw [List.getElem?_drop] at hj
        rw [List.getElem?_toArray]; exact hj
      · cases hj
  have C1 : Hid (∀ ty, (Builtin.append_ #[248, 248] ty #[.slice (some ⟨g, 0, none⟩) i c, .slice (some A) (n - (i + 1)) (c - (i + 1))]).run Tryz.prog w.drew = .ok (.slice (some ⟨g, 0, none⟩) (n - 1) c) (w.drew.setRow g A1.toArray)) := Lib.hid (fun ty => by
    rw [show n - (i + 1) = n - 1 - i by omega]
    have := run_append_room w.drew 248 ty 247 i0 Tryz.underlying248 hi0 g i c cur.toArray (hd_drew hg) A (n - 1 - i) (c - (i + 1)) X (by rw [hz1]; exact lX) hsrc (fun v hv => h1 v (by rw [eX, hni, ← List.drop_take] at hv; exact List.mem_of_mem_drop hv)) (by omega) (by rw [hz1, lX]; simp only [List.size_toArray]; omega)
    rw [hz1, show i + (n - 1 - i) = n - 1 by omega] at this
    rw [e1]
    exact this)
  have G1 : (w.drew.setRow g A1.toArray).heap[g]? = some (.cells A1.toArray 247 (0, 0)) := setRow_heap _ _ _ _ _ _ (hd_drew hg)
  have C2 : Hid (∀ ty m c', m = 1 → (Builtin.clear_ #[248] ty #[.slice (some ⟨g, (n - 1) * 2, none⟩) m c']).run Tryz.prog (w.drew.setRow g A1.toArray) = .ok (.tuple #[]) ((w.drew.setRow g A1.toArray).setRow g (delC cur (#[.int .i64 0, .slice none 0 0] : Array Value).toList n i 2).toArray)) := Lib.hid (fun ty m c' hm => by
    have := clear_R (w.drew.setRow g A1.toArray) ty g ((n - 1) * 2) m c' A1.toArray hm G1 (by simp only [List.size_toArray]; omega)
    rw [← e2]
    exact this)
  have F : Hid (InsIn w g 247 (delC cur (#[.int .i64 0, .slice none 0 0] : Array Value).toList n i 2) ((w.drew.setRow g A1.toArray).setRow g (delC cur (#[.int .i64 0, .slice none 0 0] : Array Value).toList n i 2).toArray)) := insIn_trans (insIn_trans (insIn_drew hg) (insIn_set (hd_drew hg))) (insIn_set G1)
  clear eX lX e1 l1 e2 G1 hni hnc hsrc
  have HX := Lib.hid (And.intro hl (And.intro hc (And.intro hi h1)))
  clear hg hl hc h1 hcm
  go_enter Tryz.func184, Tryz.ntmps184
  go_wp2_with fail
  refine wp_region_held_drew (S := fun _ => True) (by kernel_rfl) (by trivial) (fun hHeld => ?_)
  refine wpAnyH_take (i := 0) (oi := ⟨some 20, _, _, _, _, _⟩) (v := ?_) rfl (by kernel_rfl) (by kernel_rfl) (by kernel_rfl) (fun _ _ _ h => h) (Or.inl ⟨by kernel_rfl, ?_⟩) (by assumption) ?_
  rotate_left
  · (intro w hSw; (try dsimp only at hSw); go_simp; try with_reducible rfl)
  (repeat (first | simp only [Act.put] | simp only [List.setIfInBounds_toArray] | simp only [List.set_cons_succ] | simp only [List.set_cons_zero]))
  refine wpAnyH_take (i := 1) (oi := ⟨some 21, _, _, _, _, _⟩) (v := ?_) rfl (by kernel_rfl) (by kernel_rfl) (by kernel_rfl) (fun _ _ _ h => h) (Or.inl ⟨by kernel_rfl, ?_⟩) (by assumption) ?_
  rotate_left
  · (intro w hSw; (try dsimp only at hSw); go_simp; try with_reducible rfl)
  (repeat (first | simp only [Act.put] | simp only [List.setIfInBounds_toArray] | simp only [List.set_cons_succ] | simp only [List.set_cons_zero]))
  refine wpAnyH_take (i := 2) (oi := ⟨some 22, _, _, _, _, _⟩) (v := ?_) rfl (by kernel_rfl) (by kernel_rfl) (by kernel_rfl) (fun _ _ _ h => h) (Or.inl ⟨by kernel_rfl, ?_⟩) (by assumption) ?_
  rotate_left
  · (intro w hSw; (try dsimp only at hSw); go_simp; try with_reducible rfl)
  (repeat (first | simp only [Act.put] | simp only [List.setIfInBounds_toArray] | simp only [List.set_cons_succ] | simp only [List.set_cons_zero]))
  refine wpAnyH_take (i := 3) (oi := ⟨some 23, _, _, _, _, _⟩) (v := ?_) rfl (by kernel_rfl) (by kernel_rfl) (by kernel_rfl) (fun _ _ _ h => h) (Or.inl ⟨by kernel_rfl, ?_⟩) (by assumption) ?_
  rotate_left
  · (intro w hSw; (try dsimp only at hSw); go_simp; try with_reducible rfl)
  (repeat (first | simp only [Act.put] | simp only [List.setIfInBounds_toArray] | simp only [List.set_cons_succ] | simp only [List.set_cons_zero]))
  refine wpAnyH_take (i := 4) (oi := ⟨some 24, _, _, _, _, _⟩) (v := ?_) rfl (by kernel_rfl) (by kernel_rfl) (by kernel_rfl) (fun _ _ _ h => h) (Or.inl ⟨by kernel_rfl, ?_⟩) (by assumption) ?_
  rotate_left
  · (intro w hSw; (try dsimp only at hSw); go_simp; try with_reducible rfl)
  (repeat (first | simp only [Act.put] | simp only [List.setIfInBounds_toArray] | simp only [List.set_cons_succ] | simp only [List.set_cons_zero]))
  refine wpAnyH_take (i := 5) (oi := ⟨some 25, _, _, _, _, _⟩) (v := ?_) rfl (by kernel_rfl) (by kernel_rfl) (by kernel_rfl) (fun _ _ _ h => h) (Or.inl ⟨by kernel_rfl, ?_⟩) (by assumption) ?_
  rotate_left
  · (intro w hSw; (try dsimp only at hSw); go_simp; try with_reducible rfl)
  (repeat (first | simp only [Act.put] | simp only [List.setIfInBounds_toArray] | simp only [List.set_cons_succ] | simp only [List.set_cons_zero]))
  refine wpAnyH_ready (rs := [6]) (by kernel_rfl) (by simp) ?_
  refine AllReadyH.cons (o := ⟨some 26, _, _, _, _, _⟩) rfl (fun K hK => ?_) AllReadyH.nil
  refine step_app2 rfl (.tmp 22) (.tmp 25) 248 rfl _ _ rfl (by simp [Act.eval]) (C1.out _) ?_
  refine hK.out _ _ (by trivial) (fun hHeld => ?_)
  clear hK K
  (repeat (first | simp only [Act.put] | simp only [List.setIfInBounds_toArray] | simp only [List.set_cons_succ] | simp only [List.set_cons_zero]))
  refine wpAnyH_take (i := 7) (oi := ⟨some 0, _, _, _, _, _⟩) (v := ?_) rfl (by kernel_rfl) (by kernel_rfl) (by kernel_rfl) (fun _ _ _ h => h) (Or.inl ⟨by kernel_rfl, ?_⟩) (by assumption) ?_
  rotate_left
  · (intro w hSw; (try dsimp only at hSw); go_simp; try with_reducible rfl)
  (repeat (first | simp only [Act.put] | simp only [List.setIfInBounds_toArray] | simp only [List.set_cons_succ] | simp only [List.set_cons_zero]))
  refine wpAnyH_done (by kernel_rfl) ?_ _
  clear C1
  go_wp2_with fail
  rw [C2.out _ _ _ (by omega)]
  go_wp2_with fail
  go_ret
  exact ⟨rfl, F.out⟩
theorem clear_O (w : World) (ty : TypeId) (g o n c : Nat) (cur : Array Value) (hn : n = 1) (hg : w.heap[g]? = some (.cells cur 38 (0, 0))) (hfit : o + 6 ≤ cur.size) :
    (Builtin.clear_ #[22] ty #[.slice (some ⟨g, o, none⟩) n c]).run Tryz.prog w = .ok (.tuple #[]) (w.setRow g (cur.toList.take o ++ ((OC ⟨0, 0, 0, 0, 0, 0⟩) : Array Value).toList ++ cur.toList.drop (o + ((OC ⟨0, 0, 0, 0, 0, 0⟩) : Array Value).toList.length)).toArray) := by
  subst hn
  have hst := run_storeCells_at Tryz.prog g o 38 ((OC ⟨0, 0, 0, 0, 0, 0⟩) : Array Value).toList 0 cur w hg (by simpa using hfit) (by decide)
  simp only [Nat.add_zero] at hst
  have hz : (Builtin.zeroCells (Value.cells (.agg (OC ⟨0, 0, 0, 0, 0, 0⟩))) 1).toList = ((OC ⟨0, 0, 0, 0, 0, 0⟩) : Array Value).toList := by kernel_rfl
  simp [Builtin.clear_, run_underlying Tryz.underlying22, hz, hst]
set_option maxHeartbeats 4000000 in
set_option maxRecDepth 1000000 in
theorem del_O (w : World) (g n c i : Nat) (cur : List Value) (hg : w.heap[g]? = some (.cells cur.toArray 38 (0, 0))) (hl : cur.length = c * 6) (hc : n ≤ c) (hi : i < n) (hcm : c ≤ maxLen) (h1 : ∀ v ∈ cur.take (n * 6), v.oneCell' = true) :
    Calls Tryz.prog 183 #[.slice (some ⟨g, 0, none⟩) n c, .int .i64 i, .int .i64 ((i : Int) + 1)] w fun e w' => e = .returned (.slice (some ⟨g, 0, none⟩) (n - 1) c) ∧ Hid (InsIn w g 38 (delC cur ((OC ⟨0, 0, 0, 0, 0, 0⟩) : Array Value).toList n i 6) w') := by
  have mixed : Tryz.prog.follows .mixedOrders = true := by kernel_rfl
  obtain ⟨i0, hi0, hz0, hz1, hz2⟩ := info_parts info_O
  have hcm' : c ≤ 9223372036854775807 := by unfold maxLen at hcm; omega
  have q1 : ¬ ((i : Int) = (i : Int) + 1) := by omega
  have q2 : (i : Int) ≤ (i : Int) + 1 := by omega
  have q3 : (0 : Int) ≤ (i : Int) + 1 := by omega
  have q4 : (i : Int) + 1 ≤ (n : Int) := by omega
  have q5 : (n : Int) ≤ (c : Int) := by omega
  have q6 : ¬ (n = i) := by omega
  have q7 : (i : Int) + 1 ≤ (c : Int) := by omega
  have q8 : (i : Int) ≤ (c : Int) := by omega
  have q10 : ((i : Int) + 1).toNat = i + 1 := by omega
  have q11 : ¬ (c = n - 1) := by omega
  have q12 : ((n - 1 : Nat) : Int) ≤ (n : Int) := by omega
  have hni : (n - 1 - i) * 6 = n * 6 - (i + 1) * 6 := by omega
  have hnc : n * 6 ≤ c * 6 := by omega
  obtain ⟨X, eX⟩ : ∃ X, X = (cur.drop ((i + 1) * 6)).take ((n - 1 - i) * 6) := ⟨_, rfl⟩
  have lX : X.length = (n - 1 - i) * 6 := by rw [eX, List.length_take, List.length_drop]; omega
  obtain ⟨A1, e1⟩ : ∃ A1, A1 = (cur.take (i * 6) ++ X ++ cur.drop (i * 6 + X.length)) := ⟨_, rfl⟩
  have l1 : A1.length = c * 6 := by rw [e1]; simp only [List.length_append, List.length_take, List.length_drop, lX]; omega
  have e2 : A1.take ((n - 1) * 6) ++ ((OC ⟨0, 0, 0, 0, 0, 0⟩) : Array Value).toList ++ A1.drop ((n - 1) * 6 + ((OC ⟨0, 0, 0, 0, 0, 0⟩) : Array Value).toList.length) = delC cur ((OC ⟨0, 0, 0, 0, 0, 0⟩) : Array Value).toList n i 6 := by rw [e1, eX]; exact delC_steps hi hc hl rfl
  obtain ⟨A, hA, hsrc⟩ : ∃ A : Addr, (if c = i + 1 then some (⟨g, 0, none⟩ : Addr) else some ⟨g, (i + 1) * 6, none⟩) = some A ∧ (∀ j v, X[j]? = some v → w.drew.cell? (A.add j) = some v) := by
    by_cases h : c = i + 1
    · refine ⟨_, if_pos h, fun j v hj => ?_⟩
      have h0 : X.length = 0 := by rw [lX]; omega
      rw [List.length_eq_zero_iff.1 h0] at hj
      cases hj
    · refine ⟨_, if_neg h, fun j v hj => ?_⟩
      rw [addr_add, cell_of_row _ _ _ _ _ _ (hd_drew hg)]
      rw [eX, List.getElem?_take] at hj
      split at hj
      · rw [List.getElem?_drop] at hj
        rw [List.getElem?_toArray]; exact hj
      · cases hj
  have C1 : Hid (∀ ty, (Builtin.append_ #[22, 22] ty #[.slice (some ⟨g, 0, none⟩) i c, .slice (some A) (n - (i + 1)) (c - (i + 1))]).run Tryz.prog w.drew = .ok (.slice (some ⟨g, 0, none⟩) (n - 1) c) (w.drew.setRow g A1.toArray)) := Lib.hid (fun ty => by
    rw [show n - (i + 1) = n - 1 - i by omega]
    have := run_append_room w.drew 22 ty 38 i0 Tryz.underlying22 hi0 g i c cur.toArray (hd_drew hg) A (n - 1 - i) (c - (i + 1)) X (by rw [hz1]; exact lX) hsrc (fun v hv => h1 v (by rw [eX, hni, ← List.drop_take] at hv; exact List.mem_of_mem_drop hv)) (by omega) (by rw [hz1, lX]; simp only [List.size_toArray]; omega)
    rw [hz1, show i + (n - 1 - i) = n - 1 by omega] at this
    rw [e1]
    exact this)
  have G1 : (w.drew.setRow g A1.toArray).heap[g]? = some (.cells A1.toArray 38 (0, 0)) := setRow_heap _ _ _ _ _ _ (hd_drew hg)
  have C2 : Hid (∀ ty m c', m = 1 → (Builtin.clear_ #[22] ty #[.slice (some ⟨g, (n - 1) * 6, none⟩) m c']).run Tryz.prog (w.drew.setRow g A1.toArray) = .ok (.tuple #[]) ((w.drew.setRow g A1.toArray).setRow g (delC cur ((OC ⟨0, 0, 0, 0, 0, 0⟩) : Array Value).toList n i 6).toArray)) := Lib.hid (fun ty m c' hm => by
    have := clear_O (w.drew.setRow g A1.toArray) ty g ((n - 1) * 6) m c' A1.toArray hm G1 (by simp only [List.size_toArray]; omega)
    rw [← e2]
    exact this)
  have F : Hid (InsIn w g 38 (delC cur ((OC ⟨0, 0, 0, 0, 0, 0⟩) : Array Value).toList n i 6) ((w.drew.setRow g A1.toArray).setRow g (delC cur ((OC ⟨0, 0, 0, 0, 0, 0⟩) : Array Value).toList n i 6).toArray)) := insIn_trans (insIn_trans (insIn_drew hg) (insIn_set (hd_drew hg))) (insIn_set G1)
  clear eX lX e1 l1 e2 G1 hni hnc hsrc
  have HX := Lib.hid (And.intro hl (And.intro hc (And.intro hi h1)))
  clear hg hl hc h1 hcm
  go_enter Tryz.func183, Tryz.ntmps183
  go_wp2_with fail
  refine wp_region_held_drew (S := fun _ => True) (by kernel_rfl) (by trivial) (fun hHeld => ?_)
  refine wpAnyH_take (i := 0) (oi := ⟨some 20, _, _, _, _, _⟩) (v := ?_) rfl (by kernel_rfl) (by kernel_rfl) (by kernel_rfl) (fun _ _ _ h => h) (Or.inl ⟨by kernel_rfl, ?_⟩) (by assumption) ?_
  rotate_left
  · (intro w hSw; (try dsimp only at hSw); go_simp; try with_reducible rfl)
  (repeat (first | simp only [Act.put] | simp only [List.setIfInBounds_toArray] | simp only [List.set_cons_succ] | simp only [List.set_cons_zero]))
  refine wpAnyH_take (i := 1) (oi := ⟨some 21, _, _, _, _, _⟩) (v := ?_) rfl (by kernel_rfl) (by kernel_rfl) (by kernel_rfl) (fun _ _ _ h => h) (Or.inl ⟨by kernel_rfl, ?_⟩) (by assumption) ?_
  rotate_left
  · (intro w hSw; (try dsimp only at hSw); go_simp; try with_reducible rfl)
  (repeat (first | simp only [Act.put] | simp only [List.setIfInBounds_toArray] | simp only [List.set_cons_succ] | simp only [List.set_cons_zero]))
  refine wpAnyH_take (i := 2) (oi := ⟨some 22, _, _, _, _, _⟩) (v := ?_) rfl (by kernel_rfl) (by kernel_rfl) (by kernel_rfl) (fun _ _ _ h => h) (Or.inl ⟨by kernel_rfl, ?_⟩) (by assumption) ?_
  rotate_left
  · (intro w hSw; (try dsimp only at hSw); go_simp; try with_reducible rfl)
  (repeat (first | simp only [Act.put] | simp only [List.setIfInBounds_toArray] | simp only [List.set_cons_succ] | simp only [List.set_cons_zero]))
  refine wpAnyH_take (i := 3) (oi := ⟨some 23, _, _, _, _, _⟩) (v := ?_) rfl (by kernel_rfl) (by kernel_rfl) (by kernel_rfl) (fun _ _ _ h => h) (Or.inl ⟨by kernel_rfl, ?_⟩) (by assumption) ?_
  rotate_left
  · (intro w hSw; (try dsimp only at hSw); go_simp; try with_reducible rfl)
  (repeat (first | simp only [Act.put] | simp only [List.setIfInBounds_toArray] | simp only [List.set_cons_succ] | simp only [List.set_cons_zero]))
  refine wpAnyH_take (i := 4) (oi := ⟨some 24, _, _, _, _, _⟩) (v := ?_) rfl (by kernel_rfl) (by kernel_rfl) (by kernel_rfl) (fun _ _ _ h => h) (Or.inl ⟨by kernel_rfl, ?_⟩) (by assumption) ?_
  rotate_left
  · (intro w hSw; (try dsimp only at hSw); go_simp; try with_reducible rfl)
  (repeat (first | simp only [Act.put] | simp only [List.setIfInBounds_toArray] | simp only [List.set_cons_succ] | simp only [List.set_cons_zero]))
  refine wpAnyH_take (i := 5) (oi := ⟨some 25, _, _, _, _, _⟩) (v := ?_) rfl (by kernel_rfl) (by kernel_rfl) (by kernel_rfl) (fun _ _ _ h => h) (Or.inl ⟨by kernel_rfl, ?_⟩) (by assumption) ?_
  rotate_left
  · (intro w hSw; (try dsimp only at hSw); go_simp; try with_reducible rfl)
  (repeat (first | simp only [Act.put] | simp only [List.setIfInBounds_toArray] | simp only [List.set_cons_succ] | simp only [List.set_cons_zero]))
  refine wpAnyH_ready (rs := [6]) (by kernel_rfl) (by simp) ?_
  refine AllReadyH.cons (o := ⟨some 26, _, _, _, _, _⟩) rfl (fun K hK => ?_) AllReadyH.nil
  refine step_app2 rfl (.tmp 22) (.tmp 25) 22 rfl _ _ rfl (by simp [Act.eval]) (C1.out _) ?_
  refine hK.out _ _ (by trivial) (fun hHeld => ?_)
  clear hK K
  (repeat (first | simp only [Act.put] | simp only [List.setIfInBounds_toArray] | simp only [List.set_cons_succ] | simp only [List.set_cons_zero]))
  refine wpAnyH_take (i := 7) (oi := ⟨some 0, _, _, _, _, _⟩) (v := ?_) rfl (by kernel_rfl) (by kernel_rfl) (by kernel_rfl) (fun _ _ _ h => h) (Or.inl ⟨by kernel_rfl, ?_⟩) (by assumption) ?_
  rotate_left
  · (intro w hSw; (try dsimp only at hSw); go_simp; try with_reducible rfl)
  (repeat (first | simp only [Act.put] | simp only [List.setIfInBounds_toArray] | simp only [List.set_cons_succ] | simp only [List.set_cons_zero]))
  refine wpAnyH_done (by kernel_rfl) ?_ _
  clear C1
  go_wp2_with fail
  rw [C2.out _ _ _ (by omega)]
  go_wp2_with fail
  go_ret
  exact ⟨rfl, F.out⟩
end Go.Proofs.YtgbmgdffgmablaaGreat

namespace Go.Proofs.YtgbmgdffgmablaaGreat
open Go.RowKit Go.Shelf Go.Sort Go.Maps

/-- A queue has got other orders, in its row. -/
def DelOf (W4 w5 : World) (qv v' : Value) (n' : Nat) (q' : List Od) : Prop :=
  w5.ownsRow 0 38 6 v' n' (ol q') ∧ W4.grownBy w5 qv.ownBlock ∧ v'.ownBlock = qv.ownBlock
theorem del_of {W4 w5 : World} {qn i c g : Nat} {q : List Od} {cur : Array Value} (hq : q.length = qn) (hi : i < qn) (_hg : W4.heap[g]? = some (.cells cur 38 (0, 0))) (hc : qn ≤ c) (hcm : c ≤ maxLen) (hs : cur.size = c * 6) (ht : cur.toList.take (qn * 6) = ol q)
    (h : InsIn W4 g 38 (delC cur.toList (OC ⟨0, 0, 0, 0, 0, 0⟩).toList qn i 6) w5) : DelOf W4 w5 (.slice (some ⟨g, 0, none⟩) qn c) (.slice (some ⟨g, 0, none⟩) (qn - 1) c) (qn - 1) (q.eraseIdx i) := by
  obtain ⟨h1, h2⟩ := delC_take (k := 6) (z := (OC ⟨0, 0, 0, 0, 0, 0⟩).toList) hi hc (by simpa using hs) rfl ht
  have e : ol (q.eraseIdx i) = (ol q).take (i * 6) ++ (ol q).drop ((i + 1) * 6) := by
    rw [(ol_take q i (by omega)).1, (ol_take q (i + 1) (by omega)).2, ← ol_append, List.eraseIdx_eq_take_drop_succ]
  refine ⟨⟨?_, .inr ⟨g, c, _, rfl, Nat.zero_le _, h.2, by omega, hcm, by rw [List.size_toArray]; exact h1, ?_⟩⟩, h.1, rfl⟩
  · rw [ol_len, List.length_eraseIdx, if_pos (by omega)]; omega
  · rw [List.toList_toArray, h2, e]
theorem del_mid {w2 W4 w5 : World} {g n c n' : Nat} {qv v' : Value} {qn : Nat} {q q' : List Od} {xs : List Value} (hR : w2.ownsRow 0 247 2 (.slice (some ⟨g, 0, none⟩) n c) n xs) (hq : w2.ownsRow 0 38 6 qv qn (ol q)) (G : Gw w2 W4) (hI : DelOf W4 w5 qv v' n' q') :
    w5.ownsRow 0 247 2 (.slice (some ⟨g, 0, none⟩) n c) n xs := by
  refine own_fr hR (S := fun j => qv.ownBlock = some j) ?_ (fun k hk e => ?_)
  · exact ((Fr.of_below G.b).grown hI.2.1 (fun j e => .inl e))
  · injection hk with hk
    subst hk
    obtain ⟨cs, hcs⟩ := own_blk hR rfl
    exact own_ne hq hcs (by decide) e
/-- What is there when the row has got its queue. -/
theorem del_fin {w w2 W4 w5 : World} {g c n' : Nat} {qv v' : Value} {R : List Rw} {qn k : Nat} {q q' : List Od} {p : Int} (hk : k < R.length) (hp : (R[k]!).pr = p) (hR : w2.ownsRow 0 247 2 (.slice (some ⟨g, 0, none⟩) R.length c) R.length (rl R)) (hq : w2.ownsRow 0 38 6 qv qn (ol q)) (G2 : Below w.heap.size w w2) (G : Gw w2 W4) (hI : DelOf W4 w5 qv v' n' q') :
    (w5.setCell ⟨g, k * 2 + 1, none⟩ v').ownsRow 0 38 6 v' n' (ol q') ∧ (w5.setCell ⟨g, k * 2 + 1, none⟩ v').ownsRow 0 247 2 (.slice (some ⟨g, 0, none⟩) R.length c) R.length (rl (R.take k ++ ⟨p, v', q'⟩ :: R.drop (k + 1))) ∧
      Fr (fun j => (Value.slice (some ⟨g, 0, none⟩) R.length c).ownBlock = some j ∨ qv.ownBlock = some j) w (w5.setCell ⟨g, k * 2 + 1, none⟩ v') := by
  have hR5 := del_mid hR hq G hI
  obtain ⟨cs, hcs⟩ := own_blk hR5 rfl
  refine ⟨?_, ?_, ?_⟩
  · exact own_fr hI.1 (S := fun j => j = g) ((Fr.refl (fun j => j = g) w5).set (p := ⟨g, k * 2 + 1, none⟩) (.inl rfl) _) (fun j hj e => by subst e; exact own_ne hI.1 hcs (by decide) hj)
  · rw [rl_set R k hk ⟨p, v', q'⟩ hp.symm]
    exact own_setCell hR5 rfl
  · refine Fr.set ?_ (p := ⟨g, k * 2 + 1, none⟩) (.inl (.inl rfl)) _
    exact (Fr.of_below (G2.trans (G.b.mono G2.size))).grown hI.2.1 (fun j e => .inl (.inr e))
theorem put6_fr (X : World) (c : Nat) (o : Od) : Fr (fun k => k = c) X (put6 X c o) := by
  unfold put6
  exact ((((((Fr.refl (fun k => k = c) X).set (p := ⟨c, 0, none⟩) (.inl rfl) _).set (p := ⟨c, 1, none⟩) (.inl rfl) _).set (p := ⟨c, 2, none⟩) (.inl rfl) _).set (p := ⟨c, 3, none⟩) (.inl rfl) _).set (p := ⟨c, 4, none⟩) (.inl rfl) _).set (p := ⟨c, 5, none⟩) (.inl rfl) _
set_option maxHeartbeats 4000000 in
set_option maxRecDepth 100000 in
theorem take_more (p m : Nat) (s1 s2 : Sd) (o : Od) (id : Int) (w : World) (H : Bk w (some ⟨p, 0, none⟩) (some m) s1 s2) (hwf : (Lit.int .i64 o.side).wf = true)
    (HGet : Hid (∀ W, Below w.heap.size w W → Calls Tryz.prog 172 #[.pointer (some ⟨p, 0, none⟩), .int .u64 id] W fun e w' => e = .returned (.tuple #[optV (some o), .bool true]) ∧ Hid (Below W.heap.size W w')))
    (R : List Rw) (hR : rsOf s1 s2 o.side = R) (hs : R.Pairwise (fun a b => betN o.side a.pr b.pr = true))
    (hn : R.length ≤ 1000) (k : Nat) (hk : atN o.side o.price R = k) (hkl : k < R.length) (hp : (R[k]!).pr = o.price) (hq : (R[k]!).q.Pairwise (fun x y => ahdO x y = true)) (hql : (R[k]!).q.length ≤ 1000) (i : Nat) (hi : plN o (R[k]!).q = i) (hil : i < (R[k]!).q.length) (h2 : 2 ≤ (R[k]!).q.length) :
    Calls Tryz.prog 176 #[.pointer (some ⟨p, 0, none⟩), .int .u64 id] w fun e w' => e = .returned (.tuple #[optV (some o), .bool true]) ∧ ∃ v', Hid (w'.ownsRow 0 38 6 v' ((R[k]!).q.length - 1) (ol ((R[k]!).q.eraseIdx i)) ∧
      w'.ownsRow 0 247 2 (rowsOf s1 s2 o.side) R.length (rl (R.take k ++ ⟨o.price, v', (R[k]!).q.eraseIdx i⟩ :: R.drop (k + 1))) ∧ Fr (fun j => (rowsOf s1 s2 o.side).ownBlock = some j ∨ (R[k]!).v.ownBlock = some j) w w' ∧ v'.ownBlock = (R[k]!).v.ownBlock) := by
  have mixed : Tryz.prog.follows .mixedOrders = true := by kernel_rfl
  have hmem : R[k]! ∈ s1.rs ++ s2.rs := by
    rw [getElem!_pos R k hkl]
    exact rsOf_mem (by rw [hR]; exact List.getElem_mem hkl)
  obtain ⟨Q, hQd⟩ : ∃ Q, (R[k]!).q = Q := ⟨_, rfl⟩
  obtain ⟨V, hVd⟩ : ∃ V, (R[k]!).v = V := ⟨_, rfl⟩
  rw [hQd] at hq hql hi hil h2 ⊢
  rw [hVd]
  obtain ⟨qn, hqn⟩ : ∃ qn, Q.length = qn := ⟨_, rfl⟩
  rw [hqn] at hql hil h2 ⊢
  have hown0 := H.own o.side
  rw [hR] at hown0
  obtain ⟨g, c, hv, _, _⟩ := row_at hown0 hkl
  clear hown0
  have hqm0 := H.q _ hmem
  rw [hQd, hVd, hqn] at hqm0
  obtain ⟨g2, qc, cur, hqv, hg2⟩ : ∃ g2 qc cur, V = .slice (some ⟨g2, 0, none⟩) qn qc ∧ w.heap[g2]? = some (.cells cur 38 (0, 0)) ∧ qn ≤ qc ∧ qc ≤ maxLen ∧ cur.size = qc * 6 ∧ cur.toList.take (qn * 6) = ol Q := by
    rcases hqm0.2 with ⟨_, h0⟩ | ⟨g2, cap, cur, e, _, h1, h2, h3, h4, h5⟩
    · omega
    · exact ⟨g2, cap, cur, e, h1, h2, h3, h4, h5⟩
  have hgl : g < w.heap.size := by
    obtain ⟨A, c', hv', _, hf⟩ := H.rows o.side
    rw [hR] at hv' hf
    rw [hv] at hv'
    injection hv' with e1 e2 e3
    exact H.lt (hf g e1.symm (by omega))
  have HH := Lib.hid H
  have HG := Lib.hid hgl
  have HQ2 := Lib.hid hg2
  have HLK : Hid (∀ W, Below w.heap.size w W → (W.cell? ⟨p, 0, none⟩ = some (.map (some m))) ∧ W.ownsRow 0 247 2 (.slice (some ⟨g, 0, none⟩) R.length c) R.length (rl R) ∧ W.ownsRow 0 38 6 (.slice (some ⟨g2, 0, none⟩) qn qc) qn (ol Q) ∧ W.cell? ⟨g, k * 2, none⟩ = some (.int .i64 o.price) ∧ W.cell? ⟨g, k * 2 + 1, none⟩ = some (.slice (some ⟨g2, 0, none⟩) qn qc)) := fun W hW => by
    have hB := HH.out.below hW
    have hown := hB.own o.side
    rw [hR] at hown
    obtain ⟨g', c', hv', hc1, hc2⟩ := row_at hown hkl
    rw [hv] at hv' hown
    injection hv' with e1 e2 e3
    injection e1 with e1; injection e1 with e1
    subst e1
    have hqm := hB.q _ hmem
    rw [hQd, hVd, hqv, hqn] at hqm
    refine ⟨?_, hown, hqm, by rw [hc1, hp], by rw [hc2, hVd, hqv]⟩
    rcases hB.shape with ⟨h, _⟩ | ⟨pp, hb, hp⟩
    · cases h
    · injection hb with hb'
      injection hb' with hb''
      subst hb''
      rw [cell_of_row _ _ _ _ _ _ hp]; rfl
  have HF : Hid (∀ W, Below w.heap.size w W → Calls Tryz.prog 181 #[.slice (some ⟨g, 0, none⟩) R.length c, .int .i64 o.side, .int .i64 o.price] W fun e w' => e = .returned (.tuple #[.int .i64 (k : Nat), .bool true]) ∧ Gw W w') := fun W hW => by
    have := find_c (some ⟨g, 0, none⟩) R.length c R o.side o.price W ?_ hs hn
    · rw [hk, decide_eq_true hkl, hp] at this
      simpa using this
    · obtain ⟨A, c', hv', hr⟩ := own_rows (HLK.out W hW).2.1
      injection hv' with e1 e2 e3
      rw [e1]
      exact hr
  have HP : Hid (∀ W, Below w.heap.size w W → Calls Tryz.prog 182 #[.slice (some ⟨g2, 0, none⟩) qn qc, .agg #[.int .u64 o.id, .int .i64 o.acc, .int .i64 o.side, .int .i64 o.price, .int .i64 o.qty, .int .u64 o.seq]] W fun e w' => e = .returned (.int .i64 (i : Nat)) ∧ Gw W w') := fun W hW => by
    have := place_c (some ⟨g2, 0, none⟩) qn qc Q o W ?_ hq hql
    · rw [hi] at this; exact this
    · obtain ⟨A, c', hv', hr⟩ := own_que (HLK.out W hW).2.2.1
      injection hv' with e1 e2 e3
      rw [e1]
      exact hr
  have HD : Hid (∀ W, Below w.heap.size w W → Calls Tryz.prog 183 #[.slice (some ⟨g2, 0, none⟩) qn qc, .int .i64 i, .int .i64 ((i : Int) + 1)] W fun e w' => e = .returned (.slice (some ⟨g2, 0, none⟩) (qn - 1) qc) ∧ Hid (DelOf W w' (.slice (some ⟨g2, 0, none⟩) qn qc) (.slice (some ⟨g2, 0, none⟩) (qn - 1) qc) (qn - 1) (Q.eraseIdx i))) := fun W hW => by
    obtain ⟨a1, a2, a3, a4, a5⟩ := HQ2.out
    have hg := (hW.block _ (blk_lt a1)).trans a1
    refine (del_O W g2 qn qc i cur.toList (by rw [Array.toArray_toList]; exact hg) (by simpa using a4) a2 hil a3 (by rw [a5]; exact ol_one Q)).mono ?_
    rintro e w' ⟨rfl, h⟩
    exact ⟨rfl, Lib.hid (del_of hqn hil hg a2 a3 a4 a5 h.out)⟩
  have hlk := fun q W (hW : Below w.heap.size w W) => look_side ((HH.out.below (hW.trans (below_drewN ((Below.refl _ _).mono hW.size) q))).mp m rfl) HH.out.t1 HH.out.t2 o.side hwf
  rw [hv] at hlk
  have HLQ := Lib.hid hlk
  have HV := Lib.hid (And.intro hv (And.intro hqv (And.intro hqn hmem)))
  have HK := Lib.hid (And.intro hkl hp)
  obtain ⟨n1, hn1⟩ : ∃ n1, qn - 1 = n1 := ⟨_, rfl⟩
  rw [hn1] at HD ⊢
  have hn10 : ¬ ((n1 : Int) = 0) := by omega
  have HN1 := Lib.hid hn1
  have H2N := Lib.hid h2
  clear hn1 h2
  have HC : Hid ((rl R)[k * 2 + 1]? = some (.slice (some ⟨g2, 0, none⟩) qn qc)) := by
    have := rl_get R k 1 hkl (by omega)
    rw [this, ← hqv, ← hVd]
    rfl
  clear H hs hn hwf hmem hgl hg2 hlk hqm0 hk hi hq
  obtain ⟨W0, hW0⟩ : ∃ W0, w.alloc (.cells (OC ⟨0, 0, 0, 0, 0, 0⟩) 38) = W0 := ⟨_, rfl⟩
  have HB0 : Hid (Below w.heap.size w W0) := by rw [← hW0]; exact (Below.refl _ _).alloc (Nat.le_refl _) _
  have HC0 : Hid (Cl 38 W0 w.heap.size (OC ⟨0, 0, 0, 0, 0, 0⟩)) := by rw [← hW0]; exact hd_last rfl
  obtain ⟨rb, hrb⟩ : ∃ rb, w.heap.size = rb := ⟨_, rfl⟩
  go_enter Tryz.func176, Tryz.ntmps176
  go_wp2_with ((with_reducible refine (HGet.out _ HB0.out).mono ?_); rintro e w1 ⟨rfl, hb1⟩; dsimp only [optV])
  obtain ⟨W1, hW1⟩ : ∃ W1, w1.alloc (.cells (OC o) 38) = W1 := ⟨_, rfl⟩
  have HB1 : Hid (Below w.heap.size w W1) := by rw [← hW1]; exact (HB0.out.trans (hb1.out.mono HB0.out.size)).alloc (Nat.le_trans HB0.out.size hb1.out.size) _
  have hO1 : Cl 38 W1 w1.heap.size (OC o) := by rw [← hW1]; exact hd_last rfl
  have hZ1 : Cl 38 W1 w.heap.size (OC ⟨0, 0, 0, 0, 0, 0⟩) := by rw [← hW1]; exact hd_prev (blk_lt ((hb1.out.block _ (blk_lt HC0.out)).trans HC0.out)) ((hb1.out.block _ (blk_lt HC0.out)).trans HC0.out)
  have HOB : Hid (w.heap.size < w1.heap.size) := Nat.lt_of_lt_of_le (blk_lt HC0.out) hb1.out.size
  rw [hW1]
  obtain ⟨ob, hob⟩ : ∃ ob, w1.heap.size = ob := ⟨_, rfl⟩
  rw [hob] at hO1 HOB ⊢
  rw [hrb] at hZ1 HOB
  obtain ⟨x0, x1, x2, x3, x4, x5⟩ := six_of hO1
  have hpc := (HLK.out W1 HB1.out).1
  have hlk := fun q => HLQ.out q W1 HB1.out
  clear hob hW1 hb1 HGet HB0 HC0 hW0
  clear w1 W0
  go_quiet (fail)
  go_wp2_with ((with_reducible refine (HF.out _ (below_drewN HB1.out _)).mono ?_); rintro e w2 ⟨rfl, k2⟩; have HB2 : Hid (Below w.heap.size w w2) := (below_drewN HB1.out _).trans (k2.b.mono (below_drewN HB1.out _).size); have hO2 : Cl 38 w2 ob (OC o) := Cl.gw (X := W1.drewN _) hO1 k2; have hZ2 : Cl 38 w2 rb (OC ⟨0, 0, 0, 0, 0, 0⟩) := Cl.gw (X := W1.drewN _) hZ1 k2; clear x0 x1 x2 x3 x4 x5 hpc hlk)
  clear hO1 hZ1 k2 HB1
  clear W1
  have HO2 : Hid (∀ W, Gw w2 W → Cl 38 W ob (OC o)) := fun W hW => hO2.gw hW
  have HZ2 : Hid (∀ W, Gw w2 W → Cl 38 W rb (OC ⟨0, 0, 0, 0, 0, 0⟩)) := fun W hW => hZ2.gw hW
  have HBB : Hid (∀ W, Gw w2 W → Below w.heap.size w W) := fun W hW => HB2.out.trans (hW.b.mono HB2.out.size)
  clear hO2 hZ2
  refine wp_region_held_drew (S := fun W => Gw w2 W) (by kernel_rfl) (by exact ⟨(Below.refl _ _).drew, Nat.le_succ _⟩) (fun hHeld => ?_)
  refine wpAnyH_take (i := 0) (oi := ⟨some 41, _, _, _, _, _⟩) (v := ?_) rfl (by kernel_rfl) (by kernel_rfl) (by kernel_rfl) (fun _ _ _ h => h) (Or.inl ⟨by kernel_rfl, ?_⟩) (by assumption) ?_
  rotate_left
  · (intro w hSw; (try dsimp only at hSw); go_simp; try with_reducible rfl)
  (repeat (first | simp only [Act.put] | simp only [List.setIfInBounds_toArray] | simp only [List.set_cons_succ] | simp only [List.set_cons_zero]))
  refine wpAnyH_take (i := 1) (oi := ⟨some 42, _, _, _, _, _⟩) (v := ?_) rfl (by kernel_rfl) (by kernel_rfl) (by kernel_rfl) (fun _ _ _ h => h) (Or.inl ⟨by kernel_rfl, ?_⟩) (by assumption) ?_
  rotate_left
  · (intro w hSw; (try dsimp only at hSw); go_simp; try with_reducible rfl)
  (repeat (first | simp only [Act.put] | simp only [List.setIfInBounds_toArray] | simp only [List.set_cons_succ] | simp only [List.set_cons_zero]))
  refine wpAnyH_take (i := 2) (oi := ⟨some 43, _, _, _, _, _⟩) (v := ?_) rfl (by kernel_rfl) (by kernel_rfl) (by kernel_rfl) (fun _ _ _ h => h) (Or.inl ⟨by kernel_rfl, ?_⟩) (by assumption) ?_
  rotate_left
  · (intro w hSw; (try dsimp only at hSw); go_simp; try with_reducible rfl)
  (repeat (first | simp only [Act.put] | simp only [List.setIfInBounds_toArray] | simp only [List.set_cons_succ] | simp only [List.set_cons_zero]))
  refine wpAnyH_take (i := 3) (oi := ⟨some 44, _, _, _, _, _⟩) (v := ?_) rfl (by kernel_rfl) (by kernel_rfl) (by kernel_rfl) (fun _ _ _ h => h) (Or.inl ⟨by kernel_rfl, ?_⟩) (by assumption) ?_
  rotate_left
  · (intro w hSw; have hs := (HLK.out _ (HBB.out _ hSw)).2.2.2.2; (try dsimp only at hSw); go_simp; try with_reducible rfl)
  (repeat (first | simp only [Act.put] | simp only [List.setIfInBounds_toArray] | simp only [List.set_cons_succ] | simp only [List.set_cons_zero]))
  refine wpAnyH_take (i := 4) (oi := ⟨some 45, _, _, _, _, _⟩) (v := ?_) rfl (by kernel_rfl) (by kernel_rfl) (by kernel_rfl) (fun _ _ _ h => h) (Or.inl ⟨by kernel_rfl, ?_⟩) (by assumption) ?_
  rotate_left
  · (intro w hSw; obtain ⟨hs0, hs1, hs2, hs3, hs4, hs5⟩ := six_of (HO2.out _ hSw); (try dsimp only at hSw); go_simp; try with_reducible rfl)
  (repeat (first | simp only [Act.put] | simp only [List.setIfInBounds_toArray] | simp only [List.set_cons_succ] | simp only [List.set_cons_zero]))
  refine wpAnyH_ready (rs := [5]) (by kernel_rfl) (by simp) ?_
  refine AllReadyH.cons (o := ⟨some 46, _, _, _, _, _⟩) rfl (fun K hK => ?_) AllReadyH.nil
  go_simp
  ((with_reducible refine (HP.out _ (HBB.out _ hHeld)).mono ?_); rintro e w3 ⟨rfl, k3⟩)
  refine hK.out _ _ (by exact hHeld.trans k3) (fun hHeld => ?_)
  clear hK K
  (repeat (first | simp only [Act.put] | simp only [List.setIfInBounds_toArray] | simp only [List.set_cons_succ] | simp only [List.set_cons_zero]))
  refine wpAnyH_take (i := 6) (oi := ⟨some 12, _, _, _, _, _⟩) (v := ?_) rfl (by kernel_rfl) (by kernel_rfl) (by kernel_rfl) (fun _ _ _ h => h) (Or.inl ⟨by kernel_rfl, ?_⟩) (by assumption) ?_
  rotate_left
  · (intro w hSw; (try dsimp only at hSw); go_simp; try with_reducible rfl)
  (repeat (first | simp only [Act.put] | simp only [List.setIfInBounds_toArray] | simp only [List.set_cons_succ] | simp only [List.set_cons_zero]))
  refine wpAnyH_done (by kernel_rfl) ?_ _
  have HNE : Hid (ob ≠ g ∧ some ob ≠ (Value.slice (some ⟨g2, 0, none⟩) qn qc).ownBlock ∧ rb ≠ g ∧ some rb ≠ (Value.slice (some ⟨g2, 0, none⟩) qn qc).ownBlock) := by
    have a := HG.out
    have b := blk_lt HQ2.out.1
    have c := HOB.out
    refine ⟨by omega, fun e => ?_, by omega, fun e => ?_⟩ <;> (injection e with e; (try simp only at e); omega)
  have z0 := (HLK.out _ (HBB.out _ hHeld)).2.2.2.2
  go_wp2_with ((with_reducible refine (HD.out _ (HBB.out _ hHeld)).mono ?_); rintro e w5 ⟨rfl, hI⟩; have z5 : w5.cell? ⟨g, k * 2 + 1, none⟩ = some (.slice (some ⟨g2, 0, none⟩) qn qc) := (own_cell (del_mid (HLK.out _ HB2.out).2.1 (HLK.out _ HB2.out).2.2.1 hHeld hI.out) rfl HC.out).1; have f5 : w5.frozen? ⟨g, k * 2 + 1, none⟩ = false := (own_cell (del_mid (HLK.out _ HB2.out).2.1 (HLK.out _ HB2.out).2.2.1 hHeld hI.out) rfl HC.out).2; have hO6 : Cl 38 (w5.setCell ⟨g, k * 2 + 1, none⟩ (.slice (some ⟨g2, 0, none⟩) n1 qc)) ob (OC o) := (heap_far (a := ⟨g, k * 2 + 1, none⟩) HNE.out.1).trans ((hI.out.2.1.block _ (blk_lt (HO2.out _ hHeld)) HNE.out.2.1).trans (HO2.out _ hHeld)); have hZ6 : Cl 38 (w5.setCell ⟨g, k * 2 + 1, none⟩ (.slice (some ⟨g2, 0, none⟩) n1 qc)) rb (OC ⟨0, 0, 0, 0, 0, 0⟩) := (heap_far (a := ⟨g, k * 2 + 1, none⟩) HNE.out.2.2.1).trans ((hI.out.2.1.block _ (blk_lt (HZ2.out _ hHeld)) HNE.out.2.2.2).trans (HZ2.out _ hHeld)); have HZ6 := Lib.hid hZ6; have HF6 := Lib.hid (del_fin HK.out.1 HK.out.2 (HLK.out _ HB2.out).2.1 (HLK.out _ HB2.out).2.2.1 HB2.out hHeld hI.out); have c6 : (w5.setCell ⟨g, k * 2 + 1, none⟩ (.slice (some ⟨g2, 0, none⟩) n1 qc)).cell? ⟨g, k * 2 + 1, none⟩ = some (.slice (some ⟨g2, 0, none⟩) n1 qc) := (own_cell (own_setCell (j := k * 2 + 1) (u := (.slice (some ⟨g2, 0, none⟩) n1 qc)) (del_mid (HLK.out _ HB2.out).2.1 (HLK.out _ HB2.out).2.2.1 hHeld hI.out) rfl) rfl (List.getElem?_set_self (List.getElem?_eq_some_iff.1 HC.out).1)).1; obtain ⟨x0, x1, x2, x3, x4, x5⟩ := six_of hO6; obtain ⟨z0', z1', z2', z3', z4', z5'⟩ := six_of hZ6; have g0 := hZ6.f (k := 0); have g1 := hZ6.f (k := 1); have g2' := hZ6.f (k := 2); have g3 := hZ6.f (k := 3); have g4 := hZ6.f (k := 4); have g5 := hZ6.f (k := 5); clear z0 hI)
  have hf := put6_cl o HZ6.out
  refine bodyPost_ret (retOt rfl _ _ _ rfl o _ hf _ rfl) rfl ?_
  refine ⟨rfl, .slice (some ⟨g2, 0, none⟩) n1 qc, Lib.hid ?_⟩
  rw [HV.out.1, HV.out.2.1]
  obtain ⟨a1, a2, a3⟩ := HF6.out
  have hne := HNE.out
  refine ⟨own_fr a1 (put6_fr _ rb o) (fun j hj e => hne.2.2.2 (by rw [← e]; exact hj.symm)), own_fr a2 (put6_fr _ rb o) (fun j hj e => ?_), a3.trans (put6_fr _ rb o) (fun j e => .inr (by omega)), rfl⟩
  injection hj with hj
  exact hne.2.2.1 (by rw [← e, ← hj])
end Go.Proofs.YtgbmgdffgmablaaGreat

namespace Go.Proofs.YtgbmgdffgmablaaGreat
open Go.RowKit Go.Shelf Go.Sort Go.Maps

/-- A row has gone. -/
def RowDel (W w7 : World) (g c : Nat) (R : List Rw) (k : Nat) : Prop :=
  w7.ownsRow 0 247 2 (.slice (some ⟨g, 0, none⟩) (R.length - 1) c) (R.length - 1) (rl (R.take k ++ R.drop (k + 1))) ∧ W.grownBy w7 (some g)
theorem rows_of {R : List Rw} (h : ∀ r ∈ R, r.v.oneCell' = true) : ∀ u ∈ rl R, u.oneCell' = true := by
  intro u hu
  obtain ⟨r, hr, hu⟩ := List.mem_flatMap.1 hu
  exact row_one r u hu (h r hr)
theorem row_del {W : World} {g c k : Nat} {R : List Rw} {x : Rw} (hk : k < R.length) (ho : ∀ u ∈ rl (R.take k ++ x :: R.drop (k + 1)), u.oneCell' = true) (h : W.ownsRow 0 247 2 (.slice (some ⟨g, 0, none⟩) R.length c) R.length (rl (R.take k ++ x :: R.drop (k + 1)))) :
    Calls Tryz.prog 184 #[.slice (some ⟨g, 0, none⟩) R.length c, .int .i64 k, .int .i64 ((k : Int) + 1)] W fun e w' => e = .returned (.slice (some ⟨g, 0, none⟩) (R.length - 1) c) ∧ Hid (RowDel W w' g c R k) := by
  rcases h.2 with ⟨h0, _⟩ | ⟨g', cap, cur, e, _, h1, h2, h3, h4, h5⟩
  · cases h0
  injection e with e1 e2 e3
  injection e1 with e1; injection e1 with e1
  subst e1 e3
  have h6 : cur.toList.length = c * 2 := by simpa using h4
  refine (del_R W g R.length c k cur.toList (by rw [Array.toArray_toList]; exact h1) h6 h2 hk h3 (by rw [h5]; exact ho)).mono ?_
  rintro e w' ⟨rfl, hi⟩
  obtain ⟨b1, b2⟩ := delC_take (k := 2) (z := (#[.int .i64 0, .slice none 0 0] : Array Value).toList) hk h2 h6 rfl h5
  have hl : (R.take k ++ x :: R.drop (k + 1)).length = R.length := set_len R k hk x
  have e : rl (R.take k ++ R.drop (k + 1)) = (rl (R.take k ++ x :: R.drop (k + 1))).take (k * 2) ++ (rl (R.take k ++ x :: R.drop (k + 1))).drop ((k + 1) * 2) := by
    rw [(rl_take _ k (by omega)).1, (rl_take _ (k + 1) (by omega)).2, ← rl_app]
    have lk : (R.take k).length = k := by rw [List.length_take]; omega
    rw [List.take_left' lk, List.drop_append, lk, List.drop_eq_nil_of_le («as» := R.take k) (by omega), List.nil_append, show k + 1 - k = 1 by omega]
    rfl
  refine ⟨rfl, Lib.hid ⟨⟨?_, .inr ⟨g, c, _, rfl, Nat.zero_le _, hi.out.2, by omega, h3, by rw [List.size_toArray]; exact b1, ?_⟩⟩, hi.out.1⟩⟩
  · rw [rl_len, List.length_append, List.length_take, List.length_drop]; omega
  · rw [List.toList_toArray, b2, e]
set_option maxHeartbeats 4000000 in
set_option maxRecDepth 100000 in
theorem take_last (p m : Nat) (s1 s2 : Sd) (o : Od) (id : Int) (w : World) (H : Bk w (some ⟨p, 0, none⟩) (some m) s1 s2) (hwf : (Lit.int .i64 o.side).wf = true)
    (HGet : Hid (∀ W, Below w.heap.size w W → Calls Tryz.prog 172 #[.pointer (some ⟨p, 0, none⟩), .int .u64 id] W fun e w' => e = .returned (.tuple #[optV (some o), .bool true]) ∧ Hid (Below W.heap.size W w')))
    (R : List Rw) (hR : rsOf s1 s2 o.side = R) (hs : R.Pairwise (fun a b => betN o.side a.pr b.pr = true))
    (hn : R.length ≤ 1000) (k : Nat) (hk : atN o.side o.price R = k) (hkl : k < R.length) (hp : (R[k]!).pr = o.price) (hq : (R[k]!).q.Pairwise (fun x y => ahdO x y = true)) (hql : (R[k]!).q.length ≤ 1000) (i : Nat) (hi : plN o (R[k]!).q = i) (hil : i < (R[k]!).q.length) (h2 : (R[k]!).q.length = 1) :
    Calls Tryz.prog 176 #[.pointer (some ⟨p, 0, none⟩), .int .u64 id] w fun e w' => e = .returned (.tuple #[optV (some o), .bool true]) ∧ ∃ v2, Hid (w'.ownsRow 0 247 2 v2 (R.length - 1) (rl (R.take k ++ R.drop (k + 1))) ∧ w'.ownsMap Tryz.prog 3 RV m 3 ((mapD s1 s2).put (.int .i64 o.side) (.held v2)) ∧
      Fr (fun j => j = m ∨ (rowsOf s1 s2 o.side).ownBlock = some j ∨ (R[k]!).v.ownBlock = some j) w w' ∧ v2.ownBlock = (rowsOf s1 s2 o.side).ownBlock) := by
  have mixed : Tryz.prog.follows .mixedOrders = true := by kernel_rfl
  have hmem : R[k]! ∈ s1.rs ++ s2.rs := by
    rw [getElem!_pos R k hkl]
    exact rsOf_mem (by rw [hR]; exact List.getElem_mem hkl)
  obtain ⟨Q, hQd⟩ : ∃ Q, (R[k]!).q = Q := ⟨_, rfl⟩
  obtain ⟨V, hVd⟩ : ∃ V, (R[k]!).v = V := ⟨_, rfl⟩
  rw [hQd] at hq hql hi hil h2
  rw [hVd]
  obtain ⟨qn, hqn⟩ : ∃ qn, Q.length = qn := ⟨_, rfl⟩
  rw [hqn] at hql hil h2
  have hown0 := H.own o.side
  rw [hR] at hown0
  obtain ⟨g, c, hv, _, _⟩ := row_at hown0 hkl
  clear hown0
  have hqm0 := H.q _ hmem
  rw [hQd, hVd, hqn] at hqm0
  obtain ⟨g2, qc, cur, hqv, hg2⟩ : ∃ g2 qc cur, V = .slice (some ⟨g2, 0, none⟩) qn qc ∧ w.heap[g2]? = some (.cells cur 38 (0, 0)) ∧ qn ≤ qc ∧ qc ≤ maxLen ∧ cur.size = qc * 6 ∧ cur.toList.take (qn * 6) = ol Q := by
    rcases hqm0.2 with ⟨_, h0⟩ | ⟨g2, cap, cur, e, _, h1, h2, h3, h4, h5⟩
    · omega
    · exact ⟨g2, cap, cur, e, h1, h2, h3, h4, h5⟩
  have hgl : g < w.heap.size := by
    obtain ⟨A, c', hv', _, hf⟩ := H.rows o.side
    rw [hR] at hv' hf
    rw [hv] at hv'
    injection hv' with e1 e2 e3
    exact H.lt (hf g e1.symm (by omega))
  have HH := Lib.hid H
  have HG := Lib.hid hgl
  have HQ2 := Lib.hid hg2
  have HLK : Hid (∀ W, Below w.heap.size w W → (W.cell? ⟨p, 0, none⟩ = some (.map (some m))) ∧ W.ownsRow 0 247 2 (.slice (some ⟨g, 0, none⟩) R.length c) R.length (rl R) ∧ W.ownsRow 0 38 6 (.slice (some ⟨g2, 0, none⟩) qn qc) qn (ol Q) ∧ W.cell? ⟨g, k * 2, none⟩ = some (.int .i64 o.price) ∧ W.cell? ⟨g, k * 2 + 1, none⟩ = some (.slice (some ⟨g2, 0, none⟩) qn qc)) := fun W hW => by
    have hB := HH.out.below hW
    have hown := hB.own o.side
    rw [hR] at hown
    obtain ⟨g', c', hv', hc1, hc2⟩ := row_at hown hkl
    rw [hv] at hv' hown
    injection hv' with e1 e2 e3
    injection e1 with e1; injection e1 with e1
    subst e1
    have hqm := hB.q _ hmem
    rw [hQd, hVd, hqv, hqn] at hqm
    refine ⟨?_, hown, hqm, by rw [hc1, hp], by rw [hc2, hVd, hqv]⟩
    rcases hB.shape with ⟨h, _⟩ | ⟨pp, hb, hp⟩
    · cases h
    · injection hb with hb'
      injection hb' with hb''
      subst hb''
      rw [cell_of_row _ _ _ _ _ _ hp]; rfl
  have HF : Hid (∀ W, Below w.heap.size w W → Calls Tryz.prog 181 #[.slice (some ⟨g, 0, none⟩) R.length c, .int .i64 o.side, .int .i64 o.price] W fun e w' => e = .returned (.tuple #[.int .i64 (k : Nat), .bool true]) ∧ Gw W w') := fun W hW => by
    have := find_c (some ⟨g, 0, none⟩) R.length c R o.side o.price W ?_ hs hn
    · rw [hk, decide_eq_true hkl, hp] at this
      simpa using this
    · obtain ⟨A, c', hv', hr⟩ := own_rows (HLK.out W hW).2.1
      injection hv' with e1 e2 e3
      rw [e1]
      exact hr
  have HP : Hid (∀ W, Below w.heap.size w W → Calls Tryz.prog 182 #[.slice (some ⟨g2, 0, none⟩) qn qc, .agg #[.int .u64 o.id, .int .i64 o.acc, .int .i64 o.side, .int .i64 o.price, .int .i64 o.qty, .int .u64 o.seq]] W fun e w' => e = .returned (.int .i64 (i : Nat)) ∧ Gw W w') := fun W hW => by
    have := place_c (some ⟨g2, 0, none⟩) qn qc Q o W ?_ hq hql
    · rw [hi] at this; exact this
    · obtain ⟨A, c', hv', hr⟩ := own_que (HLK.out W hW).2.2.1
      injection hv' with e1 e2 e3
      rw [e1]
      exact hr
  have HD : Hid (∀ W, Below w.heap.size w W → Calls Tryz.prog 183 #[.slice (some ⟨g2, 0, none⟩) qn qc, .int .i64 i, .int .i64 ((i : Int) + 1)] W fun e w' => e = .returned (.slice (some ⟨g2, 0, none⟩) (qn - 1) qc) ∧ Hid (DelOf W w' (.slice (some ⟨g2, 0, none⟩) qn qc) (.slice (some ⟨g2, 0, none⟩) (qn - 1) qc) (qn - 1) (Q.eraseIdx i))) := fun W hW => by
    obtain ⟨a1, a2, a3, a4, a5⟩ := HQ2.out
    have hg := (hW.block _ (blk_lt a1)).trans a1
    refine (del_O W g2 qn qc i cur.toList (by rw [Array.toArray_toList]; exact hg) (by simpa using a4) a2 hil a3 (by rw [a5]; exact ol_one Q)).mono ?_
    rintro e w' ⟨rfl, h⟩
    exact ⟨rfl, Lib.hid (del_of hqn hil hg a2 a3 a4 a5 h.out)⟩
  have hlk := fun q W (hW : Below w.heap.size w W) => look_side ((HH.out.below (hW.trans (below_drewN ((Below.refl _ _).mono hW.size) q))).mp m rfl) HH.out.t1 HH.out.t2 o.side hwf
  rw [hv] at hlk
  have HLQ := Lib.hid hlk
  have HV := Lib.hid (And.intro hv (And.intro hqv (And.intro hqn hmem)))
  have HK := Lib.hid (And.intro hkl hp)
  obtain ⟨n1, hn1⟩ : ∃ n1, qn - 1 = n1 := ⟨_, rfl⟩
  obtain rfl : n1 = 0 := by omega
  rw [hn1] at HD
  have HWF := Lib.hid hwf
  have HRN := Lib.hid hn
  clear hn1 h2
  have HC : Hid ((rl R)[k * 2 + 1]? = some (.slice (some ⟨g2, 0, none⟩) qn qc)) := by
    have := rl_get R k 1 hkl (by omega)
    rw [this, ← hqv, ← hVd]
    rfl
  clear H hs hn hwf hmem hgl hg2 hlk hqm0 hk hi hq
  obtain ⟨W0, hW0⟩ : ∃ W0, w.alloc (.cells (OC ⟨0, 0, 0, 0, 0, 0⟩) 38) = W0 := ⟨_, rfl⟩
  have HB0 : Hid (Below w.heap.size w W0) := by rw [← hW0]; exact (Below.refl _ _).alloc (Nat.le_refl _) _
  have HC0 : Hid (Cl 38 W0 w.heap.size (OC ⟨0, 0, 0, 0, 0, 0⟩)) := by rw [← hW0]; exact hd_last rfl
  obtain ⟨rb, hrb⟩ : ∃ rb, w.heap.size = rb := ⟨_, rfl⟩
  go_enter Tryz.func176, Tryz.ntmps176
  go_wp2_with ((with_reducible refine (HGet.out _ HB0.out).mono ?_); rintro e w1 ⟨rfl, hb1⟩; dsimp only [optV])
  obtain ⟨W1, hW1⟩ : ∃ W1, w1.alloc (.cells (OC o) 38) = W1 := ⟨_, rfl⟩
  have HB1 : Hid (Below w.heap.size w W1) := by rw [← hW1]; exact (HB0.out.trans (hb1.out.mono HB0.out.size)).alloc (Nat.le_trans HB0.out.size hb1.out.size) _
  have hO1 : Cl 38 W1 w1.heap.size (OC o) := by rw [← hW1]; exact hd_last rfl
  have hZ1 : Cl 38 W1 w.heap.size (OC ⟨0, 0, 0, 0, 0, 0⟩) := by rw [← hW1]; exact hd_prev (blk_lt ((hb1.out.block _ (blk_lt HC0.out)).trans HC0.out)) ((hb1.out.block _ (blk_lt HC0.out)).trans HC0.out)
  have HOB : Hid (w.heap.size < w1.heap.size) := Nat.lt_of_lt_of_le (blk_lt HC0.out) hb1.out.size
  rw [hW1]
  obtain ⟨ob, hob⟩ : ∃ ob, w1.heap.size = ob := ⟨_, rfl⟩
  rw [hob] at hO1 HOB ⊢
  rw [hrb] at hZ1 HOB
  obtain ⟨x0, x1, x2, x3, x4, x5⟩ := six_of hO1
  have hpc := (HLK.out W1 HB1.out).1
  have hlk := fun q => HLQ.out q W1 HB1.out
  clear hob hW1 hb1 HGet HB0 HC0 hW0
  clear w1 W0
  go_quiet (fail)
  go_wp2_with ((with_reducible refine (HF.out _ (below_drewN HB1.out _)).mono ?_); rintro e w2 ⟨rfl, k2⟩; have HB2 : Hid (Below w.heap.size w w2) := (below_drewN HB1.out _).trans (k2.b.mono (below_drewN HB1.out _).size); have hO2 : Cl 38 w2 ob (OC o) := Cl.gw (X := W1.drewN _) hO1 k2; have hZ2 : Cl 38 w2 rb (OC ⟨0, 0, 0, 0, 0, 0⟩) := Cl.gw (X := W1.drewN _) hZ1 k2; clear x0 x1 x2 x3 x4 x5 hpc hlk)
  clear hO1 hZ1 k2 HB1
  clear W1
  have HO2 : Hid (∀ W, Gw w2 W → Cl 38 W ob (OC o)) := fun W hW => hO2.gw hW
  have HZ2 : Hid (∀ W, Gw w2 W → Cl 38 W rb (OC ⟨0, 0, 0, 0, 0, 0⟩)) := fun W hW => hZ2.gw hW
  have HBB : Hid (∀ W, Gw w2 W → Below w.heap.size w W) := fun W hW => HB2.out.trans (hW.b.mono HB2.out.size)
  clear hO2 hZ2
  refine wp_region_held_drew (S := fun W => Gw w2 W) (by kernel_rfl) (by exact ⟨(Below.refl _ _).drew, Nat.le_succ _⟩) (fun hHeld => ?_)
  refine wpAnyH_take (i := 0) (oi := ⟨some 41, _, _, _, _, _⟩) (v := ?_) rfl (by kernel_rfl) (by kernel_rfl) (by kernel_rfl) (fun _ _ _ h => h) (Or.inl ⟨by kernel_rfl, ?_⟩) (by assumption) ?_
  rotate_left
  · (intro w hSw; (try dsimp only at hSw); go_simp; try with_reducible rfl)
  (repeat (first | simp only [Act.put] | simp only [List.setIfInBounds_toArray] | simp only [List.set_cons_succ] | simp only [List.set_cons_zero]))
  refine wpAnyH_take (i := 1) (oi := ⟨some 42, _, _, _, _, _⟩) (v := ?_) rfl (by kernel_rfl) (by kernel_rfl) (by kernel_rfl) (fun _ _ _ h => h) (Or.inl ⟨by kernel_rfl, ?_⟩) (by assumption) ?_
  rotate_left
  · (intro w hSw; (try dsimp only at hSw); go_simp; try with_reducible rfl)
  (repeat (first | simp only [Act.put] | simp only [List.setIfInBounds_toArray] | simp only [List.set_cons_succ] | simp only [List.set_cons_zero]))
  refine wpAnyH_take (i := 2) (oi := ⟨some 43, _, _, _, _, _⟩) (v := ?_) rfl (by kernel_rfl) (by kernel_rfl) (by kernel_rfl) (fun _ _ _ h => h) (Or.inl ⟨by kernel_rfl, ?_⟩) (by assumption) ?_
  rotate_left
  · (intro w hSw; (try dsimp only at hSw); go_simp; try with_reducible rfl)
  (repeat (first | simp only [Act.put] | simp only [List.setIfInBounds_toArray] | simp only [List.set_cons_succ] | simp only [List.set_cons_zero]))
  refine wpAnyH_take (i := 3) (oi := ⟨some 44, _, _, _, _, _⟩) (v := ?_) rfl (by kernel_rfl) (by kernel_rfl) (by kernel_rfl) (fun _ _ _ h => h) (Or.inl ⟨by kernel_rfl, ?_⟩) (by assumption) ?_
  rotate_left
  · (intro w hSw; have hs := (HLK.out _ (HBB.out _ hSw)).2.2.2.2; (try dsimp only at hSw); go_simp; try with_reducible rfl)
  (repeat (first | simp only [Act.put] | simp only [List.setIfInBounds_toArray] | simp only [List.set_cons_succ] | simp only [List.set_cons_zero]))
  refine wpAnyH_take (i := 4) (oi := ⟨some 45, _, _, _, _, _⟩) (v := ?_) rfl (by kernel_rfl) (by kernel_rfl) (by kernel_rfl) (fun _ _ _ h => h) (Or.inl ⟨by kernel_rfl, ?_⟩) (by assumption) ?_
  rotate_left
  · (intro w hSw; obtain ⟨hs0, hs1, hs2, hs3, hs4, hs5⟩ := six_of (HO2.out _ hSw); (try dsimp only at hSw); go_simp; try with_reducible rfl)
  (repeat (first | simp only [Act.put] | simp only [List.setIfInBounds_toArray] | simp only [List.set_cons_succ] | simp only [List.set_cons_zero]))
  refine wpAnyH_ready (rs := [5]) (by kernel_rfl) (by simp) ?_
  refine AllReadyH.cons (o := ⟨some 46, _, _, _, _, _⟩) rfl (fun K hK => ?_) AllReadyH.nil
  go_simp
  ((with_reducible refine (HP.out _ (HBB.out _ hHeld)).mono ?_); rintro e w3 ⟨rfl, k3⟩)
  refine hK.out _ _ (by exact hHeld.trans k3) (fun hHeld => ?_)
  clear hK K
  (repeat (first | simp only [Act.put] | simp only [List.setIfInBounds_toArray] | simp only [List.set_cons_succ] | simp only [List.set_cons_zero]))
  refine wpAnyH_take (i := 6) (oi := ⟨some 12, _, _, _, _, _⟩) (v := ?_) rfl (by kernel_rfl) (by kernel_rfl) (by kernel_rfl) (fun _ _ _ h => h) (Or.inl ⟨by kernel_rfl, ?_⟩) (by assumption) ?_
  rotate_left
  · (intro w hSw; (try dsimp only at hSw); go_simp; try with_reducible rfl)
  (repeat (first | simp only [Act.put] | simp only [List.setIfInBounds_toArray] | simp only [List.set_cons_succ] | simp only [List.set_cons_zero]))
  refine wpAnyH_done (by kernel_rfl) ?_ _
  have HNE : Hid (ob ≠ g ∧ some ob ≠ (Value.slice (some ⟨g2, 0, none⟩) qn qc).ownBlock ∧ rb ≠ g ∧ some rb ≠ (Value.slice (some ⟨g2, 0, none⟩) qn qc).ownBlock) := by
    have a := HG.out
    have b := blk_lt HQ2.out.1
    have c := HOB.out
    refine ⟨by omega, fun e => ?_, by omega, fun e => ?_⟩ <;> (injection e with e; (try simp only at e); omega)
  have z0 := (HLK.out _ (HBB.out _ hHeld)).2.2.2.2
  go_wp2_with ((with_reducible refine (HD.out _ (HBB.out _ hHeld)).mono ?_); rintro e w5 ⟨rfl, hI⟩; have z5 : w5.cell? ⟨g, k * 2 + 1, none⟩ = some (.slice (some ⟨g2, 0, none⟩) qn qc) := (own_cell (del_mid (HLK.out _ HB2.out).2.1 (HLK.out _ HB2.out).2.2.1 hHeld hI.out) rfl HC.out).1; have f5 : w5.frozen? ⟨g, k * 2 + 1, none⟩ = false := (own_cell (del_mid (HLK.out _ HB2.out).2.1 (HLK.out _ HB2.out).2.2.1 hHeld hI.out) rfl HC.out).2; have hO6 : Cl 38 (w5.setCell ⟨g, k * 2 + 1, none⟩ (.slice (some ⟨g2, 0, none⟩) 0 qc)) ob (OC o) := (heap_far (a := ⟨g, k * 2 + 1, none⟩) HNE.out.1).trans ((hI.out.2.1.block _ (blk_lt (HO2.out _ hHeld)) HNE.out.2.1).trans (HO2.out _ hHeld)); have hZ6 : Cl 38 (w5.setCell ⟨g, k * 2 + 1, none⟩ (.slice (some ⟨g2, 0, none⟩) 0 qc)) rb (OC ⟨0, 0, 0, 0, 0, 0⟩) := (heap_far (a := ⟨g, k * 2 + 1, none⟩) HNE.out.2.2.1).trans ((hI.out.2.1.block _ (blk_lt (HZ2.out _ hHeld)) HNE.out.2.2.2).trans (HZ2.out _ hHeld)); have HZ6 := Lib.hid hZ6; have HF6 := Lib.hid (del_fin HK.out.1 HK.out.2 (HLK.out _ HB2.out).2.1 (HLK.out _ HB2.out).2.2.1 HB2.out hHeld hI.out); have c6 : (w5.setCell ⟨g, k * 2 + 1, none⟩ (.slice (some ⟨g2, 0, none⟩) 0 qc)).cell? ⟨g, k * 2 + 1, none⟩ = some (.slice (some ⟨g2, 0, none⟩) 0 qc) := (own_cell (own_setCell (j := k * 2 + 1) (u := (.slice (some ⟨g2, 0, none⟩) 0 qc)) (del_mid (HLK.out _ HB2.out).2.1 (HLK.out _ HB2.out).2.2.1 hHeld hI.out) rfl) rfl (List.getElem?_set_self (List.getElem?_eq_some_iff.1 HC.out).1)).1; clear z0 hI)
  obtain ⟨W6, hW6⟩ : ∃ W6, w5.setCell ⟨g, k * 2 + 1, none⟩ (.slice (some ⟨g2, 0, none⟩) 0 qc) = W6 := ⟨_, rfl⟩
  rw [hW6] at hO6 HZ6 HF6 c6 ⊢
  have HPg : p ≠ g ∧ W6.cell? ⟨p, 0, none⟩ = some (.map (some m)) := by
    rcases HH.out.shape with ⟨h, _⟩ | ⟨pp, hb, hp⟩
    · cases h
    · injection hb with hb'
      injection hb' with hb''
      subst hb''
      have hw := HLK.out w (Below.refl _ _)
      refine ⟨fun e => own_ne hw.2.1 hp (by decide) (by rw [e]; rfl), ?_⟩
      have := HF6.out.2.2.blk hp (fun h => by
        rcases h with h | h
        · exact own_ne hw.2.1 hp (by decide) h
        · exact own_ne hw.2.2.1 hp (by decide) h)
      rw [cell_of_row _ _ _ _ _ _ this]; rfl
  have HPG := Lib.hid HPg.1
  have hp6 := HPg.2
  have HM6 : Hid (W6.drew.ownsMap Tryz.prog 3 RV m 2 (mapD s1 s2) ∧ m ≠ g) := by
    have hw := HLK.out w (Below.refl _ _)
    have hm := HH.out.mp m rfl
    obtain ⟨c1, h1⟩ := own_blk hw.2.1 rfl
    obtain ⟨c2, h2⟩ := own_blk hw.2.2.1 rfl
    refine ⟨(ownsMap_fr hm HF6.out.2.2 (fun h => ?_)).drew, fun e => map_ne hm h1 e.symm⟩
    rcases h with h | h
    · exact map_ne hm h1 (Option.some.inj h)
    · exact map_ne hm h2 (Option.some.inj h)
  have HOne : ∀ u ∈ rl (R.take k ++ (⟨o.price, (.slice (some ⟨g2, 0, none⟩) 0 qc), Q.eraseIdx i⟩ : Rw) :: R.drop (k + 1)), u.oneCell' = true := rows_of (fun r hr => by
    have key : ∀ r ∈ R, r.v.oneCell' = true := fun r hr => by
      obtain ⟨A, c', hv, _⟩ := own_que2 (HH.out.q r (rsOf_mem (by rw [hR]; exact hr)))
      rw [hv]; rfl
    rcases List.mem_append.1 hr with hr | hr
    · exact key r (List.mem_of_mem_take hr)
    · rcases List.mem_cons.1 hr with rfl | hr
      · rfl
      · exact key r (List.mem_of_mem_drop hr))
  have HDR := Lib.hid (row_del HK.out.1 HOne (show W6.drew.ownsRow _ _ _ _ _ _ from HF6.out.2.1))
  have hkw : IntKind.i64.wrap ((k : Int) + 1) = (k : Int) + 1 := by
    rw [IntKind.wrap_i64]
    have h1 := HK.out.1
    have h2 := HRN.out
    omega
  clear HPg hW6 c6 HOne
  refine wp_region_held_drew (S := fun W => Cl 38 W ob (OC o) ∧ W.cell? ⟨p, 0, none⟩ = some (.map (some m))) (by kernel_rfl) (by exact ⟨hd_drew hO6, hp6⟩) (fun hHeld => ?_)
  refine wpAnyH_take (i := 0) (oi := ⟨some 64, _, _, _, _, _⟩) (v := ?_) rfl (by kernel_rfl) (by kernel_rfl) (by kernel_rfl) (fun _ _ _ h => h) (Or.inl ⟨by kernel_rfl, ?_⟩) (by assumption) ?_
  rotate_left
  · (intro w hSw; (try dsimp only at hSw); go_simp; try with_reducible rfl)
  (repeat (first | simp only [Act.put] | simp only [List.setIfInBounds_toArray] | simp only [List.set_cons_succ] | simp only [List.set_cons_zero]))
  refine wpAnyH_take (i := 1) (oi := ⟨some 65, _, _, _, _, _⟩) (v := ?_) rfl (by kernel_rfl) (by kernel_rfl) (by kernel_rfl) (fun _ _ _ h => h) (Or.inl ⟨by kernel_rfl, ?_⟩) (by assumption) ?_
  rotate_left
  · (intro w hSw; (try dsimp only at hSw); go_simp; try with_reducible rfl)
  (repeat (first | simp only [Act.put] | simp only [List.setIfInBounds_toArray] | simp only [List.set_cons_succ] | simp only [List.set_cons_zero]))
  refine wpAnyH_take (i := 2) (oi := ⟨some 66, _, _, _, _, _⟩) (v := ?_) rfl (by kernel_rfl) (by kernel_rfl) (by kernel_rfl) (fun _ _ _ h => h) (Or.inl ⟨by kernel_rfl, ?_⟩) (by assumption) ?_
  rotate_left
  · (intro w hSw; (try dsimp only at hSw); go_simp; try with_reducible rfl)
  (repeat (first | simp only [Act.put] | simp only [List.setIfInBounds_toArray] | simp only [List.set_cons_succ] | simp only [List.set_cons_zero]))
  refine wpAnyH_take (i := 3) (oi := ⟨some 67, _, _, _, _, _⟩) (v := ?_) rfl (by kernel_rfl) (by kernel_rfl) (by kernel_rfl) (fun _ _ _ h => h) (Or.inl ⟨by kernel_rfl, ?_⟩) (by assumption) ?_
  rotate_left
  · (intro w hSw; have hs := hSw.2; (try dsimp only at hSw); go_simp; try with_reducible rfl)
  (repeat (first | simp only [Act.put] | simp only [List.setIfInBounds_toArray] | simp only [List.set_cons_succ] | simp only [List.set_cons_zero]))
  refine wpAnyH_take (i := 4) (oi := ⟨some 68, _, _, _, _, _⟩) (v := ?_) rfl (by kernel_rfl) (by kernel_rfl) (by kernel_rfl) (fun _ _ _ h => h) (Or.inl ⟨by kernel_rfl, ?_⟩) (by assumption) ?_
  rotate_left
  · (intro w hSw; (try dsimp only at hSw); go_simp; try with_reducible rfl)
  (repeat (first | simp only [Act.put] | simp only [List.setIfInBounds_toArray] | simp only [List.set_cons_succ] | simp only [List.set_cons_zero]))
  refine wpAnyH_take (i := 5) (oi := ⟨some 69, _, _, _, _, _⟩) (v := ?_) rfl (by kernel_rfl) (by kernel_rfl) (by kernel_rfl) (fun _ _ _ h => h) (Or.inl ⟨by kernel_rfl, ?_⟩) (by assumption) ?_
  rotate_left
  · (intro w hSw; obtain ⟨hs0, hs1, hs2, hs3, hs4, hs5⟩ := six_of hSw.1; (try dsimp only at hSw); go_simp; try with_reducible rfl)
  (repeat (first | simp only [Act.put] | simp only [List.setIfInBounds_toArray] | simp only [List.set_cons_succ] | simp only [List.set_cons_zero]))
  refine wpAnyH_take (i := 6) (oi := ⟨some 70, _, _, _, _, _⟩) (v := ?_) rfl (by kernel_rfl) (by kernel_rfl) (by kernel_rfl) (fun _ _ _ h => h) (Or.inl ⟨by kernel_rfl, ?_⟩) (by assumption) ?_
  rotate_left
  · (intro w hSw; (try dsimp only at hSw); go_simp; try with_reducible rfl)
  (repeat (first | simp only [Act.put] | simp only [List.setIfInBounds_toArray] | simp only [List.set_cons_succ] | simp only [List.set_cons_zero]))
  refine wpAnyH_take (i := 7) (oi := ⟨some 71, _, _, _, _, _⟩) (v := ?_) rfl (by kernel_rfl) (by kernel_rfl) (by kernel_rfl) (fun _ _ _ h => h) (Or.inl ⟨by kernel_rfl, ?_⟩) (by assumption) ?_
  rotate_left
  · (intro w hSw; (try dsimp only at hSw); go_simp; try with_reducible rfl)
  (repeat (first | simp only [Act.put] | simp only [List.setIfInBounds_toArray] | simp only [List.set_cons_succ] | simp only [List.set_cons_zero]))
  refine wpAnyH_take (i := 8) (oi := ⟨some 72, _, _, _, _, _⟩) (v := ?_) rfl (by kernel_rfl) (by kernel_rfl) (by kernel_rfl) (fun _ _ _ h => h) (Or.inl ⟨by kernel_rfl, ?_⟩) (by assumption) ?_
  rotate_left
  · (intro w hSw; (try dsimp only at hSw); go_simp; try with_reducible rfl)
  (repeat (first | simp only [Act.put] | simp only [List.setIfInBounds_toArray] | simp only [List.set_cons_succ] | simp only [List.set_cons_zero]))
  refine wpAnyH_take (i := 9) (oi := ⟨some 73, _, _, _, _, _⟩) (v := ?_) rfl (by kernel_rfl) (by kernel_rfl) (by kernel_rfl) (fun _ _ _ h => h) (Or.inl ⟨by kernel_rfl, ?_⟩) (by assumption) ?_
  rotate_left
  · (intro w hSw; (try dsimp only at hSw); go_simp; try with_reducible rfl)
  (repeat (first | simp only [Act.put] | simp only [List.setIfInBounds_toArray] | simp only [List.set_cons_succ] | simp only [List.set_cons_zero]))
  refine wpAnyH_ready (rs := [10]) (by kernel_rfl) (by simp) ?_
  refine AllReadyH.cons (o := ⟨some 74, _, _, _, _, _⟩) rfl (fun K hK => ?_) AllReadyH.nil
  go_simp
  ((with_reducible refine (HDR.out).mono ?_); rintro e w7 ⟨rfl, h7⟩)
  have hO7 : Cl 38 w7 ob (OC o) := (h7.out.2.block _ (blk_lt hHeld.1) (fun e => HNE.out.1 (Option.some.inj e))).trans hHeld.1
  have hp7 : w7.cell? ⟨p, 0, none⟩ = some (.map (some m)) := (World.cell?_of_block (w := W6.drew) (a := ⟨p, 0, none⟩) (h7.out.2.block p (World.block_lt_of_cell? W6.drew ⟨p, 0, none⟩ hHeld.2) (fun e => HPG.out (Option.some.inj e)))).trans hHeld.2
  have hm7 : w7.ownsMap Tryz.prog 3 RV m 2 (mapD s1 s2) := by
    obtain ⟨es, clock, hb, F, hs, hD⟩ := HM6.out.1
    exact ⟨es, clock, (h7.out.2.block m (blk_lt hb) (fun e => HM6.out.2 (Option.some.inj e))).trans hb, F, hs, hD⟩
  obtain ⟨w8, hrun, hown8, hturn⟩ := hm7.store keyI Tryz.underlying130 (by decide) (keyOf_int_mk Tryz.underlying3 HWF.out) (show RV (.slice (some ⟨g, 0, none⟩) (R.length - 1) c) = some (.held (.slice (some ⟨g, 0, none⟩) (R.length - 1) c), []) from rfl)
  have HT := Lib.hid (And.intro hown8 hturn)
  clear hown8 hturn hm7
  refine hK.out _ _ (by exact ⟨hO7, hp7⟩) (fun hHeld => ?_)
  clear hK K
  (repeat (first | simp only [Act.put] | simp only [List.setIfInBounds_toArray] | simp only [List.set_cons_succ] | simp only [List.set_cons_zero]))
  refine wpAnyH_ready (rs := [11]) (by kernel_rfl) (by simp) ?_
  refine AllReadyH.cons (o := ⟨none, _, _, _, _, _⟩) rfl (fun K hK => ?_) AllReadyH.nil
  go_simp
  refine hK.out _ _ (by exact ⟨turn_keep HT.out.2 hHeld.1, turn_cell HT.out.2 hHeld.2⟩) (fun hHeld => ?_)
  clear hK K
  (repeat (first | simp only [Act.put] | simp only [List.setIfInBounds_toArray] | simp only [List.set_cons_succ] | simp only [List.set_cons_zero]))
  refine wpAnyH_done (by kernel_rfl) ?_ _
  have hO8 : Cl 38 w8 ob (OC o) := hHeld.1
  have hZ8 : Cl 38 w8 rb (OC ⟨0, 0, 0, 0, 0, 0⟩) := turn_keep HT.out.2 ((h7.out.2.block _ (blk_lt HZ6.out) (fun e => HNE.out.2.2.1 (Option.some.inj e))).trans HZ6.out)
  have HZ8 := Lib.hid hZ8
  have HB8 : Hid (Fr (fun j => j = m ∨ (Value.slice (some ⟨g, 0, none⟩) R.length c).ownBlock = some j ∨ (Value.slice (some ⟨g2, 0, none⟩) qn qc).ownBlock = some j) w w8) := by
    have f1 : Fr (fun j => j = m ∨ (Value.slice (some ⟨g, 0, none⟩) R.length c).ownBlock = some j ∨ (Value.slice (some ⟨g2, 0, none⟩) qn qc).ownBlock = some j) w W6.drew := (HF6.out.2.2.mono (fun j h => .inl (.inr h))).drew
    exact (f1.grown h7.out.2 (fun j e => .inl (.inr (.inl e)))).grown HT.out.2.grown (fun j e => .inl (.inl (Option.some.inj e).symm))
  obtain ⟨x0, x1, x2, x3, x4, x5⟩ := six_of hO8
  obtain ⟨z0', z1', z2', z3', z4', z5'⟩ := six_of hZ8
  have g0 := hZ8.f (k := 0)
  have g1 := hZ8.f (k := 1)
  have g2' := hZ8.f (k := 2)
  have g3 := hZ8.f (k := 3)
  have g4 := hZ8.f (k := 4)
  have g5 := hZ8.f (k := 5)
  clear hO8 hZ8 hHeld hp7 hO7 hrun hp6 hO6 z5 f5
  go_wp2_with fail
  have hf := put6_cl o HZ8.out
  refine bodyPost_ret (retOt rfl _ _ _ rfl o _ hf _ rfl) rfl ?_
  refine ⟨rfl, .slice (some ⟨g, 0, none⟩) (R.length - 1) c, Lib.hid ?_⟩
  (try rw [HV.out.1])
  (try rw [HV.out.2.1])
  have hne := HNE.out
  refine ⟨own_fr (own_turn HT.out.2 h7.out.1) (put6_fr _ rb o) (fun j hj e => ?_), ownsMap_fr HT.out.1 (put6_fr _ rb o) (fun e => ?_), HB8.out.trans (put6_fr _ rb o) (fun j e => .inr (by omega)), rfl⟩
  · injection hj with hj
    exact hne.2.2.1 (by rw [← e, ← hj])
  · exact map_ne HT.out.1 HZ8.out e.symm
end Go.Proofs.YtgbmgdffgmablaaGreat

namespace Go.Proofs.YtgbmgdffgmablaaGreat
open Go.RowKit Go.Shelf Go.Sort Go.Maps

/-- A book that has turned. -/
structure TurnIs (w w' : World) (p m : Nat) (s1 s2 s1' s2' : Sd) : Prop where
  wh : Whole w' p m s1' s2'
  fr : Fr (foot (some ⟨p, 0, none⟩) (some m) s1 s2) w w'
  ft : ∀ k, foot (some ⟨p, 0, none⟩) (some m) s1' s2' k → foot (some ⟨p, 0, none⟩) (some m) s1 s2 k ∨ w.heap.size ≤ k
/-- What is there when an order was taken away. -/
structure TakeIs (w w' : World) (p m : Nat) (s1 s2 s1' s2' : Sd) (o : Od) : Prop where
  tu : TurnIs w w' p m s1 s2 s1' s2'
  perm : (bookL s1.rs s2.rs).Perm (o :: bookL s1'.rs s2'.rs)
  e2 : o.side = 1 → s2' = s2
  e1 : o.side = 2 → s1' = s1
theorem ahd_irr (x : Od) : ahdO x x = false := by
  cases h : ahdO x x with
  | false => rfl
  | true => have := lt_of_ahd h; rw [lt_irr] at this; cases this
theorem bet_irr (s a : Int) : betN s a a = false := by
  cases h : betN s a a with
  | false => rfl
  | true => have := (bet_iff s a a).1 h; omega
theorem que_place {o : Od} {q : List Od} (hp : q.Pairwise (fun x y => ahdO x y = true)) (ho : o ∈ q) : plN o q < q.length ∧ q[plN o q]! = o := by
  obtain ⟨h1, h2⟩ := split_pw (fun x => ahdO x o) q (que_mono hp)
  have hd : o ∈ q.drop (plN o q) := by
    have := ho
    rw [← List.take_append_drop (plN o q) q] at this
    rcases List.mem_append.1 this with h | h
    · have h' : ahdO o o = true := h1 o h
      rw [ahd_irr] at h'; cases h'
    · exact h
  cases e : q.drop (plN o q) with
  | nil => rw [e] at hd; cases hd
  | cons y rest =>
    have hlt : plN o q < q.length := by
      rcases Nat.lt_or_ge (plN o q) q.length with h | h
      · exact h
      · rw [List.drop_eq_nil_of_le h] at e; cases e
    refine ⟨hlt, ?_⟩
    have hy : q[plN o q]! = y := by
      rw [getElem!_pos q _ hlt]
      have := List.drop_eq_getElem_cons hlt
      rw [e] at this
      injection this with a _
      exact a.symm
    rw [hy]
    rw [e] at hd
    rcases List.mem_cons.1 hd with h | h
    · exact h.symm
    · exfalso
      have hpd : (q.drop (plN o q)).Pairwise (fun x y => ahdO x y = true) := List.Pairwise.sublist (List.drop_sublist _ _) hp
      rw [e, List.pairwise_cons] at hpd
      have a := hpd.1 o h
      have b : ahdO y o = false := h2 y (by show y ∈ q.drop (plN o q); rw [e]; exact List.mem_cons_self)
      rw [a] at b; cases b
theorem row_place {s : Int} {o : Od} {R : List Rw} (hs : s = 1 ∨ s = 2) (h : SideOk s R) (ho : o ∈ flatR R) : atN s o.price R < R.length ∧ (R[atN s o.price R]!).pr = o.price ∧ o ∈ (R[atN s o.price R]!).q := by
  obtain ⟨r, hr, hor⟩ := List.mem_flatMap.1 ho
  have hp : r.pr = o.price := (h.mem r hr o hor).2.symm
  obtain ⟨h1, h2, h3, h4⟩ := row_split (p := o.price) hs h.rows
  have hd : r ∈ R.drop (atN s o.price R) := by
    have := hr
    rw [← List.take_append_drop (atN s o.price R) R] at this
    rcases List.mem_append.1 this with h' | h'
    · have h'' := h1 r h'
      rw [hp, bet_irr] at h''; cases h''
    · exact h'
  cases e : R.drop (atN s o.price R) with
  | nil => rw [e] at hd; cases hd
  | cons y rest =>
    have hlt : atN s o.price R < R.length := by
      rcases Nat.lt_or_ge (atN s o.price R) R.length with h' | h'
      · exact h'
      · rw [List.drop_eq_nil_of_le h'] at e; cases e
    have hy : R[atN s o.price R]! = y := by
      rw [getElem!_pos R _ hlt]
      have := List.drop_eq_getElem_cons hlt
      rw [e] at this
      injection this with a _
      exact a.symm
    rw [hy]
    rw [e] at hd
    have hry : r = y := by
      by_cases hyp : y.pr = o.price
      · rcases List.mem_cons.1 hd with h' | h'
        · exact h'
        · have := h4 y rest e hyp r h'
          rw [hp, bet_irr] at this; cases this
      · have := h3 y rest e hyp r hd
        rw [hp, bet_irr] at this; cases this
    rw [← hry]
    exact ⟨hlt, hp, hor⟩
theorem era_perm {q : List Od} {i : Nat} {o : Od} (h : i < q.length) (e : q[i]! = o) : q.Perm (o :: q.eraseIdx i) := by
  rw [getElem!_pos q i h] at e
  have h1 : q = q.take i ++ o :: q.drop (i + 1) := by
    rw [← e, ← List.drop_eq_getElem_cons h, List.take_append_drop]
  rw [List.eraseIdx_eq_take_drop_succ]
  conv => lhs; rw [h1]
  exact List.perm_middle
theorem ids_inj : ∀ {L : List Od}, L.Pairwise (fun x y => ¬ x.id = y.id) → ∀ {x y : Od}, x ∈ L → y ∈ L → x.id = y.id → x = y
  | [], _, _, _, hx, _, _ => by cases hx
  | a :: L, h, x, y, hx, hy, e => by
    rw [List.pairwise_cons] at h
    rcases List.mem_cons.1 hx with rfl | hx'
    · rcases List.mem_cons.1 hy with rfl | hy'
      · rfl
      · exact absurd e (h.1 y hy')
    · rcases List.mem_cons.1 hy with rfl | hy'
      · exact absurd e.symm (h.1 x hx')
      · exact ids_inj h.2 hx' hy' e
theorem flat_take {A B M X : List Rw} {o : Od} (h : (flatR M).Perm (o :: flatR X)) : (flatR (A ++ M ++ B)).Perm (o :: flatR (A ++ X ++ B)) := by
  have e : ∀ Y : List Rw, flatR (A ++ Y ++ B) = flatR A ++ flatR Y ++ flatR B := fun Y => by unfold flatR; rw [List.flatMap_append, List.flatMap_append]
  rw [e, e]
  refine ((h.append_left _).append_right _).trans ?_
  rw [List.append_assoc, List.cons_append]
  refine List.perm_middle.trans ?_
  rw [List.append_assoc]
/-- Side 1 has turned: what follows of the cells. -/
theorem turn_side1 {w w' : World} {p m : Nat} {s1 s2 : Sd} {A B M X : List Rw} {v2 : Value} (H : Whole w p m s1 s2)
    (hR : s1.rs = A ++ M ++ B) (hX : Swap w.heap.size M X) (hv2 : v2.ownBlock = s1.v.ownBlock ∨ ∃ j, v2.ownBlock = some j ∧ w.heap.size ≤ j)
    (hx : ∀ r ∈ X, w'.ownsRow 0 38 6 r.v r.q.length (ol r.q)) (hr : w'.ownsRow 0 247 2 v2 (A ++ X ++ B).length (rl (A ++ X ++ B))) (hm : w'.ownsMap Tryz.prog 3 RV m 2 (mapD ⟨true, v2, A ++ X ++ B⟩ s2)) (hF : Fr (TurnS m s1.v M) w w')
    (c1 : SideOk 1 (A ++ X ++ B)) (hids : (bookL (A ++ X ++ B) s2.rs).Pairwise (fun x y => ¬ x.id = y.id)) (hlen : (bookL (A ++ X ++ B) s2.rs).length ≤ 64) (hgood : ∀ x ∈ bookL (A ++ X ++ B) s2.rs, Od.ok w x ∧ goodO x = true) : TurnIs w w' p m s1 s2 ⟨true, v2, A ++ X ++ B⟩ s2 := by
  obtain ⟨b1, b2, b3⟩ := swap1 H hR hX hv2 hx hr hm hF
  refine ⟨⟨b1, c1, H.ok2, b2, b3, hids, hlen, hgood⟩, ?_, ?_⟩
  · refine hF.mono (fun k hk => .inl ?_)
    rcases hk with rfl | e | ⟨r, hr, e⟩
    · exact .inr (.inl rfl)
    · exact .inr (.inr (.inl e))
    · exact .inr (.inr (.inr (.inr ⟨r, List.mem_append_left _ (by rw [hR]; simp [hr]), e⟩)))
  · intro k hk
    have hn : ∀ u : Value, (u.ownBlock = s1.v.ownBlock ∨ ∃ j, u.ownBlock = some j ∧ w.heap.size ≤ j) → u.ownBlock = some k → foot (some ⟨p, 0, none⟩) (some m) s1 s2 k ∨ w.heap.size ≤ k := by
      intro u hu e
      rcases hu with e' | ⟨j, e', hj⟩
      · rw [e'] at e; exact .inl (.inr (.inr (.inl e)))
      · rw [e'] at e; injection e with e; exact .inr (by omega)
    rcases hk with e | e | e | e | ⟨r, hr, e⟩
    · exact .inl (.inl e)
    · exact .inl (.inr (.inl e))
    · exact hn v2 hv2 e
    · exact .inl (.inr (.inr (.inr (.inl e))))
    · have hr' : r ∈ X ∨ r ∈ s1.rs ++ s2.rs := by
        have hr2 : r ∈ A ++ X ++ B ++ s2.rs := hr
        rw [hR]
        simp only [List.mem_append] at hr2 ⊢
        rcases hr2 with ((h | h) | h) | h
        · exact .inr (.inl (.inl (.inl h)))
        · exact .inl h
        · exact .inr (.inl (.inr h))
        · exact .inr (.inr h)
      rcases hr' with h | h
      · rcases hX.2 with rfl | ⟨x, rfl, hx'⟩
        · cases h
        · obtain rfl := List.mem_singleton.1 h
          rcases hx' with ⟨y, rfl, e'⟩ | ⟨j, e', hj⟩
          · rw [e'] at e
            exact .inl (.inr (.inr (.inr (.inr ⟨y, List.mem_append_left _ (by rw [hR]; simp), e⟩))))
          · rw [e'] at e; injection e with e; exact .inr (by omega)
      · exact .inl (.inr (.inr (.inr (.inr ⟨r, h, e⟩))))
theorem take_side1 {w w' : World} {p m : Nat} {s1 s2 : Sd} {A B M X : List Rw} {v2 : Value} {o : Od} (H : Whole w p m s1 s2) (hs : o.side = 1)
    (hR : s1.rs = A ++ M ++ B) (hX : Swap w.heap.size M X) (hv2 : v2.ownBlock = s1.v.ownBlock ∨ ∃ j, v2.ownBlock = some j ∧ w.heap.size ≤ j)
    (hx : ∀ r ∈ X, w'.ownsRow 0 38 6 r.v r.q.length (ol r.q)) (hr : w'.ownsRow 0 247 2 v2 (A ++ X ++ B).length (rl (A ++ X ++ B))) (hm : w'.ownsMap Tryz.prog 3 RV m 2 (mapD ⟨true, v2, A ++ X ++ B⟩ s2)) (hF : Fr (TurnS m s1.v M) w w')
    (c1 : SideOk 1 (A ++ X ++ B)) (hP : (flatR M).Perm (o :: flatR X)) : TakeIs w w' p m s1 s2 ⟨true, v2, A ++ X ++ B⟩ s2 o := by
  have hperm : (bookL s1.rs s2.rs).Perm (o :: bookL (A ++ X ++ B) s2.rs) := by
    unfold bookL
    rw [hR]
    exact (flat_take hP).append_right _
  have hids := List.pairwise_cons.1 (ids_perm hperm.symm H.ids)
  have hl := hperm.length_eq
  rw [List.length_cons] at hl
  refine ⟨turn_side1 H hR hX hv2 hx hr hm hF c1 hids.2 (by have := H.len; omega) (fun x hx => H.ok x (hperm.mem_iff.2 (List.mem_cons_of_mem _ hx))), hperm, fun _ => rfl, (fun h => by rw [hs] at h; cases h)⟩
/-- Side 2 has turned: what follows of the cells. -/
theorem turn_side2 {w w' : World} {p m : Nat} {s1 s2 : Sd} {A B M X : List Rw} {v2 : Value} (H : Whole w p m s1 s2)
    (hR : s2.rs = A ++ M ++ B) (hX : Swap w.heap.size M X) (hv2 : v2.ownBlock = s2.v.ownBlock ∨ ∃ j, v2.ownBlock = some j ∧ w.heap.size ≤ j)
    (hx : ∀ r ∈ X, w'.ownsRow 0 38 6 r.v r.q.length (ol r.q)) (hr : w'.ownsRow 0 247 2 v2 (A ++ X ++ B).length (rl (A ++ X ++ B))) (hm : w'.ownsMap Tryz.prog 3 RV m 2 (mapD s1 ⟨true, v2, A ++ X ++ B⟩)) (hF : Fr (TurnS m s2.v M) w w')
    (c1 : SideOk 2 (A ++ X ++ B)) (hids : (bookL s1.rs (A ++ X ++ B)).Pairwise (fun x y => ¬ x.id = y.id)) (hlen : (bookL s1.rs (A ++ X ++ B)).length ≤ 64) (hgood : ∀ x ∈ bookL s1.rs (A ++ X ++ B), Od.ok w x ∧ goodO x = true) : TurnIs w w' p m s1 s2 s1 ⟨true, v2, A ++ X ++ B⟩ := by
  obtain ⟨b1, b2, b3⟩ := swap2 H hR hX hv2 hx hr hm hF
  refine ⟨⟨b1, H.ok1, c1, b2, b3, hids, hlen, hgood⟩, ?_, ?_⟩
  · refine hF.mono (fun k hk => .inl ?_)
    rcases hk with rfl | e | ⟨r, hr, e⟩
    · exact .inr (.inl rfl)
    · exact .inr (.inr (.inr (.inl e)))
    · exact .inr (.inr (.inr (.inr ⟨r, List.mem_append_right _ (by rw [hR]; simp [hr]), e⟩)))
  · intro k hk
    have hn : ∀ u : Value, (u.ownBlock = s2.v.ownBlock ∨ ∃ j, u.ownBlock = some j ∧ w.heap.size ≤ j) → u.ownBlock = some k → foot (some ⟨p, 0, none⟩) (some m) s1 s2 k ∨ w.heap.size ≤ k := by
      intro u hu e
      rcases hu with e' | ⟨j, e', hj⟩
      · rw [e'] at e; exact .inl (.inr (.inr (.inr (.inl e))))
      · rw [e'] at e; injection e with e; exact .inr (by omega)
    rcases hk with e | e | e | e | ⟨r, hr, e⟩
    · exact .inl (.inl e)
    · exact .inl (.inr (.inl e))
    · exact .inl (.inr (.inr (.inl e)))
    · exact hn v2 hv2 e
    · have hr' : r ∈ X ∨ r ∈ s1.rs ++ s2.rs := by
        have hr2 : r ∈ s1.rs ++ (A ++ X ++ B) := hr
        rw [hR]
        simp only [List.mem_append] at hr2 ⊢
        rcases hr2 with h | (h | h) | h
        · exact .inr (.inl h)
        · exact .inr (.inr (.inl (.inl h)))
        · exact .inl h
        · exact .inr (.inr (.inr h))
      rcases hr' with h | h
      · rcases hX.2 with rfl | ⟨x, rfl, hx'⟩
        · cases h
        · obtain rfl := List.mem_singleton.1 h
          rcases hx' with ⟨y, rfl, e'⟩ | ⟨j, e', hj⟩
          · rw [e'] at e
            exact .inl (.inr (.inr (.inr (.inr ⟨y, List.mem_append_right _ (by rw [hR]; simp), e⟩))))
          · rw [e'] at e; injection e with e; exact .inr (by omega)
      · exact .inl (.inr (.inr (.inr (.inr ⟨r, h, e⟩))))
theorem take_side2 {w w' : World} {p m : Nat} {s1 s2 : Sd} {A B M X : List Rw} {v2 : Value} {o : Od} (H : Whole w p m s1 s2) (hs : o.side = 2)
    (hR : s2.rs = A ++ M ++ B) (hX : Swap w.heap.size M X) (hv2 : v2.ownBlock = s2.v.ownBlock ∨ ∃ j, v2.ownBlock = some j ∧ w.heap.size ≤ j)
    (hx : ∀ r ∈ X, w'.ownsRow 0 38 6 r.v r.q.length (ol r.q)) (hr : w'.ownsRow 0 247 2 v2 (A ++ X ++ B).length (rl (A ++ X ++ B))) (hm : w'.ownsMap Tryz.prog 3 RV m 2 (mapD s1 ⟨true, v2, A ++ X ++ B⟩)) (hF : Fr (TurnS m s2.v M) w w')
    (c1 : SideOk 2 (A ++ X ++ B)) (hP : (flatR M).Perm (o :: flatR X)) : TakeIs w w' p m s1 s2 s1 ⟨true, v2, A ++ X ++ B⟩ o := by
  have hperm : (bookL s1.rs s2.rs).Perm (o :: bookL s1.rs (A ++ X ++ B)) := by
    unfold bookL
    rw [hR]
    exact ((flat_take hP).append_left _).trans List.perm_middle
  have hids := List.pairwise_cons.1 (ids_perm hperm.symm H.ids)
  have hl := hperm.length_eq
  rw [List.length_cons] at hl
  refine ⟨turn_side2 H hR hX hv2 hx hr hm hF c1 hids.2 (by have := H.len; omega) (fun x hx => H.ok x (hperm.mem_iff.2 (List.mem_cons_of_mem _ hx))), hperm, (fun h => by rw [hs] at h; cases h), fun _ => rfl⟩
set_option maxHeartbeats 4000000 in
set_option maxRecDepth 100000 in
theorem take_w1 (p m : Nat) (s1 s2 : Sd) (o : Od) (id : Int) (w : World) (H : Whole w p m s1 s2) (ho : o ∈ bookL s1.rs s2.rs) (hid : o.id = id) (hs : o.side = 1) :
    Calls Tryz.prog 176 #[.pointer (some ⟨p, 0, none⟩), .int .u64 id] w fun e w' => e = .returned (.tuple #[optV (some o), .bool true]) ∧ ∃ s1' s2', Hid (TakeIs w w' p m s1 s2 s1' s2' o) := by
  have hwf : (Lit.int .i64 o.side).wf = true := by rw [hs]; decide
  have hR : rsOf s1 s2 o.side = s1.rs := by rw [hs]; rfl
  have hv : rowsOf s1 s2 o.side = s1.v := by rw [hs]; rfl
  have hpw : s1.rs.Pairwise (fun a b => betN o.side a.pr b.pr = true) := by rw [hs]; exact H.ok1.rows
  have hn := H.n1
  have HGet : Hid (∀ W, Below w.heap.size w W → Calls Tryz.prog 172 #[.pointer (some ⟨p, 0, none⟩), .int .u64 id] W fun e w' => e = .returned (.tuple #[optV (some o), .bool true]) ∧ Hid (Below W.heap.size W w')) := fun W hW => by
    refine (lGet_c _ _ s1 s2 id W (H.bk.below hW) (by omega) (by omega) (by omega)).mono ?_
    rintro e w' ⟨r, rfl, h⟩
    obtain rfl : r = some o := by
      cases r with
      | none => exact absurd hid (h.out.1 o ho)
      | some y => rw [ids_inj H.ids h.out.1.1 ho (h.out.1.2.trans hid.symm)]
    exact ⟨rfl, Lib.hid h.out.2⟩
  have hfl : o ∈ flatR s1.rs := by
    unfold bookL at ho
    rcases List.mem_append.1 ho with h | h
    · exact h
    · have := flat_side H.ok2 o h; rw [hs] at this; cases this
  obtain ⟨hkl, hp, hoq⟩ := row_place (.inl rfl) H.ok1 hfl
  obtain ⟨k, hk⟩ : ∃ k, atN 1 o.price s1.rs = k := ⟨_, rfl⟩
  rw [hk] at hkl hp hoq
  have hk' : atN o.side o.price s1.rs = k := by rw [hs]; exact hk
  have hmem : s1.rs[k]! ∈ s1.rs := by rw [getElem!_pos s1.rs k hkl]; exact List.getElem_mem hkl
  have hql : (s1.rs[k]!).q.length ≤ 1000 := by
    have h1 : (s1.rs[k]!).q.length ≤ lenQ (s1.rs ++ s2.rs) := lenQ_pre (x := ⟨s1.rs[k]!, List.mem_append_left _ hmem⟩)
    omega
  have hqp := H.ok1.que _ hmem
  obtain ⟨hil, hio⟩ := que_place hqp hoq
  obtain ⟨i, hi⟩ : ∃ i, plN o (s1.rs[k]!).q = i := ⟨_, rfl⟩
  rw [hi] at hil hio
  have hsp := split_at s1.rs k hkl
  have hsid : SideOk 1 (s1.rs.take k ++ [s1.rs[k]!] ++ s1.rs.drop (k + 1)) := by rw [← hsp]; exact H.ok1
  have hth : s1.there = true := (map_there H).1 (fun e => by rw [e] at hkl; exact absurd hkl (Nat.not_lt_zero _))
  have hep := era_perm hil hio
  have hsplit := row_split (s := 1) (p := o.price) (.inl rfl) H.ok1.rows
  rw [hk] at hsplit
  by_cases h2 : 2 ≤ (s1.rs[k]!).q.length
  · refine (take_more p m s1 s2 o id w H.bk hwf HGet s1.rs hR hpw (by omega) k hk' hkl hp hqp hql i hi hil h2).mono fun e w' ⟨he, v', hh⟩ => ⟨he, ?_⟩
    obtain ⟨h1, h2', h3, h4⟩ := hh.out
    rw [hv] at h2' h3
    have he2 : s1.rs.take k ++ (⟨o.price, v', (s1.rs[k]!).q.eraseIdx i⟩ : Rw) :: s1.rs.drop (k + 1) = s1.rs.take k ++ [⟨o.price, v', (s1.rs[k]!).q.eraseIdx i⟩] ++ s1.rs.drop (k + 1) := by rw [List.append_assoc]; rfl
    have hmm : w'.ownsMap Tryz.prog 3 RV m 2 (mapD s1 s2) := ownsMap_fr (H.bk.mp m rfl) h3 (fun hS => by
      rcases hS with e | e
      · obtain ⟨cs, hcs⟩ := own_blk H.bk.r1 e
        exact map_ne (H.bk.mp m rfl) hcs rfl
      · obtain ⟨cs, hcs⟩ := own_blk (H.bk.q _ (List.mem_append_left _ hmem)) e
        exact map_ne (H.bk.mp m rfl) hcs rfl)
    have hse : SideOk 1 (s1.rs.take k ++ (⟨o.price, v', (s1.rs[k]!).q.eraseIdx i⟩ : Rw) :: s1.rs.drop (k + 1)) :=
      side_set (p := o.price) hsplit.1 (fun b hb => hsplit.2.2.2 _ _ (by rw [getElem!_pos s1.rs k hkl]; exact List.drop_eq_getElem_cons hkl) hp b hb) hsid rfl (by intro e; have := congrArg List.length e; rw [List.length_eraseIdx, if_pos hil] at this; simp only [List.length_nil] at this; omega)
        (fun x hx => by rw [← hp]; exact H.ok1.mem _ hmem x ((List.eraseIdx_sublist _ _).subset hx)) (hqp.sublist (List.eraseIdx_sublist _ _))
    rw [he2] at h2' hse
    refine ⟨_, _, Lib.hid (take_side1 (v2 := s1.v) H hs hsp ⟨.inr ⟨_, rfl⟩, .inr ⟨_, rfl, .inl ⟨_, rfl, h4⟩⟩⟩ (.inl rfl) (fun r hr => ?_) ?_ ?_ ?_ hse ?_)⟩
    · rw [List.mem_singleton.1 hr]
      show w'.ownsRow 0 38 6 v' ((s1.rs[k]!).q.eraseIdx i).length _
      rw [List.length_eraseIdx, if_pos hil]; exact h1
    · rw [← he2, set_len _ _ hkl, he2]; exact h2'
    · have : mapD ⟨true, s1.v, s1.rs.take k ++ [⟨o.price, v', (s1.rs[k]!).q.eraseIdx i⟩] ++ s1.rs.drop (k + 1)⟩ s2 = mapD s1 s2 := by
        unfold mapD
        rw [hth]
      rw [this]; exact hmm
    · refine h3.mono (fun j hj => .inl ?_)
      rcases hj with e | e
      · exact .inr (.inl e)
      · exact .inr (.inr ⟨_, List.mem_singleton.2 rfl, e⟩)
    · unfold flatR
      simpa using hep
  · have hq1 : (s1.rs[k]!).q.length = 1 := by omega
    refine (take_last p m s1 s2 o id w H.bk hwf HGet s1.rs hR hpw (by omega) k hk' hkl hp hqp hql i hi hil hq1).mono fun e w' ⟨he, v2, hh⟩ => ⟨he, ?_⟩
    obtain ⟨h1, h2', h3, h4⟩ := hh.out
    rw [hv] at h3 h4
    rw [hs, map_put1 s1 s2 v2 (s1.rs.take k ++ [] ++ s1.rs.drop (k + 1))] at h2'
    have hnil : (s1.rs[k]!).q.eraseIdx i = [] := List.length_eq_zero_iff.1 (by rw [List.length_eraseIdx, if_pos hil]; omega)
    refine ⟨_, _, Lib.hid (take_side1 (X := []) (v2 := v2) H hs hsp ⟨.inr ⟨_, rfl⟩, .inl rfl⟩ (.inl h4) (fun r hr => by cases hr) ?_ (map_two h2') ?_ ?_ ?_)⟩
    · have hln : (s1.rs.take k ++ [] ++ s1.rs.drop (k + 1)).length = s1.rs.length - 1 := by
        simp only [List.append_nil, List.length_append, List.length_take, List.length_drop]; omega
      rw [hln, List.append_nil]; exact h1
    · refine h3.mono (fun j hj => .inl ?_)
      rcases hj with e | e | e
      · exact .inl e
      · exact .inr (.inl e)
      · exact .inr (.inr ⟨_, List.mem_singleton.2 rfl, e⟩)
    · rw [List.append_nil]; exact side_drop hsid
    · rw [hnil] at hep
      unfold flatR
      simpa using hep
set_option maxHeartbeats 4000000 in
set_option maxRecDepth 100000 in
theorem take_w2 (p m : Nat) (s1 s2 : Sd) (o : Od) (id : Int) (w : World) (H : Whole w p m s1 s2) (ho : o ∈ bookL s1.rs s2.rs) (hid : o.id = id) (hs : o.side = 2) :
    Calls Tryz.prog 176 #[.pointer (some ⟨p, 0, none⟩), .int .u64 id] w fun e w' => e = .returned (.tuple #[optV (some o), .bool true]) ∧ ∃ s1' s2', Hid (TakeIs w w' p m s1 s2 s1' s2' o) := by
  have hwf : (Lit.int .i64 o.side).wf = true := by rw [hs]; decide
  have hR : rsOf s1 s2 o.side = s2.rs := by rw [hs]; rfl
  have hv : rowsOf s1 s2 o.side = s2.v := by rw [hs]; rfl
  have hpw : s2.rs.Pairwise (fun a b => betN o.side a.pr b.pr = true) := by rw [hs]; exact H.ok2.rows
  have hn := H.n1
  have HGet : Hid (∀ W, Below w.heap.size w W → Calls Tryz.prog 172 #[.pointer (some ⟨p, 0, none⟩), .int .u64 id] W fun e w' => e = .returned (.tuple #[optV (some o), .bool true]) ∧ Hid (Below W.heap.size W w')) := fun W hW => by
    refine (lGet_c _ _ s1 s2 id W (H.bk.below hW) (by omega) (by omega) (by omega)).mono ?_
    rintro e w' ⟨r, rfl, h⟩
    obtain rfl : r = some o := by
      cases r with
      | none => exact absurd hid (h.out.1 o ho)
      | some y => rw [ids_inj H.ids h.out.1.1 ho (h.out.1.2.trans hid.symm)]
    exact ⟨rfl, Lib.hid h.out.2⟩
  have hfl : o ∈ flatR s2.rs := by
    unfold bookL at ho
    rcases List.mem_append.1 ho with h | h
    · have := flat_side H.ok1 o h; rw [hs] at this; cases this
    · exact h
  obtain ⟨hkl, hp, hoq⟩ := row_place (.inr rfl) H.ok2 hfl
  obtain ⟨k, hk⟩ : ∃ k, atN 2 o.price s2.rs = k := ⟨_, rfl⟩
  rw [hk] at hkl hp hoq
  have hk' : atN o.side o.price s2.rs = k := by rw [hs]; exact hk
  have hmem : s2.rs[k]! ∈ s2.rs := by rw [getElem!_pos s2.rs k hkl]; exact List.getElem_mem hkl
  have hql : (s2.rs[k]!).q.length ≤ 1000 := by
    have h1 : (s2.rs[k]!).q.length ≤ lenQ (s1.rs ++ s2.rs) := lenQ_pre (x := ⟨s2.rs[k]!, List.mem_append_right _ hmem⟩)
    omega
  have hqp := H.ok2.que _ hmem
  obtain ⟨hil, hio⟩ := que_place hqp hoq
  obtain ⟨i, hi⟩ : ∃ i, plN o (s2.rs[k]!).q = i := ⟨_, rfl⟩
  rw [hi] at hil hio
  have hsp := split_at s2.rs k hkl
  have hsid : SideOk 2 (s2.rs.take k ++ [s2.rs[k]!] ++ s2.rs.drop (k + 1)) := by rw [← hsp]; exact H.ok2
  have hth : s2.there = true := (map_there H).2 (fun e => by rw [e] at hkl; exact absurd hkl (Nat.not_lt_zero _))
  have hep := era_perm hil hio
  have hsplit := row_split (s := 2) (p := o.price) (.inr rfl) H.ok2.rows
  rw [hk] at hsplit
  by_cases h2 : 2 ≤ (s2.rs[k]!).q.length
  · refine (take_more p m s1 s2 o id w H.bk hwf HGet s2.rs hR hpw (by omega) k hk' hkl hp hqp hql i hi hil h2).mono fun e w' ⟨he, v', hh⟩ => ⟨he, ?_⟩
    obtain ⟨h1, h2', h3, h4⟩ := hh.out
    rw [hv] at h2' h3
    have he2 : s2.rs.take k ++ (⟨o.price, v', (s2.rs[k]!).q.eraseIdx i⟩ : Rw) :: s2.rs.drop (k + 1) = s2.rs.take k ++ [⟨o.price, v', (s2.rs[k]!).q.eraseIdx i⟩] ++ s2.rs.drop (k + 1) := by rw [List.append_assoc]; rfl
    have hmm : w'.ownsMap Tryz.prog 3 RV m 2 (mapD s1 s2) := ownsMap_fr (H.bk.mp m rfl) h3 (fun hS => by
      rcases hS with e | e
      · obtain ⟨cs, hcs⟩ := own_blk H.bk.r2 e
        exact map_ne (H.bk.mp m rfl) hcs rfl
      · obtain ⟨cs, hcs⟩ := own_blk (H.bk.q _ (List.mem_append_right _ hmem)) e
        exact map_ne (H.bk.mp m rfl) hcs rfl)
    have hse : SideOk 2 (s2.rs.take k ++ (⟨o.price, v', (s2.rs[k]!).q.eraseIdx i⟩ : Rw) :: s2.rs.drop (k + 1)) :=
      side_set (p := o.price) hsplit.1 (fun b hb => hsplit.2.2.2 _ _ (by rw [getElem!_pos s2.rs k hkl]; exact List.drop_eq_getElem_cons hkl) hp b hb) hsid rfl (by intro e; have := congrArg List.length e; rw [List.length_eraseIdx, if_pos hil] at this; simp only [List.length_nil] at this; omega)
        (fun x hx => by rw [← hp]; exact H.ok2.mem _ hmem x ((List.eraseIdx_sublist _ _).subset hx)) (hqp.sublist (List.eraseIdx_sublist _ _))
    rw [he2] at h2' hse
    refine ⟨_, _, Lib.hid (take_side2 (v2 := s2.v) H hs hsp ⟨.inr ⟨_, rfl⟩, .inr ⟨_, rfl, .inl ⟨_, rfl, h4⟩⟩⟩ (.inl rfl) (fun r hr => ?_) ?_ ?_ ?_ hse ?_)⟩
    · rw [List.mem_singleton.1 hr]
      show w'.ownsRow 0 38 6 v' ((s2.rs[k]!).q.eraseIdx i).length _
      rw [List.length_eraseIdx, if_pos hil]; exact h1
    · rw [← he2, set_len _ _ hkl, he2]; exact h2'
    · have : mapD s1 ⟨true, s2.v, s2.rs.take k ++ [⟨o.price, v', (s2.rs[k]!).q.eraseIdx i⟩] ++ s2.rs.drop (k + 1)⟩ = mapD s1 s2 := by
        unfold mapD
        rw [hth]
      rw [this]; exact hmm
    · refine h3.mono (fun j hj => .inl ?_)
      rcases hj with e | e
      · exact .inr (.inl e)
      · exact .inr (.inr ⟨_, List.mem_singleton.2 rfl, e⟩)
    · unfold flatR
      simpa using hep
  · have hq1 : (s2.rs[k]!).q.length = 1 := by omega
    refine (take_last p m s1 s2 o id w H.bk hwf HGet s2.rs hR hpw (by omega) k hk' hkl hp hqp hql i hi hil hq1).mono fun e w' ⟨he, v2, hh⟩ => ⟨he, ?_⟩
    obtain ⟨h1, h2', h3, h4⟩ := hh.out
    rw [hv] at h3 h4
    rw [hs, map_put2 s1 s2 v2 (s2.rs.take k ++ [] ++ s2.rs.drop (k + 1))] at h2'
    have hnil : (s2.rs[k]!).q.eraseIdx i = [] := List.length_eq_zero_iff.1 (by rw [List.length_eraseIdx, if_pos hil]; omega)
    refine ⟨_, _, Lib.hid (take_side2 (X := []) (v2 := v2) H hs hsp ⟨.inr ⟨_, rfl⟩, .inl rfl⟩ (.inl h4) (fun r hr => by cases hr) ?_ (map_two h2') ?_ ?_ ?_)⟩
    · have hln : (s2.rs.take k ++ [] ++ s2.rs.drop (k + 1)).length = s2.rs.length - 1 := by
        simp only [List.append_nil, List.length_append, List.length_take, List.length_drop]; omega
      rw [hln, List.append_nil]; exact h1
    · refine h3.mono (fun j hj => .inl ?_)
      rcases hj with e | e | e
      · exact .inl e
      · exact .inr (.inl e)
      · exact .inr (.inr ⟨_, List.mem_singleton.2 rfl, e⟩)
    · rw [List.append_nil]; exact side_drop hsid
    · rw [hnil] at hep
      unfold flatR
      simpa using hep
theorem lTake_c (p m : Nat) (s1 s2 : Sd) (o : Od) (id : Int) (w : World) (H : Whole w p m s1 s2) (ho : o ∈ bookL s1.rs s2.rs) (hid : o.id = id) :
    Calls Tryz.prog 176 #[.pointer (some ⟨p, 0, none⟩), .int .u64 id] w fun e w' => e = .returned (.tuple #[optV (some o), .bool true]) ∧ ∃ s1' s2', Hid (TakeIs w w' p m s1 s2 s1' s2' o) := by
  rcases good_side (H.ok o ho).2 with h | h
  · exact take_w1 p m s1 s2 o id w H ho hid h
  · exact take_w2 p m s1 s2 o id w H ho hid h
end Go.Proofs.YtgbmgdffgmablaaGreat

namespace Go.Proofs.YtgbmgdffgmablaaGreat
open Go.RowKit Go.Shelf Go.Sort Go.Maps Go.Lib
set_option linter.unusedVariables false

/-- What a clone's loop leaves: of the row of orders the first k are in the new book. -/
structure ClI (w wr : World) (p m : Nat) (t1 t2 : Sd) (A : Option Addr) (n : Nat) (L : List Od) (k : Nat) : Prop where
  wh : Whole wr p m t1 t2
  perm : (bookL t1.rs t2.rs).Perm (L.take k)
  od : Ods wr A n L
  nf : ∀ b off, A = some ⟨b, off, none⟩ → ¬ foot (some ⟨p, 0, none⟩) (some m) t1 t2 b
  be : Below w.heap.size w wr
  lo : ∀ j, foot (some ⟨p, 0, none⟩) (some m) t1 t2 j → w.heap.size ≤ j
theorem ods_fr {S : Nat → Prop} {w w' : World} {A : Option Addr} {n : Nat} {L : List Od} (h : Ods w A n L) (hf : Fr S w w') (hn : ∀ b off, A = some ⟨b, off, none⟩ → ¬ S b) : Ods w' A n L := by
  obtain ⟨h1, h2, h3, h4⟩ := h
  refine ⟨h1, h2, h3, ?_⟩
  rcases h4 with h0 | ⟨b, off, rfl, hlt, hc⟩
  · exact .inl h0
  · have e : ∀ o, w'.cell? ⟨b, o, none⟩ = w.cell? ⟨b, o, none⟩ := fun o => World.cell?_of_block (w := w) (a := ⟨b, o, none⟩) (hf.block b hlt (hn b off rfl))
    refine .inr ⟨b, off, rfl, Nat.lt_of_lt_of_le hlt hf.size, fun i hi => ?_⟩
    have := hc i hi
    unfold Od.at at this ⊢
    simpa only [e] using this
theorem ClI.below {w wr w' : World} {p m n k : Nat} {t1 t2 : Sd} {A : Option Addr} {L : List Od} (h : ClI w wr p m t1 t2 A n L k) (hb : Below wr.heap.size wr w') : ClI w w' p m t1 t2 A n L k :=
  ⟨h.wh.below hb, h.perm, h.od.below hb, h.nf, h.be.trans (hb.mono h.be.size), h.lo⟩
theorem ClI.put {w wr w' : World} {p m n k : Nat} {t1 t2 t1' t2' : Sd} {A : Option Addr} {L : List Od} (h : ClI w wr p m t1 t2 A n L k) (hk : k < L.length) (hP : PutIs wr w' p m t1 t2 t1' t2' (L[k]!)) : ClI w w' p m t1' t2' A n L (k + 1) := by
  refine ⟨hP.wh, ?_, ods_fr h.od hP.fr (fun b off e hf => h.nf b off e hf), fun b off e hf => ?_, h.be.trans (hP.fr.below h.lo h.be.size), fun j hj => ?_⟩
  · rw [List.take_succ_eq_append_getElem hk, ← getElem!_pos L k hk]
    exact hP.perm.trans ((List.Perm.cons _ h.perm).trans (List.perm_append_comm (l₁ := [_]) (l₂ := L.take k)))
  · rcases hP.ft b hf with h' | h'
    · exact h.nf b off e h'
    · rcases h.od.2.2.2 with h0 | ⟨b', off', e', hlt, _⟩
      · have := h.od.1; omega
      · rw [e] at e'; injection e' with e'; injection e' with e' _ _; omega
  · rcases hP.ft j hj with h' | h'
    · exact h.lo j h'
    · exact Nat.le_trans h.be.size h'
end Go.Proofs.YtgbmgdffgmablaaGreat

namespace Go.Proofs.YtgbmgdffgmablaaGreat
open Go.RowKit Go.Shelf Go.Sort

/-- slices.Clone of an own row. -/
theorem clone_own {W : World} {qa : Option Addr} {qn qc : Nat} {Q : List Od} (h : W.ownsRow 0 38 6 (.slice qa qn qc) qn (ol Q)) (hn : qn ≤ 1000) :
    Calls Tryz.prog 49 #[.slice qa qn qc] W fun e w' => ∃ v, e = .returned v ∧ Hid (w'.ownsRow W.heap.size 38 6 v qn (ol Q) ∧ Below W.heap.size W w') := by
  obtain ⟨A, c, hv, hq⟩ := own_que h
  injection hv with e1 e2 e3
  subst e1 e3
  rcases h.2 with ⟨hv, h0⟩ | ⟨k, cap, cur, hv, _⟩
  · injection hv with e1 _ _
    subst e1
    have hQ : Q = [] := by have := hq.1; rw [h0] at this; exact List.length_eq_zero_iff.1 this
    subst hQ
    refine (clone_nil qn qc W).mono fun e w' ⟨he, hw⟩ => ⟨_, he, Lib.hid ?_⟩
    rw [hw]
    exact ⟨⟨by rw [h0]; rfl, .inl ⟨rfl, h0⟩⟩, Below.refl _ _⟩
  · injection hv with e1 _ _
    subst e1
    refine (clone_c k 0 qn qc Q W hq.1 hn (fun i hi => ?_)).mono fun e w' ⟨v, he, h1, _, h3⟩ => ⟨v, he, Lib.hid ⟨h1, h3⟩⟩
    rcases hq.2 with h0 | ⟨g, e, _, hc⟩
    · omega
    · injection e with e
      injection e with e
      subst e
      rw [Nat.zero_add]
      exact hc i hi
set_option maxHeartbeats 4000000 in
set_option maxRecDepth 100000 in
theorem take_no (b : Option Addr) (m : Option Nat) (s1 s2 : Sd) (id : Int) (w : World) (H : Bk w b m s1 s2) (hR1 : s1.rs.length ≤ 1000) (hR2 : s2.rs.length ≤ 1000) (hQ : lenQ (s1.rs ++ s2.rs) ≤ 1000) (hno : ∀ x ∈ bookL s1.rs s2.rs, ¬ x.id = id) :
    Calls Tryz.prog 176 #[.pointer b, .int .u64 id] w fun e w' => e = .returned (.tuple #[optV none, .bool false]) ∧ Hid (Below w.heap.size w w') := by
  have hb : Below w.heap.size w (w.alloc (.cells (OC ⟨0, 0, 0, 0, 0, 0⟩) 38)) := (Below.refl _ _).alloc (Nat.le_refl _) _
  have HG := Lib.hid (lGet_c b m s1 s2 id (w.alloc (.cells (OC ⟨0, 0, 0, 0, 0, 0⟩) 38)) (H.below hb) hR1 hR2 hQ)
  have HB := Lib.hid hb
  clear H hb
  go_enter Tryz.func176, Tryz.ntmps176
  go_wp2_with ((with_reducible refine HG.out.mono ?_); rintro e w1 ⟨r, rfl, hr⟩; obtain rfl : r = none := (by cases r with | none => rfl | some y => exact absurd hr.out.1.2 (hno y hr.out.1.1)); dsimp only [optV, Option.isSome]; have B1 : Hid (Below w.heap.size w (w1.alloc (.cells (OC ⟨0, 0, 0, 0, 0, 0⟩) 38))) := (HB.out.trans (hr.out.2.mono HB.out.size)).alloc (Nat.le_trans HB.out.size hr.out.2.size) _; have C1 : Cl 38 (w1.alloc (.cells (OC ⟨0, 0, 0, 0, 0, 0⟩) 38)) w.heap.size (OC ⟨0, 0, 0, 0, 0, 0⟩) := hd_prev (Nat.lt_of_lt_of_le (Nat.lt_succ_self _) (by have := hr.out.2.size; rw [World.size_alloc] at this; exact this)) ((hr.out.2.block _ (by rw [World.size_alloc]; exact Nat.lt_succ_self _)).trans (hd_last rfl)); have C0 := Lib.hid C1; obtain ⟨x0, x1, x2, x3, x4, x5⟩ := six_of C1; have f0 := C1.f (k := 0); have f1 := C1.f (k := 1); have f2 := C1.f (k := 2); have f3 := C1.f (k := 3); have f4 := C1.f (k := 4); have f5 := C1.f (k := 5); clear HG hr)
  have hf := put6_cl ⟨0, 0, 0, 0, 0, 0⟩ C0.out
  have hb := put6_below ⟨0, 0, 0, 0, 0, 0⟩ (Nat.le_refl _) B1.out
  refine bodyPost_ret (retOt rfl _ _ _ rfl ⟨0, 0, 0, 0, 0, 0⟩ _ hf _ rfl) rfl ?_
  exact ⟨rfl, Lib.hid hb⟩
end Go.Proofs.YtgbmgdffgmablaaGreat

namespace Go.Proofs.YtgbmgdffgmablaaGreat
open Go.RowKit Go.Shelf Go.Sort Go.Maps Go.Lib
set_option linter.unusedVariables false

/-- A turn of the book. -/
def Trn (W W' : World) (p m : Nat) (s1 s2 s1' s2' : Sd) : Prop :=
  Whole W' p m s1' s2' ∧ Fr (foot (some ⟨p, 0, none⟩) (some m) s1 s2) W W' ∧ ∀ k, foot (some ⟨p, 0, none⟩) (some m) s1' s2' k → foot (some ⟨p, 0, none⟩) (some m) s1 s2 k ∨ W.heap.size ≤ k
/-- A book and the reference's one, of the call's own. -/
structure Pl (w W : World) (p m : Nat) (s1 s2 : Sd) (wb : Nat) (M : List Od) : Prop where
  wh : Whole W p m s1 s2
  rb : RB W wb M
  be : Below w.heap.size w W
  lo : ∀ k, foot (some ⟨p, 0, none⟩) (some m) s1 s2 k → w.heap.size ≤ k
  low : w.heap.size ≤ wb
section
variable {w W W' : World} {p m wb : Nat} {s1 s2 s1' s2' : Sd} {M M' : List Od}
theorem Pl.below (h : Pl w W p m s1 s2 wb M) (hb : Below W.heap.size W W') : Pl w W' p m s1 s2 wb M := ⟨h.wh.below hb, rb_low h.rb hb, h.be.trans (hb.mono h.be.size), h.lo, h.low⟩
theorem Pl.turn (h : Pl w W p m s1 s2 wb M) (t : Trn W W' p m s1 s2 s1' s2') : Pl w W' p m s1' s2' wb M :=
  ⟨t.1, rb_fr h.rb h.wh.bk t.2.1, h.be.trans (t.2.1.below h.lo h.be.size), fun k hk => (t.2.2 k hk).elim (h.lo k) (fun e => Nat.le_trans h.be.size e), h.low⟩
end

theorem idx_of {id : Int} {M : List Od} {x : Od} (hi : M.Pairwise (fun x y => ¬ x.id = y.id)) (hx : x ∈ M) (he : x.id = id) : idxN id M < M.length ∧ M[idxN id M]! = x := by
  have hl := idx_some hx he
  exact ⟨hl, ids_inj hi (by rw [getElem!_pos M _ hl]; exact List.getElem_mem hl) hx ((idx_get hl).trans he.symm)⟩
theorem get_some {id : Int} {M : List Od} {x : Od} (hi : M.Pairwise (fun x y => ¬ x.id = y.id)) (hx : x ∈ M) (he : x.id = id) : getO id M = some x := by
  obtain ⟨h1, h2⟩ := idx_of hi hx he
  unfold getO
  rw [if_pos h1, h2]
theorem get_none {id : Int} {M : List Od} (h : ∀ x ∈ M, ¬ x.id = id) : getO id M = none := by
  unfold getO
  rw [if_neg]
  intro hl
  exact h _ (by rw [getElem!_pos M _ hl]; exact List.getElem_mem hl) (idx_get hl)
theorem erase_none {id : Int} {M : List Od} (h : ∀ x ∈ M, ¬ x.id = id) : M.eraseIdx (idxN id M) = M := by
  rw [idx_none h]; exact List.eraseIdx_of_length_le (Nat.le_refl _)
/-- What is left behind one that was taken. -/
theorem take_same {w w' : World} {p m : Nat} {s1 s2 s1' s2' : Sd} {o : Od} {id : Int} (H : Whole w p m s1 s2) (k : TakeIs w w' p m s1 s2 s1' s2' o) (ho : o ∈ bookL s1.rs s2.rs) (he : o.id = id) : (bookL s1.rs s2.rs).eraseIdx (idxN id (bookL s1.rs s2.rs)) = bookL s1'.rs s2'.rs := by
  obtain ⟨h1, h2⟩ := idx_of H.ids ho he
  have hp := era_perm h1 h2
  refine uniq ?_ ?_ k.tu.wh.pw
  · exact (List.Perm.cons_inv (hp.symm.trans k.perm))
  · exact H.pw.sublist (List.eraseIdx_sublist _ _)
end Go.Proofs.YtgbmgdffgmablaaGreat

namespace Go.Proofs.YtgbmgdffgmablaaGreat
set_option linter.unusedVariables false

/-- A tree: each node's block, its key, its queue's value and numbers. -/
inductive Tr where
  | nil : Tr
  | node (a : Nat) (key : Int) (v : Value) (q : List Int) (l r : Tr) : Tr
/-- A price and its IDs. -/
abbrev Rq := Int × List Int
def Tr.rows : Tr → List Rq
  | .nil => []
  | .node _ key _ q l r => l.rows ++ (key, q) :: r.rows
def Tr.ptr : Tr → Value
  | .nil => .pointer none
  | .node a _ _ _ _ _ => .pointer (some ⟨a, 0, none⟩)
/-- The nodes' blocks. -/
def Tr.blks : Tr → List Nat
  | .nil => []
  | .node a _ _ _ l r => l.blks ++ a :: r.blks
/-- The queues' values. -/
def Tr.vals : Tr → List Value
  | .nil => []
  | .node _ _ v _ l r => l.vals ++ v :: r.vals
def Tr.size : Tr → Nat
  | .nil => 0
  | .node _ _ _ _ l r => l.size + r.size + 1
/-- The way down to a place in a tree. -/
inductive Cx where
  | top : Cx
  | left (a : Nat) (key : Int) (v : Value) (q : List Int) (r : Tr) (c : Cx) : Cx
  | right (a : Nat) (key : Int) (v : Value) (q : List Int) (l : Tr) (c : Cx) : Cx
def Cx.plug : Cx → Tr → Tr
  | .top, t => t
  | .left a key v q r c, t => c.plug (.node a key v q t r)
  | .right a key v q l c, t => c.plug (.node a key v q l t)
def Cx.pre : Cx → List Rq
  | .top => []
  | .left _ _ _ _ _ c => c.pre
  | .right _ key _ q l c => c.pre ++ (l.rows ++ [(key, q)])
def Cx.post : Cx → List Rq
  | .top => []
  | .left _ key _ q r c => (key, q) :: r.rows ++ c.post
  | .right _ _ _ _ _ c => c.post
/-- The cell that holds the pointer at that place; t: the tree's block. -/
def Cx.hole (t : Nat) : Cx → Addr
  | .top => ⟨t, 1, none⟩
  | .left a _ _ _ _ _ => ⟨a, 2, none⟩
  | .right a _ _ _ _ _ => ⟨a, 3, none⟩
theorem rows_plug : ∀ (c : Cx) (t : Tr), (c.plug t).rows = c.pre ++ t.rows ++ c.post
  | .top, t => by simp [Cx.plug, Cx.pre, Cx.post]
  | .left a key v q r c, t => by simp [Cx.plug, rows_plug c, Cx.pre, Cx.post, Tr.rows]
  | .right a key v q l c, t => by simp [Cx.plug, rows_plug c, Cx.pre, Cx.post, Tr.rows]
theorem bet_trans {s a b c : Int} (h : betN s a b = true) (k : betN s b c = true) : betN s a c = true := by
  rw [bet_iff] at h k ⊢
  rcases h with ⟨h1, h2⟩ | ⟨h1, h2⟩ <;> rcases k with ⟨k1, k2⟩ | ⟨k1, k2⟩ <;> omega
theorem bet_tri {s a b : Int} (hs : s = 1 ∨ s = 2) (h : betN s a b = false) (k : betN s b a = false) : a = b := by
  have h1 : ¬ betN s a b = true := by rw [h]; simp
  have k1 : ¬ betN s b a = true := by rw [k]; simp
  rw [bet_iff] at h1 k1
  omega
/-- A tree's rows, in their order. -/
def Srt (s : Int) (R : List Rq) : Prop := R.Pairwise (fun x y => betN s x.1 y.1 = true)
/-- The place of a key: all ahead of it, all behind it. -/
structure At (s key : Int) (c : Cx) (t : Tr) : Prop where
  srt : Srt s (c.plug t).rows
  pre : ∀ x ∈ c.pre, betN s x.1 key = true
  post : ∀ x ∈ c.post, betN s key x.1 = true
theorem At.start {s key : Int} {t : Tr} (h : Srt s t.rows) : At s key .top t := ⟨h, fun x hx => (by cases hx), fun x hx => (by cases hx)⟩
theorem At.goL {s key : Int} {c : Cx} {a : Nat} {k : Int} {v : Value} {q : List Int} {l r : Tr} (h : At s key c (.node a k v q l r)) (hb : betN s key k = true) : At s key (.left a k v q r c) l := by
  refine ⟨h.srt, h.pre, fun x hx => ?_⟩
  have hs := h.srt
  rw [rows_plug] at hs
  unfold Srt at hs
  simp only [Tr.rows, List.append_assoc, List.cons_append] at hs
  rw [List.pairwise_append] at hs
  have h2 := hs.2.1
  rw [List.pairwise_append] at h2
  have h3 := h2.2.1
  rw [List.pairwise_cons] at h3
  simp only [Cx.post, List.cons_append, List.mem_cons, List.mem_append] at hx
  rcases hx with rfl | hx | hx
  · exact hb
  · exact bet_trans hb (h3.1 x (by simp [hx]))
  · exact h.post x hx
theorem At.goR {s key : Int} {c : Cx} {a : Nat} {k : Int} {v : Value} {q : List Int} {l r : Tr} (h : At s key c (.node a k v q l r)) (hb : betN s k key = true) : At s key (.right a k v q l c) r := by
  refine ⟨h.srt, fun x hx => ?_, h.post⟩
  have hs := h.srt
  rw [rows_plug] at hs
  unfold Srt at hs
  simp only [Tr.rows, List.append_assoc, List.cons_append] at hs
  rw [List.pairwise_append] at hs
  have h2 := hs.2.1
  rw [List.pairwise_append] at h2
  simp only [Cx.pre, List.mem_append, List.mem_singleton] at hx
  rcases hx with hx | hx | rfl
  · exact h.pre x hx
  · exact bet_trans (h2.2.2 x hx (k, q) (by simp)) hb
  · exact hb
/-- What hangs at a key's place: nothing, or that key's node. -/
def Hangs (key : Int) : Tr → Prop
  | .nil => True
  | .node _ k _ _ _ _ => k = key
end Go.Proofs.YtgbmgdffgmablaaGreat

namespace Go.Proofs.YtgbmgdffgmablaaGreat
open Go.RowKit Go.Shelf Go.Sort Go.Maps Go.Lib
set_option linter.unusedVariables false

def idV (q : List Int) : List Value := q.map (fun x => .int .u64 x)
/-- The function that tells which key is ahead; sb: its side's box. -/
abbrev ahF (sb : Nat) : Value := .func (.func 84) #[] #[.pointer (some ⟨sb, 0, none⟩)]
/-- A tree in memory. -/
def TrIn (W : World) : Tr → Prop
  | .nil => True
  | .node a key v q l r => Cl 278 W a #[.int .i64 key, v, l.ptr, r.ptr] ∧ W.ownsRow 0 35 1 v q.length (idV q) ∧ TrIn W l ∧ TrIn W r
/-- The way down to a place, in memory; p: the pointer that stands there. -/
def CxIn (W : World) (tb sb : Nat) : Cx → Value → Prop
  | .top, p => Cl 156 W tb #[ahF sb, p]
  | .left a key v q r c, p => Cl 278 W a #[.int .i64 key, v, p, r.ptr] ∧ W.ownsRow 0 35 1 v q.length (idV q) ∧ TrIn W r ∧ CxIn W tb sb c (.pointer (some ⟨a, 0, none⟩))
  | .right a key v q l c, p => Cl 278 W a #[.int .i64 key, v, l.ptr, p] ∧ W.ownsRow 0 35 1 v q.length (idV q) ∧ TrIn W l ∧ CxIn W tb sb c (.pointer (some ⟨a, 0, none⟩))
theorem cx_hole {W : World} {tb sb : Nat} {c : Cx} {p : Value} (h : CxIn W tb sb c p) : W.cell? (c.hole tb) = some p ∧ W.frozen? (c.hole tb) = false := by
  cases c with
  | top => exact ⟨(Cl.c h 1).trans rfl, Cl.f h⟩
  | left a key v q r c => exact ⟨(h.1.c 2).trans rfl, h.1.f⟩
  | right a key v q l c => exact ⟨(h.1.c 3).trans rfl, h.1.f⟩
theorem cx_fun {W : World} {tb sb : Nat} : ∀ {c : Cx} {p : Value}, CxIn W tb sb c p → W.cell? ⟨tb, 0, none⟩ = some (ahF sb)
  | .top, p, h => (Cl.c h 0).trans rfl
  | .left .., p, h => cx_fun h.2.2.2
  | .right .., p, h => cx_fun h.2.2.2

set_option maxHeartbeats 4000000 in
set_option maxRecDepth 100000 in
theorem gAhead_c (sb : Nat) (s a b : Int) (w : World) (h : Cl 3 w sb #[.int .i64 s]) :
    Calls Tryz.prog 84 #[.int .i64 a, .int .i64 b, .pointer (some ⟨sb, 0, none⟩)] w fun e w' => e = .returned (.bool (betN s a b)) ∧ w' = w := by
  have k0 : w.cell? ⟨sb, 0, none⟩ = some (.int .i64 s) := (h.c 0).trans rfl
  have HB := Lib.hid (better_c s a b w)
  generalize betN s a b = r at *
  clear h
  go_enter Tryz.func84, Tryz.ntmps84
  go_wp2_with ((with_reducible refine HB.out.mono ?_); rintro e w1 ⟨rfl, rfl⟩)
  go_ret
  exact ⟨rfl, rfl⟩

theorem exists_least {p : Nat → Prop} (h : ∃ n, p n) : ∃ n, p n ∧ ∀ m, p m → n ≤ m := by
  obtain ⟨n, hn⟩ := h
  induction n using Nat.strongRecOn with
  | _ n ih =>
    by_cases hx : ∃ m, m < n ∧ p m
    · obtain ⟨m, h1, h2⟩ := hx; exact ih m h1 h2
    · exact ⟨n, hn, fun m hm => Classical.byContradiction fun hlt => hx ⟨m, by omega, hm⟩⟩
open Classical in
noncomputable def muJ (J : Nat → Act → World → Prop) (a : Act) (w : World) : Nat := if h : ∃ n, J n a w then Classical.choose (exists_least h) else 0
/-- A scope with jumps back to one label, the measure told beside the frame. -/
theorem scope_ghost {P : Program} {c X : Code} {a : Act} {w : World} {Q : Exit → Act → World → Prop} (l : Nat) (J : Nat → Act → World → Prop) (hf : findLabel c l = some (Code.skip.seq X))
    (first : (∀ n a w, J n a w → X.wp P (Exit.jump l (fun a w => ∃ n, J n a w) Q) a w) → c.wp P (Exit.jump l (fun a w => ∃ n, J n a w) Q) a w)
    (pass : ∀ n a w, J n a w → X.wp P (Exit.jump l (fun a' w' => ∃ m, m < n ∧ J m a' w') Q) a w) : (Code.scope c).wp P Q a w := by
  have sk : ∀ {Q : Exit → Act → World → Prop} {a : Act} {w : World}, X.wp P Q a w → (Code.skip.seq X).wp P Q a w := fun h => wp_seq (wp_skip h)
  refine wp_scope_jumps l (fun a w => ∃ n, J n a w) (muJ J) hf (first (fun n a w h => Code.wp_mono (fun e a' w' hq => by cases e with | goto l' => (obtain ⟨h1, m, _, h3⟩ := hq; exact ⟨h1, m, h3⟩) | normal => exact hq | exit id => exact hq | ret => exact hq | panic ch => exact hq | outgrown => exact hq) (pass n a w h))) (fun a w h => ?_)
  have hs := Classical.choose_spec (exists_least h)
  have em : muJ J a w = Classical.choose (exists_least h) := by unfold muJ; rw [dif_pos h]
  refine Code.wp_mono (fun e a' w' hq => ?_) (sk (pass _ a w hs.1))
  cases e with
  | goto l' =>
    obtain ⟨h1, m, h2, h3⟩ := hq
    refine ⟨h1, ⟨m, h3⟩, ?_⟩
    have hx : ∃ n, J n a' w' := ⟨m, h3⟩
    have e2 : muJ J a' w' = Classical.choose (exists_least hx) := by unfold muJ; rw [dif_pos hx]
    have h4 := (Classical.choose_spec (exists_least hx)).2 m h3
    rw [em, e2]
    omega
  | normal => exact hq
  | exit id => exact hq
  | ret => exact hq
  | panic ch => exact hq
  | outgrown => exact hq
theorem hole_form (tb : Nat) (c : Cx) : ∃ b o, c.hole tb = ⟨b, o, none⟩ := by cases c <;> exact ⟨_, _, rfl⟩
theorem plug_ne : ∀ (c : Cx) (a : Nat) (k : Int) (v : Value) (q : List Int) (l r : Tr), c.plug (.node a k v q l r) ≠ .nil
  | .top, _, _, _, _, _, _ => by intro h; cases h
  | .left b _ _ _ _ c, _, _, _, _, _, _ => plug_ne c _ _ _ _ _ _
  | .right b _ _ _ _ c, _, _, _, _, _, _ => plug_ne c _ _ _ _ _ _
/-- Where spot stands, at each pass. -/
structure SpI (w : World) (tb sb : Nat) (s key : Int) (T : Tr) (c : Cx) (t : Tr) : Prop where
  eq : c.plug t = T
  at_ : At s key c t
  cx : CxIn w tb sb c t.ptr
  tr : TrIn w t
def SpJ (w : World) (tb sb : Nat) (s key : Int) (T : Tr) (n : Nat) (a : Act) (w' : World) : Prop :=
  ∃ c t q, t.size = n ∧ Hid (SpI w tb sb s key T c t) ∧ w' = w.drewN q ∧ ∃ u6 u7 u8 u9 u10 u11 u12 u13 u14 u15 u16 u17 u18 u19 u20 u21 u22 u23 u24 u25 u26 u27 u28 u29 u30 u31 u32 u33 u34 u35 u36 u37 u38 u39 u40 u41 u42 u43 u44 u45 u46 u47 u48 u49, a = ⟨#[.pointer (some ⟨tb, 0, none⟩), .int .i64 key, undef, undef, .pointer none, .pointer (some (c.hole tb)), u6, u7, u8, u9, u10, u11, u12, u13, u14, u15, u16, u17, u18, u19, u20, u21, u22, u23, u24, u25, u26, u27, u28, u29, u30, u31, u32, u33, u34, u35, u36, u37, u38, u39, u40, u41, u42, u43, u44, u45, u46, u47, u48, u49], []⟩
def SpEnd (w : World) (tb sb : Nat) (s key : Int) (T : Tr) (e : Ending) (w' : World) : Prop :=
  ∃ c t, e = .returned (.pointer (some (c.hole tb))) ∧ Hid (SpI w tb sb s key T c t ∧ Hangs key t) ∧ ∃ n, w' = w.drewN n

set_option maxHeartbeats 4000000 in
set_option maxRecDepth 100000 in
theorem spot_c (tb sb : Nat) (s key : Int) (T : Tr) (w : World) (hs : T ≠ .nil → (s = 1 ∨ s = 2)) (hb : Cl 3 w sb #[.int .i64 s]) (hc : CxIn w tb sb .top T.ptr) (ht : TrIn w T) (hS : Srt s T.rows) :
    Calls Tryz.prog 223 #[.pointer (some ⟨tb, 0, none⟩), .int .i64 key] w (SpEnd w tb sb s key T) := by
  have mixed : Tryz.prog.follows .mixedOrders = true := by kernel_rfl
  have HI0 : Hid (SpI w tb sb s key T .top T) := Lib.hid ⟨rfl, At.start hS, hc, ht⟩
  have HA0 : Hid (∀ a b X, X.heap = w.heap → Calls Tryz.prog 84 #[.int .i64 a, .int .i64 b, .pointer (some ⟨sb, 0, none⟩)] X fun e w' => e = .returned (.bool (betN s a b)) ∧ w' = X) := Lib.hid (fun a b X hX => gAhead_c sb s a b X (by unfold Cl; rw [hX]; exact hb))
  have k0 : w.cell? ⟨tb, 0, none⟩ = some (.func (.func 84) #[] #[.pointer (some ⟨sb, 0, none⟩)]) := cx_fun hc
  have HS := Lib.hid hs
  clear hc ht hS hb hs
  go_enter Tryz.func223, Tryz.ntmps223
  go_wp2_with fail
  refine scope_ghost 0 (SpJ w tb sb s key T) rfl ?_ ?_
  · intro hp
    go_wp2_with fail
    go_step3
    rename_i K hK
    refine hK _ _ (hp T.size _ _ ⟨.top, T, 0, rfl, HI0, rfl, ?_⟩)
    exact ⟨_, _, _, _, _, _, _, _, _, _, _, _, _, _, _, _, _, _, _, _, _, _, _, _, _, _, _, _, _, _, _, _, _, _, _, _, _, _, _, _, _, _, _, _, rfl⟩
  · rintro n a w' ⟨c, t, q, rfl, HI, rfl, u6, u7, u8, u9, u10, u11, u12, u13, u14, u15, u16, u17, u18, u19, u20, u21, u22, u23, u24, u25, u26, u27, u28, u29, u30, u31, u32, u33, u34, u35, u36, u37, u38, u39, u40, u41, u42, u43, u44, u45, u46, u47, u48, u49, rfl⟩
    obtain ⟨b, o, eh⟩ := hole_form tb c
    have h1 := cx_hole HI.out.cx
    rw [eh] at h1 ⊢
    obtain ⟨c1, c2⟩ := h1
    have HA : Hid (∀ a b n, Calls Tryz.prog 84 #[.int .i64 a, .int .i64 b, .pointer (some ⟨sb, 0, none⟩)] ((w.drewN q).drewN n) fun e w' => e = .returned (.bool (betN s a b)) ∧ w' = (w.drewN q).drewN n) := Lib.hid (fun a b n => HA0.out a b _ rfl)
    have HD : Hid (∀ n m, ((w.drewN q).drewN n).drewN m = w.drewN (q + n + m)) := Lib.hid (fun n m => by rw [World.drewN_drewN, World.drewN_drewN, Nat.add_assoc])
    have HA2 : Hid (∀ a b n m, Calls Tryz.prog 84 #[.int .i64 a, .int .i64 b, .pointer (some ⟨sb, 0, none⟩)] (((w.drewN q).drewN n).drewN m) fun e w' => e = .returned (.bool (betN s a b)) ∧ w' = ((w.drewN q).drewN n).drewN m) := Lib.hid (fun a b n m => HA0.out a b _ rfl)
    have HD1 : Hid (∀ n, (w.drewN q).drewN n = w.drewN (q + n)) := Lib.hid (fun n => by rw [World.drewN_drewN])
    have k0q : (w.drewN q).cell? ⟨tb, 0, none⟩ = some (.func (.func 84) #[] #[.pointer (some ⟨sb, 0, none⟩)]) := k0
    clear k0 HA0
    cases t with
    | nil =>
      have c1' : (w.drewN q).cell? ⟨b, o, none⟩ = some (.pointer none) := c1
      have HE : ∀ n, Hid (SpEnd w tb sb s key T (.returned (.pointer (some ⟨b, o, none⟩))) (w.drewN n)) := fun n => Lib.hid ⟨c, .nil, by rw [eh], Lib.hid ⟨HI.out, trivial⟩, n, rfl⟩
      clear c1 HI
      generalize w.drewN q = wq at *
      go_wp2_with fail
      go_quiet (((with_reducible exact Calls.quiet_of_same (HA.out _ _ _))))
      go_wp2_with fail
      go_quiet (((with_reducible exact Calls.quiet_of_same (HA.out _ _ _))))
      go_wp2_with fail
      show bodyPost Tryz.prog Tryz.f223 (SpEnd w tb sb s key T) Exit.ret _ _
      rw [HD.out]
      go_ret
      exact (HE _).out
    | node x k v qq l r =>
      have c1' : (w.drewN q).cell? ⟨b, o, none⟩ = some (.pointer (some ⟨x, 0, none⟩)) := c1
      have hx := HI.out.tr.1
      have d0 : (w.drewN q).cell? ⟨x, 0, none⟩ = some (.int .i64 k) := (hx.c 0).trans rfl
      clear c1 hx
      cases h1 : betN s key k with
      | true =>
        have HN : Hid (SpI w tb sb s key T (.left x k v qq r c) l) := Lib.hid ⟨HI.out.eq, HI.out.at_.goL h1, ⟨HI.out.tr.1, HI.out.tr.2.1, HI.out.tr.2.2.2, HI.out.cx⟩, HI.out.tr.2.2.1⟩
        clear HI
        generalize w.drewN q = wq at *
        go_wp2_with fail
        go_quiet (((with_reducible exact Calls.quiet_of_same (HA.out _ _ _))))
        rw [h1]
        go_wp2_with fail
        go_step3
        exact ⟨rfl, l.size, by show l.size < l.size + r.size + 1; omega, .left x k v qq r c, l, _, rfl, HN, HD1.out _, _, _, _, _, _, _, _, _, _, _, _, _, _, _, _, _, _, _, _, _, _, _, _, _, _, _, _, _, _, _, _, _, _, _, _, _, _, _, _, _, _, _, _, _, rfl⟩
      | false =>
        cases h2 : betN s k key with
        | true =>
          have HN : Hid (SpI w tb sb s key T (.right x k v qq l c) r) := Lib.hid ⟨HI.out.eq, HI.out.at_.goR h2, ⟨HI.out.tr.1, HI.out.tr.2.1, HI.out.tr.2.2.1, HI.out.cx⟩, HI.out.tr.2.2.2⟩
          clear HI
          generalize w.drewN q = wq at *
          go_wp2_with fail
          go_quiet (((with_reducible exact Calls.quiet_of_same (HA.out _ _ _))))
          rw [h1]
          go_wp2_with fail
          have k0r : (wq.drewN nq).cell? ⟨tb, 0, none⟩ = some (.func (.func 84) #[] #[.pointer (some ⟨sb, 0, none⟩)]) := k0q
          have d0r : (wq.drewN nq).cell? ⟨x, 0, none⟩ = some (.int .i64 k) := d0
          have HA3 := Lib.hid (fun a b m => HA2.out a b nq m)
          have HD3 := Lib.hid (fun m => HD.out nq m)
          clear HA2 HD k0q d0 c1' HA HD1
          generalize wq.drewN nq = wz at *
          go_quiet (((with_reducible exact Calls.quiet_of_same (HA3.out _ _ _))))
          rw [h2]
          go_wp2_with fail
          go_step3
          exact ⟨rfl, r.size, by show r.size < l.size + r.size + 1; omega, .right x k v qq l c, r, _, rfl, HN, HD3.out _, _, _, _, _, _, _, _, _, _, _, _, _, _, _, _, _, _, _, _, _, _, _, _, _, _, _, _, _, _, _, _, _, _, _, _, _, _, _, _, _, _, _, _, _, rfl⟩
        | false =>
          have HE : ∀ n, Hid (SpEnd w tb sb s key T (.returned (.pointer (some ⟨b, o, none⟩))) (w.drewN n)) := fun n => Lib.hid ⟨c, .node x k v qq l r, by rw [eh], Lib.hid ⟨HI.out, (bet_tri (HS.out (by rw [← HI.out.eq]; exact plug_ne _ _ _ _ _ _ _)) h1 h2).symm⟩, n, rfl⟩
          clear HI
          generalize w.drewN q = wq at *
          go_wp2_with fail
          go_quiet (((with_reducible exact Calls.quiet_of_same (HA.out _ _ _))))
          rw [h1]
          go_wp2_with fail
          have k0r : (wq.drewN nq).cell? ⟨tb, 0, none⟩ = some (.func (.func 84) #[] #[.pointer (some ⟨sb, 0, none⟩)]) := k0q
          have d0r : (wq.drewN nq).cell? ⟨x, 0, none⟩ = some (.int .i64 k) := d0
          have HA3 := Lib.hid (fun a b m => HA2.out a b nq m)
          have HD3 := Lib.hid (fun m => HD.out nq m)
          clear HA2 HD k0q d0 c1' HA HD1
          generalize wq.drewN nq = wz at *
          go_quiet (((with_reducible exact Calls.quiet_of_same (HA3.out _ _ _))))
          rw [h2]
          go_wp2_with fail
          show bodyPost Tryz.prog Tryz.f223 (SpEnd w tb sb s key T) Exit.ret _ _
          rw [HD3.out]
          go_ret
          exact (HE _).out
end Go.Proofs.YtgbmgdffgmablaaGreat

namespace Go.Proofs.YtgbmgdffgmablaaGreat
open Go.RowKit Go.Shelf Go.Sort Go.Maps Go.Lib
set_option linter.unusedVariables false

def Cx.blks : Cx → List Nat
  | .top => []
  | .left a _ _ _ r c => a :: (r.blks ++ c.blks)
  | .right a _ _ _ l c => a :: (l.blks ++ c.blks)
def Cx.vals : Cx → List Value
  | .top => []
  | .left _ _ v _ r c => v :: (r.vals ++ c.vals)
  | .right _ _ v _ l c => v :: (l.vals ++ c.vals)
theorem plug_blks : ∀ (c : Cx) (t : Tr), (c.plug t).blks.Perm (t.blks ++ c.blks)
  | .top, t => by simp [Cx.plug, Cx.blks]
  | .left a key v q r c, t => by
    refine (plug_blks c _).trans ?_
    simp only [Tr.blks, Cx.blks, List.append_assoc, List.cons_append]
    exact List.Perm.refl _
  | .right a key v q l c, t => by
    refine (plug_blks c _).trans ?_
    simp only [Tr.blks, Cx.blks, List.append_assoc, List.cons_append]
    exact List.perm_middle.trans ((List.Perm.cons a (List.perm_append_comm_assoc l.blks t.blks c.blks)).trans List.perm_middle.symm)
theorem TrIn.fr {S : Nat → Prop} {W W' : World} (hf : Fr S W W') : ∀ {t : Tr}, TrIn W t → (∀ b ∈ t.blks, ¬ S b) → (∀ v ∈ t.vals, ∀ k, v.ownBlock = some k → ¬ S k) → TrIn W' t
  | .nil, _, _, _ => trivial
  | .node a key v q l r, h, hb, hv => by
    refine ⟨hf.blk h.1 (hb a (by simp [Tr.blks])), own_fr h.2.1 hf (hv v (by simp [Tr.vals])), TrIn.fr hf h.2.2.1 (fun b hb' => hb b (by simp [Tr.blks, hb'])) (fun v hv' => hv v (by simp [Tr.vals, hv'])), TrIn.fr hf h.2.2.2 (fun b hb' => hb b (by simp [Tr.blks, hb'])) (fun v hv' => hv v (by simp [Tr.vals, hv']))⟩
theorem CxIn.fr {S : Nat → Prop} {W W' : World} {tb sb : Nat} (hf : Fr S W W') (ht : ¬ S tb) : ∀ {c : Cx} {p : Value}, CxIn W tb sb c p → (∀ b ∈ c.blks, ¬ S b) → (∀ v ∈ c.vals, ∀ k, v.ownBlock = some k → ¬ S k) → CxIn W' tb sb c p
  | .top, p, h, _, _ => hf.blk h ht
  | .left a key v q r c, p, h, hb, hv => by
    refine ⟨hf.blk h.1 (hb a (by simp [Cx.blks])), own_fr h.2.1 hf (hv v (by simp [Cx.vals])), TrIn.fr hf h.2.2.1 (fun b hb' => hb b (by simp [Cx.blks, hb'])) (fun v hv' => hv v (by simp [Cx.vals, hv'])), CxIn.fr hf ht h.2.2.2 (fun b hb' => hb b (by simp [Cx.blks, hb'])) (fun v hv' => hv v (by simp [Cx.vals, hv']))⟩
  | .right a key v q l c, p, h, hb, hv => by
    refine ⟨hf.blk h.1 (hb a (by simp [Cx.blks])), own_fr h.2.1 hf (hv v (by simp [Cx.vals])), TrIn.fr hf h.2.2.1 (fun b hb' => hb b (by simp [Cx.blks, hb'])) (fun v hv' => hv v (by simp [Cx.vals, hv'])), CxIn.fr hf ht h.2.2.2 (fun b hb' => hb b (by simp [Cx.blks, hb'])) (fun v hv' => hv v (by simp [Cx.vals, hv']))⟩
/-- No block of a node is a queue's. -/
theorem TrIn.ne {W : World} {g : Nat} {cs : Array Value} {T : TypeId} (hg : W.heap[g]? = some (.cells cs T (0, 0))) (hT : 35 ≠ T) : ∀ {t : Tr}, TrIn W t → ∀ v ∈ t.vals, v.ownBlock ≠ some g
  | .nil, _, v, hv => (by cases hv)
  | .node a key v q l r, h, u, hu => by
    simp only [Tr.vals, List.mem_append, List.mem_cons] at hu
    rcases hu with hu | rfl | hu
    · exact TrIn.ne hg hT h.2.2.1 u hu
    · exact own_ne h.2.1 hg hT
    · exact TrIn.ne hg hT h.2.2.2 u hu
theorem CxIn.ne {W : World} {tb sb g : Nat} {cs : Array Value} {T : TypeId} (hg : W.heap[g]? = some (.cells cs T (0, 0))) (hT : 35 ≠ T) : ∀ {c : Cx} {p : Value}, CxIn W tb sb c p → ∀ v ∈ c.vals, v.ownBlock ≠ some g
  | .top, _, _, v, hv => (by cases hv)
  | .left a key v q r c, p, h, u, hu => by
    simp only [Cx.vals, List.mem_append, List.mem_cons] at hu
    rcases hu with rfl | hu | hu
    · exact own_ne h.2.1 hg hT
    · exact TrIn.ne hg hT h.2.2.1 u hu
    · exact CxIn.ne hg hT h.2.2.2 u hu
  | .right a key v q l c, p, h, u, hu => by
    simp only [Cx.vals, List.mem_append, List.mem_cons] at hu
    rcases hu with rfl | hu | hu
    · exact own_ne h.2.1 hg hT
    · exact TrIn.ne hg hT h.2.2.1 u hu
    · exact CxIn.ne hg hT h.2.2.2 u hu
theorem CxIn.tree {W : World} {tb sb : Nat} : ∀ {c : Cx} {p : Value}, CxIn W tb sb c p → ∃ p', Cl 156 W tb #[ahF sb, p']
  | .top, p, h => ⟨p, h⟩
  | .left .., p, h => CxIn.tree h.2.2.2
  | .right .., p, h => CxIn.tree h.2.2.2
/-- Another pointer at the place. -/
theorem CxIn.set {W : World} {tb sb : Nat} {c : Cx} {p : Value} (h : CxIn W tb sb c p) (hd : c.blks.Nodup) (p' : Value) : CxIn (W.setCell (c.hole tb) p') tb sb c p' := by
  cases c with
  | top => exact (heap_set h).trans rfl
  | left a key v q r c =>
    obtain ⟨h1, h2, h3, h4⟩ := h
    have hf : Fr (fun k => k = a) W (W.setCell ⟨a, 2, none⟩ p') := (Fr.refl (fun k => k = a) W).set (p := ⟨a, 2, none⟩) (.inl rfl) _
    have hnd : a ∉ r.blks ++ c.blks := (List.nodup_cons.1 hd).1
    have hne : ∀ (v : Value), v.ownBlock ≠ some a → ∀ k, v.ownBlock = some k → ¬ k = a := fun v hv k hk e => hv (by rw [hk, e])
    obtain ⟨pt, ht⟩ := CxIn.tree h4
    refine ⟨(heap_set h1).trans rfl, own_fr h2 hf (hne v (own_ne h2 h1 (by decide))), TrIn.fr hf h3 (fun b hb e => hnd (by rw [← e]; exact List.mem_append_left _ hb)) (fun v hv => hne v (TrIn.ne h1 (by decide) h3 v hv)), CxIn.fr hf (fun e => blk_ne ht h1 (by decide) e) h4 (fun b hb e => hnd (by rw [← e]; exact List.mem_append_right _ hb)) (fun v hv => hne v (CxIn.ne h1 (by decide) h4 v hv))⟩
  | right a key v q l c =>
    obtain ⟨h1, h2, h3, h4⟩ := h
    have hf : Fr (fun k => k = a) W (W.setCell ⟨a, 3, none⟩ p') := (Fr.refl (fun k => k = a) W).set (p := ⟨a, 3, none⟩) (.inl rfl) _
    have hnd : a ∉ l.blks ++ c.blks := (List.nodup_cons.1 hd).1
    have hne : ∀ (v : Value), v.ownBlock ≠ some a → ∀ k, v.ownBlock = some k → ¬ k = a := fun v hv k hk e => hv (by rw [hk, e])
    obtain ⟨pt, ht⟩ := CxIn.tree h4
    refine ⟨(heap_set h1).trans rfl, own_fr h2 hf (hne v (own_ne h2 h1 (by decide))), TrIn.fr hf h3 (fun b hb e => hnd (by rw [← e]; exact List.mem_append_left _ hb)) (fun v hv => hne v (TrIn.ne h1 (by decide) h3 v hv)), CxIn.fr hf (fun e => blk_ne ht h1 (by decide) e) h4 (fun b hb e => hnd (by rw [← e]; exact List.mem_append_right _ hb)) (fun v hv => hne v (CxIn.ne h1 (by decide) h4 v hv))⟩
/-- A place and what hangs there are a tree. -/
theorem plug_in {W : World} {tb sb : Nat} : ∀ {c : Cx} {t : Tr}, CxIn W tb sb c t.ptr → TrIn W t → CxIn W tb sb .top (c.plug t).ptr ∧ TrIn W (c.plug t)
  | .top, t, h, k => ⟨h, k⟩
  | .left a key v q r c, t, h, k => plug_in (c := c) (t := .node a key v q t r) h.2.2.2 ⟨h.1, h.2.1, k, h.2.2.1⟩
  | .right a key v q l c, t, h, k => plug_in (c := c) (t := .node a key v q l t) h.2.2.2 ⟨h.1, h.2.1, h.2.2.1, k⟩

def Tr.val : Tr → Value
  | .nil => .slice none 0 0
  | .node _ _ v _ _ _ => v
def GetEnd (w : World) (tb sb : Nat) (s key : Int) (T : Tr) (e : Ending) (w' : World) : Prop :=
  ∃ c t, e = .returned t.val ∧ Hid (SpI w tb sb s key T c t ∧ Hangs key t) ∧ ∃ n, w' = w.drewN n
set_option maxHeartbeats 4000000 in
set_option maxRecDepth 100000 in
theorem tGet_c (tb sb : Nat) (s key : Int) (T : Tr) (w : World) (hs : T ≠ .nil → (s = 1 ∨ s = 2)) (hb : Cl 3 w sb #[.int .i64 s]) (hc : CxIn w tb sb .top T.ptr) (ht : TrIn w T) (hS : Srt s T.rows) :
    Calls Tryz.prog 214 #[.pointer (some ⟨tb, 0, none⟩), .int .i64 key] w (GetEnd w tb sb s key T) := by
  have HS := Lib.hid (spot_c tb sb s key T w hs hb hc ht hS)
  clear hs hb hc ht hS
  go_enter Tryz.func214, Tryz.ntmps214
  go_wp2_with fail
  ((with_reducible refine HS.out.mono ?_); rintro e w1 ⟨c, t, rfl, h, n, rfl⟩)
  obtain ⟨b, o, eh⟩ := hole_form tb c
  have h1 := (cx_hole h.out.1.cx).1
  have HE : Hid (GetEnd w tb sb s key T (.returned t.val) (w.drewN n)) := Lib.hid ⟨c, t, rfl, h, n, rfl⟩
  rw [eh] at h1 ⊢
  cases t with
  | nil =>
    have c1 : (w.drewN n).cell? ⟨b, o, none⟩ = some (.pointer none) := h1
    clear h1 HS h
    go_wp2_with fail
    go_ret
    exact HE.out
  | node x k v qq l r =>
    have c1 : (w.drewN n).cell? ⟨b, o, none⟩ = some (.pointer (some ⟨x, 0, none⟩)) := h1
    have d1 : (w.drewN n).cell? ⟨x, 1, none⟩ = some v := (h.out.1.tr.1.c 1).trans rfl
    clear h1 HS h
    go_wp2_with fail
    go_ret
    exact HE.out
end Go.Proofs.YtgbmgdffgmablaaGreat

namespace Go.Proofs.YtgbmgdffgmablaaGreat
open Go.RowKit Go.Shelf Go.Sort Go.Maps Go.Lib
set_option linter.unusedVariables false

/-- What hangs at a key's place behind put; x: a new node's block. -/
def Tr.with (x : Nat) (key : Int) (v : Value) (q : List Int) : Tr → Tr
  | .nil => .node x key v q .nil .nil
  | .node a k _ _ l r => .node a k v q l r
/-- Keys and queues, in the tree's order. -/
def Tr.items : Tr → List (Int × Value)
  | .nil => []
  | .node _ k v _ l r => l.items ++ (k, v) :: r.items
theorem items_row : ∀ {t : Tr} {x : Int × Value}, x ∈ t.items → ∃ q, (x.1, q) ∈ t.rows
  | .nil, x, h => (by cases h)
  | .node a k v q l r, x, h => by
    unfold Tr.items at h
    rcases List.mem_append.1 h with h | h
    · obtain ⟨q', h'⟩ := items_row h
      exact ⟨q', by unfold Tr.rows; exact List.mem_append_left _ h'⟩
    · rcases List.mem_cons.1 h with rfl | h
      · exact ⟨q, by unfold Tr.rows; simp⟩
      · obtain ⟨q', h'⟩ := items_row h
        exact ⟨q', by unfold Tr.rows; exact List.mem_append_right _ (List.mem_cons_of_mem _ h')⟩
theorem plug_items : ∀ (c : Cx), ∃ A C, ∀ t : Tr, (c.plug t).items = A ++ t.items ++ C
  | .top => ⟨[], [], fun t => by simp [Cx.plug]⟩
  | .left a key v q r c => by
    obtain ⟨A, C, h⟩ := plug_items c
    exact ⟨A, (key, v) :: r.items ++ C, fun t => by simp [Cx.plug, h, Tr.items]⟩
  | .right a key v q l c => by
    obtain ⟨A, C, h⟩ := plug_items c
    exact ⟨A ++ (l.items ++ [(key, v)]), C, fun t => by simp [Cx.plug, h, Tr.items]⟩
theorem no_key {s key : Int} {c : Cx} (h : At s key c .nil) : ∀ u, (key, u) ∉ (c.plug .nil).items := by
  intro u hu
  obtain ⟨q, hq⟩ := items_row hu
  rw [rows_plug] at hq
  have irr : ¬ betN s key key = true := by rw [bet_iff]; omega
  simp only [Tr.rows, List.append_nil] at hq
  rcases List.mem_append.1 hq with hq | hq
  · exact irr (h.pre _ hq)
  · exact irr (h.post _ hq)
/-- What put leaves. -/
structure TPut (w w' : World) (tb sb : Nat) (s key : Int) (T T' : Tr) (v : Value) (q : List Int) : Prop where
  cx : CxIn w' tb sb .top T'.ptr
  tr : TrIn w' T'
  srt : Srt s T'.rows
  nd : T'.blks.Nodup
  fr : Fr (fun b => b = tb ∨ b ∈ T.blks) w w'
  bl : ∀ b ∈ T'.blks, b ∈ T.blks ∨ w.heap.size ≤ b
  rows : ∃ P R Q, T.rows = P ++ R ++ Q ∧ T'.rows = P ++ (key, q) :: Q ∧ (R = [] ∨ ∃ q0, R = [(key, q0)]) ∧ (∀ x ∈ P, betN s x.1 key = true) ∧ (∀ x ∈ Q, betN s key x.1 = true)
  vals : ∃ A B C, T.vals = A ++ B ++ C ∧ T'.vals = A ++ v :: C ∧ ((B = [] ∧ ∀ u, (key, u) ∉ T.items) ∨ ∃ u, B = [u] ∧ (key, u) ∈ T.items)
theorem TrIn.lt {W : World} : ∀ {t : Tr}, TrIn W t → ∀ b ∈ t.blks, b < W.heap.size
  | .nil, _, b, h => (by cases h)
  | .node a key v q l r, h, b, hb => by
    simp only [Tr.blks, List.mem_append, List.mem_cons] at hb
    rcases hb with hb | rfl | hb
    · exact TrIn.lt h.2.2.1 b hb
    · exact blk_lt h.1
    · exact TrIn.lt h.2.2.2 b hb

theorem TrIn.at_ {W : World} : ∀ {t : Tr}, TrIn W t → ∀ b ∈ t.blks, ∃ cs, Cl 278 W b cs
  | .nil, _, b, h => (by cases h)
  | .node a key v q l r, h, b, hb => by
    simp only [Tr.blks, List.mem_append, List.mem_cons] at hb
    rcases hb with hb | rfl | hb
    · exact TrIn.at_ h.2.2.1 b hb
    · exact ⟨_, h.1⟩
    · exact TrIn.at_ h.2.2.2 b hb
theorem plug_vals : ∀ (c : Cx), ∃ A C, ∀ t : Tr, (c.plug t).vals = A ++ t.vals ++ C
  | .top => ⟨[], [], fun t => by simp [Cx.plug]⟩
  | .left a key v q r c => by
    obtain ⟨A, C, h⟩ := plug_vals c
    exact ⟨A, v :: r.vals ++ C, fun t => by simp [Cx.plug, h, Tr.vals]⟩
  | .right a key v q l c => by
    obtain ⟨A, C, h⟩ := plug_vals c
    exact ⟨A ++ (l.vals ++ [v]), C, fun t => by simp [Cx.plug, h, Tr.vals]⟩
theorem hole_blk (tb : Nat) (c : Cx) : (c.hole tb).block = tb ∨ (c.hole tb).block ∈ c.blks := by
  cases c <;> simp [Cx.hole, Cx.blks]
theorem srt_put {s key : Int} {q : List Int} {P R Q : List Rq} (h : Srt s (P ++ R ++ Q)) (hP : ∀ x ∈ P, betN s x.1 key = true) (hQ : ∀ x ∈ Q, betN s key x.1 = true) : Srt s (P ++ (key, q) :: Q) := by
  unfold Srt at h ⊢
  rw [List.append_assoc, List.pairwise_append] at h
  obtain ⟨h1, h2, h3⟩ := h
  rw [List.pairwise_append] at h2
  rw [List.pairwise_append, List.pairwise_cons]
  refine ⟨h1, ⟨hQ, h2.2.1⟩, fun a ha b hb => ?_⟩
  rcases List.mem_cons.1 hb with rfl | hb
  · exact hP a ha
  · exact h3 a ha b (List.mem_append_right _ hb)
/-- What put leaves, told from the place alone. -/
theorem put_done {w w' : World} {tb sb : Nat} {s key : Int} {T t : Tr} {c : Cx} {v : Value} {q : List Int} {x : Nat} (hI : SpI w tb sb s key T c t) (hh : Hangs key t) (hnd : T.blks.Nodup) (hx : w.heap.size ≤ x) (cx' : CxIn w' tb sb c (t.with x key v q).ptr) (tr' : TrIn w' (t.with x key v q)) (fr : Fr (fun b => b = tb ∨ b ∈ T.blks) w w') : TPut w w' tb sb s key T (c.plug (t.with x key v q)) v q := by
  obtain ⟨rfl, hat, hcx, htr⟩ := hI
  have hT := (plug_in hcx htr).2
  have hb0 : (c.plug t).blks.Perm (t.blks ++ c.blks) := plug_blks c t
  have hb1 := plug_blks c (t.with x key v q)
  obtain ⟨A, C, hv⟩ := plug_vals c
  have hp := plug_in cx' tr'
  have hrows : ∃ P R Q, (c.plug t).rows = P ++ R ++ Q ∧ (c.plug (t.with x key v q)).rows = P ++ (key, q) :: Q ∧ (R = [] ∨ ∃ q0, R = [(key, q0)]) ∧ (∀ x ∈ P, betN s x.1 key = true) ∧ (∀ x ∈ Q, betN s key x.1 = true) := by
    cases t with
    | nil => exact ⟨c.pre, [], c.post, by simp [rows_plug, Tr.rows], by simp [rows_plug, Tr.rows, Tr.with], .inl rfl, hat.pre, hat.post⟩
    | node a k u q0 l r =>
      have hk : k = key := hh
      subst hk
      have hs := hat.srt
      rw [rows_plug] at hs
      unfold Srt at hs
      simp only [Tr.rows, List.append_assoc, List.cons_append] at hs
      rw [List.pairwise_append] at hs
      have h2 := hs.2.1
      rw [List.pairwise_append] at h2
      refine ⟨c.pre ++ l.rows, [(k, q0)], r.rows ++ c.post, by simp [rows_plug, Tr.rows], by simp [rows_plug, Tr.rows, Tr.with], .inr ⟨q0, rfl⟩, fun x hx => ?_, fun x hx => ?_⟩
      · rcases List.mem_append.1 hx with hx | hx
        · exact hat.pre x hx
        · exact h2.2.2 x hx (k, q0) (by simp)
      · exact (List.pairwise_cons.1 h2.2.1).1 x hx
  have hsrt : Srt s (c.plug (t.with x key v q)).rows := by
    obtain ⟨P, R, Q, e1, e2, _, hP, hQ⟩ := hrows
    rw [e2]
    exact srt_put (by rw [← e1]; exact hat.srt) hP hQ
  refine ⟨hp.1, hp.2, hsrt, ?_, fr, ?_, hrows, ?_⟩
  · cases t with
    | nil =>
      refine hb1.nodup_iff.2 ?_
      show (x :: ([] ++ c.blks)).Nodup
      have h0 := hb0.nodup_iff.1 hnd
      refine List.nodup_cons.2 ⟨fun hm => ?_, h0⟩
      exact absurd (TrIn.lt hT x (hb0.mem_iff.2 hm)) (by omega)
    | node a k u q0 l r => exact hb1.nodup_iff.2 (hb0.nodup_iff.1 hnd)
  · intro b hb
    have hb2 := hb1.mem_iff.1 hb
    cases t with
    | nil =>
      simp only [Tr.with, Tr.blks, List.nil_append, List.cons_append, List.mem_cons] at hb2
      rcases hb2 with rfl | hb2
      · exact .inr hx
      · exact .inl (hb0.mem_iff.2 hb2)
    | node a k u q0 l r => exact .inl (hb0.mem_iff.2 hb2)
  · cases t with
    | nil => exact ⟨A, [], C, by simp [hv, Tr.vals], by simp [hv, Tr.vals, Tr.with], .inl ⟨rfl, no_key hat⟩⟩
    | node a k u q0 l r =>
      have hk : k = key := hh
      subst hk
      obtain ⟨A2, C2, hi⟩ := plug_items c
      exact ⟨A ++ l.vals, [u], r.vals ++ C, by simp [hv, Tr.vals], by simp [hv, Tr.vals, Tr.with], .inr ⟨u, rfl, by rw [hi]; simp [Tr.items]⟩⟩
/-- A queue of its own is no node's block, nor the tree's. -/
theorem own_off {w : World} {tb sb : Nat} {T t : Tr} {c : Cx} {s key : Int} {v : Value} {n : Nat} {xs : List Value} (hI : SpI w tb sb s key T c t) (hv : w.ownsRow 0 35 1 v n xs) : ∀ k, v.ownBlock = some k → ¬ (k = tb ∨ k ∈ T.blks) := by
  intro k hk hc
  obtain ⟨pt, ht⟩ := CxIn.tree hI.cx
  have hT := (plug_in hI.cx hI.tr).2
  rw [hI.eq] at hT
  rcases hc with rfl | hc
  · exact own_ne hv ht (by decide) hk
  · obtain ⟨cs, h⟩ := TrIn.at_ hT k hc
    exact own_ne hv h (by decide) hk
theorem put_node {w : World} {tb sb : Nat} {s key : Int} {T : Tr} {c : Cx} {x : Nat} {k : Int} {u v : Value} {qq q : List Int} {l r : Tr} (n : Nat) (hI : SpI w tb sb s key T c (.node x k u qq l r)) (hh : k = key) (hnd : T.blks.Nodup) (hv : w.ownsRow 0 35 1 v q.length (idV q)) :
    TPut w ((w.drewN n).setCell ⟨x, 1, none⟩ v) tb sb s key T (c.plug (.node x k v q l r)) v q := by
  have hperm := plug_blks c (.node x k u qq l r)
  rw [hI.eq] at hperm
  have hxT : x ∈ T.blks := hperm.mem_iff.2 (by simp [Tr.blks])
  have fr : Fr (fun b => b = tb ∨ b ∈ T.blks) w ((w.drewN n).setCell ⟨x, 1, none⟩ v) := ((Fr.refl _ w).drewN n).set (p := ⟨x, 1, none⟩) (.inl (.inr hxT)) v
  have fx : Fr (fun b => b = x) w ((w.drewN n).setCell ⟨x, 1, none⟩ v) := ((Fr.refl (fun b => b = x) w).drewN n).set (p := ⟨x, 1, none⟩) (.inl rfl) v
  have hoff := own_off hI hv
  have hd := hperm.nodup_iff.1 hnd
  obtain ⟨pt, ht⟩ := CxIn.tree hI.cx
  have hx := hI.tr.1
  have hne : ∀ (v : Value), v.ownBlock ≠ some x → ∀ k, v.ownBlock = some k → ¬ k = x := fun v hv k hk e => hv (by rw [hk, e])
  have hd1 := (List.nodup_append.1 hd).1
  have hd2 := (List.nodup_append.1 hd).2.2
  have hxl : x ∉ l.blks := fun h => by
    have := List.nodup_append.1 (show (l.blks ++ x :: r.blks).Nodup from hd1)
    exact this.2.2 x h x (by simp) rfl
  have hxr : x ∉ r.blks := fun h => by
    have := (List.nodup_append.1 (show (l.blks ++ x :: r.blks).Nodup from hd1)).2.1
    exact (List.nodup_cons.1 this).1 h
  have hxc : x ∉ c.blks := fun h => hd2 x (by simp [Tr.blks]) x h rfl
  subst hh
  refine put_done (t := .node x k u qq l r) (x := w.heap.size) hI rfl hnd (Nat.le_refl _) ?_ ?_ fr
  · exact CxIn.fr fx (fun e => blk_ne ht hx (by decide) e) hI.cx (fun b hb e => hxc (by rw [← e]; exact hb)) (fun v hv => hne v (CxIn.ne hx (by decide) hI.cx v hv))
  · refine ⟨(heap_set (w := w.drewN n) hx).trans rfl, own_fr hv fr hoff, ?_, ?_⟩
    · exact TrIn.fr fx hI.tr.2.2.1 (fun b hb e => hxl (by rw [← e]; exact hb)) (fun v hv => hne v (TrIn.ne hx (by decide) hI.tr.2.2.1 v hv))
    · exact TrIn.fr fx hI.tr.2.2.2 (fun b hb e => hxr (by rw [← e]; exact hb)) (fun v hv => hne v (TrIn.ne hx (by decide) hI.tr.2.2.2 v hv))
abbrev ndN (key : Int) (v : Value) : Array Value := #[.int .i64 key, v, .pointer none, .pointer none]
/-- The worlds of a new node. -/
theorem nil_cx {w : World} {tb sb : Nat} {s key : Int} {T : Tr} {c : Cx} (n : Nat) (hI : SpI w tb sb s key T c .nil) (hnd : T.blks.Nodup) {W1 W2 : World} (e1 : W1 = (w.drewN n).alloc (.cells (ndN key (.slice none 0 0)) 278)) (e2 : W2 = W1.setCell (c.hole tb) (.pointer (some ⟨w.heap.size, 0, none⟩))) :
    CxIn W1 tb sb c (.pointer none) ∧ CxIn W2 tb sb c (.pointer (some ⟨w.heap.size, 0, none⟩)) ∧ Cl 278 W2 w.heap.size (ndN key (.slice none 0 0)) ∧ Fr (fun b => b = tb ∨ b ∈ T.blks) w W2 ∧ w.heap.size ∉ c.blks ∧ tb ≠ w.heap.size := by
  have hperm := plug_blks c .nil
  rw [hI.eq] at hperm
  have hT := (plug_in hI.cx hI.tr).2
  rw [hI.eq] at hT
  have hd : c.blks.Nodup := hperm.nodup_iff.1 hnd
  obtain ⟨pt, ht⟩ := CxIn.tree hI.cx
  have htb := blk_lt ht
  have hnc : w.heap.size ∉ c.blks := fun h => absurd (TrIn.lt hT _ (hperm.mem_iff.2 h)) (by omega)
  have f1 : Fr (fun _ => False) w W1 := e1 ▸ ((Fr.refl _ w).drewN n).alloc _
  have h1 : CxIn W1 tb sb c (.pointer none) := CxIn.fr f1 (fun h => h) hI.cx (fun _ _ h => h) (fun _ _ _ _ h => h)
  have h2 : CxIn W2 tb sb c (.pointer (some ⟨w.heap.size, 0, none⟩)) := e2 ▸ CxIn.set h1 hd _
  have f2 : Fr (fun b => b = tb ∨ b ∈ c.blks) W1 W2 := e2 ▸ (Fr.refl _ W1).set (.inl (hole_blk tb c)) _
  have hn1 : Cl 278 W1 w.heap.size (ndN key (.slice none 0 0)) := e1 ▸ hd_last rfl
  refine ⟨h1, h2, f2.blk hn1 ?_, ?_, hnc, by omega⟩
  · rintro (h | h)
    · omega
    · exact hnc h
  · have f1' : Fr (fun b => b = tb ∨ b ∈ T.blks) w W1 := f1.mono (fun _ h => absurd h id)
    refine f1'.trans f2 (fun b hb => .inl ?_)
    rcases hb with hb | hb
    · exact .inl hb
    · exact .inr (hperm.mem_iff.2 hb)
theorem put_nil {w : World} {tb sb : Nat} {s key : Int} {T : Tr} {c : Cx} {v : Value} {q : List Int} (n : Nat) (hI : SpI w tb sb s key T c .nil) (hnd : T.blks.Nodup) (hv : w.ownsRow 0 35 1 v q.length (idV q)) {W1 W2 : World} (e1 : W1 = (w.drewN n).alloc (.cells (ndN key (.slice none 0 0)) 278)) (e2 : W2 = W1.setCell (c.hole tb) (.pointer (some ⟨w.heap.size, 0, none⟩))) :
    TPut w (W2.setCell ⟨w.heap.size, 1, none⟩ v) tb sb s key T (c.plug (.node w.heap.size key v q .nil .nil)) v q := by
  obtain ⟨h1, h2, h3, h4, h5, h6⟩ := nil_cx n hI hnd e1 e2
  have fx : Fr (fun b => b = w.heap.size) W2 (W2.setCell ⟨w.heap.size, 1, none⟩ v) := (Fr.refl (fun b => b = w.heap.size) W2).set (p := ⟨w.heap.size, 1, none⟩) (.inl rfl) v
  have fr : Fr (fun b => b = tb ∨ b ∈ T.blks) w (W2.setCell ⟨w.heap.size, 1, none⟩ v) := h4.set (p := ⟨w.heap.size, 1, none⟩) (.inr (Nat.le_refl _)) v
  have hne : ∀ (v : Value), v.ownBlock ≠ some w.heap.size → ∀ k, v.ownBlock = some k → ¬ k = w.heap.size := fun v hv k hk e => hv (by rw [hk, e])
  refine put_done (t := .nil) (x := w.heap.size) hI trivial hnd (Nat.le_refl _) ?_ ?_ fr
  · exact CxIn.fr fx h6 h2 (fun b hb e => h5 (by rw [← e]; exact hb)) (fun v hv => hne v (CxIn.ne h3 (by decide) h2 v hv))
  · exact ⟨(heap_set h3).trans rfl, own_fr hv fr (own_off hI hv), trivial, trivial⟩

set_option maxHeartbeats 4000000 in
set_option maxRecDepth 100000 in
theorem tPut_c (tb sb : Nat) (s key : Int) (T : Tr) (v : Value) (q : List Int) (w : World) (hs : s = 1 ∨ s = 2) (hb : Cl 3 w sb #[.int .i64 s]) (hc : CxIn w tb sb .top T.ptr) (ht : TrIn w T) (hS : Srt s T.rows) (hnd : T.blks.Nodup) (hv : w.ownsRow 0 35 1 v q.length (idV q)) :
    Calls Tryz.prog 218 #[.pointer (some ⟨tb, 0, none⟩), .int .i64 key, v] w fun e w' => e = .returned (.tuple #[]) ∧ ∃ T', Hid (TPut w w' tb sb s key T T' v q) := by
  have HS := Lib.hid (spot_c tb sb s key T w (fun _ => hs) hb hc ht hS)
  have HV := Lib.hid hv
  have HT := Lib.hid (And.intro ht hnd)
  obtain ⟨A0, c0, rfl, _⟩ := own_que2 hv
  clear hs hb hc ht hS hnd hv
  go_enter Tryz.func218, Tryz.ntmps218
  go_wp2_with fail
  ((with_reducible refine HS.out.mono ?_); rintro e w1 ⟨c, t, rfl, h, n, rfl⟩)
  obtain ⟨b, o, eh⟩ := hole_form tb c
  have h1 := cx_hole h.out.1.cx
  rw [eh] at h1 ⊢
  cases t with
  | nil =>
    obtain ⟨W1, e1⟩ : ∃ W1, W1 = (w.drewN n).alloc (.cells (ndN key (.slice none 0 0)) 278) := ⟨_, rfl⟩
    obtain ⟨W2, e2⟩ : ∃ W2, W2 = W1.setCell (c.hole tb) (.pointer (some ⟨w.heap.size, 0, none⟩)) := ⟨_, rfl⟩
    have HP := Lib.hid (put_nil n h.out.1 HT.out.2 HV.out e1 e2)
    obtain ⟨k1, k2, k3, -, -, -⟩ := nil_cx n h.out.1 HT.out.2 e1 e2
    have m1 := cx_hole k1
    have m2 := (cx_hole k2).1
    have d1 := k3.c 1
    have d2 : W2.frozen? ⟨w.heap.size, 1, none⟩ = false := k3.f
    rw [eh] at m1 m2 e2
    obtain ⟨m1, m3⟩ := m1
    have c1 : (w.drewN n).cell? ⟨b, o, none⟩ = some (.pointer none) := h1.1
    subst e2
    subst e1
    clear h1 HS k1 k2 k3 h
    go_wp2_with fail
    go_end0
    exact ⟨rfl, _, HP⟩
  | node x k u qq l r =>
    have c1 : (w.drewN n).cell? ⟨b, o, none⟩ = some (.pointer (some ⟨x, 0, none⟩)) := h1.1
    have d1 : (w.drewN n).cell? ⟨x, 1, none⟩ = some u := (h.out.1.tr.1.c 1).trans rfl
    have d2 : (w.drewN n).frozen? ⟨x, 1, none⟩ = false := h.out.1.tr.1.f
    clear h1 HS
    go_wp2_with fail
    go_end0
    exact ⟨rfl, _, Lib.hid (put_node n h.out.1 h.out.2 HT.out.2 HV.out)⟩
end Go.Proofs.YtgbmgdffgmablaaGreat

namespace Go.Proofs.YtgbmgdffgmablaaGreat
open Go.RowKit Go.Shelf Go.Sort Go.Maps Go.Lib
set_option linter.unusedVariables false

/-- The key, value and queue that are ahead of all. -/
def Tr.fst : Tr → Option (Int × Value × List Int)
  | .nil => none
  | .node _ k v q l _ => match l.fst with
    | none => some (k, v, q)
    | some x => some x
end Go.Proofs.YtgbmgdffgmablaaGreat

namespace Go.Proofs.YtgbmgdffgmablaaGreat
open Go.RowKit Go.Shelf Go.Sort Go.Maps Go.Lib
set_option linter.unusedVariables false

/-- A place in memory, whatever is over it. -/
def CtIn (W : World) : Cx → Value → Prop
  | .top, p => True
  | .left a key v q r c, p => Cl 278 W a #[.int .i64 key, v, p, r.ptr] ∧ W.ownsRow 0 35 1 v q.length (idV q) ∧ TrIn W r ∧ CtIn W c (.pointer (some ⟨a, 0, none⟩))
  | .right a key v q l c, p => Cl 278 W a #[.int .i64 key, v, l.ptr, p] ∧ W.ownsRow 0 35 1 v q.length (idV q) ∧ TrIn W l ∧ CtIn W c (.pointer (some ⟨a, 0, none⟩))
theorem plug_out {W : World} : ∀ {c : Cx} {t : Tr}, TrIn W (c.plug t) → CtIn W c t.ptr ∧ TrIn W t
  | .top, t, h => ⟨trivial, h⟩
  | .left a key v q r c, t, h => by
    obtain ⟨h1, h2⟩ := plug_out (c := c) h
    exact ⟨⟨h2.1, h2.2.1, h2.2.2.2, h1⟩, h2.2.2.1⟩
  | .right a key v q l c, t, h => by
    obtain ⟨h1, h2⟩ := plug_out (c := c) h
    exact ⟨⟨h2.1, h2.2.1, h2.2.2.1, h1⟩, h2.2.2.2⟩
theorem plug_in2 {W : World} : ∀ {c : Cx} {t : Tr}, CtIn W c t.ptr → TrIn W t → TrIn W (c.plug t)
  | .top, t, h, k => k
  | .left a key v q r c, t, h, k => plug_in2 (c := c) (t := .node a key v q t r) h.2.2.2 ⟨h.1, h.2.1, k, h.2.2.1⟩
  | .right a key v q l c, t, h, k => plug_in2 (c := c) (t := .node a key v q l t) h.2.2.2 ⟨h.1, h.2.1, h.2.2.1, k⟩
theorem CtIn.fr {S : Nat → Prop} {W W' : World} (hf : Fr S W W') : ∀ {c : Cx} {p : Value}, CtIn W c p → (∀ b ∈ c.blks, ¬ S b) → (∀ v ∈ c.vals, ∀ k, v.ownBlock = some k → ¬ S k) → CtIn W' c p
  | .top, p, h, _, _ => trivial
  | .left a key v q r c, p, h, hb, hv => by
    refine ⟨hf.blk h.1 (hb a (by simp [Cx.blks])), own_fr h.2.1 hf (hv v (by simp [Cx.vals])), TrIn.fr hf h.2.2.1 (fun b hb' => hb b (by simp [Cx.blks, hb'])) (fun v hv' => hv v (by simp [Cx.vals, hv'])), CtIn.fr hf h.2.2.2 (fun b hb' => hb b (by simp [Cx.blks, hb'])) (fun v hv' => hv v (by simp [Cx.vals, hv']))⟩
  | .right a key v q l c, p, h, hb, hv => by
    refine ⟨hf.blk h.1 (hb a (by simp [Cx.blks])), own_fr h.2.1 hf (hv v (by simp [Cx.vals])), TrIn.fr hf h.2.2.1 (fun b hb' => hb b (by simp [Cx.blks, hb'])) (fun v hv' => hv v (by simp [Cx.vals, hv'])), CtIn.fr hf h.2.2.2 (fun b hb' => hb b (by simp [Cx.blks, hb'])) (fun v hv' => hv v (by simp [Cx.vals, hv']))⟩
theorem CtIn.ne {W : World} {g : Nat} {cs : Array Value} {T : TypeId} (hg : W.heap[g]? = some (.cells cs T (0, 0))) (hT : 35 ≠ T) : ∀ {c : Cx} {p : Value}, CtIn W c p → ∀ v ∈ c.vals, v.ownBlock ≠ some g
  | .top, _, _, v, hv => (by cases hv)
  | .left a key v q r c, p, h, u, hu => by
    simp only [Cx.vals, List.mem_append, List.mem_cons] at hu
    rcases hu with rfl | hu | hu
    · exact own_ne h.2.1 hg hT
    · exact TrIn.ne hg hT h.2.2.1 u hu
    · exact CtIn.ne hg hT h.2.2.2 u hu
  | .right a key v q l c, p, h, u, hu => by
    simp only [Cx.vals, List.mem_append, List.mem_cons] at hu
    rcases hu with rfl | hu | hu
    · exact own_ne h.2.1 hg hT
    · exact TrIn.ne hg hT h.2.2.1 u hu
    · exact CtIn.ne hg hT h.2.2.2 u hu
def jhole (nb : Nat) : Cx → Addr
  | .top => ⟨nb, 0, none⟩
  | .left a _ _ _ _ _ => ⟨a, 2, none⟩
  | .right a _ _ _ _ _ => ⟨a, 3, none⟩
theorem jhole_form (nb : Nat) (c : Cx) : ∃ b o, jhole nb c = ⟨b, o, none⟩ := by cases c <;> exact ⟨_, _, rfl⟩
/-- To the right alone. -/
def Cx.ro : Cx → Prop
  | .top => True
  | .left .. => False
  | .right _ _ _ _ _ c => c.ro
theorem ro_post : ∀ {c : Cx}, c.ro → c.post = []
  | .top, _ => rfl
  | .left .., h => h.elim
  | .right _ _ _ _ _ c, h => ro_post (c := c) h
theorem ro_vals : ∀ {c : Cx}, c.ro → ∃ A, ∀ t : Tr, (c.plug t).vals = A ++ t.vals
  | .top, _ => ⟨[], fun t => rfl⟩
  | .left .., h => h.elim
  | .right a key v q l c, h => by
    obtain ⟨A, hA⟩ := ro_vals (c := c) h
    exact ⟨A ++ (l.vals ++ [v]), fun t => by simp [Cx.plug, hA, Tr.vals]⟩
theorem plug_ptr : ∀ (c : Cx) (a : Nat) (k k' : Int) (v v' : Value) (q q' : List Int) (l l' r r' : Tr), (c.plug (.node a k v q l r)).ptr = (c.plug (.node a k' v' q' l' r')).ptr
  | .top, _, _, _, _, _, _, _, _, _, _, _ => rfl
  | .left b key u p r0 c, _, _, _, _, _, _, _, _, _, _, _ => plug_ptr c b _ _ _ _ _ _ _ _ _ _
  | .right b key u p l0 c, _, _, _, _, _, _, _, _, _, _, _ => plug_ptr c b _ _ _ _ _ _ _ _ _ _
/-- What join leaves. -/
structure JoinIs (w w' : World) (L R T : Tr) : Prop where
  tr : TrIn w' T
  rows : T.rows = L.rows ++ R.rows
  vals : T.vals = L.vals ++ R.vals
  blks : T.blks.Perm (L.blks ++ R.blks)
  fr : Fr (fun b => b ∈ L.blks) w w'
structure JoI (L : Tr) (c : Cx) (t : Tr) : Prop where
  eq : c.plug t = L
  ro : c.ro
/-- The hole's cell, while join goes down. -/
theorem jo_hole {W : World} {nb : Nat} {L t : Tr} {c : Cx} (hI : JoI L c t) (hL : TrIn W L) (hb : Cl 154 W nb #[L.ptr]) : W.cell? (jhole nb c) = some t.ptr ∧ W.frozen? (jhole nb c) = false := by
  obtain ⟨rfl, hr⟩ := hI
  cases c with
  | top => exact ⟨(hb.c 0).trans rfl, hb.f⟩
  | left => exact hr.elim
  | right a key v q l c =>
    have h := (plug_out hL).1.1
    exact ⟨(h.c 3).trans rfl, h.f⟩
theorem jo_done {w W W' : World} {nb : Nat} {L R : Tr} {c : Cx} (hI : JoI L c .nil) (hL : TrIn w L) (hR : TrIn w R) (hd : (L.blks ++ R.blks).Nodup) (hn : nb = w.heap.size) (hW : W = w.alloc (.cells #[L.ptr] 154)) (hW' : W' = W.setCell (jhole nb c) R.ptr) :
    JoinIs w W' L R (c.plug R) ∧ W'.cell? ⟨nb, 0, none⟩ = some (c.plug R).ptr := by
  have f1 : Fr (fun _ => False) w W := hW ▸ (Fr.refl (fun _ => False) w).alloc _
  have hb : Cl 154 W nb #[L.ptr] := by rw [hW, hn]; exact hd_last rfl
  have hL1 : TrIn W L := TrIn.fr f1 hL (fun _ _ h => h) (fun _ _ _ _ h => h)
  have hR1 : TrIn W R := TrIn.fr f1 hR (fun _ _ h => h) (fun _ _ _ _ h => h)
  obtain ⟨rfl, hr⟩ := hI
  have hperm := plug_blks c .nil
  have hperm2 := plug_blks c R
  obtain ⟨A, hA⟩ := ro_vals hr
  have hrows : (c.plug R).rows = (c.plug .nil).rows ++ R.rows := by simp [rows_plug, ro_post hr, Tr.rows]
  have hvals : (c.plug R).vals = (c.plug .nil).vals ++ R.vals := by simp [hA, Tr.vals]
  have hblks : (c.plug R).blks.Perm ((c.plug .nil).blks ++ R.blks) := by
    refine hperm2.trans (List.perm_append_comm.trans ?_)
    exact List.Perm.append_right _ hperm.symm
  cases c with
  | top =>
    have f2 : Fr (fun b => b = nb) W W' := hW' ▸ (Fr.refl (fun b => b = nb) W).set (p := ⟨nb, 0, none⟩) (.inl rfl) _
    have hne : ∀ (v : Value), v.ownBlock ≠ some nb → ∀ k, v.ownBlock = some k → ¬ k = nb := fun v hv k hk e => hv (by rw [hk, e])
    refine ⟨⟨TrIn.fr f2 hR1 (fun b hb' e => ?_) (fun v hv => hne v (TrIn.ne hb (by decide) hR1 v hv)), hrows, hvals, hblks, ?_⟩, ?_⟩
    · have := TrIn.lt hR b hb'
      omega
    · refine (f1.trans f2 (fun b hb' => .inr (by omega))).mono (fun _ h => h.elim)
    · rw [hW']
      exact (Cl.c (heap_set hb) 0).trans rfl
  | left => exact hr.elim
  | right a key v q l c =>
    have hC := (plug_out hL1).1
    have hx := hC.1
    have hTa : a ∈ ((Cx.right a key v q l c).plug .nil).blks := hperm.mem_iff.2 (by simp [Cx.blks, Tr.blks])
    have f2 : Fr (fun b => b = a) W W' := hW' ▸ (Fr.refl (fun b => b = a) W).set (p := ⟨a, 3, none⟩) (.inl rfl) _
    have hne : ∀ (v : Value), v.ownBlock ≠ some a → ∀ k, v.ownBlock = some k → ¬ k = a := fun v hv k hk e => hv (by rw [hk, e])
    have hd1 : (a :: (l.blks ++ c.blks)).Nodup := hperm.nodup_iff.1 (List.nodup_append.1 hd).1
    have hna := (List.nodup_cons.1 hd1).1
    have hnR : a ∉ R.blks := fun h => (List.nodup_append.1 hd).2.2 a hTa a h rfl
    have fr : Fr (fun b => b ∈ ((Cx.right a key v q l c).plug .nil).blks) w W' := Fr.trans (f1.mono (fun _ h => h.elim)) f2 (fun b hb' => .inl (by rw [hb']; exact hTa))
    have hnab : ¬ nb = a := fun e => absurd (TrIn.lt hL a hTa) (by omega)
    refine ⟨⟨plug_in2 (c := .right a key v q l c) ⟨?_, own_fr hC.2.1 f2 (hne v (own_ne hC.2.1 hx (by decide))), TrIn.fr f2 hC.2.2.1 (fun b hb' e => hna (by rw [← e]; exact List.mem_append_left _ hb')) (fun v hv => hne v (TrIn.ne hx (by decide) hC.2.2.1 v hv)), CtIn.fr f2 hC.2.2.2 (fun b hb' e => hna (by rw [← e]; exact List.mem_append_right _ hb')) (fun v hv => hne v (CtIn.ne hx (by decide) hC.2.2.2 v hv))⟩ (TrIn.fr f2 hR1 (fun b hb' e => hnR (by rw [← e]; exact hb')) (fun v hv => hne v (TrIn.ne hx (by decide) hR1 v hv))), hrows, hvals, hblks, fr⟩, ?_⟩
    · rw [hW']
      exact (heap_set hx).trans rfl
    · show W'.cell? ⟨nb, 0, none⟩ = some (c.plug (.node a key v q l R)).ptr
      rw [plug_ptr c a key key v v q q l l R .nil]
      exact (Cl.c (f2.blk hb hnab) 0).trans rfl
def JoJ (w W : World) (L : Tr) (pl pr : Option Addr) (n : Nat) (a : Act) (w' : World) : Prop :=
  ∃ c t, t.size = n ∧ Hid (JoI L c t) ∧ W = w' ∧ ∃ u3 u6 u7 u8 u9 u10 u11 u12 u13 u14 u15 u16 u17 u18, a = ⟨#[.pointer pl, .pointer pr, .pointer (some ⟨w.heap.size, 0, none⟩), u3, .pointer none, .pointer (some (jhole w.heap.size c)), u6, u7, u8, u9, u10, u11, u12, u13, u14, u15, u16, u17, u18], []⟩
set_option maxHeartbeats 4000000 in
set_option maxRecDepth 100000 in
theorem tJoin_c (L R : Tr) (w : World) (hL : TrIn w L) (hR : TrIn w R) (hd : (L.blks ++ R.blks).Nodup) :
    Calls Tryz.prog 225 #[L.ptr, R.ptr] w fun e w' => ∃ T, e = .returned T.ptr ∧ Hid (JoinIs w w' L R T) := by
  obtain ⟨W, hW⟩ : ∃ W, W = w.alloc (.cells #[L.ptr] 154) := ⟨_, rfl⟩
  have HJ : Hid (∀ c, JoI L c .nil → JoinIs w (W.setCell (jhole w.heap.size c) R.ptr) L R (c.plug R) ∧ (W.setCell (jhole w.heap.size c) R.ptr).cell? ⟨w.heap.size, 0, none⟩ = some (c.plug R).ptr) := Lib.hid (fun c hI => jo_done hI hL hR hd rfl hW rfl)
  have HL : Hid (TrIn W L) := Lib.hid (TrIn.fr (hW ▸ (Fr.refl (fun _ => False) w).alloc _) hL (fun _ _ h => h) (fun _ _ _ _ h => h))
  have HB : Hid (Cl 154 W w.heap.size #[L.ptr]) := Lib.hid (hW ▸ hd_last rfl)
  clear hL hR hd
  obtain ⟨pl, hpl⟩ : ∃ p, L.ptr = .pointer p := by cases L <;> exact ⟨_, rfl⟩
  obtain ⟨pr, hpr⟩ : ∃ p, R.ptr = .pointer p := by cases R <;> exact ⟨_, rfl⟩
  rw [hpl] at HB hW
  rw [hpr] at HJ
  rw [hpl, hpr]
  go_enter Tryz.func225, Tryz.ntmps225
  go_wp2_with fail
  refine scope_ghost 0 (JoJ w W L pl pr) rfl ?_ ?_
  · intro hp
    go_wp2_with fail
    go_step3
    rename_i K hK
    refine hK _ _ (hp _ _ _ ⟨.top, L, rfl, Lib.hid ⟨rfl, trivial⟩, hW, ?_⟩)
    exact ⟨_, _, _, _, _, _, _, _, _, _, _, _, _, _, rfl⟩
  · clear hW
    rintro n a w' ⟨c, t, rfl, HI, rfl, u3, u6, u7, u8, u9, u10, u11, u12, u13, u14, u15, u16, u17, u18, rfl⟩
    have hm := jo_hole HI.out HL.out (by rw [hpl]; exact HB.out)
    obtain ⟨b, o, eh⟩ := jhole_form w.heap.size c
    cases t with
    | nil =>
      obtain ⟨hj, hc⟩ := HJ.out c HI.out
      have Hj := Lib.hid hj
      clear hj
      rw [eh] at hm hc Hj ⊢
      have m1 : W.cell? ⟨b, o, none⟩ = some (.pointer none) := hm.1
      have m2 := hm.2
      clear hm HJ HL HB
      have HE : Hid (∃ T, Ending.returned (c.plug R).ptr = .returned T.ptr ∧ Hid (JoinIs w (W.setCell ⟨b, o, none⟩ (.pointer pr)) L R T)) := Lib.hid ⟨_, rfl, Hj⟩
      clear Hj
      generalize (c.plug R).ptr = P at *
      go_wp2_with fail
      show bodyPost Tryz.prog Tryz.f225 (fun e w' => ∃ T, e = .returned T.ptr ∧ Hid (JoinIs w w' L R T)) Exit.ret _ _
      go_ret
      exact HE.out
    | node y k v q l r =>
      rw [eh] at hm ⊢
      have m1 : W.cell? ⟨b, o, none⟩ = some (.pointer (some ⟨y, 0, none⟩)) := hm.1
      clear hm HJ HL HB
      go_wp2_with fail
      go_step3
      refine ⟨rfl, r.size, ?_, .right y k v q l c, r, rfl, Lib.hid ⟨HI.out.eq, HI.out.ro⟩, rfl, _, _, _, _, _, _, _, _, _, _, _, _, _, _, rfl⟩
      show r.size < l.size + r.size + 1
      omega
end Go.Proofs.YtgbmgdffgmablaaGreat

namespace Go.Proofs.YtgbmgdffgmablaaGreat
open Go.RowKit Go.Shelf Go.Sort Go.Maps Go.Lib
set_option linter.unusedVariables false

theorem hole_cl {W : World} {tb sb : Nat} {c : Cx} {p : Value} (h : CxIn W tb sb c p) : ∃ cs T, W.heap[(c.hole tb).block]? = some (.cells cs T (0, 0)) ∧ 35 ≠ T := by
  cases c with
  | top => exact ⟨_, _, h, by decide⟩
  | left => exact ⟨_, _, h.1, by decide⟩
  | right => exact ⟨_, _, h.1, by decide⟩
/-- What drop leaves. -/
structure TDrop (w w' : World) (tb sb : Nat) (s key : Int) (T T' : Tr) : Prop where
  cx : CxIn w' tb sb .top T'.ptr
  tr : TrIn w' T'
  srt : Srt s T'.rows
  nd : T'.blks.Nodup
  fr : Fr (fun b => b = tb ∨ b ∈ T.blks) w w'
  bl : ∀ b ∈ T'.blks, b ∈ T.blks
  rows : ∃ P R Q, T.rows = P ++ R ++ Q ∧ T'.rows = P ++ Q ∧ (R = [] ∨ ∃ q0, R = [(key, q0)]) ∧ (∀ x ∈ P, betN s x.1 key = true) ∧ (∀ x ∈ Q, betN s key x.1 = true)
  vals : ∃ A B C, T.vals = A ++ B ++ C ∧ T'.vals = A ++ C ∧ (B = [] ∨ ∃ u, B = [u])
theorem srt_drop {s : Int} {P R Q : List Rq} (h : Srt s (P ++ R ++ Q)) : Srt s (P ++ Q) := by
  unfold Srt at h ⊢
  rw [List.append_assoc, List.pairwise_append] at h
  obtain ⟨h1, h2, h3⟩ := h
  rw [List.pairwise_append] at h2
  rw [List.pairwise_append]
  exact ⟨h1, h2.2.1, fun a ha b hb => h3 a ha b (List.mem_append_right _ hb)⟩
theorem drop_none {w : World} {tb sb : Nat} {s key : Int} {T : Tr} {c : Cx} (n : Nat) (hI : SpI w tb sb s key T c .nil) (hnd : T.blks.Nodup) : TDrop w (w.drewN n) tb sb s key T T := by
  have hT := plug_in hI.cx hI.tr
  have hsrt := hI.at_.srt
  obtain ⟨A, C, hv⟩ := plug_vals c
  have hrows : ∃ P R Q, T.rows = P ++ R ++ Q ∧ T.rows = P ++ Q ∧ (R = [] ∨ ∃ q0, R = [(key, q0)]) ∧ (∀ x ∈ P, betN s x.1 key = true) ∧ (∀ x ∈ Q, betN s key x.1 = true) :=
    ⟨c.pre, [], c.post, by rw [← hI.eq, rows_plug]; simp [Tr.rows], by rw [← hI.eq, rows_plug]; simp [Tr.rows], .inl rfl, hI.at_.pre, hI.at_.post⟩
  have f : Fr (fun b => b = tb ∨ b ∈ T.blks) w (w.drewN n) := (Fr.refl _ w).drewN n
  have f0 : Fr (fun _ => False) w (w.drewN n) := (Fr.refl _ w).drewN n
  rw [hI.eq] at hT hsrt
  exact ⟨CxIn.fr f0 (fun h => h) hT.1 (fun _ _ h => h) (fun _ _ _ _ h => h), TrIn.fr f0 hT.2 (fun _ _ h => h) (fun _ _ _ _ h => h), hsrt, hnd, f, fun _ h => h, hrows, T.vals, [], [], by simp, by simp, .inl rfl⟩
/-- Where drop stands behind join. -/
theorem drop_mid {w X w1 : World} {tb sb : Nat} {s key : Int} {T : Tr} {c : Cx} {x : Nat} {k : Int} {u : Value} {qq : List Int} {l r J : Tr} (hI : SpI w tb sb s key T c (.node x k u qq l r)) (hnd : T.blks.Nodup) (hX : Fr (fun _ => False) w X) (hj : JoinIs X w1 l r J) :
    CxIn w1 tb sb c (.pointer (some ⟨x, 0, none⟩)) ∧ Cl 278 w1 x #[.int .i64 k, u, l.ptr, r.ptr] ∧ Fr (fun b => b ∈ l.blks) w w1 ∧ (l.blks ++ r.blks).Nodup ∧ x ∉ c.blks ∧ x ≠ tb ∧ (∀ b, (b = tb ∨ b ∈ c.blks) → b ∉ l.blks ∧ b ∉ r.blks) := by
  have hperm := plug_blks c (.node x k u qq l r)
  rw [hI.eq] at hperm
  have hd := hperm.nodup_iff.1 hnd
  have hd1 : (l.blks ++ x :: r.blks).Nodup := (List.nodup_append.1 hd).1
  have hd2 := (List.nodup_append.1 hd).2.2
  have hd3 := List.nodup_append.1 hd1
  obtain ⟨pt, ht⟩ := CxIn.tree hI.cx
  have hx := hI.tr.1
  have hoff : ∀ b ∈ l.blks ++ x :: r.blks, b ≠ tb := fun b hb e => by
    have hm : b ∈ (Tr.node x k u qq l r).blks := hb
    obtain ⟨cs, h⟩ := TrIn.at_ hI.tr b hm
    exact blk_ne h ht (by decide) e
  have fr : Fr (fun b => b ∈ l.blks) w w1 := Fr.trans (hX.mono (fun _ h => h.elim)) hj.fr (fun b hb => .inl hb)
  have hxl : x ∉ l.blks := fun h => hd3.2.2 x h x (by simp) rfl
  have hlc : ∀ b ∈ c.blks, b ∉ l.blks := fun b hb h => hd2 b (by simp [Tr.blks, h]) b hb rfl
  have hrc : ∀ b ∈ c.blks, b ∉ r.blks := fun b hb h => hd2 b (by simp [Tr.blks, h]) b hb rfl
  refine ⟨CxIn.fr fr (fun h => hoff tb (by simp [h]) rfl) hI.cx hlc (fun v hv k hk h => ?_), fr.blk hx hxl, fr, ?_, fun h => hd2 x (by simp [Tr.blks]) x h rfl, hoff x (by simp), fun b hb => ?_⟩
  · obtain ⟨cs, hc⟩ := TrIn.at_ hI.tr.2.2.1 k h
    exact CxIn.ne hc (by decide) hI.cx v hv hk
  · rw [List.nodup_append]
    exact ⟨hd3.1, (List.nodup_cons.1 hd3.2.1).2, fun a ha b hb => hd3.2.2 a ha b (by simp [hb])⟩
  · rcases hb with rfl | hb
    · exact ⟨fun h => hoff b (by simp [h]) rfl, fun h => hoff b (by simp [h]) rfl⟩
    · exact ⟨hlc b hb, hrc b hb⟩
theorem drop_done {w X w1 : World} {tb sb : Nat} {s key : Int} {T : Tr} {c : Cx} {x : Nat} {k : Int} {u : Value} {qq : List Int} {l r J : Tr} (hI : SpI w tb sb s key T c (.node x k u qq l r)) (hk : k = key) (hnd : T.blks.Nodup) (hX : Fr (fun _ => False) w X) (hj : JoinIs X w1 l r J) :
    TDrop w (w1.setCell (c.hole tb) J.ptr) tb sb s key T (c.plug J) := by
  obtain ⟨hc1, hx1, fr1, hlr, hxc, hxt, hoff⟩ := drop_mid hI hnd hX hj
  have hperm := plug_blks c (.node x k u qq l r)
  rw [hI.eq] at hperm
  have hperm2 := plug_blks c J
  have hd := hperm.nodup_iff.1 hnd
  have hcd := (List.nodup_append.1 hd).2.1
  have hc2 := CxIn.set hc1 hcd J.ptr
  obtain ⟨cs, Tt, hcl, hT⟩ := hole_cl hc1
  have f2 : Fr (fun b => b = (c.hole tb).block) w1 (w1.setCell (c.hole tb) J.ptr) := (Fr.refl (fun b => b = (c.hole tb).block) w1).set (p := c.hole tb) (.inl rfl) _
  have hJl : ∀ b ∈ J.blks, b ∈ l.blks ∨ b ∈ r.blks := fun b hb => List.mem_append.1 (hj.blks.mem_iff.1 hb)
  have hJ2 : TrIn (w1.setCell (c.hole tb) J.ptr) J := by
    refine TrIn.fr f2 hj.tr (fun b hb e => ?_) (fun v hv k hk e => TrIn.ne hcl hT hj.tr v hv (by rw [hk, e]))
    have h := hoff _ (hole_blk tb c)
    rw [← e] at h
    rcases hJl b hb with h1 | h1
    · exact h.1 h1
    · exact h.2 h1
  obtain ⟨A, C, hv⟩ := plug_vals c
  have hp := plug_in hc2 hJ2
  have hs := hI.at_.srt
  rw [hI.eq] at hs
  have hrows : ∃ P R Q, T.rows = P ++ R ++ Q ∧ (c.plug J).rows = P ++ Q ∧ (R = [] ∨ ∃ q0, R = [(key, q0)]) ∧ (∀ x ∈ P, betN s x.1 key = true) ∧ (∀ x ∈ Q, betN s key x.1 = true) := by
    subst hk
    have hs' := hs
    rw [← hI.eq, rows_plug] at hs'
    unfold Srt at hs'
    simp only [Tr.rows, List.append_assoc, List.cons_append] at hs'
    rw [List.pairwise_append] at hs'
    have h2 := hs'.2.1
    rw [List.pairwise_append] at h2
    refine ⟨c.pre ++ l.rows, [(k, qq)], r.rows ++ c.post, by rw [← hI.eq, rows_plug]; simp [Tr.rows], by rw [rows_plug, hj.rows]; simp, .inr ⟨qq, rfl⟩, fun x hx => ?_, fun x hx => ?_⟩
    · rcases List.mem_append.1 hx with hx | hx
      · exact hI.at_.pre x hx
      · exact h2.2.2 x hx (k, qq) (by simp)
    · exact (List.pairwise_cons.1 h2.2.1).1 x hx
  refine ⟨hp.1, hp.2, ?_, ?_, ?_, ?_, hrows, A ++ l.vals, [u], r.vals ++ C, by rw [← hI.eq, hv]; simp [Tr.vals], by rw [hv, hj.vals]; simp, .inr ⟨u, rfl⟩⟩
  · obtain ⟨P, R, Q, e1, e2, _⟩ := hrows
    rw [e2]
    exact srt_drop (by rw [← e1]; exact hs)
  · refine hperm2.nodup_iff.2 ?_
    rw [List.nodup_append]
    refine ⟨hj.blks.nodup_iff.2 hlr, hcd, fun a ha b hb e => ?_⟩
    subst e
    rcases hJl a ha with h1 | h1
    · exact (hoff a (.inr hb)).1 h1
    · exact (hoff a (.inr hb)).2 h1
  · refine Fr.trans (S := fun b => b = tb ∨ b ∈ T.blks) (fr1.mono (fun b hb => .inl (.inr (hperm.mem_iff.2 (by simp [Tr.blks, hb]))))) f2 (fun b hb => .inl ?_)
    subst hb
    rcases hole_blk tb c with h | h
    · exact .inl h
    · exact .inr (hperm.mem_iff.2 (List.mem_append_right _ h))
  · intro b hb
    rcases List.mem_append.1 (hperm2.mem_iff.1 hb) with h | h
    · rcases hJl b h with h | h <;> exact hperm.mem_iff.2 (by simp [Tr.blks, h])
    · exact hperm.mem_iff.2 (List.mem_append_right _ h)
set_option maxHeartbeats 4000000 in
set_option maxRecDepth 100000 in
theorem tDrop_c (tb sb : Nat) (s key : Int) (T : Tr) (w : World) (hs : s = 1 ∨ s = 2) (hb : Cl 3 w sb #[.int .i64 s]) (hc : CxIn w tb sb .top T.ptr) (ht : TrIn w T) (hS : Srt s T.rows) (hnd : T.blks.Nodup) :
    Calls Tryz.prog 217 #[.pointer (some ⟨tb, 0, none⟩), .int .i64 key] w fun e w' => e = .returned (.tuple #[]) ∧ ∃ T', Hid (TDrop w w' tb sb s key T T') := by
  have HS := Lib.hid (spot_c tb sb s key T w (fun _ => hs) hb hc ht hS)
  have HT := Lib.hid hnd
  clear hs hb hc ht hS hnd
  go_enter Tryz.func217, Tryz.ntmps217
  go_wp2_with fail
  ((with_reducible refine HS.out.mono ?_); rintro e w1 ⟨c, t, rfl, h, n, rfl⟩)
  obtain ⟨b, o, eh⟩ := hole_form tb c
  have h1 := cx_hole h.out.1.cx
  rw [eh] at h1 ⊢
  cases t with
  | nil =>
    have c1 : (w.drewN n).cell? ⟨b, o, none⟩ = some (.pointer none) := h1.1
    clear h1 HS
    go_wp2_with fail
    go_end0
    exact ⟨rfl, T, Lib.hid (drop_none n h.out.1 HT.out)⟩
  | node x k u qq l r =>
    have c1 : (w.drewN n).cell? ⟨b, o, none⟩ = some (.pointer (some ⟨x, 0, none⟩)) := h1.1
    clear h1 HS
    have hX : Fr (fun _ => False) w (w.drewN n).drew := ((Fr.refl _ w).drewN n).drew
    have HX := Lib.hid hX
    have HM : Hid (∀ w1 J, JoinIs (w.drewN n).drew w1 l r J → CxIn w1 tb sb c (.pointer (some ⟨x, 0, none⟩)) ∧ Cl 278 w1 x #[.int .i64 k, u, l.ptr, r.ptr] ∧ Fr (fun b => b ∈ l.blks) w w1 ∧ (l.blks ++ r.blks).Nodup ∧ x ∉ c.blks ∧ x ≠ tb ∧ (∀ b, (b = tb ∨ b ∈ c.blks) → b ∉ l.blks ∧ b ∉ r.blks)) := Lib.hid (fun w1 J hj => drop_mid h.out.1 HT.out hX hj)
    have HD : Hid (∀ w1 J, JoinIs (w.drewN n).drew w1 l r J → TDrop w (w1.setCell ⟨b, o, none⟩ J.ptr) tb sb s key T (c.plug J)) := Lib.hid (fun w1 J hj => by rw [← eh]; exact drop_done h.out.1 h.out.2 HT.out hX hj)
    have HJ : Hid (Calls Tryz.prog 225 #[l.ptr, r.ptr] (w.drewN n).drew fun e w' => ∃ T, e = .returned T.ptr ∧ Hid (JoinIs (w.drewN n).drew w' l r T)) := Lib.hid (tJoin_c l r _ (TrIn.fr hX h.out.1.tr.2.2.1 (fun _ _ h => h) (fun _ _ _ _ h => h)) (TrIn.fr hX h.out.1.tr.2.2.2 (fun _ _ h => h) (fun _ _ _ _ h => h)) (by
      have hperm := plug_blks c (.node x k u qq l r)
      rw [h.out.1.eq] at hperm
      have hd1 : (l.blks ++ x :: r.blks).Nodup := (List.nodup_append.1 (hperm.nodup_iff.1 HT.out)).1
      have hd3 := List.nodup_append.1 hd1
      rw [List.nodup_append]
      exact ⟨hd3.1, (List.nodup_cons.1 hd3.2.1).2, fun a ha b hb => hd3.2.2 a ha b (by simp [hb])⟩))
    have HC : Cl 278 (w.drewN n).drew x #[.int .i64 k, u, l.ptr, r.ptr] := hX.blk h.out.1.tr.1 (fun h => h)
    obtain ⟨pl, hpl⟩ : ∃ p, l.ptr = .pointer p := by cases l <;> exact ⟨_, rfl⟩
    obtain ⟨pr, hpr⟩ : ∃ p, r.ptr = .pointer p := by cases r <;> exact ⟨_, rfl⟩
    rw [hpl, hpr] at HC HM HJ
    have HB : Hid (b = tb ∨ b ∈ c.blks) := Lib.hid (by have := hole_blk tb c; rw [eh] at this; exact this)
    go_wp2_with fail
    refine wp_region_held_drew (S := fun W => Cl 278 W x #[.int .i64 k, u, .pointer pl, .pointer pr]) (by kernel_rfl) (by exact HC) (fun hHeld => ?_)
    refine wpAnyH_take (i := 0) (oi := ⟨some 14, _, _, _, _, _⟩) (v := ?_) rfl (by kernel_rfl) (by kernel_rfl) (by kernel_rfl) (fun _ _ _ h => h) (Or.inl ⟨by kernel_rfl, ?_⟩) (by assumption) ?_
    rotate_left
    · (intro w hSw; (try dsimp only at hSw); go_simp; try with_reducible rfl)
    (repeat (first | simp only [Act.put] | simp only [List.setIfInBounds_toArray] | simp only [List.set_cons_succ] | simp only [List.set_cons_zero]))
    refine wpAnyH_take (i := 1) (oi := ⟨some 15, _, _, _, _, _⟩) (v := ?_) rfl (by kernel_rfl) (by kernel_rfl) (by kernel_rfl) (fun _ _ _ h => h) (Or.inl ⟨by kernel_rfl, ?_⟩) (by assumption) ?_
    rotate_left
    · (intro w hSw; (try dsimp only at hSw); go_simp; try with_reducible rfl)
    (repeat (first | simp only [Act.put] | simp only [List.setIfInBounds_toArray] | simp only [List.set_cons_succ] | simp only [List.set_cons_zero]))
    refine wpAnyH_take (i := 2) (oi := ⟨some 16, _, _, _, _, _⟩) (v := ?_) rfl (by kernel_rfl) (by kernel_rfl) (by kernel_rfl) (fun _ _ _ h => h) (Or.inl ⟨by kernel_rfl, ?_⟩) (by assumption) ?_
    rotate_left
    · (intro w hSw; (try dsimp only at hSw); go_simp; try with_reducible rfl)
    (repeat (first | simp only [Act.put] | simp only [List.setIfInBounds_toArray] | simp only [List.set_cons_succ] | simp only [List.set_cons_zero]))
    refine wpAnyH_take (i := 3) (oi := ⟨some 17, _, _, _, _, _⟩) (v := ?_) rfl (by kernel_rfl) (by kernel_rfl) (by kernel_rfl) (fun _ _ _ h => h) (Or.inl ⟨by kernel_rfl, ?_⟩) (by assumption) ?_
    rotate_left
    · (intro w hSw; (try dsimp only at hSw); go_simp; try with_reducible rfl)
    (repeat (first | simp only [Act.put] | simp only [List.setIfInBounds_toArray] | simp only [List.set_cons_succ] | simp only [List.set_cons_zero]))
    refine wpAnyH_take (i := 4) (oi := ⟨some 18, _, _, _, _, _⟩) (v := ?_) rfl (by kernel_rfl) (by kernel_rfl) (by kernel_rfl) (fun _ _ _ h => h) (Or.inl ⟨by kernel_rfl, ?_⟩) (by assumption) ?_
    rotate_left
    · (intro w hSw; have m1 : w.cell? ⟨x, 2, none⟩ = some (.pointer pl) := (Cl.c hSw 2).trans rfl; (try dsimp only at hSw); go_simp; try with_reducible rfl)
    (repeat (first | simp only [Act.put] | simp only [List.setIfInBounds_toArray] | simp only [List.set_cons_succ] | simp only [List.set_cons_zero]))
    refine wpAnyH_take (i := 5) (oi := ⟨some 19, _, _, _, _, _⟩) (v := ?_) rfl (by kernel_rfl) (by kernel_rfl) (by kernel_rfl) (fun _ _ _ h => h) (Or.inl ⟨by kernel_rfl, ?_⟩) (by assumption) ?_
    rotate_left
    · (intro w hSw; (try dsimp only at hSw); go_simp; try with_reducible rfl)
    (repeat (first | simp only [Act.put] | simp only [List.setIfInBounds_toArray] | simp only [List.set_cons_succ] | simp only [List.set_cons_zero]))
    refine wpAnyH_take (i := 6) (oi := ⟨some 20, _, _, _, _, _⟩) (v := ?_) rfl (by kernel_rfl) (by kernel_rfl) (by kernel_rfl) (fun _ _ _ h => h) (Or.inl ⟨by kernel_rfl, ?_⟩) (by assumption) ?_
    rotate_left
    · (intro w hSw; (try dsimp only at hSw); go_simp; try with_reducible rfl)
    (repeat (first | simp only [Act.put] | simp only [List.setIfInBounds_toArray] | simp only [List.set_cons_succ] | simp only [List.set_cons_zero]))
    refine wpAnyH_take (i := 7) (oi := ⟨some 21, _, _, _, _, _⟩) (v := ?_) rfl (by kernel_rfl) (by kernel_rfl) (by kernel_rfl) (fun _ _ _ h => h) (Or.inl ⟨by kernel_rfl, ?_⟩) (by assumption) ?_
    rotate_left
    · (intro w hSw; (try dsimp only at hSw); go_simp; try with_reducible rfl)
    (repeat (first | simp only [Act.put] | simp only [List.setIfInBounds_toArray] | simp only [List.set_cons_succ] | simp only [List.set_cons_zero]))
    refine wpAnyH_take (i := 8) (oi := ⟨some 22, _, _, _, _, _⟩) (v := ?_) rfl (by kernel_rfl) (by kernel_rfl) (by kernel_rfl) (fun _ _ _ h => h) (Or.inl ⟨by kernel_rfl, ?_⟩) (by assumption) ?_
    rotate_left
    · (intro w hSw; have m1 : w.cell? ⟨x, 3, none⟩ = some (.pointer pr) := (Cl.c hSw 3).trans rfl; (try dsimp only at hSw); go_simp; try with_reducible rfl)
    (repeat (first | simp only [Act.put] | simp only [List.setIfInBounds_toArray] | simp only [List.set_cons_succ] | simp only [List.set_cons_zero]))
    refine wpAnyH_ready (rs := [9]) (by kernel_rfl) (by simp) ?_
    refine AllReadyH.cons (o := ⟨some 23, _, _, _, _, _⟩) rfl (fun K hK => ?_) AllReadyH.nil
    go_simp
    refine HJ.out.mono ?_
    rintro e w1 ⟨J, rfl, hj⟩
    have HDo := Lib.hid (HD.out w1 J hj.out)
    obtain ⟨g1, g2, -, -, g3, g4, -⟩ := HM.out w1 J hj.out
    have e1 := cx_hole g1
    rw [eh] at e1
    obtain ⟨e1, e2⟩ := e1
    obtain ⟨pj, hpj⟩ : ∃ p, J.ptr = .pointer p := by cases J <;> exact ⟨_, rfl⟩
    rw [hpj] at HDo ⊢
    refine hK.out _ _ (by exact g2) (fun hHeld => ?_)
    clear hK K
    (repeat (first | simp only [Act.put] | simp only [List.setIfInBounds_toArray] | simp only [List.set_cons_succ] | simp only [List.set_cons_zero]))
    refine wpAnyH_take (i := 10) (oi := ⟨some 24, _, _, _, _, _⟩) (v := ?_) rfl (by kernel_rfl) (by kernel_rfl) (by kernel_rfl) (fun _ _ _ h => h) (Or.inl ⟨by kernel_rfl, ?_⟩) (by assumption) ?_
    rotate_left
    · (intro w hSw; (try dsimp only at hSw); go_simp; try with_reducible rfl)
    (repeat (first | simp only [Act.put] | simp only [List.setIfInBounds_toArray] | simp only [List.set_cons_succ] | simp only [List.set_cons_zero]))
    refine wpAnyH_ready (rs := [11]) (by kernel_rfl) (by simp) ?_
    refine AllReadyH.cons (o := ⟨none, _, _, _, _, _⟩) rfl (fun K hK => ?_) AllReadyH.nil
    go_simp
    (try go_wp2_with fail)
    refine hK.out _ _ (by exact (heap_far (a := ⟨b, o, none⟩) (fun e => by rcases HB.out with h | h <;> first | exact g4 (e.symm.trans h) | exact g4 (e.trans h) | exact g3 (e ▸ h))).trans g2) (fun hHeld => ?_)
    clear hK K
    (repeat (first | simp only [Act.put] | simp only [List.setIfInBounds_toArray] | simp only [List.set_cons_succ] | simp only [List.set_cons_zero]))
    refine wpAnyH_done (by kernel_rfl) ?_ _
    go_wp2_with fail
    go_end0
    exact ⟨rfl, _, HDo⟩
end Go.Proofs.YtgbmgdffgmablaaGreat

namespace Go.Proofs.YtgbmgdffgmablaaGreat
open Go.RowKit Go.Shelf Go.Sort Go.Maps Go.Lib
set_option linter.unusedVariables false

/-- A side's tree: its block, its side's box, its nodes. -/
structure Sg where
  tb : Nat
  sb : Nat
  t : Tr
/-- A side as it lies. -/
structure SgIn (w : World) (s : Int) (g : Sg) : Prop where
  box : Cl 3 w g.sb #[.int .i64 s]
  cx : CxIn w g.tb g.sb .top g.t.ptr
  tr : TrIn w g.t
  srt : Srt s g.t.rows
  nd : g.t.blks.Nodup
theorem SgIn.fr {S : Nat → Prop} {w w' : World} {s : Int} {g : Sg} (h : SgIn w s g) (hf : Fr S w w') (h1 : ¬ S g.sb) (h2 : ¬ S g.tb) (h3 : ∀ b ∈ g.t.blks, ¬ S b) (h4 : ∀ v ∈ g.t.vals, ∀ k, v.ownBlock = some k → ¬ S k) : SgIn w' s g :=
  ⟨hf.blk h.box h1, hf.blk h.cx h2, TrIn.fr hf h.tr h3 h4, h.srt, h.nd⟩
theorem SgIn.below {w w' : World} {s : Int} {g : Sg} (h : SgIn w s g) (hf : Below w.heap.size w w') : SgIn w' s g :=
  h.fr (S := fun _ => False) (Fr.of_below hf) (fun h => h) (fun h => h) (fun _ _ h => h) (fun _ _ _ _ h => h)
set_option maxHeartbeats 4000000 in
set_option maxRecDepth 100000 in
theorem planted_c (s : Int) (w : World) : Calls Tryz.prog 72 #[.int .i64 s] w fun e w' => e = .returned (.pointer (some ⟨w.heap.size + 1, 0, none⟩)) ∧ Hid (SgIn w' s ⟨w.heap.size + 1, w.heap.size, .nil⟩ ∧ Below w.heap.size w w' ∧ w'.heap.size = w.heap.size + 2) := by
  go_enter Tryz.func72, Tryz.ntmps72
  go_wp2_with fail
  go_ret
  refine ⟨rfl, Lib.hid ⟨⟨?_, ?_, trivial, List.Pairwise.nil, List.nodup_nil⟩, ((Below.refl _ _).alloc (Nat.le_refl _) _).alloc (by simp) _, by simp⟩⟩
  · exact hd_prev (by simp) (hd_last rfl)
  · exact hd_last (by simp)
/-- The sides' map. -/
def sidD (g1 g2 : Sg) : DataW Value := .map [(.int .i64 1, .held (.pointer (some ⟨g1.tb, 0, none⟩))), (.int .i64 2, .held (.pointer (some ⟨g2.tb, 0, none⟩)))]
def sideP (g1 g2 : Sg) (side : Int) : Value := if side = 1 then .pointer (some ⟨g1.tb, 0, none⟩) else if side = 2 then .pointer (some ⟨g2.tb, 0, none⟩) else .pointer none
theorem zeroP (w : World) : (zeroValue 134).run Tryz.prog w = .ok (.pointer none) w := by kernel_rfl
theorem sidD_at (g1 g2 : Sg) (side : Int) : (sidD g1 g2).atKey (.int .i64 side) (.held (.pointer none)) = .held (sideP g1 g2 side) := by
  unfold sideP
  by_cases e1 : side = 1
  · subst e1
    simp [sidD, DataW.atKey, Lit.sameKey]
  · by_cases e2 : side = 2
    · subst e2
      simp [sidD, DataW.atKey, Lit.sameKey]
    · have e1' : ¬ (1 : Int) = side := fun h => e1 h.symm
      have e2' : ¬ (2 : Int) = side := fun h => e2 h.symm
      simp [sidD, DataW.atKey, Lit.sameKey, e1, e2, e1', e2']
theorem look_tree {w : World} {m : Nat} {g1 g2 : Sg} (h : w.ownsMap Tryz.prog 3 RV m 2 (sidD g1 g2)) (side : Int) (hs : (Lit.int .i64 side).wf = true) :
    (Instr.lookup 136 (.map (some m)) (.int .i64 side) false).run Tryz.prog w = .ok (sideP g1 g2 side) w := by
  have hat := sidD_at g1 g2 side
  obtain ⟨es, clock, hb, F, _, hD⟩ := h
  rw [hD] at hat
  rcases Maps.fit_look false keyI Tryz.underlying136 (zeroP w) hb F (keyOf_int_mk Tryz.underlying3 hs) with ⟨hrun, _, hz⟩ | ⟨e0, y, _, _, hrun, hR, hz, _⟩
  · rw [hz] at hat
    replace hat := DataW.held.inj hat
    simp only [Bool.false_eq_true, if_false] at hrun
    exact hrun.trans (congrArg (fun v => Result.ok v w) hat)
  · rw [hz] at hat
    unfold RV at hR
    replace hR := Option.some.inj hR
    rw [← hR] at hat
    replace hat := DataW.held.inj hat
    simp only [Bool.false_eq_true, if_false] at hrun
    exact hrun.trans (congrArg (fun v => Result.ok v w) hat)
/-- A book: no book (nil), one that no call made, or one that has its maps (mm). -/
structure Gk (w : World) (b : Option Addr) (mm : Option (Nat × Nat)) (L : DataW Value) (g1 g2 : Sg) : Prop where
  shape : (b = none ∧ mm = none) ∨ ∃ p, b = some ⟨p, 0, none⟩ ∧ Cl 138 w p #[.map (mm.map Prod.fst), .map (mm.map Prod.snd)]
  om : ∀ m ms, mm = some (m, ms) → w.ownsMap Tryz.prog 35 RV m 64 L
  sm : ∀ m ms, mm = some (m, ms) → w.ownsMap Tryz.prog 3 RV ms 2 (sidD g1 g2)
  s1 : mm.isSome = true → SgIn w 1 g1
  s2 : mm.isSome = true → SgIn w 2 g2
theorem neq_omap (m : Option Nat) (w : World) : (binOp .neq 133 (.map m) (.map none)).run Tryz.prog w = .ok (.bool m.isSome) w := by
  cases m <;> kernel_rfl
set_option maxHeartbeats 4000000 in
set_option maxRecDepth 100000 in
theorem gMade_c (b : Option Addr) (mm : Option (Nat × Nat)) (L : DataW Value) (g1 g2 : Sg) (w : World) (H : Gk w b mm L g1 g2) :
    Calls Tryz.prog 208 #[.pointer b] w fun e w' => e = .returned (.bool mm.isSome) ∧ w = w' := by
  rcases H.shape with ⟨rfl, rfl⟩ | ⟨p, rfl, hp⟩
  · clear H
    go_enter Tryz.func208, Tryz.ntmps208
    go_wp2_with fail
    go_ret
    exact ⟨rfl, rfl⟩
  · have c0 : w.cell? ⟨p, 0, none⟩ = some (.map (mm.map Prod.fst)) := (hp.c 0).trans rfl
    have hn := neq_omap (mm.map Prod.fst) w
    have he : (mm.map Prod.fst).isSome = mm.isSome := by cases mm <;> rfl
    rw [he] at hn
    generalize mm.map Prod.fst = m at *
    generalize mm.isSome = bb at *
    clear H hp
    go_enter Tryz.func208, Tryz.ntmps208
    go_wp2_with fail
    go_ret
    exact ⟨rfl, rfl⟩
/-- A side as side tells it: the book's own, or a new one without a price. -/
inductive SideIs (w w' : World) (mm : Option (Nat × Nat)) (g1 g2 : Sg) (side : Int) : Sg → Prop where
  | own1 : mm.isSome = true → side = 1 → w = w' → SideIs w w' mm g1 g2 side g1
  | own2 : mm.isSome = true → side = 2 → w = w' → SideIs w w' mm g1 g2 side g2
  | new : (mm.isSome = false ∨ (side ≠ 1 ∧ side ≠ 2)) → Below w.heap.size w w' → SgIn w' side ⟨w.heap.size + 1, w.heap.size, .nil⟩ → SideIs w w' mm g1 g2 side ⟨w.heap.size + 1, w.heap.size, .nil⟩
theorem sideP_none (g1 g2 : Sg) (side : Int) (h : side ≠ 1 ∧ side ≠ 2) : sideP g1 g2 side = .pointer none := by
  unfold sideP
  rw [if_neg h.1, if_neg h.2]
set_option maxHeartbeats 4000000 in
set_option maxRecDepth 100000 in
theorem gSide_c (b : Option Addr) (mm : Option (Nat × Nat)) (L : DataW Value) (g1 g2 : Sg) (side : Int) (w : World) (hs : (Lit.int .i64 side).wf = true) (H : Gk w b mm L g1 g2) :
    Calls Tryz.prog 210 #[.pointer b, .int .i64 side] w fun e w' => ∃ g, e = .returned (.pointer (some ⟨g.tb, 0, none⟩)) ∧ Hid (SideIs w w' mm g1 g2 side g) := by
  have HM := Lib.hid (gMade_c b mm L g1 g2 w H)
  have HP := Lib.hid (planted_c side w)
  cases mm with
  | none =>
    have HR : Hid (∀ w', (SgIn w' side ⟨w.heap.size + 1, w.heap.size, .nil⟩ ∧ Below w.heap.size w w' ∧ w'.heap.size = w.heap.size + 2) → SideIs w w' none g1 g2 side ⟨w.heap.size + 1, w.heap.size, .nil⟩) := Lib.hid (fun w' h => .new (.inl rfl) h.2.1 h.1)
    clear H
    go_enter Tryz.func210, Tryz.ntmps210
    go_wp2_with (first | ((with_reducible refine (HM.out).mono ?_); rintro e w' ⟨rfl, rfl⟩) | ((with_reducible refine (HP.out).mono ?_); rintro e w' ⟨rfl, k⟩))
    go_ret
    exact ⟨_, rfl, Lib.hid (HR.out _ k.out)⟩
  | some mm =>
    obtain ⟨m, ms⟩ := mm
    have hl := look_tree (H.sm m ms rfl) side hs
    rcases H.shape with ⟨_, h0⟩ | ⟨p, rfl, hp⟩
    · cases h0
    have c1 : w.cell? ⟨p, 1, none⟩ = some (.map (some ms)) := (hp.c 1).trans rfl
    clear H hp
    by_cases e1 : side = 1
    · have HR : Hid (SideIs w w (some (m, ms)) g1 g2 side g1) := Lib.hid (.own1 rfl e1 rfl)
      have he : sideP g1 g2 side = .pointer (some ⟨g1.tb, 0, none⟩) := by unfold sideP; rw [if_pos e1]
      rw [he] at hl
      clear HP he e1
      go_enter Tryz.func210, Tryz.ntmps210
      go_wp2_with (((with_reducible refine (HM.out).mono ?_); rintro e w' ⟨rfl, rfl⟩))
      go_ret
      exact ⟨_, rfl, HR⟩
    · by_cases e2 : side = 2
      · have HR : Hid (SideIs w w (some (m, ms)) g1 g2 side g2) := Lib.hid (.own2 rfl e2 rfl)
        have he : sideP g1 g2 side = .pointer (some ⟨g2.tb, 0, none⟩) := by unfold sideP; rw [if_neg e1, if_pos e2]
        rw [he] at hl
        clear HP he e1 e2
        go_enter Tryz.func210, Tryz.ntmps210
        go_wp2_with (((with_reducible refine (HM.out).mono ?_); rintro e w' ⟨rfl, rfl⟩))
        go_ret
        exact ⟨_, rfl, HR⟩
      · have HR : Hid (∀ w', (SgIn w' side ⟨w.heap.size + 1, w.heap.size, .nil⟩ ∧ Below w.heap.size w w' ∧ w'.heap.size = w.heap.size + 2) → SideIs w w' (some (m, ms)) g1 g2 side ⟨w.heap.size + 1, w.heap.size, .nil⟩) := Lib.hid (fun w' h => .new (.inr ⟨e1, e2⟩) h.2.1 h.1)
        rw [sideP_none g1 g2 side ⟨e1, e2⟩] at hl
        go_enter Tryz.func210, Tryz.ntmps210
        go_wp2_with (first | ((with_reducible refine (HM.out).mono ?_); rintro e w' ⟨rfl, rfl⟩) | ((with_reducible refine (HP.out).mono ?_); rintro e w' ⟨rfl, k⟩))
        go_ret
        exact ⟨_, rfl, Lib.hid (HR.out _ k.out)⟩
end Go.Proofs.YtgbmgdffgmablaaGreat

namespace Go.Proofs.YtgbmgdffgmablaaGreat
open Go.RowKit Go.Shelf Go.Sort Go.Maps Go.Lib
set_option linter.unusedVariables false

/-- No book, or one that no call made. -/
abbrev Gn (w : World) (b : Option Addr) : Prop := Gk w b none (.map []) ⟨0, 0, .nil⟩ ⟨0, 0, .nil⟩
theorem Gn.below {w w' : World} {b : Option Addr} (h : Gn w b) (hf : Below w.heap.size w w') : Gn w' b := by
  refine ⟨?_, fun _ _ h => (by cases h), fun _ _ h => (by cases h), fun h => (by cases h), fun h => (by cases h)⟩
  rcases h.shape with ⟨h1, _⟩ | ⟨p, h1, h2⟩
  · exact .inl ⟨h1, rfl⟩
  · exact .inr ⟨p, h1, (hf.block _ (blk_lt h2)).trans h2⟩
end Go.Proofs.YtgbmgdffgmablaaGreat

namespace Go.Proofs.YtgbmgdffgmablaaGreat
open Go.RowKit Go.Sort Go.Lib Go.Shelf


theorem info_U : (Tryz.prog.info? 35).map (fun i => (i.zero, i.size, i.bytes)) = some (some (.int .u64 0), 1, 8) := by kernel_rfl
theorem size_U : (Tryz.prog.info? 35).map (·.size) = some 1 := by kernel_rfl
theorem sizeOf_U (w : World) : (sizeOf 35).run Tryz.prog w = .ok 1 w := by kernel_rfl
theorem ov_U (w : World) (g vb a b c d n m : Nat) (hne : vb ≠ g) (cs ys : Array Value) (hg : w.heap[g]? = some (.cells cs 35 (0, 0))) (hv : w.heap[vb]? = some (.cells ys 35 (0, 0))) (h0 : 0 < cs.size) :
    (callFunc 226 #[.slice (some ⟨vb, a, none⟩) n c, .slice (some ⟨g, b, none⟩) m d]).run Tryz.prog w = .ok (.value (.bool false)) w := by
  rw [run_callFunc_extern Tryz.func226 (by kernel_rfl) (by kernel_rfl) (by kernel_rfl) (e := Extern.SlicesOverlaps.overlaps #[124, 124] #[4]) (by kernel_rfl),
    Lib.run_overlaps_apart w 124 4 35 Tryz.underlying124 1 sizeOf_U ⟨vb, a, none⟩ ⟨g, b, none⟩ n c m d hne 35 35 ys.size cs.size (by unfold World.shape?; rw [hv]) (by unfold World.shape?; rw [hg]) (by omega) (frozen_of_row _ _ _ _ _ hv) (frozen_of_row _ _ _ _ _ hv)]
  rfl
set_option maxHeartbeats 4000000 in
set_option maxRecDepth 100000 in
theorem insS_U (w : World) (g n c i vb : Nat) (cur ys : List Value) (hg : w.heap[g]? = some (.cells cur.toArray 35 (0, 0))) (hl : cur.length = c * 1) (hc : n + 1 ≤ c) (hi : i < n) (hcm : c ≤ maxLen) (hvb : vb ≠ g) (hv : w.heap[vb]? = some (.cells ys.toArray 35 (0, 0))) (hy : ys.length = 1) (h1 : ∀ v ∈ cur.take (n * 1), v.oneCell' = true) (h2 : ∀ v ∈ ys, v.oneCell' = true) :
    Calls Tryz.prog 220 #[.slice (some ⟨g, 0, none⟩) n c, .int .i64 i, .slice (some ⟨vb, 0, none⟩) 1 1] w fun e w' => e = .returned (.slice (some ⟨g, 0, none⟩) (n + 1) c) ∧ Hid (InsIn w g 35 (insC cur ys n i 1) w') := by
  have mixed : Tryz.prog.follows .mixedOrders = true := by kernel_rfl
  have hcm' : c ≤ 9223372036854775807 := by unfold maxLen at hcm; omega
  have hov := fun W (h : W.heap[g]? = some (.cells cur.toArray 35 (0, 0))) (h' : W.heap[vb]? = some (.cells ys.toArray 35 (0, 0))) b n c m d => ov_U W g vb 0 b c d n m hvb cur.toArray ys.toArray h h' (by simp; omega)
  have hov := hov w hg hv
  have q1 : ¬ ((i : Int) = (n : Int)) := by omega
  have q2 : ¬ ((c : Int) < (n : Int) + 1) := by omega
  have q3 : (0 : Int) ≤ (i : Int) + 1 := by omega
  have q4 : ¬ (c = i + 1) := by omega
  have q5 : ¬ (c = i) := by omega
  have q6 : (i : Int) ≤ (n : Int) := by omega
  have q7 : (n : Int) + 1 ≤ (c : Int) := by omega
  have q8 : IntKind.i64.wrap ((i : Int) + 1) = (i : Int) + 1 := by rw [IntKind.wrap_i64]; omega
  have q9 : IntKind.i64.wrap ((n : Int) + 1) = (n : Int) + 1 := by rw [IntKind.wrap_i64]; omega
  have q10 : ((i : Int) + 1).toNat = i + 1 := by omega
  have q11 : ((n : Int) + 1).toNat = n + 1 := by omega
  have q12 : (i : Int) ≤ (n : Int) + 1 := by omega
  have q13 : (i : Int) + 1 ≤ (n : Int) + 1 := by omega
  have q14 : (c : Int) ≤ 9223372036854775807 := by omega
  have hik : (i + 1) * 1 = i * 1 + 1 := by omega
  have hni : (n - i) * 1 = n * 1 - i * 1 := by omega
  have hnk : (n + 1) * 1 ≤ c * 1 := by omega
  obtain ⟨X, eX⟩ : ∃ X, X = (cur.drop (i * 1)).take ((n - i) * 1) := ⟨_, rfl⟩
  have lX : X.length = (n - i) * 1 := by rw [eX, List.length_take, List.length_drop]; omega
  obtain ⟨A1, e1⟩ : ∃ A1, A1 = (cur.take ((i + 1) * 1) ++ X ++ cur.drop ((i + 1) * 1 + X.length)) := ⟨_, rfl⟩
  have l1 : A1.length = c * 1 := by rw [e1]; simp only [List.length_append, List.length_take, List.length_drop, lX]; omega
  have e2 : A1.take (i * 1) ++ ys ++ A1.drop (i * 1 + ys.length) = insC cur ys n i 1 := by rw [e1, eX]; exact insC_steps (by omega) hc hl hy
  have C1 : Hid (∀ ty dl dc sl sc, Nat.min sl dl = n - i → (Builtin.copy_ #[124, 124] ty #[.slice (some ⟨g, i + 1, none⟩) dl dc, .slice (some ⟨g, i, none⟩) sl sc]).run Tryz.prog w.drew = .ok (goInt ((n - i : Nat) : Int)) (w.drew.setRow g A1.toArray)) := Lib.hid (fun ty dl dc sl sc hm => by
    have := run_copyK w.drew 124 124 ty 35 1 g ((i + 1) * 1) dl dc ⟨g, i * 1, none⟩ sl sc cur.toArray 35 X Tryz.underlying124 size_U (hd_drew hg) (n - i) hm lX (fun j v hj => by
      rw [addr_add, cell_of_row _ _ _ _ _ _ (hd_drew hg)]
      rw [eX, List.getElem?_take] at hj
      split at hj
      · rw [List.getElem?_drop] at hj
        rw [List.getElem?_toArray]; exact hj
      · cases hj) (by rw [lX]; simp only [List.size_toArray]; omega) (fun v hv => h1 v (by rw [eX, hni, ← List.drop_take] at hv; exact List.mem_of_mem_drop hv))
    rw [e1]
    simp only [Nat.mul_one] at this ⊢
    exact this)
  have G1 : (w.drew.setRow g A1.toArray).heap[g]? = some (.cells A1.toArray 35 (0, 0)) := setRow_heap _ _ _ _ _ _ (hd_drew hg)
  have C2 : Hid (∀ ty dl dc sc, Nat.min 1 dl = 1 → (Builtin.copy_ #[124, 124] ty #[.slice (some ⟨g, i, none⟩) dl dc, .slice (some ⟨vb, 0, none⟩) 1 sc]).run Tryz.prog (w.drew.setRow g A1.toArray) = .ok (goInt 1) ((w.drew.setRow g A1.toArray).setRow g (insC cur ys n i 1).toArray)) := Lib.hid (fun ty dl dc sc hm => by
    have := run_copyK (w.drew.setRow g A1.toArray) 124 124 ty 35 1 g (i * 1) dl dc ⟨vb, 0, none⟩ 1 sc A1.toArray 35 ys Tryz.underlying124 size_U G1 1 hm (by omega) (fun j v hj => by
      rw [addr_add, Nat.zero_add, cell_of_row _ _ _ _ _ _ ((setRow_other _ _ _ _ hvb).trans (hd_drew hv)), List.getElem?_toArray]; exact hj) (by simp only [List.size_toArray]; omega) h2
    rw [← e2]
    simp only [Nat.mul_one] at this ⊢
    exact this)
  have F : Hid (InsIn w g 35 (insC cur ys n i 1) ((w.drew.setRow g A1.toArray).setRow g (insC cur ys n i 1).toArray)) := insIn_trans (insIn_trans (insIn_drew hg) (insIn_set (hd_drew hg))) (insIn_set G1)
  clear eX lX e1 l1 e2 G1 hik hni hnk
  have HX := Lib.hid (And.intro hl (And.intro hc (And.intro hi (And.intro hy (And.intro h1 h2)))))
  clear hg hv hl hc hy h1 h2 hcm
  go_enter Tryz.func220, Tryz.ntmps220
  go_wp2_with (simp only [hov])
  refine wp_region_held_drew (S := fun _ => True) (by kernel_rfl) trivial (fun hHeld => ?_)
  clear hHeld
  refine wpAnyH_take (i := 0) (oi := ⟨some 69, _, _, _, _, _⟩) (v := ?_) rfl (by kernel_rfl) (by kernel_rfl) (by kernel_rfl) (fun _ _ _ h => h) (Or.inl ⟨by kernel_rfl, ?_⟩) trivial ?_
  rotate_left
  · (intro w hSw; go_simp; try with_reducible rfl)
  (repeat (first | simp only [Act.put] | simp only [List.setIfInBounds_toArray] | simp only [List.set_cons_succ] | simp only [List.set_cons_zero]))
  refine wpAnyH_take (i := 1) (oi := ⟨some 70, _, _, _, _, _⟩) (v := ?_) rfl (by kernel_rfl) (by kernel_rfl) (by kernel_rfl) (fun _ _ _ h => h) (Or.inl ⟨by kernel_rfl, ?_⟩) trivial ?_
  rotate_left
  · (intro w hSw; go_simp; try with_reducible rfl)
  (repeat (first | simp only [Act.put] | simp only [List.setIfInBounds_toArray] | simp only [List.set_cons_succ] | simp only [List.set_cons_zero]))
  refine wpAnyH_take (i := 2) (oi := ⟨some 71, _, _, _, _, _⟩) (v := ?_) rfl (by kernel_rfl) (by kernel_rfl) (by kernel_rfl) (fun _ _ _ h => h) (Or.inl ⟨by kernel_rfl, ?_⟩) trivial ?_
  rotate_left
  · (intro w hSw; go_simp; try with_reducible rfl)
  (repeat (first | simp only [Act.put] | simp only [List.setIfInBounds_toArray] | simp only [List.set_cons_succ] | simp only [List.set_cons_zero]))
  refine wpAnyH_take (i := 3) (oi := ⟨some 72, _, _, _, _, _⟩) (v := ?_) rfl (by kernel_rfl) (by kernel_rfl) (by kernel_rfl) (fun _ _ _ h => h) (Or.inl ⟨by kernel_rfl, ?_⟩) trivial ?_
  rotate_left
  · (intro w hSw; go_simp; try with_reducible rfl)
  (repeat (first | simp only [Act.put] | simp only [List.setIfInBounds_toArray] | simp only [List.set_cons_succ] | simp only [List.set_cons_zero]))
  refine wpAnyH_take (i := 4) (oi := ⟨some 73, _, _, _, _, _⟩) (v := ?_) rfl (by kernel_rfl) (by kernel_rfl) (by kernel_rfl) (fun _ _ _ h => h) (Or.inl ⟨by kernel_rfl, ?_⟩) trivial ?_
  rotate_left
  · (intro w hSw; go_simp; try with_reducible rfl)
  (repeat (first | simp only [Act.put] | simp only [List.setIfInBounds_toArray] | simp only [List.set_cons_succ] | simp only [List.set_cons_zero]))
  refine wpAnyH_take (i := 5) (oi := ⟨some 74, _, _, _, _, _⟩) (v := ?_) rfl (by kernel_rfl) (by kernel_rfl) (by kernel_rfl) (fun _ _ _ h => h) (Or.inl ⟨by kernel_rfl, ?_⟩) trivial ?_
  rotate_left
  · (intro w hSw; go_simp; try with_reducible rfl)
  (repeat (first | simp only [Act.put] | simp only [List.setIfInBounds_toArray] | simp only [List.set_cons_succ] | simp only [List.set_cons_zero]))
  refine wpAnyH_take (i := 6) (oi := ⟨some 75, _, _, _, _, _⟩) (v := ?_) rfl (by kernel_rfl) (by kernel_rfl) (by kernel_rfl) (fun _ _ _ h => h) (Or.inl ⟨by kernel_rfl, ?_⟩) trivial ?_
  rotate_left
  · (intro w hSw; go_simp; try with_reducible rfl)
  (repeat (first | simp only [Act.put] | simp only [List.setIfInBounds_toArray] | simp only [List.set_cons_succ] | simp only [List.set_cons_zero]))
  refine wpAnyH_take (i := 7) (oi := ⟨some 76, _, _, _, _, _⟩) (v := ?_) rfl (by kernel_rfl) (by kernel_rfl) (by kernel_rfl) (fun _ _ _ h => h) (Or.inl ⟨by kernel_rfl, ?_⟩) trivial ?_
  rotate_left
  · (intro w hSw; go_simp; try with_reducible rfl)
  (repeat (first | simp only [Act.put] | simp only [List.setIfInBounds_toArray] | simp only [List.set_cons_succ] | simp only [List.set_cons_zero]))
  refine wpAnyH_ready (rs := [8]) (by kernel_rfl) (by simp) ?_
  refine AllReadyH.cons (o := ⟨some 77, _, _, _, _, _⟩) rfl (fun K hK => ?_) AllReadyH.nil
  refine step_copy_runI rfl _ _ 124 124 rfl _ _ rfl rfl (C1.out _ _ _ _ _ (by simp only [Nat.min_def]; split <;> omega)) ?_
  refine hK.out _ _ trivial (fun hHeld => ?_)
  clear hK K hHeld
  (repeat (first | simp only [Act.put] | simp only [List.setIfInBounds_toArray] | simp only [List.set_cons_succ] | simp only [List.set_cons_zero]))
  refine wpAnyH_done (by kernel_rfl) ?_ _
  clear C1
  go_wp2_with fail
  rw [C2.out _ _ _ _ (by simp only [Nat.min_def]; split <;> omega)]
  go_wp2_with fail
  go_ret
  exact ⟨rfl, F.out⟩
set_option maxHeartbeats 4000000 in
set_option maxRecDepth 100000 in
theorem insG_U (w : World) (g n i vb : Nat) (xs ys : List Value) (hg : w.heap[g]? = some (.cells xs.toArray 35 (0, 0))) (hl : xs.length = n * 1) (hn : n ≤ 1000) (hi : i < n) (hv : w.heap[vb]? = some (.cells ys.toArray 35 (0, 0))) (hy : ys.length = 1) (h1 : ∀ v ∈ xs, v.oneCell' = true) (h2 : ∀ v ∈ ys, v.oneCell' = true) :
    Calls Tryz.prog 220 #[.slice (some ⟨g, 0, none⟩) n n, .int .i64 i, .slice (some ⟨vb, 0, none⟩) 1 1] w fun e w' => ∃ v', e = .returned v' ∧ Hid (w'.ownsRow w.heap.size 35 1 v' (n + 1) (xs.take (i * 1) ++ ys ++ xs.drop (i * 1)) ∧ Below w.heap.size w w' ∧ v'.ownBlock = some w.heap.size) := by
  have mixed : Tryz.prog.follows .mixedOrders = true := by kernel_rfl
  obtain ⟨i0, hi0, hz0, hz1, hz2⟩ := info_parts info_U
  have hgl := blk_lt hg
  have hvl := blk_lt hv
  have q0 : (n : Int) < (n : Int) + 1 := by omega
  have q1 : ¬ ((i : Int) = (n : Int)) := by omega
  have q3 : (0 : Int) ≤ (i : Int) + 1 := by omega
  have q5 : ¬ (n = i) := by omega
  have q6 : (i : Int) ≤ (n : Int) := by omega
  have q8 : IntKind.i64.wrap ((i : Int) + 1) = (i : Int) + 1 := by rw [IntKind.wrap_i64]; omega
  have q9 : IntKind.i64.wrap ((n : Int) + 1) = (n : Int) + 1 := by rw [IntKind.wrap_i64]; omega
  have q10 : ((i : Int) + 1).toNat = i + 1 := by omega
  have q12 : (i : Int) ≤ (n : Int) + 1 := by omega
  have q13 : (i : Int) + 1 ≤ (n : Int) + 1 := by omega
  have q14 : (n : Int) ≤ 9223372036854775807 := by omega
  have q15 : IntKind.i64.wrap ((n : Int) + 1 - (i : Int)) = ((n + 1 - i : Nat) : Int) := by rw [IntKind.wrap_i64]; omega
  have hik : (i + 1) * 1 = i * 1 + 1 := by omega
  have hxt : (xs.take (i * 1)).length = i * 1 := by rw [List.length_take]; omega
  have hold : (Builtin.firstCells i0.size i (.slice (some ⟨g, 0, none⟩) i n)).run Tryz.prog w.drew = .ok (xs.take (i * 1)).toArray w.drew := by
    rw [hz1]
    exact run_firstCells_some w.drew 1 i ⟨g, 0, none⟩ i n (xs.take (i * 1)) hxt (fun j v hj => by
      rw [addr_add, Nat.zero_add, cell_of_row _ _ _ _ _ _ (hd_drew hg), List.getElem?_toArray]
      rw [List.getElem?_take] at hj
      split at hj
      · exact hj
      · cases hj)
  have hin : i + (n + 1 - i) = n + 1 := by omega
  have hrz : ∀ ty, (Builtin.append_ #[124, 3] ty #[.slice (some ⟨g, 0, none⟩) i n, .int .i64 ((n + 1 - i : Nat) : Int)]).run Tryz.prog w = .ok (.slice (some ⟨w.heap.size, 0, none⟩) (n + 1) (grownCap w (n + 1) n 35)) (w.drew.alloc (.cells ((xs.take (i * 1)).toArray ++ Builtin.zeroCells ((.int .u64 0) : Value).cells (n + 1 - i) ++ Builtin.zeroCells ((.int .u64 0) : Value).cells (grownCap w (n + 1) n 35 - (n + 1))) 35)) := fun ty => by
    have h := Lib.run_append_grow_zeros w 124 3 ty 35 i0 _ .i64 .i64 Tryz.underlying124 Tryz.underlying3 hi0 hz0 (some ⟨g, 0, none⟩) i n (xs.take (i * 1)) hold (n + 1 - i) (by omega) (by omega) (by omega) (by omega) (by rw [hz2]; omega) (by rw [hz2, hin]; exact growslice_fits (by omega) (by omega))
    rw [hin] at h
    exact h
  obtain ⟨G, hG⟩ : ∃ G, G = grownCap w (n + 1) n 35 := ⟨_, rfl⟩
  have hGn : n + 1 ≤ G := by rw [hG]; exact grownCap_ge w _ _ _
  have hGm : G ≤ maxLen := by rw [hG]; exact grownCap_le_maxLen w (n + 1) n 35 (by unfold maxLen; omega)
  have hG63 : (G : Int) ≤ 9223372036854775807 := by unfold maxLen at hGm; omega
  rw [← hG] at hrz
  obtain ⟨R, hR⟩ : ∃ R : List Value, R.toArray = (xs.take (i * 1)).toArray ++ Builtin.zeroCells ((.int .u64 0) : Value).cells (n + 1 - i) ++ Builtin.zeroCells ((.int .u64 0) : Value).cells (G - (n + 1)) := ⟨_, Array.toArray_toList⟩
  rw [← hR] at hrz
  have lR : R.length = G * 1 := by
    have := congrArg Array.size hR
    simp only [List.size_toArray, Array.size_append, hxt] at this
    simp [Builtin.zeroCells, Value.cells] at this
    omega
  have tR : R.take (i * 1) = xs.take (i * 1) := by
    have := congrArg Array.toList hR
    rw [Array.toList_append, Array.toList_append] at this
    rw [show R = R.toArray.toList from rfl, this, List.append_assoc, List.take_append_of_le_length (by show _ ≤ (xs.take (i * 1)).length; omega)]
    exact List.take_of_length_le (by show (xs.take (i * 1)).length ≤ _; omega)
  obtain ⟨R1, e1⟩ : ∃ R1, R1 = R.take (i * 1) ++ ys ++ R.drop (i * 1 + ys.length) := ⟨_, rfl⟩
  obtain ⟨R2, e2⟩ : ∃ R2, R2 = R1.take ((i + 1) * 1) ++ xs.drop (i * 1) ++ R1.drop ((i + 1) * 1 + (xs.drop (i * 1)).length) := ⟨_, rfl⟩
  obtain ⟨l1, l2, t2⟩ := grow_steps tR lR hGn hl hy (by omega) e1 e2
  have HW : Hid (∀ W, W = (w.alloc (.cells R.toArray 35)).drew → W.heap[w.heap.size]? = some (.cells R.toArray 35 (0, 0)) ∧ W.heap[vb]? = some (.cells ys.toArray 35 (0, 0)) ∧ W.heap[g]? = some (.cells xs.toArray 35 (0, 0)) ∧ Below w.heap.size w W) := Lib.hid (fun W hW => by
    rw [hW]
    exact ⟨hd_drew (hd_last rfl), hd_drew (hd_prev hvl hv), hd_drew (hd_prev hgl hg), ((Below.refl _ _).alloc (Nat.le_refl _) _).drew⟩)
  have ldx : (xs.drop (i * 1)).length = (n - i) * 1 := by rw [List.length_drop, hl]; omega
  have C1 : Hid (∀ W, W.heap[w.heap.size]? = some (.cells R.toArray 35 (0, 0)) → W.heap[vb]? = some (.cells ys.toArray 35 (0, 0)) → ∀ ty dl dc sc, Nat.min 1 dl = 1 → (Builtin.copy_ #[124, 124] ty #[.slice (some ⟨w.heap.size, i, none⟩) dl dc, .slice (some ⟨vb, 0, none⟩) 1 sc]).run Tryz.prog W = .ok (goInt 1) (W.setRow w.heap.size R1.toArray)) := Lib.hid (fun W k1 k2 ty dl dc sc hm => by
    have := run_copyK W 124 124 ty 35 1 w.heap.size (i * 1) dl dc ⟨vb, 0, none⟩ 1 sc R.toArray 35 ys Tryz.underlying124 size_U k1 1 hm (by omega) (fun j v hj => by
      rw [addr_add, Nat.zero_add, cell_of_row _ _ _ _ _ _ k2, List.getElem?_toArray]; exact hj) (by simp only [List.size_toArray]; omega) h2
    rw [e1]
    simp only [Nat.mul_one] at this ⊢
    exact this)
  have C2 : Hid (∀ W, W.heap[w.heap.size]? = some (.cells R1.toArray 35 (0, 0)) → W.heap[g]? = some (.cells xs.toArray 35 (0, 0)) → ∀ ty dl dc sl sc, Nat.min sl dl = n - i → (Builtin.copy_ #[124, 124] ty #[.slice (some ⟨w.heap.size, i + 1, none⟩) dl dc, .slice (some ⟨g, i, none⟩) sl sc]).run Tryz.prog W = .ok (goInt ((n - i : Nat) : Int)) (W.setRow w.heap.size R2.toArray)) := Lib.hid (fun W k1 k2 ty dl dc sl sc hm => by
    have := run_copyK W 124 124 ty 35 1 w.heap.size ((i + 1) * 1) dl dc ⟨g, i * 1, none⟩ sl sc R1.toArray 35 (xs.drop (i * 1)) Tryz.underlying124 size_U k1 (n - i) hm ldx (fun j v hj => by
      rw [addr_add, cell_of_row _ _ _ _ _ _ k2, List.getElem?_toArray]
      rw [List.getElem?_drop] at hj
      exact hj) (by simp only [List.size_toArray]; omega) (fun v hv => h1 v (List.mem_of_mem_drop hv))
    rw [e2]
    simp only [Nat.mul_one] at this ⊢
    exact this)
  have HE := Lib.hid (And.intro l2 (And.intro t2 (And.intro hGn hGm)))
  have HX := Lib.hid (And.intro hgl hy)
  have HXL := Lib.hid (show (xs.take (i * 1) ++ ys ++ xs.drop (i * 1)).length = (n + 1) * 1 by simp only [List.length_append, hxt, hy, ldx]; omega)
  have q16 : ¬ (G = i) := by omega
  have q17 : ¬ (G = i + 1) := by omega
  clear e1 e2 l1 l2 t2 tR lR hR hG hold hin hg hv hl hy hz0 hz1 hz2 hi0 hGn hGm ldx hxt h1 h2 hik
  go_enter Tryz.func220, Tryz.ntmps220
  go_wp2_with (at_builtin; refine Lib.wpList_append_run _ rfl _ _ _ _ rfl _ _ rfl rfl _ _ (hrz _) ?_)
  clear hrz
  generalize hW1 : World.drew (w.alloc (.cells R.toArray 35)) = W1
  obtain ⟨k1, k2, k3, k4⟩ := HW.out W1 hW1.symm
  have K := Lib.hid (And.intro k1 (And.intro k2 (And.intro k3 k4)))
  clear hW1 HW k1 k2 k3 k4
  rw [C1.out W1 K.out.1 K.out.2.1 _ _ _ _ (by simp only [Nat.min_def]; split <;> omega)]
  go_wp2_with fail
  refine wp_region_held_drew (S := fun _ => True) (by kernel_rfl) trivial (fun hHeld => ?_)
  clear hHeld
  refine wpAnyH_take (i := 0) (oi := ⟨some 46, _, _, _, _, _⟩) (v := ?_) rfl (by kernel_rfl) (by kernel_rfl) (by kernel_rfl) (fun _ _ _ h => h) (Or.inl ⟨by kernel_rfl, ?_⟩) trivial ?_
  rotate_left
  · (intro w hSw; go_simp; try with_reducible rfl)
  (repeat (first | simp only [Act.put] | simp only [List.setIfInBounds_toArray] | simp only [List.set_cons_succ] | simp only [List.set_cons_zero]))
  refine wpAnyH_take (i := 1) (oi := ⟨some 47, _, _, _, _, _⟩) (v := ?_) rfl (by kernel_rfl) (by kernel_rfl) (by kernel_rfl) (fun _ _ _ h => h) (Or.inl ⟨by kernel_rfl, ?_⟩) trivial ?_
  rotate_left
  · (intro w hSw; go_simp; try with_reducible rfl)
  (repeat (first | simp only [Act.put] | simp only [List.setIfInBounds_toArray] | simp only [List.set_cons_succ] | simp only [List.set_cons_zero]))
  refine wpAnyH_take (i := 2) (oi := ⟨some 48, _, _, _, _, _⟩) (v := ?_) rfl (by kernel_rfl) (by kernel_rfl) (by kernel_rfl) (fun _ _ _ h => h) (Or.inl ⟨by kernel_rfl, ?_⟩) trivial ?_
  rotate_left
  · (intro w hSw; go_simp; try with_reducible rfl)
  (repeat (first | simp only [Act.put] | simp only [List.setIfInBounds_toArray] | simp only [List.set_cons_succ] | simp only [List.set_cons_zero]))
  refine wpAnyH_take (i := 3) (oi := ⟨some 49, _, _, _, _, _⟩) (v := ?_) rfl (by kernel_rfl) (by kernel_rfl) (by kernel_rfl) (fun _ _ _ h => h) (Or.inl ⟨by kernel_rfl, ?_⟩) trivial ?_
  rotate_left
  · (intro w hSw; go_simp; try with_reducible rfl)
  (repeat (first | simp only [Act.put] | simp only [List.setIfInBounds_toArray] | simp only [List.set_cons_succ] | simp only [List.set_cons_zero]))
  refine wpAnyH_take (i := 4) (oi := ⟨some 50, _, _, _, _, _⟩) (v := ?_) rfl (by kernel_rfl) (by kernel_rfl) (by kernel_rfl) (fun _ _ _ h => h) (Or.inl ⟨by kernel_rfl, ?_⟩) trivial ?_
  rotate_left
  · (intro w hSw; go_simp; try with_reducible rfl)
  (repeat (first | simp only [Act.put] | simp only [List.setIfInBounds_toArray] | simp only [List.set_cons_succ] | simp only [List.set_cons_zero]))
  refine wpAnyH_take (i := 5) (oi := ⟨some 51, _, _, _, _, _⟩) (v := ?_) rfl (by kernel_rfl) (by kernel_rfl) (by kernel_rfl) (fun _ _ _ h => h) (Or.inl ⟨by kernel_rfl, ?_⟩) trivial ?_
  rotate_left
  · (intro w hSw; go_simp; try with_reducible rfl)
  (repeat (first | simp only [Act.put] | simp only [List.setIfInBounds_toArray] | simp only [List.set_cons_succ] | simp only [List.set_cons_zero]))
  refine wpAnyH_take (i := 6) (oi := ⟨some 52, _, _, _, _, _⟩) (v := ?_) rfl (by kernel_rfl) (by kernel_rfl) (by kernel_rfl) (fun _ _ _ h => h) (Or.inl ⟨by kernel_rfl, ?_⟩) trivial ?_
  rotate_left
  · (intro w hSw; go_simp; try with_reducible rfl)
  (repeat (first | simp only [Act.put] | simp only [List.setIfInBounds_toArray] | simp only [List.set_cons_succ] | simp only [List.set_cons_zero]))
  refine wpAnyH_take (i := 7) (oi := ⟨some 53, _, _, _, _, _⟩) (v := ?_) rfl (by kernel_rfl) (by kernel_rfl) (by kernel_rfl) (fun _ _ _ h => h) (Or.inl ⟨by kernel_rfl, ?_⟩) trivial ?_
  rotate_left
  · (intro w hSw; go_simp; try with_reducible rfl)
  (repeat (first | simp only [Act.put] | simp only [List.setIfInBounds_toArray] | simp only [List.set_cons_succ] | simp only [List.set_cons_zero]))
  have G1 : (W1.setRow w.heap.size R1.toArray).drew.heap[w.heap.size]? = some (.cells R1.toArray 35 (0, 0)) := hd_drew (setRow_heap _ _ _ _ _ _ K.out.1)
  have G2 : (W1.setRow w.heap.size R1.toArray).drew.heap[g]? = some (.cells xs.toArray 35 (0, 0)) := hd_drew ((setRow_other _ _ _ _ (by have := HX.out.1; omega)).trans K.out.2.2.1)
  refine wpAnyH_ready (rs := [8]) (by kernel_rfl) (by simp) ?_
  refine AllReadyH.cons (o := ⟨some 54, _, _, _, _, _⟩) rfl (fun K hK => ?_) AllReadyH.nil
  refine step_copy_runI rfl _ _ 124 124 rfl _ _ rfl rfl (C2.out _ G1 G2 _ _ _ _ _ (by simp only [Nat.min_def]; split <;> omega)) ?_
  refine hK.out _ _ trivial (fun hHeld => ?_)
  clear hK K hHeld
  (repeat (first | simp only [Act.put] | simp only [List.setIfInBounds_toArray] | simp only [List.set_cons_succ] | simp only [List.set_cons_zero]))
  refine wpAnyH_done (by kernel_rfl) ?_ _
  have F : Hid (((W1.setRow w.heap.size R1.toArray).drew.setRow w.heap.size R2.toArray).ownsRow w.heap.size 35 1 (.slice (some ⟨w.heap.size, 0, none⟩) (n + 1) G) (n + 1) (xs.take (i * 1) ++ ys ++ xs.drop (i * 1)) ∧ Below w.heap.size w ((W1.setRow w.heap.size R1.toArray).drew.setRow w.heap.size R2.toArray)) := by
    refine ⟨⟨HXL.out, .inr ⟨w.heap.size, G, R2.toArray, rfl, Nat.le_refl _, setRow_heap _ _ _ _ _ _ G1, HE.out.2.2.1, HE.out.2.2.2, by rw [List.size_toArray]; exact HE.out.1, HE.out.2.1⟩⟩, ?_⟩
    exact below_setRow ((below_setRow K.out.2.2.2 (Nat.le_refl _) _).drew) (Nat.le_refl _) _
  clear G1 G2 C1 C2 K HE HXL HX
  go_wp2_with fail
  go_ret
  exact ⟨_, rfl, F.out.1, F.out.2, rfl⟩
end Go.Proofs.YtgbmgdffgmablaaGreat
