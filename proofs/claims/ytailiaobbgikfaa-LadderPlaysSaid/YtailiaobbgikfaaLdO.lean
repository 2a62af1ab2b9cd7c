/- ladder: put, whole. (By mkldo.py.) -/
import Derived.Test.YtailiaobbgikfaaLdN
namespace Go.Proofs.Ytailiaobbgikfaa
open Go.RowKit Go.Shelf Go.Sort Go.Maps

/-- What is there when an order was put into a book. -/
structure PutIs (w w' : World) (p m : Nat) (s1 s2 s1' s2' : Sd) (o : Od) : Prop where
  wh : Whole w' p m s1' s2'
  perm : (bookL s1'.rs s2'.rs).Perm (o :: bookL s1.rs s2.rs)
  fr : Fr (foot (some ⟨p, 0, none⟩) (some m) s1 s2) w w'
  ft : ∀ k, foot (some ⟨p, 0, none⟩) (some m) s1' s2' k → foot (some ⟨p, 0, none⟩) (some m) s1 s2 k ∨ w.heap.size ≤ k
  e2 : o.side = 1 → s2' = s2
  e1 : o.side = 2 → s1' = s1
theorem good_side {o : Od} (h : goodO o = true) : o.side = 1 ∨ o.side = 2 := by
  unfold goodO at h
  simp only [Bool.and_eq_true] at h
  have h2 := h.2.2.1
  unfold rkN at h2
  by_cases h3 : o.side = 1
  · exact .inl h3
  · rw [if_neg h3] at h2
    by_cases h4 : o.side = 2
    · exact .inr h4
    · rw [if_neg h4] at h2; cases h2
theorem ids_perm {A B : List Od} (h : A.Perm B) (hb : B.Pairwise (fun x y => ¬ x.id = y.id)) : A.Pairwise (fun x y => ¬ x.id = y.id) :=
  h.symm.pairwise hb (fun h e => h e.symm)
theorem map_there {w : World} {p m : Nat} {s1 s2 : Sd} (H : Whole w p m s1 s2) : (s1.rs ≠ [] → s1.there = true) ∧ (s2.rs ≠ [] → s2.there = true) := by
  constructor
  · intro hne
    cases h : s1.there with
    | true => rfl
    | false =>
      have := H.bk.r1
      rw [H.bk.t1 h] at this
      rcases this.2 with ⟨_, h0⟩ | ⟨k, cap, cur, hv, _⟩
      · exact absurd (List.length_eq_zero_iff.1 h0) hne
      · cases hv
  · intro hne
    cases h : s2.there with
    | true => rfl
    | false =>
      have := H.bk.r2
      rw [H.bk.t2 h] at this
      rcases this.2 with ⟨_, h0⟩ | ⟨k, cap, cur, hv, _⟩
      · exact absurd (List.length_eq_zero_iff.1 h0) hne
      · cases hv
theorem split_at (R : List Rw) (k : Nat) (h : k < R.length) : R = R.take k ++ [R[k]!] ++ R.drop (k + 1) := by
  rw [getElem!_pos R k h, List.append_assoc, List.singleton_append, ← List.drop_eq_getElem_cons h, List.take_append_drop]
/-- Side 1 has got an order: what follows of the cells. -/
theorem put_side1 {w w' : World} {p m : Nat} {s1 s2 : Sd} {A B M X : List Rw} {v2 : Value} {o : Od} (H : Whole w p m s1 s2) (ho : Od.ok w o ∧ goodO o = true) (hs : o.side = 1) (hid : ∀ x ∈ bookL s1.rs s2.rs, ¬ x.id = o.id) (hlen : (bookL s1.rs s2.rs).length < 64)
    (hR : s1.rs = A ++ M ++ B) (hX : Swap w.heap.size M X) (hv2 : v2.ownBlock = s1.v.ownBlock ∨ ∃ j, v2.ownBlock = some j ∧ w.heap.size ≤ j)
    (hx : ∀ r ∈ X, w'.ownsRow 0 24 6 r.v r.q.length (ol r.q)) (hr : w'.ownsRow 0 100 2 v2 (A ++ X ++ B).length (rl (A ++ X ++ B))) (hm : w'.ownsMap Try.prog 3 RV m 2 (mapD ⟨true, v2, A ++ X ++ B⟩ s2)) (hF : Fr (TurnS m s1.v M) w w')
    (hP : PutR 1 o s1.rs (A ++ X ++ B)) : PutIs w w' p m s1 s2 ⟨true, v2, A ++ X ++ B⟩ s2 o := by
  obtain ⟨b1, b2, b3⟩ := swap1 H hR hX hv2 hx hr hm hF
  have hidS : ∀ x ∈ flatR s1.rs, ¬ x.id = o.id := fun x hx => hid x (by unfold bookL; exact List.mem_append_left _ hx)
  obtain ⟨c1, c2⟩ := putR_ok (.inl rfl) hs H.ok1 hidS hP
  have hperm : (bookL (A ++ X ++ B) s2.rs).Perm (o :: bookL s1.rs s2.rs) := by
    unfold bookL
    exact c2.append_right _
  refine ⟨⟨b1, c1, H.ok2, b2, b3, ids_perm hperm (List.pairwise_cons.2 ⟨fun x hx e => hid x hx e.symm, H.ids⟩), by rw [hperm.length_eq, List.length_cons]; omega, fun x hx => ?_⟩, hperm, ?_, ?_, fun _ => rfl, (fun h => by rw [hs] at h; cases h)⟩
  · rcases List.mem_cons.1 (hperm.mem_iff.1 hx) with rfl | hx
    · exact ho
    · exact H.ok x hx
  · refine hF.mono (fun k hk => .inl ?_)
    rcases hk with rfl | e | ⟨r, hr, e⟩
    · exact .inr (.inl rfl)
    · exact .inr (.inr (.inl e))
    · exact .inr (.inr (.inr (.inr ⟨r, List.mem_append_left _ (by rw [hR]; simp [hr]), e⟩)))
  · intro k hk
    have hn : ∀ u : Value, (u.ownBlock = s1.v.ownBlock ∨ ∃ j, u.ownBlock = some j ∧ w.heap.size ≤ j) → u.ownBlock = some k → foot (some ⟨p, 0, none⟩) (some m) s1 s2 k ∨ w.heap.size ≤ k := by
      intro u hu e
      rcases hu with e' | ⟨j, e', hj⟩
      · rw [e'] at e; exact .inl (.inr (.inr (.inl e)))
      · rw [e'] at e; injection e with e; exact .inr (by omega)
    rcases hk with e | e | e | e | ⟨r, hr, e⟩
    · exact .inl (.inl e)
    · exact .inl (.inr (.inl e))
    · exact hn v2 hv2 e
    · exact .inl (.inr (.inr (.inr (.inl e))))
    · have hr' : r ∈ X ∨ r ∈ s1.rs ++ s2.rs := by
        have hr2 : r ∈ A ++ X ++ B ++ s2.rs := hr
        rw [hR]
        simp only [List.mem_append] at hr2 ⊢
        rcases hr2 with ((h | h) | h) | h
        · exact .inr (.inl (.inl (.inl h)))
        · exact .inl h
        · exact .inr (.inl (.inr h))
        · exact .inr (.inr h)
      rcases hr' with h | h
      · rcases hX.2 with rfl | ⟨x, rfl, hx'⟩
        · cases h
        · obtain rfl := List.mem_singleton.1 h
          rcases hx' with ⟨y, rfl, e'⟩ | ⟨j, e', hj⟩
          · rw [e'] at e
            exact .inl (.inr (.inr (.inr (.inr ⟨y, List.mem_append_left _ (by rw [hR]; simp), e⟩))))
          · rw [e'] at e; injection e with e; exact .inr (by omega)
      · exact .inl (.inr (.inr (.inr (.inr ⟨r, h, e⟩))))
/-- Side 2 has got an order: what follows of the cells. -/
theorem put_side2 {w w' : World} {p m : Nat} {s1 s2 : Sd} {A B M X : List Rw} {v2 : Value} {o : Od} (H : Whole w p m s1 s2) (ho : Od.ok w o ∧ goodO o = true) (hs : o.side = 2) (hid : ∀ x ∈ bookL s1.rs s2.rs, ¬ x.id = o.id) (hlen : (bookL s1.rs s2.rs).length < 64)
    (hR : s2.rs = A ++ M ++ B) (hX : Swap w.heap.size M X) (hv2 : v2.ownBlock = s2.v.ownBlock ∨ ∃ j, v2.ownBlock = some j ∧ w.heap.size ≤ j)
    (hx : ∀ r ∈ X, w'.ownsRow 0 24 6 r.v r.q.length (ol r.q)) (hr : w'.ownsRow 0 100 2 v2 (A ++ X ++ B).length (rl (A ++ X ++ B))) (hm : w'.ownsMap Try.prog 3 RV m 2 (mapD s1 ⟨true, v2, A ++ X ++ B⟩)) (hF : Fr (TurnS m s2.v M) w w')
    (hP : PutR 2 o s2.rs (A ++ X ++ B)) : PutIs w w' p m s1 s2 s1 ⟨true, v2, A ++ X ++ B⟩ o := by
  obtain ⟨b1, b2, b3⟩ := swap2 H hR hX hv2 hx hr hm hF
  have hidS : ∀ x ∈ flatR s2.rs, ¬ x.id = o.id := fun x hx => hid x (by unfold bookL; exact List.mem_append_right _ hx)
  obtain ⟨c1, c2⟩ := putR_ok (.inr rfl) hs H.ok2 hidS hP
  have hperm : (bookL s1.rs (A ++ X ++ B)).Perm (o :: bookL s1.rs s2.rs) := by
    unfold bookL
    exact (c2.append_left _).trans List.perm_middle
  refine ⟨⟨b1, H.ok1, c1, b2, b3, ids_perm hperm (List.pairwise_cons.2 ⟨fun x hx e => hid x hx e.symm, H.ids⟩), by rw [hperm.length_eq, List.length_cons]; omega, fun x hx => ?_⟩, hperm, ?_, ?_, (fun h => by rw [hs] at h; cases h), fun _ => rfl⟩
  · rcases List.mem_cons.1 (hperm.mem_iff.1 hx) with rfl | hx
    · exact ho
    · exact H.ok x hx
  · refine hF.mono (fun k hk => .inl ?_)
    rcases hk with rfl | e | ⟨r, hr, e⟩
    · exact .inr (.inl rfl)
    · exact .inr (.inr (.inr (.inl e)))
    · exact .inr (.inr (.inr (.inr ⟨r, List.mem_append_right _ (by rw [hR]; simp [hr]), e⟩)))
  · intro k hk
    have hn : ∀ u : Value, (u.ownBlock = s2.v.ownBlock ∨ ∃ j, u.ownBlock = some j ∧ w.heap.size ≤ j) → u.ownBlock = some k → foot (some ⟨p, 0, none⟩) (some m) s1 s2 k ∨ w.heap.size ≤ k := by
      intro u hu e
      rcases hu with e' | ⟨j, e', hj⟩
      · rw [e'] at e; exact .inl (.inr (.inr (.inr (.inl e))))
      · rw [e'] at e; injection e with e; exact .inr (by omega)
    rcases hk with e | e | e | e | ⟨r, hr, e⟩
    · exact .inl (.inl e)
    · exact .inl (.inr (.inl e))
    · exact .inl (.inr (.inr (.inl e)))
    · exact hn v2 hv2 e
    · have hr' : r ∈ X ∨ r ∈ s1.rs ++ s2.rs := by
        have hr2 : r ∈ s1.rs ++ (A ++ X ++ B) := hr
        rw [hR]
        simp only [List.mem_append] at hr2 ⊢
        rcases hr2 with h | (h | h) | h
        · exact .inr (.inl h)
        · exact .inr (.inr (.inl (.inl h)))
        · exact .inl h
        · exact .inr (.inr (.inr h))
      rcases hr' with h | h
      · rcases hX.2 with rfl | ⟨x, rfl, hx'⟩
        · cases h
        · obtain rfl := List.mem_singleton.1 h
          rcases hx' with ⟨y, rfl, e'⟩ | ⟨j, e', hj⟩
          · rw [e'] at e
            exact .inl (.inr (.inr (.inr (.inr ⟨y, List.mem_append_right _ (by rw [hR]; simp), e⟩))))
          · rw [e'] at e; injection e with e; exact .inr (by omega)
      · exact .inl (.inr (.inr (.inr (.inr ⟨r, h, e⟩))))
set_option maxHeartbeats 4000000 in
set_option maxRecDepth 100000 in
theorem put_w1 (p m : Nat) (s1 s2 : Sd) (o : Od) (w : World) (H : Whole w p m s1 s2) (ho : Od.ok w o ∧ goodO o = true) (hs : o.side = 1) (hid : ∀ x ∈ bookL s1.rs s2.rs, ¬ x.id = o.id) (hlen : (bookL s1.rs s2.rs).length < 64) :
    Calls Try.prog 63 #[.pointer (some ⟨p, 0, none⟩), .agg #[.int .u64 o.id, .int .i64 o.acc, .int .i64 o.side, .int .i64 o.price, .int .i64 o.qty, .int .u64 o.seq]] w fun e w' => e = .returned (.tuple #[]) ∧ ∃ s1' s2', Hid (PutIs w w' p m s1 s2 s1' s2' o) := by
  have hwf : (Lit.int .i64 o.side).wf = true := by rw [hs]; decide
  have hR : rsOf s1 s2 o.side = s1.rs := by rw [hs]; rfl
  have hv : rowsOf s1 s2 o.side = s1.v := by rw [hs]; rfl
  have hpw : s1.rs.Pairwise (fun a b => betN o.side a.pr b.pr = true) := by rw [hs]; exact H.ok1.rows
  have hn := H.n1
  obtain ⟨k, hk⟩ : ∃ k, atN o.side o.price s1.rs = k := ⟨_, rfl⟩
  by_cases h : k < s1.rs.length ∧ (s1.rs[k]!).pr = o.price
  · obtain ⟨hkl, hp⟩ := h
    have hmem : s1.rs[k]! ∈ s1.rs := by rw [getElem!_pos s1.rs k hkl]; exact List.getElem_mem hkl
    have hql : (s1.rs[k]!).q.length ≤ 1000 := by
      have h1 : (s1.rs[k]!).q.length ≤ lenQ (s1.rs ++ s2.rs) := lenQ_pre (x := ⟨s1.rs[k]!, List.mem_append_left _ hmem⟩)
      omega
    refine (put_there p m s1 s2 o.side o w H.bk rfl hwf s1.rs hR hpw (by omega) k hk hkl hp (H.ok1.que _ hmem) hql).mono fun e w' ⟨he, v', hh⟩ => ⟨he, ?_⟩
    obtain ⟨h1, h2, h3, h4⟩ := hh.out
    rw [hv] at h2 h3
    have hsp := split_at s1.rs k hkl
    have he2 : s1.rs.take k ++ (⟨o.price, v', putQ o (s1.rs[k]!).q⟩ : Rw) :: s1.rs.drop (k + 1) = s1.rs.take k ++ [⟨o.price, v', putQ o (s1.rs[k]!).q⟩] ++ s1.rs.drop (k + 1) := by rw [List.append_assoc]; rfl
    have hth : s1.there = true := (map_there H).1 (fun e => by rw [e] at hkl; exact absurd hkl (Nat.not_lt_zero _))
    have hmm : w'.ownsMap Try.prog 3 RV m 2 (mapD s1 s2) := ownsMap_fr (H.bk.mp m rfl) h3 (fun hS => by
      rcases hS with e | e
      · obtain ⟨cs, hcs⟩ := own_blk H.bk.r1 e
        exact map_ne (H.bk.mp m rfl) hcs rfl
      · obtain ⟨cs, hcs⟩ := own_blk (H.bk.q _ (List.mem_append_left _ hmem)) e
        exact map_ne (H.bk.mp m rfl) hcs rfl)
    rw [he2] at h2
    have hP := putR_there (o := o) (s := 1) (.inl rfl) (R := s1.rs) H.ok1.rows (by rw [← hs, hk]; exact hkl) (by rw [← hs, hk]; exact hp) v'
    rw [← hs, hk, he2, hs] at hP
    refine ⟨_, _, Lib.hid (put_side1 (v2 := s1.v) H ho hs hid hlen hsp ⟨.inr ⟨_, rfl⟩, .inr ⟨_, rfl, h4.imp (fun e => ⟨_, rfl, e⟩) id⟩⟩ (.inl rfl) (fun r hr => ?_) ?_ ?_ ?_ hP)⟩
    · rw [List.mem_singleton.1 hr]
      show w'.ownsRow 0 24 6 v' (putQ o _).length _
      rw [putQ_len]; exact h1
    · rw [← he2, set_len _ _ hkl, he2]; exact h2
    · have : mapD ⟨true, s1.v, s1.rs.take k ++ [⟨o.price, v', putQ o (s1.rs[k]!).q⟩] ++ s1.rs.drop (k + 1)⟩ s2 = mapD s1 s2 := by
        unfold mapD
        rw [hth]
      rw [this]; exact hmm
    · refine h3.mono (fun j hj => .inl ?_)
      rcases hj with e | e
      · exact .inr (.inl e)
      · exact .inr (.inr ⟨_, List.mem_singleton.2 rfl, e⟩)
  · refine (put_new p m s1 s2 o w H.bk hwf s1.rs hR hpw (by omega) k hk h).mono fun e w' ⟨he, v2, v', hh⟩ => ⟨he, ?_⟩
    obtain ⟨h1, h2, h3, h4, h5, h6⟩ := hh.out
    rw [hv] at h4 h6
    have he2 : s1.rs.take k ++ (⟨o.price, v', [o]⟩ : Rw) :: s1.rs.drop k = s1.rs.take k ++ [⟨o.price, v', [o]⟩] ++ s1.rs.drop k := by rw [List.append_assoc]; rfl
    have hkl : k ≤ s1.rs.length := by rw [← hk]; exact at_le _ _ _
    have hln : (s1.rs.take k ++ [(⟨o.price, v', [o]⟩ : Rw)] ++ s1.rs.drop k).length = s1.rs.length + 1 := by
      rw [List.length_append, List.length_append, List.length_take, List.length_drop, List.length_singleton]; omega
    rw [he2] at h2
    have hP := putR_new (o := o) (s := 1) (.inl rfl) (R := s1.rs) H.ok1.rows (by rw [← hs, hk]; exact h) v'
    rw [← hs, hk, he2, hs] at hP
    rw [hs, map_put1 s1 s2 v2 (s1.rs.take k ++ [⟨o.price, v', [o]⟩] ++ s1.rs.drop k)] at h3
    refine ⟨_, _, Lib.hid (put_side1 (M := []) H ho hs hid hlen (by rw [List.append_nil, List.take_append_drop]) ⟨.inl rfl, .inr ⟨_, rfl, .inr h5⟩⟩ h6 (fun r hr => ?_) ?_ (map_two h3) ?_ hP)⟩
    · rw [List.mem_singleton.1 hr]; exact h1
    · rw [hln]; exact h2
    · refine h4.mono (fun j hj => .inl ?_)
      rcases hj with e | e
      · exact .inl e
      · exact .inr (.inl e)
set_option maxHeartbeats 4000000 in
set_option maxRecDepth 100000 in
theorem put_w2 (p m : Nat) (s1 s2 : Sd) (o : Od) (w : World) (H : Whole w p m s1 s2) (ho : Od.ok w o ∧ goodO o = true) (hs : o.side = 2) (hid : ∀ x ∈ bookL s1.rs s2.rs, ¬ x.id = o.id) (hlen : (bookL s1.rs s2.rs).length < 64) :
    Calls Try.prog 63 #[.pointer (some ⟨p, 0, none⟩), .agg #[.int .u64 o.id, .int .i64 o.acc, .int .i64 o.side, .int .i64 o.price, .int .i64 o.qty, .int .u64 o.seq]] w fun e w' => e = .returned (.tuple #[]) ∧ ∃ s1' s2', Hid (PutIs w w' p m s1 s2 s1' s2' o) := by
  have hwf : (Lit.int .i64 o.side).wf = true := by rw [hs]; decide
  have hR : rsOf s1 s2 o.side = s2.rs := by rw [hs]; rfl
  have hv : rowsOf s1 s2 o.side = s2.v := by rw [hs]; rfl
  have hpw : s2.rs.Pairwise (fun a b => betN o.side a.pr b.pr = true) := by rw [hs]; exact H.ok2.rows
  have hn := H.n1
  obtain ⟨k, hk⟩ : ∃ k, atN o.side o.price s2.rs = k := ⟨_, rfl⟩
  by_cases h : k < s2.rs.length ∧ (s2.rs[k]!).pr = o.price
  · obtain ⟨hkl, hp⟩ := h
    have hmem : s2.rs[k]! ∈ s2.rs := by rw [getElem!_pos s2.rs k hkl]; exact List.getElem_mem hkl
    have hql : (s2.rs[k]!).q.length ≤ 1000 := by
      have h1 : (s2.rs[k]!).q.length ≤ lenQ (s1.rs ++ s2.rs) := lenQ_pre (x := ⟨s2.rs[k]!, List.mem_append_right _ hmem⟩)
      omega
    refine (put_there p m s1 s2 o.side o w H.bk rfl hwf s2.rs hR hpw (by omega) k hk hkl hp (H.ok2.que _ hmem) hql).mono fun e w' ⟨he, v', hh⟩ => ⟨he, ?_⟩
    obtain ⟨h1, h2, h3, h4⟩ := hh.out
    rw [hv] at h2 h3
    have hsp := split_at s2.rs k hkl
    have he2 : s2.rs.take k ++ (⟨o.price, v', putQ o (s2.rs[k]!).q⟩ : Rw) :: s2.rs.drop (k + 1) = s2.rs.take k ++ [⟨o.price, v', putQ o (s2.rs[k]!).q⟩] ++ s2.rs.drop (k + 1) := by rw [List.append_assoc]; rfl
    have hth : s2.there = true := (map_there H).2 (fun e => by rw [e] at hkl; exact absurd hkl (Nat.not_lt_zero _))
    have hmm : w'.ownsMap Try.prog 3 RV m 2 (mapD s1 s2) := ownsMap_fr (H.bk.mp m rfl) h3 (fun hS => by
      rcases hS with e | e
      · obtain ⟨cs, hcs⟩ := own_blk H.bk.r2 e
        exact map_ne (H.bk.mp m rfl) hcs rfl
      · obtain ⟨cs, hcs⟩ := own_blk (H.bk.q _ (List.mem_append_right _ hmem)) e
        exact map_ne (H.bk.mp m rfl) hcs rfl)
    rw [he2] at h2
    have hP := putR_there (o := o) (s := 2) (.inr rfl) (R := s2.rs) H.ok2.rows (by rw [← hs, hk]; exact hkl) (by rw [← hs, hk]; exact hp) v'
    rw [← hs, hk, he2, hs] at hP
    refine ⟨_, _, Lib.hid (put_side2 (v2 := s2.v) H ho hs hid hlen hsp ⟨.inr ⟨_, rfl⟩, .inr ⟨_, rfl, h4.imp (fun e => ⟨_, rfl, e⟩) id⟩⟩ (.inl rfl) (fun r hr => ?_) ?_ ?_ ?_ hP)⟩
    · rw [List.mem_singleton.1 hr]
      show w'.ownsRow 0 24 6 v' (putQ o _).length _
      rw [putQ_len]; exact h1
    · rw [← he2, set_len _ _ hkl, he2]; exact h2
    · have : mapD s1 ⟨true, s2.v, s2.rs.take k ++ [⟨o.price, v', putQ o (s2.rs[k]!).q⟩] ++ s2.rs.drop (k + 1)⟩ = mapD s1 s2 := by
        unfold mapD
        rw [hth]
      rw [this]; exact hmm
    · refine h3.mono (fun j hj => .inl ?_)
      rcases hj with e | e
      · exact .inr (.inl e)
      · exact .inr (.inr ⟨_, List.mem_singleton.2 rfl, e⟩)
  · refine (put_new p m s1 s2 o w H.bk hwf s2.rs hR hpw (by omega) k hk h).mono fun e w' ⟨he, v2, v', hh⟩ => ⟨he, ?_⟩
    obtain ⟨h1, h2, h3, h4, h5, h6⟩ := hh.out
    rw [hv] at h4 h6
    have he2 : s2.rs.take k ++ (⟨o.price, v', [o]⟩ : Rw) :: s2.rs.drop k = s2.rs.take k ++ [⟨o.price, v', [o]⟩] ++ s2.rs.drop k := by rw [List.append_assoc]; rfl
    have hkl : k ≤ s2.rs.length := by rw [← hk]; exact at_le _ _ _
    have hln : (s2.rs.take k ++ [(⟨o.price, v', [o]⟩ : Rw)] ++ s2.rs.drop k).length = s2.rs.length + 1 := by
      rw [List.length_append, List.length_append, List.length_take, List.length_drop, List.length_singleton]; omega
    rw [he2] at h2
    have hP := putR_new (o := o) (s := 2) (.inr rfl) (R := s2.rs) H.ok2.rows (by rw [← hs, hk]; exact h) v'
    rw [← hs, hk, he2, hs] at hP
    rw [hs, map_put2 s1 s2 v2 (s2.rs.take k ++ [⟨o.price, v', [o]⟩] ++ s2.rs.drop k)] at h3
    refine ⟨_, _, Lib.hid (put_side2 (M := []) H ho hs hid hlen (by rw [List.append_nil, List.take_append_drop]) ⟨.inl rfl, .inr ⟨_, rfl, .inr h5⟩⟩ h6 (fun r hr => ?_) ?_ (map_two h3) ?_ hP)⟩
    · rw [List.mem_singleton.1 hr]; exact h1
    · rw [hln]; exact h2
    · refine h4.mono (fun j hj => .inl ?_)
      rcases hj with e | e
      · exact .inl e
      · exact .inr (.inl e)
theorem lPut_c (p m : Nat) (s1 s2 : Sd) (o : Od) (w : World) (H : Whole w p m s1 s2) (ho : Od.ok w o ∧ goodO o = true) (hid : ∀ x ∈ bookL s1.rs s2.rs, ¬ x.id = o.id) (hlen : (bookL s1.rs s2.rs).length < 64) :
    Calls Try.prog 63 #[.pointer (some ⟨p, 0, none⟩), .agg #[.int .u64 o.id, .int .i64 o.acc, .int .i64 o.side, .int .i64 o.price, .int .i64 o.qty, .int .u64 o.seq]] w fun e w' => e = .returned (.tuple #[]) ∧ ∃ s1' s2', Hid (PutIs w w' p m s1 s2 s1' s2' o) := by
  rcases good_side ho.2 with h | h
  · exact put_w1 p m s1 s2 o w H ho h hid hlen
  · exact put_w2 p m s1 s2 o w H ho h hid hlen
end Go.Proofs.Ytailiaobbgikfaa
