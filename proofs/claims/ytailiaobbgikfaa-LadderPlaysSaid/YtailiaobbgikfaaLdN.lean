/- ladder: a book that is whole, and what is put into it, or taken away. -/
import Derived.Test.YtailiaobbgikfaaLdM
namespace Go.Proofs.Ytailiaobbgikfaa
open Go.RowKit Go.Shelf Go.Sort Go.Maps

/-- No two queues lie in one block. -/
def DisQ (l : List Rw) : Prop := l.Pairwise (fun a b => ∀ j, a.v.ownBlock = some j → b.v.ownBlock ≠ some j)
/-- What is changed in the rows: at most one is put in the place of at most one. -/
def Swap (n : Nat) (M X : List Rw) : Prop := (M = [] ∨ ∃ r, M = [r]) ∧ (X = [] ∨ ∃ x, X = [x] ∧ ((∃ r, M = [r] ∧ x.v.ownBlock = r.v.ownBlock) ∨ ∃ j, x.v.ownBlock = some j ∧ n ≤ j))
theorem disq_swap {P M X T : List Rw} {n : Nat} (h : DisQ (P ++ M ++ T)) (hl : ∀ r ∈ P ++ M ++ T, ∀ j, r.v.ownBlock = some j → j < n) (hX : Swap n M X) : DisQ (P ++ X ++ T) := by
  unfold DisQ at *
  rw [List.append_assoc, List.pairwise_append, List.pairwise_append] at h ⊢
  obtain ⟨h1, ⟨h2, h3, h4⟩, h5⟩ := h
  have hp : ∀ r ∈ P, ∀ j, r.v.ownBlock = some j → j < n := fun r hr => hl r (by simp [hr])
  have ht : ∀ r ∈ T, ∀ j, r.v.ownBlock = some j → j < n := fun r hr => hl r (by simp [hr])
  have h5t : ∀ a ∈ P, ∀ b ∈ T, ∀ j, a.v.ownBlock = some j → b.v.ownBlock ≠ some j := fun a ha b hb => h5 a ha b (List.mem_append_right _ hb)
  rcases hX.2 with rfl | ⟨x, rfl, hx⟩
  · refine ⟨h1, ⟨List.Pairwise.nil, h3, fun a ha => by cases ha⟩, fun a ha b hb => ?_⟩
    rw [List.nil_append] at hb
    exact h5t a ha b hb
  · have hxp : ∀ a ∈ P, ∀ j, a.v.ownBlock = some j → x.v.ownBlock ≠ some j := by
      rcases hx with ⟨r, rfl, e⟩ | ⟨i, e, hi⟩
      · intro a ha j hj
        rw [e]
        exact h5 a ha r (by simp) j hj
      · intro a ha j hj
        have := hp a ha j hj
        rw [e]
        intro e'
        injection e' with e'
        omega
    have hxt : ∀ b ∈ T, ∀ j, x.v.ownBlock = some j → b.v.ownBlock ≠ some j := by
      rcases hx with ⟨r, rfl, e⟩ | ⟨i, e, hi⟩
      · intro b hb j hj
        rw [e] at hj
        exact h4 r (by simp) b hb j hj
      · intro b hb j hj e'
        have := ht b hb j e'
        rw [e] at hj
        injection hj with hj
        omega
    refine ⟨h1, ⟨List.pairwise_singleton _ _, h3, fun a ha b hb => ?_⟩, fun a ha b hb => ?_⟩
    · rw [List.mem_singleton.1 ha]; exact hxt b hb
    · rcases List.mem_append.1 hb with hb | hb
      · rw [List.mem_singleton.1 hb]; exact hxp a ha
      · exact h5t a ha b hb
/-- The blocks that may turn: a map's, a row of rows, and the queue that is changed. -/
def TurnS (m : Nat) (v : Value) (M : List Rw) (j : Nat) : Prop := j = m ∨ v.ownBlock = some j ∨ ∃ r ∈ M, r.v.ownBlock = some j
theorem q_swap {w w' : World} {m : Nat} {v : Value} {P M X T : List Rw} {n' : Nat} {xs : List Value} {D : DataW Value} {nn : Nat} (h : DisQ (P ++ M ++ T)) (hq : ∀ r ∈ P ++ M ++ T, w.ownsRow 0 24 6 r.v r.q.length (ol r.q)) (hv : w.ownsRow 0 100 2 v n' xs) (hm : w.ownsMap Try.prog 3 RV m nn D)
    (hx : ∀ r ∈ X, w'.ownsRow 0 24 6 r.v r.q.length (ol r.q)) (hF : Fr (TurnS m v M) w w') : ∀ r ∈ P ++ X ++ T, w'.ownsRow 0 24 6 r.v r.q.length (ol r.q) := by
  have key : ∀ r ∈ P ++ M ++ T, (∀ y ∈ M, ∀ j, r.v.ownBlock = some j → y.v.ownBlock ≠ some j) → w'.ownsRow 0 24 6 r.v r.q.length (ol r.q) := by
    intro r hr hd
    refine own_fr (hq r hr) hF (fun j hj hS => ?_)
    obtain ⟨cs, hcs⟩ := own_blk (hq r hr) hj
    rcases hS with rfl | e | ⟨y, hy, e⟩
    · obtain ⟨es, clock, hb, _⟩ := hm
      rw [hb] at hcs; cases hcs
    · exact own_ne hv hcs (by decide) e
    · exact hd y hy j hj e
  unfold DisQ at h
  rw [List.append_assoc, List.pairwise_append, List.pairwise_append] at h
  obtain ⟨h1, ⟨h2, h3, h4⟩, h5⟩ := h
  intro r hr
  rw [List.append_assoc] at hr
  rcases List.mem_append.1 hr with hr | hr
  · exact key r (by simp [hr]) (fun y hy j hj e => h5 r hr y (List.mem_append_left _ hy) j hj e)
  · rcases List.mem_append.1 hr with hr | hr
    · exact hx r hr
    · exact key r (by simp [hr]) (fun y hy j hj e => h4 y hy r hr j e hj)

/-- A book that is whole. -/
structure Whole (w : World) (p m : Nat) (s1 s2 : Sd) : Prop where
  bk : Bk w (some ⟨p, 0, none⟩) (some m) s1 s2
  ok1 : SideOk 1 s1.rs
  ok2 : SideOk 2 s2.rs
  dq : DisQ (s1.rs ++ s2.rs)
  dv : ∀ j, s1.v.ownBlock = some j → s2.v.ownBlock ≠ some j
  ids : (bookL s1.rs s2.rs).Pairwise (fun x y => ¬ x.id = y.id)
  len : (bookL s1.rs s2.rs).length ≤ 64
  ok : ∀ x ∈ bookL s1.rs s2.rs, Od.ok w x ∧ goodO x = true
theorem map_ne {w : World} {m nn : Nat} {D : DataW Value} {cs : Array Value} {T : TypeId} {j : Nat} (hm : w.ownsMap Try.prog 3 RV m nn D) (h : w.heap[j]? = some (.cells cs T (0, 0))) : j ≠ m := by
  rintro rfl
  obtain ⟨es, clock, hb, _⟩ := hm
  rw [hb] at h; cases h
/-- The first side's rows are changed. -/
theorem swap1 {w w' : World} {p m : Nat} {s1 s2 : Sd} {A B M X : List Rw} {v2 : Value} (H : Whole w p m s1 s2) (hR : s1.rs = A ++ M ++ B) (hX : Swap w.heap.size M X) (hv2 : v2.ownBlock = s1.v.ownBlock ∨ ∃ j, v2.ownBlock = some j ∧ w.heap.size ≤ j)
    (hx : ∀ r ∈ X, w'.ownsRow 0 24 6 r.v r.q.length (ol r.q)) (hr : w'.ownsRow 0 100 2 v2 (A ++ X ++ B).length (rl (A ++ X ++ B))) (hm : w'.ownsMap Try.prog 3 RV m 2 (mapD ⟨true, v2, A ++ X ++ B⟩ s2)) (hF : Fr (TurnS m s1.v M) w w') :
    Bk w' (some ⟨p, 0, none⟩) (some m) ⟨true, v2, A ++ X ++ B⟩ s2 ∧ DisQ (A ++ X ++ B ++ s2.rs) ∧ (∀ j, v2.ownBlock = some j → s2.v.ownBlock ≠ some j) := by
  have hl : A ++ M ++ (B ++ s2.rs) = s1.rs ++ s2.rs := by rw [hR]; simp only [List.append_assoc]
  have hl' : A ++ X ++ (B ++ s2.rs) = A ++ X ++ B ++ s2.rs := by simp only [List.append_assoc]
  have hmw := H.bk.mp m rfl
  refine ⟨⟨?_, (fun h => by cases h), (fun k hk => by injection hk with hk; subst hk; exact hm), (fun h => by cases h), H.bk.t2, hr, ?_, ?_⟩, ?_, ?_⟩
  · rcases H.bk.shape with ⟨h, _⟩ | ⟨q, hb, hq⟩
    · cases h
    · refine .inr ⟨q, hb, hF.blk hq (fun hS => ?_)⟩
      rcases hS with e | e | ⟨y, hy, e⟩
      · exact map_ne hmw hq e
      · exact own_ne H.bk.r1 hq (by decide) e
      · exact own_ne (H.bk.q y (by rw [← hl]; simp [hy])) hq (by decide) e
  · refine own_fr H.bk.r2 hF (fun j hj hS => ?_)
    obtain ⟨cs, hcs⟩ := own_blk H.bk.r2 hj
    rcases hS with e | e | ⟨y, hy, e⟩
    · exact map_ne hmw hcs e
    · exact H.dv j e hj
    · exact own_ne (H.bk.q y (by rw [← hl]; simp [hy])) hcs (by decide) e
  · show ∀ r ∈ A ++ X ++ B ++ s2.rs, _
    rw [← hl']
    exact q_swap (by rw [hl]; exact H.dq) (by rw [hl]; exact H.bk.q) H.bk.r1 hmw hx hF
  · rw [← hl']
    exact disq_swap (by rw [hl]; exact H.dq) (by rw [hl]; exact fun r hr j hj => (own_lt (H.bk.q r hr) j hj).2) hX
  · intro j hj e
    rcases hv2 with e' | ⟨i, e', hi⟩
    · exact H.dv j (by rw [← e']; exact hj) e
    · have := (own_lt H.bk.r2 j e).2
      rw [e'] at hj
      injection hj with hj
      omega
/-- The second side's rows are changed. -/
theorem swap2 {w w' : World} {p m : Nat} {s1 s2 : Sd} {A B M X : List Rw} {v2 : Value} (H : Whole w p m s1 s2) (hR : s2.rs = A ++ M ++ B) (hX : Swap w.heap.size M X) (hv2 : v2.ownBlock = s2.v.ownBlock ∨ ∃ j, v2.ownBlock = some j ∧ w.heap.size ≤ j)
    (hx : ∀ r ∈ X, w'.ownsRow 0 24 6 r.v r.q.length (ol r.q)) (hr : w'.ownsRow 0 100 2 v2 (A ++ X ++ B).length (rl (A ++ X ++ B))) (hm : w'.ownsMap Try.prog 3 RV m 2 (mapD s1 ⟨true, v2, A ++ X ++ B⟩)) (hF : Fr (TurnS m s2.v M) w w') :
    Bk w' (some ⟨p, 0, none⟩) (some m) s1 ⟨true, v2, A ++ X ++ B⟩ ∧ DisQ (s1.rs ++ (A ++ X ++ B)) ∧ (∀ j, s1.v.ownBlock = some j → v2.ownBlock ≠ some j) := by
  have hl : (s1.rs ++ A) ++ M ++ B = s1.rs ++ s2.rs := by rw [hR]; simp only [List.append_assoc]
  have hl' : (s1.rs ++ A) ++ X ++ B = s1.rs ++ (A ++ X ++ B) := by simp only [List.append_assoc]
  have hmw := H.bk.mp m rfl
  refine ⟨⟨?_, (fun h => by cases h), (fun k hk => by injection hk with hk; subst hk; exact hm), H.bk.t1, (fun h => by cases h), ?_, hr, ?_⟩, ?_, ?_⟩
  · rcases H.bk.shape with ⟨h, _⟩ | ⟨q, hb, hq⟩
    · cases h
    · refine .inr ⟨q, hb, hF.blk hq (fun hS => ?_)⟩
      rcases hS with e | e | ⟨y, hy, e⟩
      · exact map_ne hmw hq e
      · exact own_ne H.bk.r2 hq (by decide) e
      · exact own_ne (H.bk.q y (by rw [← hl]; simp [hy])) hq (by decide) e
  · refine own_fr H.bk.r1 hF (fun j hj hS => ?_)
    obtain ⟨cs, hcs⟩ := own_blk H.bk.r1 hj
    rcases hS with e | e | ⟨y, hy, e⟩
    · exact map_ne hmw hcs e
    · exact H.dv j hj e
    · exact own_ne (H.bk.q y (by rw [← hl]; simp [hy])) hcs (by decide) e
  · show ∀ r ∈ s1.rs ++ (A ++ X ++ B), _
    rw [← hl']
    exact q_swap (by rw [hl]; exact H.dq) (by rw [hl]; exact H.bk.q) H.bk.r2 hmw hx hF
  · rw [← hl']
    exact disq_swap (by rw [hl]; exact H.dq) (by rw [hl]; exact fun r hr j hj => (own_lt (H.bk.q r hr) j hj).2) hX
  · intro j e hj
    rcases hv2 with e' | ⟨i, e', hi⟩
    · exact H.dv j e (by rw [← e']; exact hj)
    · have := (own_lt H.bk.r1 j e).2
      rw [e'] at hj
      injection hj with hj
      omega
theorem flat_ge : ∀ (R : List Rw), (∀ r ∈ R, r.q ≠ []) → R.length ≤ (flatR R).length
  | [], _ => Nat.zero_le _
  | r :: R, h => by
    have h1 := List.length_pos_iff.2 (h r (by simp))
    have h2 := flat_ge R (fun r hr => h r (by simp [hr]))
    unfold flatR at *
    rw [List.flatMap_cons, List.length_append, List.length_cons]
    omega
theorem Whole.ne {w : World} {p m : Nat} {s1 s2 : Sd} (H : Whole w p m s1 s2) : ∀ r ∈ s1.rs ++ s2.rs, r.q ≠ [] := by
  intro r hr
  rcases List.mem_append.1 hr with hr | hr
  · exact H.ok1.some r hr
  · exact H.ok2.some r hr
theorem Whole.n1 {w : World} {p m : Nat} {s1 s2 : Sd} (H : Whole w p m s1 s2) : s1.rs.length ≤ 64 ∧ s2.rs.length ≤ 64 ∧ lenQ (s1.rs ++ s2.rs) ≤ 64 := by
  have h := H.len
  have h1 := flat_ge _ H.ok1.some
  have h2 := flat_ge _ H.ok2.some
  unfold bookL at h
  rw [List.length_append] at h
  refine ⟨by omega, by omega, ?_⟩
  rw [lenQ_flat, flatR_app]
  unfold bookL
  rw [List.length_append]; omega
theorem Whole.fr {S : Nat → Prop} {w w' : World} {p m : Nat} {s1 s2 : Sd} (H : Whole w p m s1 s2) (hf : Fr S w w') (hn : ∀ k, foot (some ⟨p, 0, none⟩) (some m) s1 s2 k → ¬ S k) : Whole w' p m s1 s2 :=
  ⟨H.bk.fr hf hn, H.ok1, H.ok2, H.dq, H.dv, H.ids, H.len, H.ok⟩
theorem Whole.below {w w' : World} {p m : Nat} {s1 s2 : Sd} (H : Whole w p m s1 s2) (hf : Below w.heap.size w w') : Whole w' p m s1 s2 :=
  H.fr (S := fun _ => False) (Fr.of_below hf) (fun _ _ h => h)
theorem Whole.pw {w : World} {p m : Nat} {s1 s2 : Sd} (H : Whole w p m s1 s2) : (bookL s1.rs s2.rs).Pairwise (fun x y => ltO x y = true) := book_pw H.ok1 H.ok2
end Go.Proofs.Ytailiaobbgikfaa
