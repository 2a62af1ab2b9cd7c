/- ladder: rows with a queue put in, in plain words and in memory. -/
import Derived.Test.YtailiaobbgikfaaLdJ
namespace Go.Proofs.Ytailiaobbgikfaa
open Go.RowKit Go.Shelf Go.Sort

theorem rl_app (a b : List Rw) : rl (a ++ b) = rl a ++ rl b := by unfold rl; rw [List.flatMap_append]
theorem rl_take (R : List Rw) (i : Nat) (h : i ≤ R.length) : (rl R).take (i * 2) = rl (R.take i) ∧ (rl R).drop (i * 2) = rl (R.drop i) := by
  have e : rl R = rl (R.take i) ++ rl (R.drop i) := by rw [← rl_app, List.take_append_drop]
  have hl : (rl (R.take i)).length = i * 2 := by rw [rl_len, List.length_take, Nat.min_eq_left h]
  constructor
  · rw [e, ← hl, List.take_left']; rfl
  · rw [e, ← hl, List.drop_left']; rfl
theorem ol_take (q : List Od) (i : Nat) (h : i ≤ q.length) : (ol q).take (i * 6) = ol (q.take i) ∧ (ol q).drop (i * 6) = ol (q.drop i) := by
  have e : ol q = ol (q.take i) ++ ol (q.drop i) := by rw [← ol_append, List.take_append_drop]
  have hl : (ol (q.take i)).length = i * 6 := by rw [ol_len, List.length_take, Nat.min_eq_left h]
  constructor
  · rw [e, ← hl, List.take_left']; rfl
  · rw [e, ← hl, List.drop_left']; rfl
/-- An order put into a queue's cells. -/
theorem ol_putQ (o : Od) (q : List Od) : (ol q).take (plN o q * 6) ++ encO o ++ (ol q).drop (plN o q * 6) = ol (putQ o q) := by
  obtain ⟨h1, h2⟩ := ol_take q (plN o q) (pl_le o q)
  rw [h1, h2]
  unfold putQ
  rw [ol_append]
  show _ = ol (q.take (plN o q)) ++ (encO o ++ ol (q.drop (plN o q)))
  rw [List.append_assoc]
theorem putQ_len (o : Od) (q : List Od) : (putQ o q).length = q.length + 1 := (putQ_perm o q).length_eq
/-- A row put into the rows' cells. -/
theorem rl_ins (R : List Rw) (k : Nat) (hk : k ≤ R.length) (r : Rw) : (rl R).take (k * 2) ++ r.cs ++ (rl R).drop (k * 2) = rl (R.take k ++ r :: R.drop k) := by
  obtain ⟨h1, h2⟩ := rl_take R k hk
  rw [h1, h2, rl_app]
  show _ = rl (R.take k) ++ (r.cs ++ rl (R.drop k))
  rw [List.append_assoc]
theorem rl_set (R : List Rw) (k : Nat) (hk : k < R.length) (r' : Rw) (hp : r'.pr = (R[k]!).pr) : rl (R.take k ++ r' :: R.drop (k + 1)) = (rl R).set (k * 2 + 1) r'.v := by
  have e : R = R.take k ++ R[k]! :: R.drop (k + 1) := by
    rw [getElem!_pos R k hk, ← List.drop_eq_getElem_cons hk, List.take_append_drop]
  have hl : (rl (R.take k)).length = k * 2 := by rw [rl_len, List.length_take, Nat.min_eq_left (Nat.le_of_lt hk)]
  conv => rhs; rw [e]
  rw [rl_app, rl_app, List.set_append, if_neg (by omega)]
  congr 1
  rw [hl, show k * 2 + 1 - k * 2 = 1 by omega]
  show r'.cs ++ rl _ = (((R[k]!).cs ++ rl _)).set 1 _
  unfold Rw.cs
  rw [hp]
  rfl
theorem set_len (R : List Rw) (k : Nat) (hk : k < R.length) (r' : Rw) : (R.take k ++ r' :: R.drop (k + 1)).length = R.length := by
  rw [List.length_append, List.length_take, List.length_cons, List.length_drop]; omega
/-- A cell of an own row is written. -/
theorem own_setCell {w : World} {base n size j : Nat} {T : TypeId} {v u : Value} {xs : List Value} {g : Nat} (h : w.ownsRow base T size v n xs) (hv : v.ownBlock = some g) : (w.setCell ⟨g, j, none⟩ u).ownsRow base T size v n (xs.set j u) := by
  obtain ⟨h1, h2⟩ := h
  refine ⟨by rw [List.length_set]; exact h1, ?_⟩
  rcases h2 with ⟨e, _⟩ | ⟨k, cap, cur, e, hb, hk, hc, hm, hs, ht⟩
  · rw [e] at hv; cases hv
  · rw [e] at hv
    injection hv with hv
    subst hv
    refine .inr ⟨k, cap, cur.setIfInBounds j u, e, hb, heap_set hk, hc, hm, by simpa using hs, ?_⟩
    rw [Array.toList_setIfInBounds, List.take_set, ht]
theorem own_cell {w : World} {base n size j : Nat} {T : TypeId} {v u : Value} {xs : List Value} {g : Nat} (h : w.ownsRow base T size v n xs) (hv : v.ownBlock = some g) (hj : xs[j]? = some u) : w.cell? ⟨g, j, none⟩ = some u ∧ w.frozen? ⟨g, j, none⟩ = false := by
  rcases h.2 with ⟨e, _⟩ | ⟨k, cap, cur, e, hb, hk, hc, hm, hs, ht⟩
  · rw [e] at hv; cases hv
  · rw [e] at hv
    injection hv with hv
    subst hv
    refine ⟨?_, frozen_of_row _ _ _ _ _ hk⟩
    rw [cell_of_row _ _ _ _ _ _ hk]
    rw [← ht, List.getElem?_take] at hj
    split at hj
    · rw [Array.getElem?_toList] at hj; exact hj
    · cases hj

/-- A side's rows behind an order that was put in. -/
def PutR (s : Int) (o : Od) (R R' : List Rw) : Prop :=
  ∃ A B r' M, R = A ++ M ++ B ∧ R' = A ++ r' :: B ∧ r'.pr = o.price ∧ (∀ a ∈ A, betN s a.pr o.price = true) ∧ (∀ b ∈ B, betN s o.price b.pr = true) ∧
    ((M = [] ∧ r'.q = [o]) ∨ ∃ r, M = [r] ∧ r.pr = o.price ∧ r'.q = putQ o r.q)
theorem putR_ok {s : Int} (hs : s = 1 ∨ s = 2) {o : Od} (ho : o.side = s) {R R' : List Rw} (h : SideOk s R) (hi : ∀ x ∈ flatR R, ¬ x.id = o.id) (hp : PutR s o R R') : SideOk s R' ∧ (flatR R').Perm (o :: flatR R) := by
  obtain ⟨A, B, r', M, rfl, rfl, hpr, hA, hB, hM⟩ := hp
  rcases hM with ⟨rfl, hq⟩ | ⟨r, rfl, hr, hq⟩
  · refine ⟨side_set hA hB h hpr (by rw [hq]; simp) (fun x hx => by rw [hq, List.mem_singleton] at hx; subst hx; exact ⟨ho, rfl⟩) (by rw [hq]; simp), ?_⟩
    unfold flatR
    rw [List.append_nil, List.flatMap_append, List.flatMap_cons, hq, List.flatMap_append]
    exact List.perm_middle
  · have hr' : r ∈ A ++ [r] ++ B := by simp
    have hm := h.mem r hr'
    refine ⟨side_set hA hB h hpr ?_ (fun x hx => ?_) ?_, ?_⟩
    · rw [hq]
      intro e
      have := putQ_len o r.q
      rw [e] at this
      cases this
    · rw [hq] at hx
      rcases List.mem_cons.1 ((putQ_perm o r.q).mem_iff.1 hx) with rfl | hx
      · exact ⟨ho, rfl⟩
      · rw [← hr]; exact hm x hx
    · rw [hq]
      exact putQ_ok hs ⟨ho, rfl⟩ (fun x hx => by rw [← hr]; exact hm x hx) (h.que r hr') (fun x hx => hi x (List.mem_flatMap.2 ⟨r, hr', hx⟩))
    · unfold flatR
      rw [List.flatMap_append, List.flatMap_cons, List.flatMap_append, List.flatMap_append, hq]
      simp only [List.flatMap_cons, List.flatMap_nil, List.append_nil, List.append_assoc]
      refine ((putQ_perm o r.q).append_right _).append_left _ |>.trans ?_
      exact List.perm_middle
/-- Where the rows are put together anew. -/
theorem putR_there {s : Int} {o : Od} {R : List Rw} (hs : s = 1 ∨ s = 2) (h : R.Pairwise (fun a b => betN s a.pr b.pr = true)) (hk : atN s o.price R < R.length) (hp : (R[atN s o.price R]!).pr = o.price) (v : Value) :
    PutR s o R (R.take (atN s o.price R) ++ ⟨o.price, v, putQ o (R[atN s o.price R]!).q⟩ :: R.drop (atN s o.price R + 1)) := by
  obtain ⟨h1, h2, h3, h4⟩ := row_split (p := o.price) hs h
  have e : R.drop (atN s o.price R) = R[atN s o.price R]! :: R.drop (atN s o.price R + 1) := by
    rw [getElem!_pos R _ hk, ← List.drop_eq_getElem_cons hk]
  refine ⟨R.take (atN s o.price R), R.drop (atN s o.price R + 1), _, [R[atN s o.price R]!], ?_, rfl, rfl, h1, h4 _ _ e hp, .inr ⟨_, rfl, hp, rfl⟩⟩
  rw [List.append_assoc, List.singleton_append, ← e, List.take_append_drop]
theorem putR_new {s : Int} {o : Od} {R : List Rw} (hs : s = 1 ∨ s = 2) (h : R.Pairwise (fun a b => betN s a.pr b.pr = true)) (hp : ¬ (atN s o.price R < R.length ∧ (R[atN s o.price R]!).pr = o.price)) (v : Value) :
    PutR s o R (R.take (atN s o.price R) ++ ⟨o.price, v, [o]⟩ :: R.drop (atN s o.price R)) := by
  obtain ⟨h1, h2, h3, h4⟩ := row_split (p := o.price) hs h
  refine ⟨R.take (atN s o.price R), R.drop (atN s o.price R), _, [], by rw [List.append_nil, List.take_append_drop], rfl, rfl, h1, ?_, .inl ⟨rfl, rfl⟩⟩
  by_cases hk : atN s o.price R < R.length
  · have e : R.drop (atN s o.price R) = R[atN s o.price R]! :: R.drop (atN s o.price R + 1) := by
      rw [getElem!_pos R _ hk, ← List.drop_eq_getElem_cons hk]
    have := h3 _ _ e (fun hq => hp ⟨hk, hq⟩)
    rwa [← e] at this
  · rw [List.drop_eq_nil_of_le (by omega)]
    intro b hb; cases hb
end Go.Proofs.Ytailiaobbgikfaa
