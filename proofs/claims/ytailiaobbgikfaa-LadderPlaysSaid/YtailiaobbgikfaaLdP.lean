/- ladder: a book's rows, in plain words. -/
import Derived.Test.YtailiaobbgikfaaLdA
import Derived.Test.YtailiaobbgikfaaOrP
namespace Go.Proofs.Ytailiaobbgikfaa
open Go.Sort Go.RowKit

def flatR (R : List Rw) : List Od := R.flatMap (·.q)
/-- A side's rows, as they must be. -/
structure SideOk (s : Int) (R : List Rw) : Prop where
  rows : R.Pairwise (fun a b => betN s a.pr b.pr = true)
  some : ∀ r ∈ R, r.q ≠ []
  mem : ∀ r ∈ R, ∀ x ∈ r.q, x.side = s ∧ x.price = r.pr
  que : ∀ r ∈ R, r.q.Pairwise (fun x y => ahdO x y = true)
theorem bet_iff (s a b : Int) : betN s a b = true ↔ (s = 1 ∧ b < a) ∨ (s = 2 ∧ a < b) := by
  unfold betN
  simp only [Bool.or_eq_true, Bool.and_eq_true, beq_iff_eq, decide_eq_true_iff]
theorem bet_tr {s a b c : Int} (h : betN s a b = true) (k : betN s b c = true) : betN s a c = true := by
  rw [bet_iff] at *; omega
theorem bet_tot {s a b : Int} (hs : s = 1 ∨ s = 2) (h : ¬ a = b) (k : betN s a b = false) : betN s b a = true := by
  have k' : ¬ betN s a b = true := by simp [k]
  rw [bet_iff] at *; omega
theorem ahd_tr {x y z : Od} (h : ahdO x y = true) (k : ahdO y z = true) : ahdO x z = true := by
  rw [ahd_iff] at *; omega
theorem ahd_tot {x y : Od} (h : x.side = y.side) (hs : x.side = 1 ∨ x.side = 2) (hp : x.price = y.price) (hi : ¬ x.id = y.id) (k : ahdO x y = false) : ahdO y x = true := by
  have k' : ¬ ahdO x y = true := by simp [k]
  rw [ahd_iff] at *; omega
theorem lt_of_ahd {x y : Od} (h : ahdO x y = true) : ltO x y = true := by
  unfold ltO
  have := (ahd_iff x y).1 h
  rw [h, this.1]; simp
theorem lt_bet {x y : Od} (h : x.side = y.side) (k : betN x.side x.price y.price = true) : ltO x y = true := by
  refine lt_of_ahd ?_
  rw [bet_iff] at k
  rw [ahd_iff]; omega
/-- What the first places of a row have that is one to one with its place. -/
theorem split_pw {α : Type} (f : α → Bool) : ∀ (l : List α), l.Pairwise (fun a b => f b = true → f a = true) →
    (∀ x ∈ l.take (l.countP f), f x = true) ∧ (∀ x ∈ l.drop (l.countP f), f x = false)
  | [], _ => by simp
  | x :: l, h => by
    rw [List.pairwise_cons] at h
    obtain ⟨i1, i2⟩ := split_pw f l h.2
    cases hf : f x with
    | true =>
      rw [List.countP_cons_of_pos hf]
      simp only [List.take_succ_cons, List.drop_succ_cons, List.mem_cons]
      exact ⟨fun y hy => by rcases hy with rfl | hy; exact hf; exact i1 y hy, i2⟩
    | false =>
      have h0 : l.countP f = 0 := by
        rw [List.countP_eq_zero]
        intro y hy hfy
        have := h.1 y hy hfy
        rw [hf] at this; cases this
      rw [List.countP_cons_of_neg (by simp [hf]), h0]
      refine ⟨by simp, fun y hy => ?_⟩
      rw [List.drop_zero] at hy
      rcases List.mem_cons.1 hy with rfl | hy
      · exact hf
      · cases hy' : f y with
        | false => rfl
        | true => have := h.1 y hy hy'; rw [hf] at this; cases this
/-- How many places below n hold it. -/
theorem countP_places {α : Type} (l : List α) (d : α) (f : α → Bool) : (List.range l.length).countP (fun i => f (l.getD i d)) = l.countP f := by
  have h : (List.range l.length).map (fun i => l.getD i d) = l := by
    apply List.ext_getElem
    · simp
    · intro i h1 h2
      simp [List.getD_eq_getElem?_getD, h2]
  conv => rhs; rw [← h, List.countP_map]
  rfl
theorem flat_pw {s : Int} {R : List Rw} (h : SideOk s R) : (flatR R).Pairwise (fun x y => ltO x y = true) := by
  unfold flatR
  rw [List.pairwise_flatMap]
  refine ⟨fun r hr => (h.que r hr).imp lt_of_ahd, ?_⟩
  have := h.rows
  rw [List.pairwise_iff_forall_sublist] at this ⊢
  intro a b hab x hx y hy
  have ha : a ∈ R := hab.subset (by simp)
  have hb : b ∈ R := hab.subset (by simp)
  have h1 := h.mem a ha x hx
  have h2 := h.mem b hb y hy
  have h3 := this hab
  refine lt_bet (by rw [h1.1, h2.1]) ?_
  rw [h1.1, h1.2, h2.2]; exact h3
theorem flat_side {s : Int} {R : List Rw} (h : SideOk s R) : ∀ x ∈ flatR R, x.side = s := by
  intro x hx
  obtain ⟨r, hr, hx⟩ := List.mem_flatMap.1 hx
  exact (h.mem r hr x hx).1
/-- Both sides' orders, as they trade. -/
def bookL (R1 R2 : List Rw) : List Od := flatR R1 ++ flatR R2
theorem book_pw {R1 R2 : List Rw} (h1 : SideOk 1 R1) (h2 : SideOk 2 R2) : (bookL R1 R2).Pairwise (fun x y => ltO x y = true) := by
  unfold bookL
  rw [List.pairwise_append]
  refine ⟨flat_pw h1, flat_pw h2, fun x hx y hy => ?_⟩
  have e1 := flat_side h1 x hx
  have e2 := flat_side h2 y hy
  unfold ltO rkN
  rw [e1, e2]
  rfl
theorem lt_irr (x : Od) : ltO x x = false := swo_ltO.irrefl x
theorem lt_asym {x y : Od} (h : ltO x y = true) : ltO y x = false := by
  cases k : ltO y x with
  | false => rfl
  | true =>
    have := swo_ltO.trans x y x h k
    rw [lt_irr] at this; cases this
/-- Two rows of the same orders, each as they trade, are one. -/
theorem uniq {A B : List Od} (h : A.Perm B) (ha : A.Pairwise (fun x y => ltO x y = true)) (hb : B.Pairwise (fun x y => ltO x y = true)) : A = B :=
  h.eq_of_pairwise (le := fun x y => ltO x y = true) (fun x y _ _ h1 h2 => by rw [lt_asym h1] at h2; cases h2) ha hb
theorem sortP_perm (L : List Od) : (sortO L).Perm L := by
  have h := (List.mergeSort_perm L.zipIdx (fun x y => !ltR ltO y x)).map Prod.fst
  rw [List.zipIdx_map_fst] at h
  exact h
theorem sortO_weak (L : List Od) : (sortO L).Pairwise (fun x y => ltO y x = false) := by
  have hR := swo_ltR swo_ltO
  have hm : (L.zipIdx.mergeSort (fun x y => !ltR ltO y x)).Pairwise (fun x y => ltR ltO y x = false) := by
    have := List.pairwise_mergeSort (le := fun x y => !ltR ltO y x) (fun a b c h1 h2 => by
      simp only [Bool.not_eq_true'] at *; exact hR.ntrans _ _ _ h2 h1) (fun a b => by
      cases h : ltR ltO b a with
      | true => have := hR.asymmA h; simp [this]
      | false => simp) L.zipIdx
    exact this.imp (fun h => by simpa using h)
  unfold sortO
  rw [List.pairwise_map]
  exact hm.imp (fun h => (ltR_no.1 h).1)
/-- What stands as it trades is what Sorted makes of the same orders. -/
theorem sortO_uniq {A L : List Od} (h : A.Perm L) (ha : A.Pairwise (fun x y => ltO x y = true)) : sortO L = A := by
  have hp := (sortP_perm L).trans h.symm
  have hn : A.Nodup := ha.imp (fun h e => by subst e; rw [lt_irr] at h; cases h)
  have ht : ∀ x ∈ A, ∀ y ∈ A, x ≠ y → ltO x y = true ∨ ltO y x = true := by
    intro x hx y hy hne
    obtain ⟨i, hi, rfl⟩ := List.mem_iff_getElem.1 hx
    obtain ⟨j, hj, rfl⟩ := List.mem_iff_getElem.1 hy
    rw [List.pairwise_iff_getElem] at ha
    rcases Nat.lt_trichotomy i j with h | h | h
    · exact .inl (ha i j hi hj h)
    · subst h; exact absurd rfl hne
    · exact .inr (ha j i hj hi h)
  refine uniq hp ?_ ha
  have hn' := hp.nodup_iff.2 hn
  have hw := sortO_weak L
  rw [List.pairwise_iff_forall_sublist] at hw ⊢
  intro x y hxy
  have hx := hp.mem_iff.1 (hxy.subset (by simp) : x ∈ sortO L)
  have hy := hp.mem_iff.1 (hxy.subset (by simp) : y ∈ sortO L)
  have hne : x ≠ y := by
    have := List.pairwise_iff_forall_sublist.1 hn' hxy
    exact this
  rcases ht x hx y hy hne with h | h
  · exact h
  · rw [hw hxy] at h; cases h

/-- How many rows are better than a price. -/
def atN (s p : Int) (R : List Rw) : Nat := R.countP (fun r => betN s r.pr p)
/-- How many orders of a queue are ahead of one. -/
def plN (o : Od) (q : List Od) : Nat := q.countP (fun x => ahdO x o)
theorem at_le (s p : Int) (R : List Rw) : atN s p R ≤ R.length := List.countP_le_length
theorem pl_le (o : Od) (q : List Od) : plN o q ≤ q.length := List.countP_le_length
theorem rows_mono {s p : Int} {R : List Rw} (h : R.Pairwise (fun a b => betN s a.pr b.pr = true)) : R.Pairwise (fun a b => betN s b.pr p = true → betN s a.pr p = true) :=
  h.imp (fun h k => bet_tr h k)
theorem que_mono {o : Od} {q : List Od} (h : q.Pairwise (fun x y => ahdO x y = true)) : q.Pairwise (fun x y => ahdO y o = true → ahdO x o = true) :=
  h.imp (fun h k => ahd_tr h k)
/-- An order's queue, with it. -/
def putQ (o : Od) (q : List Od) : List Od := q.take (plN o q) ++ o :: q.drop (plN o q)
theorem putQ_perm (o : Od) (q : List Od) : (putQ o q).Perm (o :: q) := by
  unfold putQ
  refine List.perm_middle.trans ?_
  rw [List.take_append_drop]
theorem putQ_ok {s : Int} (hs : s = 1 ∨ s = 2) {o : Od} {q : List Od} {p : Int} (ho : o.side = s ∧ o.price = p) (hm : ∀ x ∈ q, x.side = s ∧ x.price = p) (hq : q.Pairwise (fun x y => ahdO x y = true)) (hi : ∀ x ∈ q, ¬ x.id = o.id) :
    (putQ o q).Pairwise (fun x y => ahdO x y = true) := by
  obtain ⟨h1, h2⟩ := split_pw (fun x => ahdO x o) q (que_mono hq)
  have hq' := hq
  rw [← List.take_append_drop (plN o q) q, List.pairwise_append] at hq'
  obtain ⟨q1, q2, q3⟩ := hq'
  unfold putQ
  rw [List.pairwise_append, List.pairwise_cons]
  refine ⟨q1, ⟨fun y hy => ?_, q2⟩, fun x hx y hy => ?_⟩
  · have hy' := List.mem_of_mem_drop hy
    have := hm y hy'
    exact ahd_tot (by rw [this.1, ho.1]) (by rw [this.1]; exact hs) (by rw [this.2, ho.2]) (hi y hy') (h2 y hy)
  · rcases List.mem_cons.1 hy with rfl | hy
    · exact h1 x hx
    · exact q3 x hx y hy
/-- There is a row of that price just where the first one that is not better has it. -/
theorem row_split {s p : Int} (hs : s = 1 ∨ s = 2) {R : List Rw} (h : R.Pairwise (fun a b => betN s a.pr b.pr = true)) :
    (∀ r ∈ R.take (atN s p R), betN s r.pr p = true) ∧ (∀ r ∈ R.drop (atN s p R), betN s r.pr p = false) ∧
    (∀ r R', R.drop (atN s p R) = r :: R' → ¬ r.pr = p → ∀ y ∈ r :: R', betN s p y.pr = true) ∧
    (∀ r R', R.drop (atN s p R) = r :: R' → r.pr = p → ∀ y ∈ R', betN s p y.pr = true) := by
  obtain ⟨h1, h2⟩ := split_pw (fun r : Rw => betN s r.pr p) R (rows_mono h)
  refine ⟨h1, h2, fun r R' e hr y hy => ?_, fun r R' e hr y hy => ?_⟩
  · have hd : (R.drop (atN s p R)).Pairwise (fun a b => betN s a.pr b.pr = true) := List.Pairwise.sublist (List.drop_sublist _ _) h
    have hr' : betN s p r.pr = true := bet_tot hs hr (h2 r (by unfold atN at e; rw [e]; simp))
    rw [e, List.pairwise_cons] at hd
    rcases List.mem_cons.1 hy with rfl | hy
    · exact hr'
    · exact bet_tr hr' (hd.1 y hy)
  · have hd : (R.drop (atN s p R)).Pairwise (fun a b => betN s a.pr b.pr = true) := List.Pairwise.sublist (List.drop_sublist _ _) h
    rw [e, List.pairwise_cons] at hd
    rw [← hr]
    exact hd.1 y hy
/-- A side whose row at a price is put in the place of what stood there (A ++ M ++ B: M nothing, or the row of that price). -/
theorem side_set {s p : Int} {A B : List Rw} {r : Rw} (hA : ∀ a ∈ A, betN s a.pr p = true) (hB : ∀ b ∈ B, betN s p b.pr = true) {M : List Rw} (h : SideOk s (A ++ M ++ B)) (hr : r.pr = p) (hq : r.q ≠ []) (hm : ∀ x ∈ r.q, x.side = s ∧ x.price = p) (hp : r.q.Pairwise (fun x y => ahdO x y = true)) :
    SideOk s (A ++ r :: B) := by
  have hmem : ∀ y, y ∈ A ++ r :: B → y = r ∨ y ∈ A ++ M ++ B := by
    intro y hy
    simp only [List.mem_append, List.mem_cons] at hy ⊢
    rcases hy with h | rfl | h
    · exact .inr (.inl (.inl h))
    · exact .inl rfl
    · exact .inr (.inr h)
  refine ⟨?_, fun y hy => ?_, fun y hy => ?_, fun y hy => ?_⟩
  · have := h.rows
    rw [List.append_assoc, List.pairwise_append] at this
    obtain ⟨a1, a2, a3⟩ := this
    rw [List.pairwise_append] at a2
    rw [List.pairwise_append, List.pairwise_cons]
    refine ⟨a1, ⟨fun b hb => by rw [hr]; exact hB b hb, a2.2.1⟩, fun a ha b hb => ?_⟩
    rcases List.mem_cons.1 hb with rfl | hb
    · rw [hr]; exact hA a ha
    · exact a3 a ha b (by simp [hb])
  · rcases hmem y hy with rfl | h'; exact hq; exact h.some y h'
  · rcases hmem y hy with rfl | h'
    · rw [hr]; exact hm
    · exact h.mem y h'
  · rcases hmem y hy with rfl | h'; exact hp; exact h.que y h'
theorem side_drop {s : Int} {A M B : List Rw} (h : SideOk s (A ++ M ++ B)) : SideOk s (A ++ B) := by
  have hmem : ∀ y, y ∈ A ++ B → y ∈ A ++ M ++ B := by
    intro y hy
    simp only [List.mem_append] at hy ⊢
    rcases hy with h | h
    · exact .inl (.inl h)
    · exact .inr h
  refine ⟨List.Pairwise.sublist ?_ h.rows, fun y hy => h.some y (hmem y hy), fun y hy => h.mem y (hmem y hy), fun y hy => h.que y (hmem y hy)⟩
  rw [List.append_assoc]
  exact (List.sublist_append_right M B).append_left A
end Go.Proofs.Ytailiaobbgikfaa
