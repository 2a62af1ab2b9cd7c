/- LdA LdP LdB LdC LdD LdE LdF LdI LdG LdH LdJ LdK LdL LdM LdN LdO LdQ LdR LdS LdT GvP GvA GvB GvC GvD GvE GvF GvG, in one text. (By mkgm.py.) -/
import Derived.Test.YtgbmgdffgmablaaOrC
import Derived.Test.YtgbmgdffgmablaaShelfS
import Derived.Shelf.SlSortCmp.QuietGrown
import Derived.Test.YtgbmgdffgmablaaOrP
import Derived.Test.YtgbmgdffgmablaaOrD
import Derived.Maps.OwnSet
import Derived.RangeFuncNested
import Derived.RangeFuncBound
import Derived.RangeFuncCalls
import Derived.RangeFuncLeaves
import Derived.Shelf.Abstract
import Derived.Shelf.RegionOpen
import Derived.OwnWalkIn
import Derived.TacticsInMore
import Derived.LoopNIn
import Derived.LoopIn
import Derived.Test.YtgbmgdffgmablaaOrX
import Derived.Shelf.Spec.SlicesInsert
import Derived.Lib.AppendZerosOnto
import Derived.Lib.Overlaps
import Derived.Laws.CopyRow
import Derived.Laws.CopyOwn
import Derived.Maps.OwnIn
import Derived.ScopeJumps
import Derived.Deep.QuietTactic
import Derived.BigQuiet
import Derived.WalkMore

/- ladder: rows in memory; where a price's row is, where an order stands in a queue. -/
namespace Go.Proofs.Ytgbmgdffgmablaa
open Go.RowKit Go.Sort

/-- A price's row: the price, the queue's slice, its orders. -/
structure Rw where
  pr : Int
  v : Value
  q : List Od
instance : Inhabited Rw := ⟨⟨0, .slice none 0 0, []⟩⟩
def Rw.cs (r : Rw) : List Value := [.int .i64 r.pr, r.v]
def rl (R : List Rw) : List Value := R.flatMap Rw.cs
theorem rl_len (R : List Rw) : (rl R).length = R.length * 2 := by
  induction R with
  | nil => rfl
  | cons r R ih => unfold rl at *; rw [List.flatMap_cons, List.length_append, ih, List.length_cons]; simp [Rw.cs]; omega
theorem rl_get : ∀ (R : List Rw) (i c : Nat), i < R.length → c < 2 → (rl R)[i * 2 + c]? = (R[i]!).cs[c]?
  | [], i, _, h, _ => absurd h (Nat.not_lt_zero _)
  | r :: R, 0, c, _, hc => by
    show (r.cs ++ rl R)[0 * 2 + c]? = _
    rw [List.getElem?_append_left (by simp [Rw.cs]; omega), Nat.zero_mul, Nat.zero_add]
    rfl
  | r :: R, i + 1, c, h, hc => by
    show (r.cs ++ rl R)[(i + 1) * 2 + c]? = _
    rw [List.getElem?_append_right (by simp [Rw.cs]; omega), show (i + 1) * 2 + c - r.cs.length = i * 2 + c by simp [Rw.cs]; omega]
    rw [rl_get R i c (by simpa using h) hc]
    rfl
/-- Rows in a slice. -/
def RowsAt (w : World) (a : Option Addr) (n : Nat) (R : List Rw) : Prop :=
  R.length = n ∧ (n = 0 ∨ ∃ g, a = some ⟨g, 0, none⟩ ∧ g < w.heap.size ∧ ∀ i, i < n → w.cell? ⟨g, i * 2, none⟩ = some (.int .i64 (R[i]!).pr) ∧ w.cell? ⟨g, i * 2 + 1, none⟩ = some (R[i]!).v)
theorem own_rows {w : World} {base n : Nat} {T : TypeId} {v : Value} {R : List Rw} (h : w.ownsRow base T 2 v n (rl R)) : ∃ A c, v = .slice A n c ∧ RowsAt w A n R := by
  obtain ⟨h1, h2⟩ := h
  rw [rl_len] at h1
  have hl : R.length = n := by omega
  rcases h2 with ⟨hv, h0⟩ | ⟨k, cap, cur, hv, _, hk, hc, hm, hs, ht⟩
  · subst h0; exact ⟨none, 0, hv, hl, .inl rfl⟩
  · refine ⟨_, _, hv, hl, .inr ⟨k, rfl, blk_lt hk, fun i hi => ?_⟩⟩
    have hcell : ∀ j v, (rl R)[j]? = some v → w.cell? ⟨k, j, none⟩ = some v := by
      intro j v hj
      rw [← ht, List.getElem?_take] at hj
      split at hj
      · rw [Array.getElem?_toList] at hj
        rw [cell_of_row _ _ _ _ _ _ hk, hj]
      · cases hj
    exact ⟨hcell (i * 2 + 0) _ ((rl_get R i 0 (by omega) (by omega)).trans rfl), hcell (i * 2 + 1) _ ((rl_get R i 1 (by omega) (by omega)).trans rfl)⟩
theorem better_q (s a b : Int) (w : World) : Calls Try.prog 56 #[.int .i64 s, .int .i64 a, .int .i64 b] w fun e w' => e = .returned (.bool (betN s a b)) ∧ w' = w := (better_c s a b w).mono fun _ _ ⟨h1, h2⟩ => ⟨h1, h2.symm⟩
end Go.Proofs.Ytgbmgdffgmablaa

/- ladder: a book's rows, in plain words. -/
namespace Go.Proofs.Ytgbmgdffgmablaa
open Go.Sort Go.RowKit

def flatR (R : List Rw) : List Od := R.flatMap (·.q)
/-- A side's rows, as they must be. -/
structure SideOk (s : Int) (R : List Rw) : Prop where
  rows : R.Pairwise (fun a b => betN s a.pr b.pr = true)
  some : ∀ r ∈ R, r.q ≠ []
  mem : ∀ r ∈ R, ∀ x ∈ r.q, x.side = s ∧ x.price = r.pr
  que : ∀ r ∈ R, r.q.Pairwise (fun x y => ahdO x y = true)
theorem bet_iff (s a b : Int) : betN s a b = true ↔ (s = 1 ∧ b < a) ∨ (s = 2 ∧ a < b) := by
  unfold betN
  simp only [Bool.or_eq_true, Bool.and_eq_true, beq_iff_eq, decide_eq_true_iff]
theorem bet_tr {s a b c : Int} (h : betN s a b = true) (k : betN s b c = true) : betN s a c = true := by
  rw [bet_iff] at *; omega
theorem bet_tot {s a b : Int} (hs : s = 1 ∨ s = 2) (h : ¬ a = b) (k : betN s a b = false) : betN s b a = true := by
  have k' : ¬ betN s a b = true := by simp [k]
  rw [bet_iff] at *; omega
theorem ahd_tr {x y z : Od} (h : ahdO x y = true) (k : ahdO y z = true) : ahdO x z = true := by
  rw [ahd_iff] at *; omega
theorem ahd_tot {x y : Od} (h : x.side = y.side) (hs : x.side = 1 ∨ x.side = 2) (hp : x.price = y.price) (hi : ¬ x.id = y.id) (k : ahdO x y = false) : ahdO y x = true := by
  have k' : ¬ ahdO x y = true := by simp [k]
  rw [ahd_iff] at *; omega
theorem lt_of_ahd {x y : Od} (h : ahdO x y = true) : ltO x y = true := by
  unfold ltO
  have := (ahd_iff x y).1 h
  rw [h, this.1]; simp
theorem lt_bet {x y : Od} (h : x.side = y.side) (k : betN x.side x.price y.price = true) : ltO x y = true := by
  refine lt_of_ahd ?_
  rw [bet_iff] at k
  rw [ahd_iff]; omega
/-- What the first places of a row have that is one to one with its place. -/
theorem split_pw {α : Type} (f : α → Bool) : ∀ (l : List α), l.Pairwise (fun a b => f b = true → f a = true) →
    (∀ x ∈ l.take (l.countP f), f x = true) ∧ (∀ x ∈ l.drop (l.countP f), f x = false)
  | [], _ => by simp
  | x :: l, h => by
    rw [List.pairwise_cons] at h
    obtain ⟨i1, i2⟩ := split_pw f l h.2
    cases hf : f x with
    | true =>
      rw [List.countP_cons_of_pos hf]
      simp only [List.take_succ_cons, List.drop_succ_cons, List.mem_cons]
      exact ⟨fun y hy => by rcases hy with rfl | hy; exact hf; exact i1 y hy, i2⟩
    | false =>
      have h0 : l.countP f = 0 := by
        rw [List.countP_eq_zero]
        intro y hy hfy
        have := h.1 y hy hfy
        rw [hf] at this; cases this
      rw [List.countP_cons_of_neg (by simp [hf]), h0]
      refine ⟨by simp, fun y hy => ?_⟩
      rw [List.drop_zero] at hy
      rcases List.mem_cons.1 hy with rfl | hy
      · exact hf
      · cases hy' : f y with
        | false => rfl
        | true => have := h.1 y hy hy'; rw [hf] at this; cases this
/-- How many places below n hold it. -/
theorem countP_places {α : Type} (l : List α) (d : α) (f : α → Bool) : (List.range l.length).countP (fun i => f (l.getD i d)) = l.countP f := by
  have h : (List.range l.length).map (fun i => l.getD i d) = l := by
    apply List.ext_getElem
    · simp
    · intro i h1 h2
      simp [List.getD_eq_getElem?_getD, h2]
  conv => rhs; rw [← h, List.countP_map]
  rfl
theorem flat_pw {s : Int} {R : List Rw} (h : SideOk s R) : (flatR R).Pairwise (fun x y => ltO x y = true) := by
  unfold flatR
  rw [List.pairwise_flatMap]
  refine ⟨fun r hr => (h.que r hr).imp lt_of_ahd, ?_⟩
  have := h.rows
  rw [List.pairwise_iff_forall_sublist] at this ⊢
  intro a b hab x hx y hy
  have ha : a ∈ R := hab.subset (by simp)
  have hb : b ∈ R := hab.subset (by simp)
  have h1 := h.mem a ha x hx
  have h2 := h.mem b hb y hy
  have h3 := this hab
  refine lt_bet (by rw [h1.1, h2.1]) ?_
  rw [h1.1, h1.2, h2.2]; exact h3
theorem flat_side {s : Int} {R : List Rw} (h : SideOk s R) : ∀ x ∈ flatR R, x.side = s := by
  intro x hx
  obtain ⟨r, hr, hx⟩ := List.mem_flatMap.1 hx
  exact (h.mem r hr x hx).1
/-- Both sides' orders, as they trade. -/
def bookL (R1 R2 : List Rw) : List Od := flatR R1 ++ flatR R2
theorem book_pw {R1 R2 : List Rw} (h1 : SideOk 1 R1) (h2 : SideOk 2 R2) : (bookL R1 R2).Pairwise (fun x y => ltO x y = true) := by
  unfold bookL
  rw [List.pairwise_append]
  refine ⟨flat_pw h1, flat_pw h2, fun x hx y hy => ?_⟩
  have e1 := flat_side h1 x hx
  have e2 := flat_side h2 y hy
  unfold ltO rkN
  rw [e1, e2]
  rfl
theorem lt_irr (x : Od) : ltO x x = false := swo_ltO.irrefl x
theorem lt_asym {x y : Od} (h : ltO x y = true) : ltO y x = false := by
  cases k : ltO y x with
  | false => rfl
  | true =>
    have := swo_ltO.trans x y x h k
    rw [lt_irr] at this; cases this
/-- Two rows of the same orders, each as they trade, are one. -/
theorem uniq {A B : List Od} (h : A.Perm B) (ha : A.Pairwise (fun x y => ltO x y = true)) (hb : B.Pairwise (fun x y => ltO x y = true)) : A = B :=
  h.eq_of_pairwise (le := fun x y => ltO x y = true) (fun x y _ _ h1 h2 => by rw [lt_asym h1] at h2; cases h2) ha hb
theorem sortP_perm (L : List Od) : (sortO L).Perm L := by
  have h := (List.mergeSort_perm L.zipIdx (fun x y => !ltR ltO y x)).map Prod.fst
  rw [List.zipIdx_map_fst] at h
  exact h
theorem sortO_weak (L : List Od) : (sortO L).Pairwise (fun x y => ltO y x = false) := by
  have hR := swo_ltR swo_ltO
  have hm : (L.zipIdx.mergeSort (fun x y => !ltR ltO y x)).Pairwise (fun x y => ltR ltO y x = false) := by
    have := List.pairwise_mergeSort (le := fun x y => !ltR ltO y x) (fun a b c h1 h2 => by
      simp only [Bool.not_eq_true'] at *; exact hR.ntrans _ _ _ h2 h1) (fun a b => by
      cases h : ltR ltO b a with
      | true => have := hR.asymmA h; simp [this]
      | false => simp) L.zipIdx
    exact this.imp (fun h => by simpa using h)
  unfold sortO
  rw [List.pairwise_map]
  exact hm.imp (fun h => (ltR_no.1 h).1)
/-- What stands as it trades is what Sorted makes of the same orders. -/
theorem sortO_uniq {A L : List Od} (h : A.Perm L) (ha : A.Pairwise (fun x y => ltO x y = true)) : sortO L = A := by
  have hp := (sortP_perm L).trans h.symm
  have hn : A.Nodup := ha.imp (fun h e => by subst e; rw [lt_irr] at h; cases h)
  have ht : ∀ x ∈ A, ∀ y ∈ A, x ≠ y → ltO x y = true ∨ ltO y x = true := by
    intro x hx y hy hne
    obtain ⟨i, hi, rfl⟩ := List.mem_iff_getElem.1 hx
    obtain ⟨j, hj, rfl⟩ := List.mem_iff_getElem.1 hy
    rw [List.pairwise_iff_getElem] at ha
    rcases Nat.lt_trichotomy i j with h | h | h
    · exact .inl (ha i j hi hj h)
    · subst h; exact absurd rfl hne
    · exact .inr (ha j i hj hi h)
  refine uniq hp ?_ ha
  have hn' := hp.nodup_iff.2 hn
  have hw := sortO_weak L
  rw [List.pairwise_iff_forall_sublist] at hw ⊢
  intro x y hxy
  have hx := hp.mem_iff.1 (hxy.subset (by simp) : x ∈ sortO L)
  have hy := hp.mem_iff.1 (hxy.subset (by simp) : y ∈ sortO L)
  have hne : x ≠ y := by
    have := List.pairwise_iff_forall_sublist.1 hn' hxy
    exact this
  rcases ht x hx y hy hne with h | h
  · exact h
  · rw [hw hxy] at h; cases h

/-- How many rows are better than a price. -/
def atN (s p : Int) (R : List Rw) : Nat := R.countP (fun r => betN s r.pr p)
/-- How many orders of a queue are ahead of one. -/
def plN (o : Od) (q : List Od) : Nat := q.countP (fun x => ahdO x o)
theorem at_le (s p : Int) (R : List Rw) : atN s p R ≤ R.length := List.countP_le_length
theorem pl_le (o : Od) (q : List Od) : plN o q ≤ q.length := List.countP_le_length
theorem rows_mono {s p : Int} {R : List Rw} (h : R.Pairwise (fun a b => betN s a.pr b.pr = true)) : R.Pairwise (fun a b => betN s b.pr p = true → betN s a.pr p = true) :=
  h.imp (fun h k => bet_tr h k)
theorem que_mono {o : Od} {q : List Od} (h : q.Pairwise (fun x y => ahdO x y = true)) : q.Pairwise (fun x y => ahdO y o = true → ahdO x o = true) :=
  h.imp (fun h k => ahd_tr h k)
/-- An order's queue, with it. -/
def putQ (o : Od) (q : List Od) : List Od := q.take (plN o q) ++ o :: q.drop (plN o q)
theorem putQ_perm (o : Od) (q : List Od) : (putQ o q).Perm (o :: q) := by
  unfold putQ
  refine List.perm_middle.trans ?_
  rw [List.take_append_drop]
theorem putQ_ok {s : Int} (hs : s = 1 ∨ s = 2) {o : Od} {q : List Od} {p : Int} (ho : o.side = s ∧ o.price = p) (hm : ∀ x ∈ q, x.side = s ∧ x.price = p) (hq : q.Pairwise (fun x y => ahdO x y = true)) (hi : ∀ x ∈ q, ¬ x.id = o.id) :
    (putQ o q).Pairwise (fun x y => ahdO x y = true) := by
  obtain ⟨h1, h2⟩ := split_pw (fun x => ahdO x o) q (que_mono hq)
  have hq' := hq
  rw [← List.take_append_drop (plN o q) q, List.pairwise_append] at hq'
  obtain ⟨q1, q2, q3⟩ := hq'
  unfold putQ
  rw [List.pairwise_append, List.pairwise_cons]
  refine ⟨q1, ⟨fun y hy => ?_, q2⟩, fun x hx y hy => ?_⟩
  · have hy' := List.mem_of_mem_drop hy
    have := hm y hy'
    exact ahd_tot (by rw [this.1, ho.1]) (by rw [this.1]; exact hs) (by rw [this.2, ho.2]) (hi y hy') (h2 y hy)
  · rcases List.mem_cons.1 hy with rfl | hy
    · exact h1 x hx
    · exact q3 x hx y hy
/-- There is a row of that price just where the first one that is not better has it. -/
theorem row_split {s p : Int} (hs : s = 1 ∨ s = 2) {R : List Rw} (h : R.Pairwise (fun a b => betN s a.pr b.pr = true)) :
    (∀ r ∈ R.take (atN s p R), betN s r.pr p = true) ∧ (∀ r ∈ R.drop (atN s p R), betN s r.pr p = false) ∧
    (∀ r R', R.drop (atN s p R) = r :: R' → ¬ r.pr = p → ∀ y ∈ r :: R', betN s p y.pr = true) ∧
    (∀ r R', R.drop (atN s p R) = r :: R' → r.pr = p → ∀ y ∈ R', betN s p y.pr = true) := by
  obtain ⟨h1, h2⟩ := split_pw (fun r : Rw => betN s r.pr p) R (rows_mono h)
  refine ⟨h1, h2, fun r R' e hr y hy => ?_, fun r R' e hr y hy => ?_⟩
  · have hd : (R.drop (atN s p R)).Pairwise (fun a b => betN s a.pr b.pr = true) := List.Pairwise.sublist (List.drop_sublist _ _) h
    have hr' : betN s p r.pr = true := bet_tot hs hr (h2 r (by unfold atN at e; rw [e]; simp))
    rw [e, List.pairwise_cons] at hd
    rcases List.mem_cons.1 hy with rfl | hy
    · exact hr'
    · exact bet_tr hr' (hd.1 y hy)
  · have hd : (R.drop (atN s p R)).Pairwise (fun a b => betN s a.pr b.pr = true) := List.Pairwise.sublist (List.drop_sublist _ _) h
    rw [e, List.pairwise_cons] at hd
    rw [← hr]
    exact hd.1 y hy
/-- A side whose row at a price is put in the place of what stood there (A ++ M ++ B: M nothing, or the row of that price). -/
theorem side_set {s p : Int} {A B : List Rw} {r : Rw} (hA : ∀ a ∈ A, betN s a.pr p = true) (hB : ∀ b ∈ B, betN s p b.pr = true) {M : List Rw} (h : SideOk s (A ++ M ++ B)) (hr : r.pr = p) (hq : r.q ≠ []) (hm : ∀ x ∈ r.q, x.side = s ∧ x.price = p) (hp : r.q.Pairwise (fun x y => ahdO x y = true)) :
    SideOk s (A ++ r :: B) := by
  have hmem : ∀ y, y ∈ A ++ r :: B → y = r ∨ y ∈ A ++ M ++ B := by
    intro y hy
    simp only [List.mem_append, List.mem_cons] at hy ⊢
    rcases hy with h | rfl | h
    · exact .inr (.inl (.inl h))
    · exact .inl rfl
    · exact .inr (.inr h)
  refine ⟨?_, fun y hy => ?_, fun y hy => ?_, fun y hy => ?_⟩
  · have := h.rows
    rw [List.append_assoc, List.pairwise_append] at this
    obtain ⟨a1, a2, a3⟩ := this
    rw [List.pairwise_append] at a2
    rw [List.pairwise_append, List.pairwise_cons]
    refine ⟨a1, ⟨fun b hb => by rw [hr]; exact hB b hb, a2.2.1⟩, fun a ha b hb => ?_⟩
    rcases List.mem_cons.1 hb with rfl | hb
    · rw [hr]; exact hA a ha
    · exact a3 a ha b (by simp [hb])
  · rcases hmem y hy with rfl | h'; exact hq; exact h.some y h'
  · rcases hmem y hy with rfl | h'
    · rw [hr]; exact hm
    · exact h.mem y h'
  · rcases hmem y hy with rfl | h'; exact hp; exact h.que y h'
theorem side_drop {s : Int} {A M B : List Rw} (h : SideOk s (A ++ M ++ B)) : SideOk s (A ++ B) := by
  have hmem : ∀ y, y ∈ A ++ B → y ∈ A ++ M ++ B := by
    intro y hy
    simp only [List.mem_append] at hy ⊢
    rcases hy with h | h
    · exact .inl (.inl h)
    · exact .inr h
  refine ⟨List.Pairwise.sublist ?_ h.rows, fun y hy => h.some y (hmem y hy), fun y hy => h.mem y (hmem y hy), fun y hy => h.que y (hmem y hy)⟩
  rw [List.append_assoc]
  exact (List.sublist_append_right M B).append_left A
end Go.Proofs.Ytgbmgdffgmablaa

/- ladder: find, place. -/
namespace Go.Proofs.Ytgbmgdffgmablaa
open Go.RowKit Go.Sort Go.Shelf

/-- A queue in a slice. -/
def QueAt (w : World) (a : Option Addr) (n : Nat) (q : List Od) : Prop :=
  q.length = n ∧ (n = 0 ∨ ∃ g, a = some ⟨g, 0, none⟩ ∧ g < w.heap.size ∧ ∀ i, i < n → (q[i]!).at w g (i * 6))
theorem own_que {w : World} {base n : Nat} {T : TypeId} {v : Value} {L : List Od} (h : w.ownsRow base T 6 v n (ol L)) : ∃ A c, v = .slice A n c ∧ QueAt w A n L := by
  obtain ⟨h1, h2⟩ := h
  rw [ol_len] at h1
  have hl : L.length = n := by omega
  rcases h2 with ⟨hv, h0⟩ | ⟨k, cap, cur, hv, _, hk, hc, hm, hs, ht⟩
  · subst h0; exact ⟨none, 0, hv, hl, .inl rfl⟩
  · refine ⟨_, _, hv, hl, .inr ⟨k, rfl, blk_lt hk, fun i hi => ?_⟩⟩
    have hcell : ∀ j v, (ol L)[j]? = some v → w.cell? ⟨k, j, none⟩ = some v := by
      intro j v hj
      rw [← ht, List.getElem?_take] at hj
      split at hj
      · rw [Array.getElem?_toList] at hj
        rw [cell_of_row _ _ _ _ _ _ hk, hj]
      · cases hj
    have g : ∀ c v, c < 6 → (encO L[i]!)[c]? = some v → w.cell? ⟨k, i * 6 + c, none⟩ = some v := fun c v hc hv =>
      hcell (i * 6 + c) v ((ol_get L i c (by omega) hc).trans hv)
    exact ⟨g 0 _ (by omega) rfl, g 1 _ (by omega) rfl, g 2 _ (by omega) rfl, g 3 _ (by omega) rfl, g 4 _ (by omega) rfl, g 5 _ (by omega) rfl⟩
theorem cell_fr {S : Nat → Prop} {w w' : World} (hf : Fr S w w') {b : Nat} (hl : b < w.heap.size) (hn : ¬ S b) (o : Nat) : w'.cell? ⟨b, o, none⟩ = w.cell? ⟨b, o, none⟩ := World.cell?_of_block (w := w) (hf.block b hl hn)
theorem Od.at_fr {S : Nat → Prop} {w w' : World} {x : Od} {b o : Nat} (h : x.at w b o) (hl : b < w.heap.size) (hf : Fr S w w') (hn : ¬ S b) : x.at w' b o := by
  unfold Od.at at h ⊢
  simpa only [cell_fr hf hl hn] using h
theorem QueAt.fr {S : Nat → Prop} {w w' : World} {A : Option Addr} {n : Nat} {q : List Od} (h : QueAt w A n q) (hf : Fr S w w') (hn : ∀ g, A = some ⟨g, 0, none⟩ → ¬ S g) : QueAt w' A n q := by
  refine ⟨h.1, ?_⟩
  rcases h.2 with h0 | ⟨g, rfl, hg, hc⟩
  · exact .inl h0
  · exact .inr ⟨g, rfl, Nat.lt_of_lt_of_le hg hf.size, fun i hi => Od.at_fr (hc i hi) hg hf (hn g rfl)⟩
theorem QueAt.gw {w w' : World} {A : Option Addr} {n : Nat} {q : List Od} (h : QueAt w A n q) (hf : Gw w w') : QueAt w' A n q :=
  h.fr (S := fun _ => False) (Fr.of_below hf.b) (fun _ _ h => h)
theorem RowsAt.fr {S : Nat → Prop} {w w' : World} {A : Option Addr} {n : Nat} {R : List Rw} (h : RowsAt w A n R) (hf : Fr S w w') (hn : ∀ g, A = some ⟨g, 0, none⟩ → ¬ S g) : RowsAt w' A n R := by
  refine ⟨h.1, ?_⟩
  rcases h.2 with h0 | ⟨g, rfl, hg, hc⟩
  · exact .inl h0
  · exact .inr ⟨g, rfl, Nat.lt_of_lt_of_le hg hf.size, fun i hi => by
      rw [cell_fr hf hg (hn g rfl), cell_fr hf hg (hn g rfl)]
      exact hc i hi⟩
theorem RowsAt.gw {w w' : World} {A : Option Addr} {n : Nat} {R : List Rw} (h : RowsAt w A n R) (hf : Gw w w') : RowsAt w' A n R :=
  h.fr (S := fun _ => False) (Fr.of_below hf.b) (fun _ _ h => h)
theorem Gw.of_grow (w : World) (m : Nat) (os : Array Obj) : Gw w (Go.Sort.grow (w.drewN m) os) := ⟨below_grown_sl _ _ _ _ (Nat.le_refl _), Nat.le_add_right _ _⟩
theorem hmf_any : ∀ (fn : Fn) (first cap : Array Value) (w : World), (Instr.makeFunc fn first cap).run Try.prog w = .ok (.func fn first cap) w := fun _ _ _ _ => rfl
/-- In a strict order of places, 'not yet' holds below, and no more from some place on. -/
theorem mono_not {α : Type} [Inhabited α] {l : List α} {f : α → Bool} (h : l.Pairwise (fun a b => f b = true → f a = true)) : ∀ a b, a ≤ b → b < l.length → (!f l[a]!) = true → (!f l[b]!) = true := by
  intro a b hab hb ha
  rcases Nat.eq_or_lt_of_le hab with rfl | hlt
  · exact ha
  · rw [List.pairwise_iff_getElem] at h
    rw [getElem!_pos l a (by omega)] at ha
    rw [getElem!_pos l b hb]
    have := h a b (by omega) hb hlt
    cases hf : f l[b] with
    | false => rfl
    | true => rw [this hf] at ha; cases ha
theorem count_not {α : Type} [Inhabited α] (l : List α) (f : α → Bool) : (List.range l.length).countP (fun i => !!f l[i]!) = l.countP f := by
  rw [← countP_places l default f]
  congr 1
  funext i
  rw [Bool.not_not, List.getElem!_eq_getElem?_getD, List.getD_eq_getElem?_getD]
end Go.Proofs.Ytgbmgdffgmablaa

/- ladder: a book in memory; made, side, New. -/
namespace Go.Proofs.Ytgbmgdffgmablaa
open Go.RowKit Go.Sort Go.Shelf Go.Maps

/-- A side: is it in the map; its rows' slice; the rows. -/
structure Sd where
  there : Bool
  v : Value
  rs : List Rw
abbrev v0 : Value := .slice none 0 0
def nilS : Sd := ⟨false, v0, []⟩
def mapD (s1 s2 : Sd) : DataW Value :=
  .map ((if s1.there then [(.int .i64 1, .held s1.v)] else []) ++ (if s2.there then [(.int .i64 2, .held s2.v)] else []))
def RV (v : Value) : Option (DataW Value × List MemPlace) := some (.held v, [])
/-- What a side's look-up tells. -/
def rowsOf (s1 s2 : Sd) (side : Int) : Value := if side = 1 then s1.v else if side = 2 then s2.v else v0
theorem keyI : Keyed Try.prog 3 := int_keyed Try.underlying3
theorem mapD_at (s1 s2 : Sd) (h1 : s1.there = false → s1.v = v0) (h2 : s2.there = false → s2.v = v0) (side : Int) : (mapD s1 s2).atKey (.int .i64 side) (.held v0) = .held (rowsOf s1 s2 side) := by
  obtain ⟨t1, a1, r1⟩ := s1
  obtain ⟨t2, a2, r2⟩ := s2
  simp only at h1 h2
  unfold rowsOf
  by_cases e1 : side = 1
  · subst e1
    cases t1 <;> cases t2 <;> simp [mapD, DataW.atKey, Lit.sameKey] <;> simp_all
  · by_cases e2 : side = 2
    · subst e2
      cases t1 <;> cases t2 <;> simp [mapD, DataW.atKey, Lit.sameKey] <;> simp_all
    · have e1' : ¬ (1 : Int) = side := fun h => e1 h.symm
      have e2' : ¬ (2 : Int) = side := fun h => e2 h.symm
      cases t1 <;> cases t2 <;> simp [mapD, DataW.atKey, Lit.sameKey, e1, e2, e1', e2']
/-- A side is put into the map. -/
theorem map_put1 (s1 s2 : Sd) (v : Value) (rs : List Rw) : (mapD s1 s2).put (.int .i64 1) (.held v) = mapD ⟨true, v, rs⟩ s2 := by
  obtain ⟨t1, a1, r1⟩ := s1
  obtain ⟨t2, a2, r2⟩ := s2
  cases t1 <;> cases t2 <;> simp [mapD, DataW.put, DataW.insert, Lit.sameKey, Lit.before]
theorem map_put2 (s1 s2 : Sd) (v : Value) (rs : List Rw) : (mapD s1 s2).put (.int .i64 2) (.held v) = mapD s1 ⟨true, v, rs⟩ := by
  obtain ⟨t1, a1, r1⟩ := s1
  obtain ⟨t2, a2, r2⟩ := s2
  cases t1 <;> cases t2 <;> simp [mapD, DataW.put, DataW.insert, Lit.sameKey, Lit.before]
theorem mapD_size (s1 s2 : Sd) : Maps.size (mapD s1 s2) ≤ 2 := by
  obtain ⟨t1, a1, r1⟩ := s1
  obtain ⟨t2, a2, r2⟩ := s2
  cases t1 <;> cases t2 <;> simp [mapD, Maps.size]
theorem map_two {w : World} {m n : Nat} {s1 s2 : Sd} (h : w.ownsMap Try.prog 3 RV m n (mapD s1 s2)) : w.ownsMap Try.prog 3 RV m 2 (mapD s1 s2) := by
  have hz := mapD_size s1 s2
  obtain ⟨es, clock, hb, F, _, hD⟩ := h
  refine ⟨es, clock, hb, F, ?_, hD⟩
  rw [hD] at hz
  simpa [Maps.size, length_sorted] using hz

/-- The blocks of a book. -/
def foot (b : Option Addr) (m : Option Nat) (s1 s2 : Sd) (k : Nat) : Prop :=
  b = some ⟨k, 0, none⟩ ∨ m = some k ∨ s1.v.ownBlock = some k ∨ s2.v.ownBlock = some k ∨ ∃ r ∈ s1.rs ++ s2.rs, r.v.ownBlock = some k
theorem ownsMap_fr {S : Nat → Prop} {w w' : World} {P : Program} {k : TypeId} {R : Value → Option (DataW Value × List MemPlace)} {b n : Nat} {D : DataW Value} (h : w.ownsMap P k R b n D) (hf : Fr S w w') (hn : ¬ S b) : w'.ownsMap P k R b n D := by
  have hlt := h.lt
  obtain ⟨es, clock, hb, F, hs, hD⟩ := h
  exact ⟨es, clock, (hf.block b hlt hn).trans hb, F, hs, hD⟩
theorem rowsOf_nil (side : Int) : rowsOf nilS nilS side = v0 := by
  unfold rowsOf nilS
  (repeat' split) <;> rfl
end Go.Proofs.Ytgbmgdffgmablaa

/- ladder: over: the rows of sides, gone over. -/
namespace Go.Proofs.Ytgbmgdffgmablaa
open Go.RowKit Go.Shelf

attribute [local go_sem] Oper.semAt_some

/-- A side's rows. -/
def rsOf (s1 s2 : Sd) (side : Int) : List Rw := if side = 1 then s1.rs else if side = 2 then s2.rs else []
/-- What may come: a row of the book. -/
abbrev Rx (s1 s2 : Sd) := { r : Rw // r ∈ s1.rs ++ s2.rs }
def vals {s1 s2 : Sd} (l : List (Rx s1 s2)) : List Rw := l.map Subtype.val
theorem rsOf_mem {s1 s2 : Sd} {side : Int} {r : Rw} (h : r ∈ rsOf s1 s2 side) : r ∈ s1.rs ++ s2.rs := by
  unfold rsOf at h
  split at h
  · exact List.mem_append_left _ h
  · split at h
    · exact List.mem_append_right _ h
    · cases h
theorem fr_low {n₀ : Nat} {w w' : World} (h : Below n₀ w w') : Fr (n₀ ≤ ·) w w' := ⟨h.os, h.tape, h.output, h.size, fun k _ hn => h.block k (by omega)⟩
def Rw.val (r : Rw) : Value := .agg #[.int .i64 r.pr, r.v]

theorem cell_keep {S : Nat → Prop} {w w' : World} (hf : Fr S w w') {b o : Nat} {v : Value} (hn : ¬ S b) (h : w.cell? ⟨b, o, none⟩ = some v) : w'.cell? ⟨b, o, none⟩ = some v :=
  (cell_fr hf (World.block_lt_of_cell? w ⟨b, o, none⟩ h) hn o).trans h
theorem Fr.t {S : Nat → Prop} {a b c : World} (h : Fr S a b) (k : Fr S b c) : Fr S a c := h.trans k (fun _ h => .inl h)
theorem subs_snoc {s1 s2 : Sd} {pre : List (Rx s1 s2)} {X Y : List Rw} {j : Nat} {r : Rw} (hr : r ∈ s1.rs ++ s2.rs) (h : vals pre = X ++ Y.take j) (hj : j < Y.length) (e : Y[j]! = r) : vals (pre ++ [⟨r, hr⟩]) = X ++ Y.take (j + 1) := by
  unfold vals at h ⊢
  rw [List.map_append, h, List.take_succ_eq_append_getElem hj, List.append_assoc]
  rw [getElem!_pos Y j hj] at e
  rw [e]
  rfl
theorem vals_len {s1 s2 : Sd} (l : List (Rx s1 s2)) : (vals l).length = l.length := List.length_map _
theorem sides_pre (s1 s2 : Sd) (sides : List Int) (k : Nat) : (sides.take k).flatMap (rsOf s1 s2) <+: sides.flatMap (rsOf s1 s2) := by
  conv => rhs; rw [← List.take_append_drop k sides, List.flatMap_append]
  exact List.prefix_append _ _
theorem sides_snoc (s1 s2 : Sd) (sides : List Int) (k : Nat) (hk : k < sides.length) : (sides.take (k + 1)).flatMap (rsOf s1 s2) = (sides.take k).flatMap (rsOf s1 s2) ++ rsOf s1 s2 (sides[k]!) := by
  rw [List.take_succ_eq_append_getElem hk, List.flatMap_append, getElem!_pos sides k hk]
  simp

end Go.Proofs.Ytgbmgdffgmablaa

/- ladder: Len. -/
namespace Go.Proofs.Ytgbmgdffgmablaa
open Go.RowKit Go.Shelf Go.Sort

attribute [local go_sem] Oper.semAt_some

/-- A block of cells alone. -/
def Cl (T : TypeId) (W : World) (c : Nat) (cs : Array Value) : Prop := W.heap[c]? = some (.cells cs T (0, 0))
theorem Cl.own {T : TypeId} {c : Nat} {cs : Array Value} {X Y : World} {row : Option Nat} (h : Cl T X c cs) (hg : X.grownBy Y row) (hr : ∀ r, row = some r → ∃ o : Obj, X.heap[r]? = some o ∧ o.isCells = false) : Cl T Y c cs :=
  (hg.block c (blk_lt h) (fun e => by obtain ⟨o, ho, hc⟩ := hr c e.symm; rw [show X.heap[c]? = _ from h] at ho; cases ho; cases hc)).trans h
theorem Cl.c {T : TypeId} {c : Nat} {cs : Array Value} {X : World} (h : Cl T X c cs) (k : Nat) : X.cell? ⟨c, k, none⟩ = cs[k]? := cell_of_row _ _ _ _ _ _ h
theorem Cl.f {T : TypeId} {c k : Nat} {cs : Array Value} {X : World} (h : Cl T X c cs) : X.frozen? ⟨c, k, none⟩ = false := frozen_of_row _ _ _ _ _ h
theorem wrap_more (a b : Nat) : wrap64 (wrap64 (a : Int) + (b : Int)) = IntKind.i64.wrap ((a + b : Nat) : Int) := by simp only [IntKind.wrap_i64, wrap64]; omega
theorem wrap_fit {a : Nat} (h : a ≤ 1000000) : IntKind.i64.wrap (a : Int) = (a : Int) := by rw [IntKind.wrap_i64]; omega
/-- What comes of the rows: how many orders. -/
def lenQ (R : List Rw) : Nat := (R.map (fun r => r.q.length)).sum
theorem lenQ_flat (R : List Rw) : lenQ R = (flatR R).length := by
  unfold lenQ flatR
  rw [List.length_flatMap]
theorem lenQ_snoc {s1 s2 : Sd} (pre : List (Rx s1 s2)) (x : Rx s1 s2) : lenQ (vals (pre ++ [x])) = lenQ (vals pre) + x.1.q.length := by
  unfold lenQ vals
  simp
theorem two_sides (s1 s2 : Sd) : [1, 2].flatMap (rsOf s1 s2) = s1.rs ++ s2.rs := by
  show rsOf s1 s2 1 ++ (rsOf s1 s2 2 ++ []) = _
  rw [List.append_nil]
  rfl
theorem lenQ_pre {s1 s2 : Sd} {x : Rx s1 s2} : x.1.q.length ≤ lenQ (s1.rs ++ s2.rs) := by
  have h : ∀ (l : List Rw), x.1 ∈ l → x.1.q.length ≤ lenQ l := by
    intro l
    induction l with
    | nil => intro h; cases h
    | cons y l ih =>
      intro h
      unfold lenQ at ih ⊢
      rw [List.map_cons, List.sum_cons]
      rcases List.mem_cons.1 h with h | h
      · rw [h]; omega
      · have := ih h; omega
  exact h _ x.2
theorem fr_b {S : Nat → Prop} (W : World) (l : Nat) (o o' : Obj) (hl : S l) (_ : W.heap[l]? = some o) : Fr S W (W.putObj l o') :=
  (Fr.refl S W).grown (grownBy_putObj' W l o') (fun j e => by cases e; exact .inl hl)

end Go.Proofs.Ytgbmgdffgmablaa

/- ladder: Get. -/
namespace Go.Proofs.Ytgbmgdffgmablaa
open Go.RowKit Go.Shelf Go.Sort

attribute [local go_sem] Oper.semAt_some

/-- What Get tells. -/
def GetIs (id : Int) (L : List Od) : Option Od → Prop
  | some x => x ∈ L ∧ x.id = id
  | none => ∀ x ∈ L, ¬ x.id = id
def optV : Option Od → Value
  | some x => .agg (OC x)
  | none => .agg (OC ⟨0, 0, 0, 0, 0, 0⟩)
theorem Cl.put {T : TypeId} {X : World} {c : Nat} {cs : Array Value} (h : Cl T X c cs) (D : Nat) {o o' : Obj} (hD : X.heap[D]? = some o) (ho : o.isCells = false) : Cl T (X.putObj D o') c cs :=
  (World.putObj_heap_other (fun e => by rw [← e, show X.heap[c]? = _ from h] at hD; cases hD; cases ho)).trans h
theorem flatR_app (R1 R2 : List Rw) : flatR (R1 ++ R2) = bookL R1 R2 := by
  unfold flatR bookL flatR
  rw [List.flatMap_append]
theorem keeps_below {B : Nat} {W wr : World} (h : Below W.heap.size W wr) : KeepsFrom B W wr :=
  KeepsFrom.of_grownBy (row := none) ⟨h.os, h.tape, h.output, h.size, fun i hi _ => h.block i hi⟩ (fun j e => by cases e)
/-- An order is put into a box. -/
def put6 (X : World) (c : Nat) (o : Od) : World := (((((X.setCell ⟨c, 0, none⟩ (.int .u64 o.id)).setCell ⟨c, 1, none⟩ (.int .i64 o.acc)).setCell ⟨c, 2, none⟩ (.int .i64 o.side)).setCell ⟨c, 3, none⟩ (.int .i64 o.price)).setCell ⟨c, 4, none⟩ (.int .i64 o.qty)).setCell ⟨c, 5, none⟩ (.int .u64 o.seq)
theorem put6_cl {T : TypeId} {X : World} {c : Nat} {z : Od} (o : Od) (h : Cl T X c (OC z)) : Cl T (put6 X c o) c (OC o) := by
  have h0 : X.heap[c]? = some (.cells (OC z) T (0, 0)) := h
  unfold Cl put6
  rw [heap_set (heap_set (heap_set (heap_set (heap_set (heap_set h0)))))]
  rfl
theorem put6_far (X : World) {c k : Nat} (o : Od) (h : k ≠ c) : (put6 X c o).heap[k]? = X.heap[k]? := by
  unfold put6
  rw [heap_far (by exact h), heap_far (by exact h), heap_far (by exact h), heap_far (by exact h), heap_far (by exact h), heap_far (by exact h)]
theorem put6_below {X : World} {B c : Nat} {w : World} (o : Od) (hc : B ≤ c) (h : Below B w X) : Below B w (put6 X c o) := by
  unfold put6
  exact (((((h.setCell (p := ⟨c, 0, none⟩) hc _).setCell (p := ⟨c, 1, none⟩) hc _).setCell (p := ⟨c, 2, none⟩) hc _).setCell (p := ⟨c, 3, none⟩) hc _).setCell (p := ⟨c, 4, none⟩) hc _).setCell (p := ⟨c, 5, none⟩) hc _
theorem put6_keeps (X : World) (B c : Nat) (o : Od) : KeepsFrom B X (put6 X c o) := by
  unfold put6
  exact ((((((KeepsOthers.setCell _ _ _).trans (KeepsOthers.setCell _ _ _)).trans (KeepsOthers.setCell _ _ _)).trans (KeepsOthers.setCell _ _ _)).trans (KeepsOthers.setCell _ _ _)).trans (KeepsOthers.setCell _ _ _)).from B
theorem at_cl {T : TypeId} {X : World} {c : Nat} {o : Od} (h : Cl T X c (OC o)) : o.at X c 0 :=
  ⟨(h.c 0).trans rfl, (h.c 1).trans rfl, (h.c 2).trans rfl, (h.c 3).trans rfl, (h.c 4).trans rfl, (h.c 5).trans rfl⟩
theorem retO2 {fn : Func} {p q : Tmp} (h : fn.results = #[.cell p 24, .cell q 4]) (tmps : Array Value) (w : World) (g k : Nat) (hp : tmps.getD p undef = .pointer (some ⟨g, 0, none⟩)) (hq : tmps.getD q undef = .pointer (some ⟨k, 0, none⟩)) (z : Od) (t t' : TypeId) (bb : Bool)
    (hg : Cl t w g (OC z)) (hk : Cl t' w k #[.bool bb]) : (results fn tmps).run Try.prog w = .ok (.tuple #[.agg (OC z), .bool bb]) w := by
  have hp' : tmps[p]?.getD undef = .pointer (some ⟨g, 0, none⟩) := by simpa using hp
  have hq' : tmps[q]?.getD undef = .pointer (some ⟨k, 0, none⟩) := by simpa using hq
  have hc : w.cell? ⟨k, 0, none⟩ = some (.bool bb) := (hk.c 0).trans rfl
  have hl : (loadVar 4 ⟨k, 0, none⟩).run Try.prog w = .ok (.bool bb) w := by
    simp [loadVar, go_sem, hc, Try.isAgg4]
  simp [results, h, hp', hq', asAddr, run_loadVar_row w g _ _ _ (0, 0) _ hg Try.underlying24 rfl infoO, hl]
theorem mem_place {q : List Od} {j : Nat} {o : Od} (hj : j < q.length) (h : q[j]! = o) : o ∈ q := by
  rw [← h, getElem!_pos q j hj]; exact List.getElem_mem hj
theorem none_there {q : List Od} {id : Int} {n j : Nat} (hn : q.length = n) (hj : ¬ j < n) (h : ∀ k, k < j → ¬ (q[k]!).id = id) : ∀ x ∈ q, ¬ x.id = id := by
  intro x hx
  obtain ⟨k, hk, rfl⟩ := List.mem_iff_getElem.1 hx
  have := h k (by omega)
  rwa [getElem!_pos q k hk] at this
theorem not_upto {q : List Od} {id : Int} {j : Nat} {o : Od} (h : ∀ k, k < j → ¬ (q[k]!).id = id) (ho : q[j]! = o) (he : ¬ o.id = id) : ∀ k, k < j + 1 → ¬ (q[k]!).id = id := by
  intro k hk
  rcases Nat.lt_succ_iff_lt_or_eq.1 hk with h' | h'
  · exact h k h'
  · rw [h', ho]; exact he
theorem less_left {n j : Nat} (hj : j < n) : n - ((j : Int) + 1).toNat < n - j := by omega
theorem flat_snoc {s1 s2 : Sd} (pre : List (Rx s1 s2)) (x : Rx s1 s2) : flatR (vals (pre ++ [x])) = flatR (vals pre) ++ x.1.q := by
  unfold flatR vals
  simp
end Go.Proofs.Ytgbmgdffgmablaa

/- slices.Insert of one element. (By mkldi.py.) -/
namespace Go.Proofs.Ytgbmgdffgmablaa
open Go.RowKit Go.Sort Go.Lib Go.Shelf

theorem own_base {w : World} {b b' n size : Nat} {e : TypeId} {v : Value} {xs : List Value} (h : w.ownsRow b e size v n xs) (hb : b' ≤ b) : w.ownsRow b' e size v n xs := by
  obtain ⟨h1, h2⟩ := h
  refine ⟨h1, ?_⟩
  rcases h2 with h | ⟨g, cp, cur, hv, hg, rest⟩
  · exact .inl h
  · exact .inr ⟨g, cp, cur, hv, Nat.le_trans hb hg, rest⟩
/-- 'copy' of elements of k cells. -/
theorem run_copyK (w : World) (dT sT ty elem : TypeId) (k g o dLen dCap : Nat) (a : Addr) (sLen sCap : Nat) (cur : Array Value) (t : TypeId) (cs : List Value)
    (hu : Try.prog.underlying dT = some (.slice elem)) (hs : (Try.prog.info? elem).map (·.size) = some k)
    (hg : w.heap[g]? = some (.cells cur t (0, 0))) (m : Nat) (hm : Nat.min sLen dLen = m) (hn : cs.length = m * k)
    (hsrc : ∀ j v, cs[j]? = some v → w.cell? (a.add j) = some v) (hfit : o + cs.length ≤ cur.size) (h1 : ∀ v ∈ cs, v.oneCell' = true) :
    (Builtin.copy_ #[dT, sT] ty #[.slice (some ⟨g, o, none⟩) dLen dCap, .slice (some a) sLen sCap]).run Try.prog w =
      .ok (goInt m) (w.setRow g (cur.toList.take o ++ cs ++ cur.toList.drop (o + cs.length)).toArray) := by
  have hl := run_loadCells_list (P := Try.prog) w a cs hsrc
  have hst := run_storeCells_at Try.prog g o t cs 0 cur w hg (by simpa using hfit) h1
  cases hq : Try.prog.info? elem with
  | none => simp [hq] at hs
  | some i =>
    have hi : i.size = k := by simpa [hq] using hs
    simp [Builtin.copy_, run_underlying hu, Builtin.lenOf, Builtin.firstCells, sizeOf, typeInfo, hq, hi, hm, ← hn, hl, hst]
/-- What block g holds behind an insertion in place. -/
def insC (cur ys : List Value) (n i k : Nat) : List Value := cur.take (i * k) ++ ys ++ (cur.drop (i * k)).take ((n - i) * k) ++ cur.drop ((n + 1) * k)
theorem insC_steps {cur ys : List Value} {n i k c : Nat} (hi : i ≤ n) (hc : n + 1 ≤ c) (hl : cur.length = c * k) (hy : ys.length = k) :
    (cur.take ((i + 1) * k) ++ (cur.drop (i * k)).take ((n - i) * k) ++ cur.drop ((i + 1) * k + ((cur.drop (i * k)).take ((n - i) * k)).length)).take (i * k) ++ ys ++
      (cur.take ((i + 1) * k) ++ (cur.drop (i * k)).take ((n - i) * k) ++ cur.drop ((i + 1) * k + ((cur.drop (i * k)).take ((n - i) * k)).length)).drop (i * k + ys.length) = insC cur ys n i k := by
  have e1 : (i + 1) * k = i * k + k := Nat.succ_mul i k
  have e2 : (n + 1) * k = n * k + k := Nat.succ_mul n k
  have e3 : (n - i) * k = n * k - i * k := Nat.sub_mul n i k
  have h1 : i * k ≤ n * k := Nat.mul_le_mul_right k hi
  have h2 : n * k + k ≤ c * k := by rw [← e2]; exact Nat.mul_le_mul_right k hc
  have lx : ((cur.drop (i * k)).take ((n - i) * k)).length = n * k - i * k := by rw [List.length_take, List.length_drop]; omega
  have lt : (cur.take ((i + 1) * k)).length = i * k + k := by rw [List.length_take]; omega
  rw [lx]
  have a1 : (cur.take ((i + 1) * k) ++ (cur.drop (i * k)).take ((n - i) * k) ++ cur.drop ((i + 1) * k + (n * k - i * k))).take (i * k) = cur.take (i * k) := by
    rw [List.append_assoc, List.take_append_of_le_length (by omega), List.take_take, Nat.min_eq_left (by omega)]
  have a2 : (cur.take ((i + 1) * k) ++ (cur.drop (i * k)).take ((n - i) * k) ++ cur.drop ((i + 1) * k + (n * k - i * k))).drop (i * k + ys.length) = (cur.drop (i * k)).take ((n - i) * k) ++ cur.drop ((n + 1) * k) := by
    rw [List.append_assoc, List.drop_append, lt, hy]
    have z : (cur.take ((i + 1) * k)).drop (i * k + k) = [] := List.drop_eq_nil_of_le (by omega)
    rw [z, Nat.sub_self, List.drop_zero, List.nil_append, show (i + 1) * k + (n * k - i * k) = (n + 1) * k by omega]
  rw [a1, a2]
  unfold insC
  simp only [List.append_assoc]
theorem insC_take {cur ys xs : List Value} {n i k c : Nat} (hi : i ≤ n) (hc : n + 1 ≤ c) (hl : cur.length = c * k) (hy : ys.length = k) (hx : cur.take (n * k) = xs) :
    (insC cur ys n i k).length = c * k ∧ (insC cur ys n i k).take ((n + 1) * k) = xs.take (i * k) ++ ys ++ xs.drop (i * k) := by
  have e2 : (n + 1) * k = n * k + k := Nat.succ_mul n k
  have e3 : (n - i) * k = n * k - i * k := Nat.sub_mul n i k
  have h1 : i * k ≤ n * k := Nat.mul_le_mul_right k hi
  have h2 : n * k + k ≤ c * k := by rw [← e2]; exact Nat.mul_le_mul_right k hc
  have lx : ((cur.drop (i * k)).take ((n - i) * k)).length = n * k - i * k := by rw [List.length_take, List.length_drop]; omega
  have ly : (cur.take (i * k)).length = i * k := by rw [List.length_take]; omega
  refine ⟨?_, ?_⟩
  · unfold insC
    simp only [List.length_append, lx, ly, hy, List.length_drop]
    omega
  · unfold insC
    rw [List.take_append_of_le_length (by simp only [List.length_append, lx, ly, hy]; omega), List.take_of_length_le (by simp only [List.length_append, lx, ly, hy]; omega)]
    rw [← hx, List.take_take, Nat.min_eq_left h1, List.drop_take, e3]
theorem grow_steps {R xs ys : List Value} {n i k G : Nat} (hR : R.take (i * k) = xs.take (i * k)) (lR : R.length = G * k) (hG : n + 1 ≤ G) (hx : xs.length = n * k) (hy : ys.length = k) (hi : i ≤ n) {R1 R2 : List Value} (e1 : R1 = R.take (i * k) ++ ys ++ R.drop (i * k + ys.length)) (e2 : R2 = R1.take ((i + 1) * k) ++ xs.drop (i * k) ++ R1.drop ((i + 1) * k + (xs.drop (i * k)).length)) :
    R1.length = G * k ∧ R2.length = G * k ∧ R2.take ((n + 1) * k) = xs.take (i * k) ++ ys ++ xs.drop (i * k) := by
  have a1 : (i + 1) * k = i * k + k := Nat.succ_mul i k
  have a2 : (n + 1) * k = n * k + k := Nat.succ_mul n k
  have h1 : i * k ≤ n * k := Nat.mul_le_mul_right k hi
  have h2 : n * k + k ≤ G * k := by rw [← a2]; exact Nat.mul_le_mul_right k hG
  have lt : (R.take (i * k)).length = i * k := by rw [List.length_take]; omega
  have l1 : R1.length = G * k := by rw [e1]; simp only [List.length_append, lt, hy, List.length_drop]; omega
  have t1 : R1.take ((i + 1) * k) = xs.take (i * k) ++ ys := by
    rw [e1, List.take_append_of_le_length (by simp only [List.length_append, lt, hy]; omega), List.take_of_length_le (by simp only [List.length_append, lt, hy]; omega), hR]
  have lx : (xs.take (i * k)).length = i * k := by rw [List.length_take]; omega
  have ld : (xs.drop (i * k)).length = n * k - i * k := by rw [List.length_drop, hx]
  refine ⟨l1, ?_, ?_⟩
  · rw [e2, t1]; simp only [List.length_append, lx, hy, ld, List.length_drop, l1]; omega
  · rw [e2, t1, List.take_append_of_le_length (by simp only [List.length_append, lx, hy, ld]; omega), List.take_of_length_le (by simp only [List.length_append, lx, hy, ld]; omega)]
/-- Behind an insertion in place. -/
def InsIn (w : World) (g : Nat) (E : TypeId) (cs : List Value) (w' : World) : Prop := w.grownBy w' (some g) ∧ w'.heap[g]? = some (.cells cs.toArray E (0, 0))
theorem insIn_set {w : World} {g : Nat} {E : TypeId} {cur cs : List Value} (h : w.heap[g]? = some (.cells cur.toArray E (0, 0))) : InsIn w g E cs (w.setRow g cs.toArray) :=
  ⟨⟨rfl, rfl, rfl, by rw [size_setRow]; exact Nat.le_refl _, fun j _ hj => setRow_other _ _ _ _ (fun e => hj (by rw [e]))⟩, setRow_heap _ _ _ _ _ _ h⟩
theorem insIn_trans {w w1 w2 : World} {g : Nat} {E : TypeId} {cs cs' : List Value} (h : InsIn w g E cs w1) (k : InsIn w1 g E cs' w2) : InsIn w g E cs' w2 := ⟨h.1.trans k.1, k.2⟩
theorem insIn_drew {w : World} {g : Nat} {E : TypeId} {cs : List Value} (h : w.heap[g]? = some (.cells cs.toArray E (0, 0))) : InsIn w g E cs w.drew := ⟨⟨rfl, rfl, rfl, Nat.le_refl _, fun _ _ _ => rfl⟩, h⟩

theorem info_O : (Try.prog.info? 24).map (fun i => (i.zero, i.size, i.bytes)) = some (some (.agg (OC ⟨0, 0, 0, 0, 0, 0⟩)), 6, 48) := by kernel_rfl
theorem size_O : (Try.prog.info? 24).map (·.size) = some 6 := by kernel_rfl
theorem sizeOf_O (w : World) : (sizeOf 24).run Try.prog w = .ok 6 w := by kernel_rfl
end Go.Proofs.Ytgbmgdffgmablaa

/- ladder: All. -/
namespace Go.Proofs.Ytgbmgdffgmablaa
open Go.RowKit Go.Shelf Go.Sort

attribute [local go_sem] Oper.semAt_some

theorem own_kept {w w' : World} {base n size : Nat} {e : TypeId} {v : Value} {xs : List Value} {row : Option Nat} (h : w.ownsRow base e size v n xs) (hg : w.grownBy w' row) (hr : ∀ r, row = some r → ∃ o : Obj, w.heap[r]? = some o ∧ o.isCells = false) : w'.ownsRow base e size v n xs := by
  obtain ⟨h1, h2⟩ := h
  refine ⟨h1, ?_⟩
  rcases h2 with hn | ⟨k, cap, cur, rfl, hb, hk, rest⟩
  · exact .inl hn
  · exact .inr ⟨k, cap, cur, rfl, hb, (Cl.own (T := e) (cs := cur) hk hg hr), rest⟩
/-- An own row's cells, as they are appended. -/
theorem que_news {S : Nat → Prop} {w W : World} {base : Nat} {T : TypeId} {v : Value} {A : Option Addr} {n c : Nat} {q : List Od} (h : w.ownsRow base T 6 v q.length (ol q)) (hv : v = .slice A n c) (hne : q ≠ []) (hf : Fr S w W) (hS : ∀ k, v.ownBlock = some k → ¬ S k) :
    ∃ ad, A = some ad ∧ ∀ j u, (ol q)[j]? = some u → W.cell? (ad.add j) = some u := by
  rcases h.2 with ⟨_, h0⟩ | ⟨k, cap, cur, hv', _, hk, _, _, _, ht⟩
  · exact absurd (List.length_eq_zero_iff.1 h0) hne
  · rw [hv] at hv'
    injection hv' with e1 e2 e3
    refine ⟨⟨k, 0, none⟩, e1, fun j u hj => ?_⟩
    have hk' := hf.blk hk (hS k (by rw [hv, e1]; rfl))
    rw [addr_add, Nat.zero_add, cell_of_row _ _ _ _ _ _ hk']
    rw [← ht, List.getElem?_take] at hj
    split at hj
    · rw [Array.getElem?_toList] at hj; exact hj
    · cases hj
theorem own_que2 {w : World} {base n size : Nat} {T : TypeId} {v : Value} {xs : List Value} (h : w.ownsRow base T size v n xs) : ∃ A c, v = .slice A n c ∧ True := by
  rcases h.2 with ⟨hv, h0⟩ | ⟨k, cap, cur, hv, _⟩
  · subst h0; exact ⟨none, 0, hv, trivial⟩
  · exact ⟨_, _, hv, trivial⟩
theorem own_far {T T' : TypeId} {W w1 : World} {B base n size : Nat} {cs : Array Value} {v : Value} {xs : List Value} (h : Cl T W B cs) (ho : W.ownsRow base T' size v n xs) (hg : W.grownBy w1 v.ownBlock) (hB : B < base) : Cl T w1 B cs :=
  (hg.block _ (blk_lt h) (fun e => by have := (own_lt ho B e.symm).1; omega)).trans h
theorem keeps_own {T : TypeId} {W w1 : World} (B : Nat) {base n size : Nat} {v : Value} {xs : List Value} (ho : W.ownsRow base T size v n xs) (hg : W.grownBy w1 v.ownBlock) : KeepsFrom B W w1 := by
  refine ⟨hg.size, fun i o _ hi hc => ?_⟩
  refine (hg.block i (blk_lt hi) (fun e => ?_)).trans hi
  rcases ho.2 with ⟨hv, _⟩ | ⟨k, cap, cur, hv, _, hk, _⟩
  · rw [hv] at e; cases e
  · rw [hv] at e
    injection e with e
    subst e
    rw [hk] at hi; cases hi; cases hc
theorem own_put {T : TypeId} {X : World} {base n size : Nat} {v : Value} {xs : List Value} (h : X.ownsRow base T size v n xs) (D : Nat) {o o' : Obj} (hD : X.heap[D]? = some o) (hc : o.isCells = false) : (X.putObj D o').ownsRow base T size v n xs := by
  obtain ⟨h1, h2⟩ := h
  refine ⟨h1, ?_⟩
  rcases h2 with hn | ⟨k, cap, cur, rfl, hb, hk, rest⟩
  · exact .inl hn
  · exact .inr ⟨k, cap, cur, rfl, hb, Cl.put (T := T) (cs := cur) hk D hD hc, rest⟩
theorem ol_append (a b : List Od) : ol (a ++ b) = ol a ++ ol b := by unfold ol; rw [List.flatMap_append]
theorem vals_snoc {s1 s2 : Sd} (pre : List (Rx s1 s2)) (x : Rx s1 s2) : vals (pre ++ [x]) = vals pre ++ [x.1] := by unfold vals; simp
theorem flat_many : ∀ (l : List Rw), (∀ r ∈ l, r.q.length ≤ 1000) → (flatR l).length ≤ l.length * 1000
  | [], _ => Nat.le_refl _
  | r :: l, h => by
    have h1 := h r (by simp)
    have h2 := flat_many l (fun r hr => h r (by simp [hr]))
    unfold flatR at *
    rw [List.flatMap_cons, List.length_append, List.length_cons]
    omega
theorem all_bound {s1 s2 : Sd} {pre : List (Rx s1 s2)} {s : Rx s1 s2} (hQ : lenQ (s1.rs ++ s2.rs) ≤ 1000) (hp : pre.length < (s1.rs ++ s2.rs).length) (h1 : s1.rs.length ≤ 1000) (h2 : s2.rs.length ≤ 1000) : (flatR (vals pre)).length + s.1.q.length ≤ 2001000 := by
  have hb := flat_many (vals pre) (fun r hr => by
    obtain ⟨x, _, rfl⟩ := List.mem_map.1 hr
    exact Nat.le_trans lenQ_pre hQ)
  have hs := Nat.le_trans (lenQ_pre (x := s)) hQ
  rw [vals_len] at hb
  rw [List.length_append] at hp
  omega
end Go.Proofs.Ytgbmgdffgmablaa

/- ladder: Prices. -/
namespace Go.Proofs.Ytgbmgdffgmablaa
open Go.RowKit Go.Shelf Go.Sort

attribute [local go_sem] Oper.semAt_some

def prV (R : List Rw) : List Value := R.map (fun r => .int .i64 r.pr)
theorem prV_snoc (R : List Rw) (x : Rw) : prV (R ++ [x]) = prV R ++ [.int .i64 x.pr] := by unfold prV; rw [List.map_append]; rfl
theorem info_i64 : (Try.prog.info? 2).map (fun i => (i.zero, i.size, i.bytes)) = some (some (.int .i64 0), 1, 8) := by kernel_rfl
theorem one_side (s1 s2 : Sd) (sd : Int) : [sd].flatMap (rsOf s1 s2) = rsOf s1 s2 sd := by
  show rsOf s1 s2 sd ++ [] = _
  rw [List.append_nil]
theorem rs_len {s1 s2 : Sd} (sd : Int) (h1 : s1.rs.length ≤ 1000) (h2 : s2.rs.length ≤ 1000) : (rsOf s1 s2 sd).length ≤ 1000 := by
  unfold rsOf
  (repeat' split)
  · exact h1
  · exact h2
  · exact Nat.zero_le _
theorem one_news (W : World) (p : Int) : ∀ (j : Nat) (u : Value), ([.int .i64 p] : List Value)[j]? = some u → (W.alloc (.cells #[.int .i64 p] 2)).cell? ((⟨W.heap.size, 0, none⟩ : Addr).add j) = some u := by
  intro j u hu
  have hj := (List.getElem?_eq_some_iff.1 hu).1
  obtain rfl : j = 0 := by simpa using hj
  rw [addr_add, cell_of_row _ _ _ _ _ _ (heap_alloc_new W _)]
  simpa using hu
theorem one_cells (p : Int) : ∀ u ∈ ([.int .i64 p] : List Value), u.oneCell' = true := by
  intro u hu
  rw [List.mem_singleton.1 hu]
  rfl
end Go.Proofs.Ytgbmgdffgmablaa

/- ladder: Best. -/
namespace Go.Proofs.Ytgbmgdffgmablaa
open Go.RowKit Go.Shelf Go.Sort

def bestO : List Rw → Option Od
  | [] => none
  | r :: _ => r.q.head?
theorem retOt {fn : Func} {p q : Tmp} (h : fn.results = #[.cell p 24, .tmp q]) (tmps : Array Value) (w : World) (g : Nat) (hp : tmps.getD p undef = .pointer (some ⟨g, 0, none⟩)) (z : Od) (t : TypeId)
    (hg : Cl t w g (OC z)) (v : Value) (hq : tmps.getD q undef = v) : (results fn tmps).run Try.prog w = .ok (.tuple #[.agg (OC z), v]) w := by
  have hp' : tmps[p]?.getD undef = .pointer (some ⟨g, 0, none⟩) := by simpa using hp
  have hq' : tmps[q]?.getD undef = v := by simpa using hq
  simp [results, h, hp', hq', asAddr, run_loadVar_row w g _ _ _ (0, 0) _ hg Try.underlying24 rfl infoO]
end Go.Proofs.Ytgbmgdffgmablaa

/- ladder: rows with a queue put in, in plain words and in memory. -/
namespace Go.Proofs.Ytgbmgdffgmablaa
open Go.RowKit Go.Shelf Go.Sort

theorem rl_app (a b : List Rw) : rl (a ++ b) = rl a ++ rl b := by unfold rl; rw [List.flatMap_append]
theorem rl_take (R : List Rw) (i : Nat) (h : i ≤ R.length) : (rl R).take (i * 2) = rl (R.take i) ∧ (rl R).drop (i * 2) = rl (R.drop i) := by
  have e : rl R = rl (R.take i) ++ rl (R.drop i) := by rw [← rl_app, List.take_append_drop]
  have hl : (rl (R.take i)).length = i * 2 := by rw [rl_len, List.length_take, Nat.min_eq_left h]
  constructor
  · rw [e, ← hl, List.take_left']; rfl
  · rw [e, ← hl, List.drop_left']; rfl
theorem ol_take (q : List Od) (i : Nat) (h : i ≤ q.length) : (ol q).take (i * 6) = ol (q.take i) ∧ (ol q).drop (i * 6) = ol (q.drop i) := by
  have e : ol q = ol (q.take i) ++ ol (q.drop i) := by rw [← ol_append, List.take_append_drop]
  have hl : (ol (q.take i)).length = i * 6 := by rw [ol_len, List.length_take, Nat.min_eq_left h]
  constructor
  · rw [e, ← hl, List.take_left']; rfl
  · rw [e, ← hl, List.drop_left']; rfl
/-- An order put into a queue's cells. -/
theorem ol_putQ (o : Od) (q : List Od) : (ol q).take (plN o q * 6) ++ encO o ++ (ol q).drop (plN o q * 6) = ol (putQ o q) := by
  obtain ⟨h1, h2⟩ := ol_take q (plN o q) (pl_le o q)
  rw [h1, h2]
  unfold putQ
  rw [ol_append]
  show _ = ol (q.take (plN o q)) ++ (encO o ++ ol (q.drop (plN o q)))
  rw [List.append_assoc]
theorem putQ_len (o : Od) (q : List Od) : (putQ o q).length = q.length + 1 := (putQ_perm o q).length_eq
/-- A row put into the rows' cells. -/
theorem rl_ins (R : List Rw) (k : Nat) (hk : k ≤ R.length) (r : Rw) : (rl R).take (k * 2) ++ r.cs ++ (rl R).drop (k * 2) = rl (R.take k ++ r :: R.drop k) := by
  obtain ⟨h1, h2⟩ := rl_take R k hk
  rw [h1, h2, rl_app]
  show _ = rl (R.take k) ++ (r.cs ++ rl (R.drop k))
  rw [List.append_assoc]
theorem rl_set (R : List Rw) (k : Nat) (hk : k < R.length) (r' : Rw) (hp : r'.pr = (R[k]!).pr) : rl (R.take k ++ r' :: R.drop (k + 1)) = (rl R).set (k * 2 + 1) r'.v := by
  have e : R = R.take k ++ R[k]! :: R.drop (k + 1) := by
    rw [getElem!_pos R k hk, ← List.drop_eq_getElem_cons hk, List.take_append_drop]
  have hl : (rl (R.take k)).length = k * 2 := by rw [rl_len, List.length_take, Nat.min_eq_left (Nat.le_of_lt hk)]
  conv => rhs; rw [e]
  rw [rl_app, rl_app, List.set_append, if_neg (by omega)]
  congr 1
  rw [hl, show k * 2 + 1 - k * 2 = 1 by omega]
  show r'.cs ++ rl _ = (((R[k]!).cs ++ rl _)).set 1 _
  unfold Rw.cs
  rw [hp]
  rfl
theorem set_len (R : List Rw) (k : Nat) (hk : k < R.length) (r' : Rw) : (R.take k ++ r' :: R.drop (k + 1)).length = R.length := by
  rw [List.length_append, List.length_take, List.length_cons, List.length_drop]; omega
/-- A cell of an own row is written. -/
theorem own_setCell {w : World} {base n size j : Nat} {T : TypeId} {v u : Value} {xs : List Value} {g : Nat} (h : w.ownsRow base T size v n xs) (hv : v.ownBlock = some g) : (w.setCell ⟨g, j, none⟩ u).ownsRow base T size v n (xs.set j u) := by
  obtain ⟨h1, h2⟩ := h
  refine ⟨by rw [List.length_set]; exact h1, ?_⟩
  rcases h2 with ⟨e, _⟩ | ⟨k, cap, cur, e, hb, hk, hc, hm, hs, ht⟩
  · rw [e] at hv; cases hv
  · rw [e] at hv
    injection hv with hv
    subst hv
    refine .inr ⟨k, cap, cur.setIfInBounds j u, e, hb, heap_set hk, hc, hm, by simpa using hs, ?_⟩
    rw [Array.toList_setIfInBounds, List.take_set, ht]
theorem own_cell {w : World} {base n size j : Nat} {T : TypeId} {v u : Value} {xs : List Value} {g : Nat} (h : w.ownsRow base T size v n xs) (hv : v.ownBlock = some g) (hj : xs[j]? = some u) : w.cell? ⟨g, j, none⟩ = some u ∧ w.frozen? ⟨g, j, none⟩ = false := by
  rcases h.2 with ⟨e, _⟩ | ⟨k, cap, cur, e, hb, hk, hc, hm, hs, ht⟩
  · rw [e] at hv; cases hv
  · rw [e] at hv
    injection hv with hv
    subst hv
    refine ⟨?_, frozen_of_row _ _ _ _ _ hk⟩
    rw [cell_of_row _ _ _ _ _ _ hk]
    rw [← ht, List.getElem?_take] at hj
    split at hj
    · rw [Array.getElem?_toList] at hj; exact hj
    · cases hj

/-- A side's rows behind an order that was put in. -/
def PutR (s : Int) (o : Od) (R R' : List Rw) : Prop :=
  ∃ A B r' M, R = A ++ M ++ B ∧ R' = A ++ r' :: B ∧ r'.pr = o.price ∧ (∀ a ∈ A, betN s a.pr o.price = true) ∧ (∀ b ∈ B, betN s o.price b.pr = true) ∧
    ((M = [] ∧ r'.q = [o]) ∨ ∃ r, M = [r] ∧ r.pr = o.price ∧ r'.q = putQ o r.q)
theorem putR_ok {s : Int} (hs : s = 1 ∨ s = 2) {o : Od} (ho : o.side = s) {R R' : List Rw} (h : SideOk s R) (hi : ∀ x ∈ flatR R, ¬ x.id = o.id) (hp : PutR s o R R') : SideOk s R' ∧ (flatR R').Perm (o :: flatR R) := by
  obtain ⟨A, B, r', M, rfl, rfl, hpr, hA, hB, hM⟩ := hp
  rcases hM with ⟨rfl, hq⟩ | ⟨r, rfl, hr, hq⟩
  · refine ⟨side_set hA hB h hpr (by rw [hq]; simp) (fun x hx => by rw [hq, List.mem_singleton] at hx; subst hx; exact ⟨ho, rfl⟩) (by rw [hq]; simp), ?_⟩
    unfold flatR
    rw [List.append_nil, List.flatMap_append, List.flatMap_cons, hq, List.flatMap_append]
    exact List.perm_middle
  · have hr' : r ∈ A ++ [r] ++ B := by simp
    have hm := h.mem r hr'
    refine ⟨side_set hA hB h hpr ?_ (fun x hx => ?_) ?_, ?_⟩
    · rw [hq]
      intro e
      have := putQ_len o r.q
      rw [e] at this
      cases this
    · rw [hq] at hx
      rcases List.mem_cons.1 ((putQ_perm o r.q).mem_iff.1 hx) with rfl | hx
      · exact ⟨ho, rfl⟩
      · rw [← hr]; exact hm x hx
    · rw [hq]
      exact putQ_ok hs ⟨ho, rfl⟩ (fun x hx => by rw [← hr]; exact hm x hx) (h.que r hr') (fun x hx => hi x (List.mem_flatMap.2 ⟨r, hr', hx⟩))
    · unfold flatR
      rw [List.flatMap_append, List.flatMap_cons, List.flatMap_append, List.flatMap_append, hq]
      simp only [List.flatMap_cons, List.flatMap_nil, List.append_nil, List.append_assoc]
      refine ((putQ_perm o r.q).append_right _).append_left _ |>.trans ?_
      exact List.perm_middle
/-- Where the rows are put together anew. -/
theorem putR_there {s : Int} {o : Od} {R : List Rw} (hs : s = 1 ∨ s = 2) (h : R.Pairwise (fun a b => betN s a.pr b.pr = true)) (hk : atN s o.price R < R.length) (hp : (R[atN s o.price R]!).pr = o.price) (v : Value) :
    PutR s o R (R.take (atN s o.price R) ++ ⟨o.price, v, putQ o (R[atN s o.price R]!).q⟩ :: R.drop (atN s o.price R + 1)) := by
  obtain ⟨h1, h2, h3, h4⟩ := row_split (p := o.price) hs h
  have e : R.drop (atN s o.price R) = R[atN s o.price R]! :: R.drop (atN s o.price R + 1) := by
    rw [getElem!_pos R _ hk, ← List.drop_eq_getElem_cons hk]
  refine ⟨R.take (atN s o.price R), R.drop (atN s o.price R + 1), _, [R[atN s o.price R]!], ?_, rfl, rfl, h1, h4 _ _ e hp, .inr ⟨_, rfl, hp, rfl⟩⟩
  rw [List.append_assoc, List.singleton_append, ← e, List.take_append_drop]
theorem putR_new {s : Int} {o : Od} {R : List Rw} (hs : s = 1 ∨ s = 2) (h : R.Pairwise (fun a b => betN s a.pr b.pr = true)) (hp : ¬ (atN s o.price R < R.length ∧ (R[atN s o.price R]!).pr = o.price)) (v : Value) :
    PutR s o R (R.take (atN s o.price R) ++ ⟨o.price, v, [o]⟩ :: R.drop (atN s o.price R)) := by
  obtain ⟨h1, h2, h3, h4⟩ := row_split (p := o.price) hs h
  refine ⟨R.take (atN s o.price R), R.drop (atN s o.price R), _, [], by rw [List.append_nil, List.take_append_drop], rfl, rfl, h1, ?_, .inl ⟨rfl, rfl⟩⟩
  by_cases hk : atN s o.price R < R.length
  · have e : R.drop (atN s o.price R) = R[atN s o.price R]! :: R.drop (atN s o.price R + 1) := by
      rw [getElem!_pos R _ hk, ← List.drop_eq_getElem_cons hk]
    have := h3 _ _ e (fun hq => hp ⟨hk, hq⟩)
    rwa [← e] at this
  · rw [List.drop_eq_nil_of_le (by omega)]
    intro b hb; cases hb
end Go.Proofs.Ytgbmgdffgmablaa

/- ladder: put, where there is a row. (By mkldl.py.) -/
namespace Go.Proofs.Ytgbmgdffgmablaa
open Go.RowKit Go.Shelf Go.Sort

theorem Cl.gw {T : TypeId} {X Y : World} {c : Nat} {cs : Array Value} (h : Cl T X c cs) (hf : Gw X Y) : Cl T Y c cs := (hf.b.block _ (blk_lt h)).trans h
/-- The block of an own row. -/
theorem own_blk {w : World} {base n size g : Nat} {T : TypeId} {v : Value} {xs : List Value} (h : w.ownsRow base T size v n xs) (hv : v.ownBlock = some g) : ∃ cs, w.heap[g]? = some (.cells cs T (0, 0)) := by
  rcases h.2 with ⟨e, _⟩ | ⟨k, cap, cur, e, hb, hk, _⟩
  · rw [e] at hv; cases hv
  · rw [e] at hv
    injection hv with hv
    subst hv
    exact ⟨cur, hk⟩
/-- A queue has got one more order, in its row or in a new one. -/
def InsOf (W4 w5 : World) (qv v' : Value) (qn : Nat) (q' : List Od) : Prop :=
  w5.ownsRow 0 24 6 v' (qn + 1) (ol q') ∧ W4.grownBy w5 qv.ownBlock ∧ (v'.ownBlock = qv.ownBlock ∨ v'.ownBlock = some W4.heap.size)
theorem put_cl {W4 w5 : World} {qv v' : Value} {qn ob : Nat} {q' : List Od} {o : Od} (hO : Cl 24 W4 ob (OC o)) (hq : ∀ j, qv.ownBlock = some j → j < ob) (hI : InsOf W4 w5 qv v' qn q') : Cl 24 w5 ob (OC o) :=
  (hI.2.1.block _ (blk_lt hO) (fun e => by have := hq ob e.symm; omega)).trans hO
theorem six_of {T : TypeId} {W : World} {c : Nat} {o : Od} (h : Cl T W c (OC o)) : W.cell? ⟨c, 0, none⟩ = some (.int .u64 o.id) ∧ W.cell? ⟨c, 1, none⟩ = some (.int .i64 o.acc) ∧ W.cell? ⟨c, 2, none⟩ = some (.int .i64 o.side) ∧ W.cell? ⟨c, 3, none⟩ = some (.int .i64 o.price) ∧ W.cell? ⟨c, 4, none⟩ = some (.int .i64 o.qty) ∧ W.cell? ⟨c, 5, none⟩ = some (.int .u64 o.seq) :=
  ⟨(h.c 0).trans rfl, (h.c 1).trans rfl, (h.c 2).trans rfl, (h.c 3).trans rfl, (h.c 4).trans rfl, (h.c 5).trans rfl⟩
end Go.Proofs.Ytgbmgdffgmablaa

/- ladder: put, where there is no row yet. (By mkldm.py.) -/
namespace Go.Proofs.Ytgbmgdffgmablaa
open Go.RowKit Go.Shelf Go.Sort Go.Maps

theorem row_one (r : Rw) : ∀ u ∈ r.cs, r.v.oneCell' = true → u.oneCell' = true := by
  intro u hu hv
  rcases List.mem_cons.1 hu with rfl | hu
  · rfl
  · rw [List.mem_singleton.1 hu]; exact hv
theorem rows_one {w : World} {R : List Rw} (h : ∀ r ∈ R, w.ownsRow 0 24 6 r.v r.q.length (ol r.q)) : ∀ u ∈ rl R, u.oneCell' = true := by
  intro u hu
  obtain ⟨r, hr, hu⟩ := List.mem_flatMap.1 hu
  obtain ⟨A, c, hv, _⟩ := own_que2 (h r hr)
  exact row_one r u hu (by rw [hv]; rfl)
theorem turn_keep {W w4 : World} {m j : Nat} (ht : W.mapTurned w4 m) {cs : Array Value} {T : TypeId} (h : W.heap[j]? = some (.cells cs T (0, 0))) : w4.heap[j]? = some (.cells cs T (0, 0)) := by
  refine (ht.grown.block j (blk_lt h) (fun e => ?_)).trans h
  injection e with e
  subst e
  obtain ⟨es, clock, _, _, hb, _⟩ := ht
  rw [h] at hb; cases hb
theorem turn_cell {W w4 : World} {m j k : Nat} {u : Value} (ht : W.mapTurned w4 m) (h : W.cell? ⟨j, k, none⟩ = some u) : w4.cell? ⟨j, k, none⟩ = some u := by
  cases e : W.heap[j]? with
  | none => simp [World.cell?, e] at h
  | some ob =>
    cases ob with
    | cells cs T fz =>
      have hj := World.block_lt_of_cell? W ⟨j, k, none⟩ h
      have : w4.heap[j]? = W.heap[j]? := ht.grown.block j hj (fun e' => by
        injection e' with e'
        subst e'
        obtain ⟨es, clock, _, _, hb, _⟩ := ht
        rw [e] at hb; cases hb)
      rw [World.cell?_of_block (w := W) (a := ⟨j, k, none⟩) this]; exact h
    | _ => simp [World.cell?, e] at h
theorem own_turn {W w4 : World} {m base n size : Nat} {T : TypeId} {v : Value} {xs : List Value} (ht : W.mapTurned w4 m) (h : W.ownsRow base T size v n xs) : w4.ownsRow base T size v n xs := by
  obtain ⟨h1, h2⟩ := h
  refine ⟨h1, ?_⟩
  rcases h2 with hn | ⟨k, cap, cur, rfl, hb, hk, rest⟩
  · exact .inl hn
  · exact .inr ⟨k, cap, cur, rfl, hb, turn_keep ht hk, rest⟩
end Go.Proofs.Ytgbmgdffgmablaa

/- ladder: a book that is whole, and what is put into it, or taken away. -/
namespace Go.Proofs.Ytgbmgdffgmablaa
open Go.RowKit Go.Shelf Go.Sort Go.Maps

/-- No two queues lie in one block. -/
def DisQ (l : List Rw) : Prop := l.Pairwise (fun a b => ∀ j, a.v.ownBlock = some j → b.v.ownBlock ≠ some j)
/-- What is changed in the rows: at most one is put in the place of at most one. -/
def Swap (n : Nat) (M X : List Rw) : Prop := (M = [] ∨ ∃ r, M = [r]) ∧ (X = [] ∨ ∃ x, X = [x] ∧ ((∃ r, M = [r] ∧ x.v.ownBlock = r.v.ownBlock) ∨ ∃ j, x.v.ownBlock = some j ∧ n ≤ j))
theorem disq_swap {P M X T : List Rw} {n : Nat} (h : DisQ (P ++ M ++ T)) (hl : ∀ r ∈ P ++ M ++ T, ∀ j, r.v.ownBlock = some j → j < n) (hX : Swap n M X) : DisQ (P ++ X ++ T) := by
  unfold DisQ at *
  rw [List.append_assoc, List.pairwise_append, List.pairwise_append] at h ⊢
  obtain ⟨h1, ⟨h2, h3, h4⟩, h5⟩ := h
  have hp : ∀ r ∈ P, ∀ j, r.v.ownBlock = some j → j < n := fun r hr => hl r (by simp [hr])
  have ht : ∀ r ∈ T, ∀ j, r.v.ownBlock = some j → j < n := fun r hr => hl r (by simp [hr])
  have h5t : ∀ a ∈ P, ∀ b ∈ T, ∀ j, a.v.ownBlock = some j → b.v.ownBlock ≠ some j := fun a ha b hb => h5 a ha b (List.mem_append_right _ hb)
  rcases hX.2 with rfl | ⟨x, rfl, hx⟩
  · refine ⟨h1, ⟨List.Pairwise.nil, h3, fun a ha => by cases ha⟩, fun a ha b hb => ?_⟩
    rw [List.nil_append] at hb
    exact h5t a ha b hb
  · have hxp : ∀ a ∈ P, ∀ j, a.v.ownBlock = some j → x.v.ownBlock ≠ some j := by
      rcases hx with ⟨r, rfl, e⟩ | ⟨i, e, hi⟩
      · intro a ha j hj
        rw [e]
        exact h5 a ha r (by simp) j hj
      · intro a ha j hj
        have := hp a ha j hj
        rw [e]
        intro e'
        injection e' with e'
        omega
    have hxt : ∀ b ∈ T, ∀ j, x.v.ownBlock = some j → b.v.ownBlock ≠ some j := by
      rcases hx with ⟨r, rfl, e⟩ | ⟨i, e, hi⟩
      · intro b hb j hj
        rw [e] at hj
        exact h4 r (by simp) b hb j hj
      · intro b hb j hj e'
        have := ht b hb j e'
        rw [e] at hj
        injection hj with hj
        omega
    refine ⟨h1, ⟨List.pairwise_singleton _ _, h3, fun a ha b hb => ?_⟩, fun a ha b hb => ?_⟩
    · rw [List.mem_singleton.1 ha]; exact hxt b hb
    · rcases List.mem_append.1 hb with hb | hb
      · rw [List.mem_singleton.1 hb]; exact hxp a ha
      · exact h5t a ha b hb
/-- The blocks that may turn: a map's, a row of rows, and the queue that is changed. -/
def TurnS (m : Nat) (v : Value) (M : List Rw) (j : Nat) : Prop := j = m ∨ v.ownBlock = some j ∨ ∃ r ∈ M, r.v.ownBlock = some j
theorem map_ne {w : World} {m nn : Nat} {D : DataW Value} {cs : Array Value} {T : TypeId} {j : Nat} (hm : w.ownsMap Try.prog 3 RV m nn D) (h : w.heap[j]? = some (.cells cs T (0, 0))) : j ≠ m := by
  rintro rfl
  obtain ⟨es, clock, hb, _⟩ := hm
  rw [hb] at h; cases h
theorem flat_ge : ∀ (R : List Rw), (∀ r ∈ R, r.q ≠ []) → R.length ≤ (flatR R).length
  | [], _ => Nat.zero_le _
  | r :: R, h => by
    have h1 := List.length_pos_iff.2 (h r (by simp))
    have h2 := flat_ge R (fun r hr => h r (by simp [hr]))
    unfold flatR at *
    rw [List.flatMap_cons, List.length_append, List.length_cons]
    omega
end Go.Proofs.Ytgbmgdffgmablaa

/- ladder: put, whole. (By mkldo.py.) -/
namespace Go.Proofs.Ytgbmgdffgmablaa
open Go.RowKit Go.Shelf Go.Sort Go.Maps

theorem good_side {o : Od} (h : goodO o = true) : o.side = 1 ∨ o.side = 2 := by
  unfold goodO at h
  simp only [Bool.and_eq_true] at h
  have h2 := h.2.2.1
  unfold rkN at h2
  by_cases h3 : o.side = 1
  · exact .inl h3
  · rw [if_neg h3] at h2
    by_cases h4 : o.side = 2
    · exact .inr h4
    · rw [if_neg h4] at h2; cases h2
theorem ids_perm {A B : List Od} (h : A.Perm B) (hb : B.Pairwise (fun x y => ¬ x.id = y.id)) : A.Pairwise (fun x y => ¬ x.id = y.id) :=
  h.symm.pairwise hb (fun h e => h e.symm)
theorem split_at (R : List Rw) (k : Nat) (h : k < R.length) : R = R.take k ++ [R[k]!] ++ R.drop (k + 1) := by
  rw [getElem!_pos R k h, List.append_assoc, List.singleton_append, ← List.drop_eq_getElem_cons h, List.take_append_drop]
end Go.Proofs.Ytgbmgdffgmablaa

/- ladder: Add. (By mkldq.py.) -/
namespace Go.Proofs.Ytgbmgdffgmablaa
open Go.RowKit Go.Shelf Go.Sort Go.Maps

end Go.Proofs.Ytgbmgdffgmablaa

/- ladder: what is told of a book, by its orders. -/
namespace Go.Proofs.Ytgbmgdffgmablaa
open Go.RowKit Go.Shelf Go.Sort

/-- The orders of a side. -/
def sideL (sd : Int) (L : List Od) : List Od := L.filter (fun x => x.side == sd)
theorem sideL_all {s : Int} {L : List Od} (h : ∀ x ∈ L, x.side = s) : sideL s L = L := by
  unfold sideL
  rw [List.filter_eq_self]
  intro x hx
  simp [h x hx]
theorem sideL_none {s sd : Int} {L : List Od} (h : ∀ x ∈ L, x.side = s) (hn : ¬ s = sd) : sideL sd L = [] := by
  unfold sideL
  rw [List.filter_eq_nil_iff]
  intro x hx
  rw [h x hx]
  simp [hn]
theorem best_head : ∀ (R : List Rw), (∀ r ∈ R, r.q ≠ []) → bestO R = (flatR R).head?
  | [], _ => rfl
  | r :: R, h => by
    show r.q.head? = (r.q ++ flatR R).head?
    have := h r (by simp)
    cases hq : r.q with
    | nil => exact absurd hq this
    | cons x q => rfl
/-- The best order of a side. -/
def bestL (sd : Int) (L : List Od) : Option Od := (sideL sd L).head?
/-- Prices one behind the other, each once. -/
def prF (out : List Int) (x : Od) : List Int := if out.getLast? = some x.price then out else out ++ [x.price]
def prs (L : List Od) : List Int := L.foldl prF []
theorem prs_same (p : Int) : ∀ (q : List Od) (out : List Int), (∀ x ∈ q, x.price = p) → out.getLast? = some p → q.foldl prF out = out
  | [], _, _, _ => rfl
  | x :: q, out, h, hl => by
    rw [List.foldl_cons]
    have : prF out x = out := by unfold prF; rw [h x (by simp), if_pos hl]
    rw [this]
    exact prs_same p q out (fun y hy => h y (by simp [hy])) hl
theorem prs_row {p : Int} {q : List Od} {out : List Int} (h : ∀ x ∈ q, x.price = p) (hq : q ≠ []) (hl : ¬ out.getLast? = some p) : q.foldl prF out = out ++ [p] := by
  cases q with
  | nil => exact absurd rfl hq
  | cons x q =>
    rw [List.foldl_cons]
    have : prF out x = out ++ [p] := by unfold prF; rw [h x (by simp), if_neg hl]
    rw [this]
    exact prs_same p q _ (fun y hy => h y (by simp [hy])) (by simp)
theorem prs_flat {s : Int} (hs : s = 1 ∨ s = 2) : ∀ (R : List Rw) (out : List Int), SideOk s R → (∀ p, out.getLast? = some p → ∀ r ∈ R, betN s p r.pr = true) → (flatR R).foldl prF out = out ++ R.map (·.pr)
  | [], out, _, _ => by show out = out ++ []; rw [List.append_nil]
  | r :: R, out, h, ho => by
    have hq := h.some r (by simp)
    have hm := h.mem r (by simp)
    have hp := h.rows
    rw [List.pairwise_cons] at hp
    have h' : SideOk s R := ⟨hp.2, fun y hy => h.some y (by simp [hy]), fun y hy => h.mem y (by simp [hy]), fun y hy => h.que y (by simp [hy])⟩
    show (r.q ++ flatR R).foldl prF out = _
    rw [List.foldl_append, prs_row (fun x hx => (hm x hx).2) hq (fun e => by
      have := ho _ e r (by simp)
      rw [bet_iff] at this
      omega), prs_flat hs R _ h' (fun p e y hy => by
      rw [List.getLast?_concat] at e
      injection e with e
      rw [← e]
      exact hp.1 y hy), List.append_assoc]
    rfl
theorem prV_map (R : List Rw) : prV R = (R.map (·.pr)).map (fun p => .int .i64 p) := by unfold prV; rw [List.map_map]; rfl
end Go.Proofs.Ytgbmgdffgmablaa

/- ladder: the chapter's example. -/
namespace Go.Proofs.Ytgbmgdffgmablaa
open Go.RowKit Go.Shelf Go.Sort

def exO : List Od := [⟨0, 0, 2, 7, 1, 0⟩, ⟨1, 0, 2, 5, 1, 1⟩, ⟨2, 0, 2, 6, 1, 2⟩]
def exL : List Od := [⟨1, 0, 2, 5, 1, 1⟩, ⟨2, 0, 2, 6, 1, 2⟩, ⟨0, 0, 2, 7, 1, 0⟩]
theorem own_three {w : World} {base : Nat} {T : TypeId} {v a b c : Value} (h : w.ownsRow base T 1 v 3 [a, b, c]) : ∃ g k, v = .slice (some ⟨g, 0, none⟩) 3 k ∧ w.cell? ⟨g, 0, none⟩ = some a ∧ w.cell? ⟨g, 1, none⟩ = some b ∧ w.cell? ⟨g, 2, none⟩ = some c := by
  rcases h.2 with ⟨_, h0⟩ | ⟨g, cap, cur, hv, _⟩
  · cases h0
  · have hb : v.ownBlock = some g := by rw [hv]; rfl
    exact ⟨g, cap, hv, (own_cell h hb rfl).1, (own_cell h hb rfl).1, (own_cell h hb rfl).1⟩
theorem side_nil (s : Int) : SideOk s [] := ⟨List.Pairwise.nil, fun _ h => (by cases h), fun _ h => (by cases h), fun _ h => (by cases h)⟩
theorem whole_foot {p m k : Nat} (h : foot (some ⟨p, 0, none⟩) (some m) nilS nilS k) : k = p ∨ k = m := by
  rcases h with h | h | h | h | ⟨r, h, _⟩
  · injection h with h; injection h with h; exact .inl h.symm
  · injection h with h; exact .inr h.symm
  · cases h
  · cases h
  · cases h
end Go.Proofs.Ytgbmgdffgmablaa

/- ladder: Level; and what a book tells that has no such order, or was never made. -/
namespace Go.Proofs.Ytgbmgdffgmablaa
open Go.RowKit Go.Shelf Go.Sort

theorem side_ok {s1 s2 : Sd} (h1 : SideOk 1 s1.rs) (h2 : SideOk 2 s2.rs) (sd : Int) : (rsOf s1 s2 sd).Pairwise (fun a b => betN sd a.pr b.pr = true) := by
  unfold rsOf
  by_cases e1 : sd = 1
  · subst e1; rw [if_pos rfl]; exact h1.rows
  · rw [if_neg e1]
    by_cases e2 : sd = 2
    · subst e2; rw [if_pos rfl]; exact h2.rows
    · rw [if_neg e2]; exact List.Pairwise.nil
/-- A queue of a row that is there, or nothing. -/
def levQ (sd p : Int) (R : List Rw) : List Od := if atN sd p R < R.length ∧ (R[atN sd p R]!).pr = p then (R[atN sd p R]!).q else []
end Go.Proofs.Ytgbmgdffgmablaa

/- grove, in plain words: a tree, its rows, where a key hangs. -/
namespace Go.Proofs.Ytgbmgdffgmablaa
set_option linter.unusedVariables false

/-- A tree: each node's block, its key, its queue's value and numbers. -/
inductive Tr where
  | nil : Tr
  | node (a : Nat) (key : Int) (v : Value) (q : List Int) (l r : Tr) : Tr
/-- A price and its IDs. -/
abbrev Rq := Int × List Int
def Tr.rows : Tr → List Rq
  | .nil => []
  | .node _ key _ q l r => l.rows ++ (key, q) :: r.rows
def Tr.ptr : Tr → Value
  | .nil => .pointer none
  | .node a _ _ _ _ _ => .pointer (some ⟨a, 0, none⟩)
/-- The nodes' blocks. -/
def Tr.blks : Tr → List Nat
  | .nil => []
  | .node a _ _ _ l r => l.blks ++ a :: r.blks
/-- The queues' values. -/
def Tr.vals : Tr → List Value
  | .nil => []
  | .node _ _ v _ l r => l.vals ++ v :: r.vals
def Tr.size : Tr → Nat
  | .nil => 0
  | .node _ _ _ _ l r => l.size + r.size + 1
/-- The way down to a place in a tree. -/
inductive Cx where
  | top : Cx
  | left (a : Nat) (key : Int) (v : Value) (q : List Int) (r : Tr) (c : Cx) : Cx
  | right (a : Nat) (key : Int) (v : Value) (q : List Int) (l : Tr) (c : Cx) : Cx
def Cx.plug : Cx → Tr → Tr
  | .top, t => t
  | .left a key v q r c, t => c.plug (.node a key v q t r)
  | .right a key v q l c, t => c.plug (.node a key v q l t)
def Cx.pre : Cx → List Rq
  | .top => []
  | .left _ _ _ _ _ c => c.pre
  | .right _ key _ q l c => c.pre ++ (l.rows ++ [(key, q)])
def Cx.post : Cx → List Rq
  | .top => []
  | .left _ key _ q r c => (key, q) :: r.rows ++ c.post
  | .right _ _ _ _ _ c => c.post
/-- The cell that holds the pointer at that place; t: the tree's block. -/
def Cx.hole (t : Nat) : Cx → Addr
  | .top => ⟨t, 1, none⟩
  | .left a _ _ _ _ _ => ⟨a, 2, none⟩
  | .right a _ _ _ _ _ => ⟨a, 3, none⟩
theorem rows_plug : ∀ (c : Cx) (t : Tr), (c.plug t).rows = c.pre ++ t.rows ++ c.post
  | .top, t => by simp [Cx.plug, Cx.pre, Cx.post]
  | .left a key v q r c, t => by simp [Cx.plug, rows_plug c, Cx.pre, Cx.post, Tr.rows]
  | .right a key v q l c, t => by simp [Cx.plug, rows_plug c, Cx.pre, Cx.post, Tr.rows]
theorem bet_trans {s a b c : Int} (h : betN s a b = true) (k : betN s b c = true) : betN s a c = true := by
  rw [bet_iff] at h k ⊢
  rcases h with ⟨h1, h2⟩ | ⟨h1, h2⟩ <;> rcases k with ⟨k1, k2⟩ | ⟨k1, k2⟩ <;> omega
theorem bet_tri {s a b : Int} (hs : s = 1 ∨ s = 2) (h : betN s a b = false) (k : betN s b a = false) : a = b := by
  have h1 : ¬ betN s a b = true := by rw [h]; simp
  have k1 : ¬ betN s b a = true := by rw [k]; simp
  rw [bet_iff] at h1 k1
  omega
/-- A tree's rows, in their order. -/
def Srt (s : Int) (R : List Rq) : Prop := R.Pairwise (fun x y => betN s x.1 y.1 = true)
/-- The place of a key: all ahead of it, all behind it. -/
structure At (s key : Int) (c : Cx) (t : Tr) : Prop where
  srt : Srt s (c.plug t).rows
  pre : ∀ x ∈ c.pre, betN s x.1 key = true
  post : ∀ x ∈ c.post, betN s key x.1 = true
theorem At.start {s key : Int} {t : Tr} (h : Srt s t.rows) : At s key .top t := ⟨h, fun x hx => (by cases hx), fun x hx => (by cases hx)⟩
theorem At.goL {s key : Int} {c : Cx} {a : Nat} {k : Int} {v : Value} {q : List Int} {l r : Tr} (h : At s key c (.node a k v q l r)) (hb : betN s key k = true) : At s key (.left a k v q r c) l := by
  refine ⟨h.srt, h.pre, fun x hx => ?_⟩
  have hs := h.srt
  rw [rows_plug] at hs
  unfold Srt at hs
  simp only [Tr.rows, List.append_assoc, List.cons_append] at hs
  rw [List.pairwise_append] at hs
  have h2 := hs.2.1
  rw [List.pairwise_append] at h2
  have h3 := h2.2.1
  rw [List.pairwise_cons] at h3
  simp only [Cx.post, List.cons_append, List.mem_cons, List.mem_append] at hx
  rcases hx with rfl | hx | hx
  · exact hb
  · exact bet_trans hb (h3.1 x (by simp [hx]))
  · exact h.post x hx
theorem At.goR {s key : Int} {c : Cx} {a : Nat} {k : Int} {v : Value} {q : List Int} {l r : Tr} (h : At s key c (.node a k v q l r)) (hb : betN s k key = true) : At s key (.right a k v q l c) r := by
  refine ⟨h.srt, fun x hx => ?_, h.post⟩
  have hs := h.srt
  rw [rows_plug] at hs
  unfold Srt at hs
  simp only [Tr.rows, List.append_assoc, List.cons_append] at hs
  rw [List.pairwise_append] at hs
  have h2 := hs.2.1
  rw [List.pairwise_append] at h2
  simp only [Cx.pre, List.mem_append, List.mem_singleton] at hx
  rcases hx with hx | hx | rfl
  · exact h.pre x hx
  · exact bet_trans (h2.2.2 x hx (k, q) (by simp)) hb
  · exact hb
/-- What hangs at a key's place: nothing, or that key's node. -/
def Hangs (key : Int) : Tr → Prop
  | .nil => True
  | .node _ k _ _ _ _ => k = key
end Go.Proofs.Ytgbmgdffgmablaa

/- grove: trees in memory; planted's function; spot. -/
namespace Go.Proofs.Ytgbmgdffgmablaa
open Go.RowKit Go.Shelf Go.Sort Go.Maps Go.Lib
set_option linter.unusedVariables false

def idV (q : List Int) : List Value := q.map (fun x => .int .u64 x)
/-- The function that tells which key is ahead; sb: its side's box. -/
abbrev ahF (sb : Nat) : Value := .func (.func 55) #[] #[.pointer (some ⟨sb, 0, none⟩)]
/-- A tree in memory. -/
def TrIn (W : World) : Tr → Prop
  | .nil => True
  | .node a key v q l r => Cl 91 W a #[.int .i64 key, v, l.ptr, r.ptr] ∧ W.ownsRow 0 22 1 v q.length (idV q) ∧ TrIn W l ∧ TrIn W r
/-- The way down to a place, in memory; p: the pointer that stands there. -/
def CxIn (W : World) (tb sb : Nat) : Cx → Value → Prop
  | .top, p => Cl 95 W tb #[ahF sb, p]
  | .left a key v q r c, p => Cl 91 W a #[.int .i64 key, v, p, r.ptr] ∧ W.ownsRow 0 22 1 v q.length (idV q) ∧ TrIn W r ∧ CxIn W tb sb c (.pointer (some ⟨a, 0, none⟩))
  | .right a key v q l c, p => Cl 91 W a #[.int .i64 key, v, l.ptr, p] ∧ W.ownsRow 0 22 1 v q.length (idV q) ∧ TrIn W l ∧ CxIn W tb sb c (.pointer (some ⟨a, 0, none⟩))
theorem cx_hole {W : World} {tb sb : Nat} {c : Cx} {p : Value} (h : CxIn W tb sb c p) : W.cell? (c.hole tb) = some p ∧ W.frozen? (c.hole tb) = false := by
  cases c with
  | top => exact ⟨(Cl.c h 1).trans rfl, Cl.f h⟩
  | left a key v q r c => exact ⟨(h.1.c 2).trans rfl, h.1.f⟩
  | right a key v q l c => exact ⟨(h.1.c 3).trans rfl, h.1.f⟩
theorem cx_fun {W : World} {tb sb : Nat} : ∀ {c : Cx} {p : Value}, CxIn W tb sb c p → W.cell? ⟨tb, 0, none⟩ = some (ahF sb)
  | .top, p, h => (Cl.c h 0).trans rfl
  | .left .., p, h => cx_fun h.2.2.2
  | .right .., p, h => cx_fun h.2.2.2

set_option maxHeartbeats 4000000 in
set_option maxRecDepth 100000 in
theorem gAhead_c (sb : Nat) (s a b : Int) (w : World) (h : Cl 3 w sb #[.int .i64 s]) :
    Calls Try.prog 55 #[.int .i64 a, .int .i64 b, .pointer (some ⟨sb, 0, none⟩)] w fun e w' => e = .returned (.bool (betN s a b)) ∧ w' = w := by
  have k0 : w.cell? ⟨sb, 0, none⟩ = some (.int .i64 s) := (h.c 0).trans rfl
  have HB := Lib.hid (better_c s a b w)
  generalize betN s a b = r at *
  clear h
  go_enter Try.func55, Try.ntmps55
  go_wp2_with ((with_reducible refine HB.out.mono ?_); rintro e w1 ⟨rfl, rfl⟩)
  go_ret
  exact ⟨rfl, rfl⟩

theorem exists_least {p : Nat → Prop} (h : ∃ n, p n) : ∃ n, p n ∧ ∀ m, p m → n ≤ m := by
  obtain ⟨n, hn⟩ := h
  induction n using Nat.strongRecOn with
  | _ n ih =>
    by_cases hx : ∃ m, m < n ∧ p m
    · obtain ⟨m, h1, h2⟩ := hx; exact ih m h1 h2
    · exact ⟨n, hn, fun m hm => Classical.byContradiction fun hlt => hx ⟨m, by omega, hm⟩⟩
open Classical in
noncomputable def muJ (J : Nat → Act → World → Prop) (a : Act) (w : World) : Nat := if h : ∃ n, J n a w then Classical.choose (exists_least h) else 0
/-- A scope with jumps back to one label, the measure told beside the frame. -/
theorem scope_ghost {P : Program} {c X : Code} {a : Act} {w : World} {Q : Exit → Act → World → Prop} (l : Nat) (J : Nat → Act → World → Prop) (hf : findLabel c l = some (Code.skip.seq X))
    (first : (∀ n a w, J n a w → X.wp P (Exit.jump l (fun a w => ∃ n, J n a w) Q) a w) → c.wp P (Exit.jump l (fun a w => ∃ n, J n a w) Q) a w)
    (pass : ∀ n a w, J n a w → X.wp P (Exit.jump l (fun a' w' => ∃ m, m < n ∧ J m a' w') Q) a w) : (Code.scope c).wp P Q a w := by
  have sk : ∀ {Q : Exit → Act → World → Prop} {a : Act} {w : World}, X.wp P Q a w → (Code.skip.seq X).wp P Q a w := fun h => wp_seq (wp_skip h)
  refine wp_scope_jumps l (fun a w => ∃ n, J n a w) (muJ J) hf (first (fun n a w h => Code.wp_mono (fun e a' w' hq => by cases e with | goto l' => (obtain ⟨h1, m, _, h3⟩ := hq; exact ⟨h1, m, h3⟩) | normal => exact hq | exit id => exact hq | ret => exact hq | panic ch => exact hq | outgrown => exact hq) (pass n a w h))) (fun a w h => ?_)
  have hs := Classical.choose_spec (exists_least h)
  have em : muJ J a w = Classical.choose (exists_least h) := by unfold muJ; rw [dif_pos h]
  refine Code.wp_mono (fun e a' w' hq => ?_) (sk (pass _ a w hs.1))
  cases e with
  | goto l' =>
    obtain ⟨h1, m, h2, h3⟩ := hq
    refine ⟨h1, ⟨m, h3⟩, ?_⟩
    have hx : ∃ n, J n a' w' := ⟨m, h3⟩
    have e2 : muJ J a' w' = Classical.choose (exists_least hx) := by unfold muJ; rw [dif_pos hx]
    have h4 := (Classical.choose_spec (exists_least hx)).2 m h3
    rw [em, e2]
    omega
  | normal => exact hq
  | exit id => exact hq
  | ret => exact hq
  | panic ch => exact hq
  | outgrown => exact hq
theorem hole_form (tb : Nat) (c : Cx) : ∃ b o, c.hole tb = ⟨b, o, none⟩ := by cases c <;> exact ⟨_, _, rfl⟩
theorem plug_ne : ∀ (c : Cx) (a : Nat) (k : Int) (v : Value) (q : List Int) (l r : Tr), c.plug (.node a k v q l r) ≠ .nil
  | .top, _, _, _, _, _, _ => by intro h; cases h
  | .left b _ _ _ _ c, _, _, _, _, _, _ => plug_ne c _ _ _ _ _ _
  | .right b _ _ _ _ c, _, _, _, _, _, _ => plug_ne c _ _ _ _ _ _
/-- Where spot stands, at each pass. -/
structure SpI (w : World) (tb sb : Nat) (s key : Int) (T : Tr) (c : Cx) (t : Tr) : Prop where
  eq : c.plug t = T
  at_ : At s key c t
  cx : CxIn w tb sb c t.ptr
  tr : TrIn w t
def SpJ (w : World) (tb sb : Nat) (s key : Int) (T : Tr) (n : Nat) (a : Act) (w' : World) : Prop :=
  ∃ c t q, t.size = n ∧ Hid (SpI w tb sb s key T c t) ∧ w' = w.drewN q ∧ ∃ u6 u7 u8 u9 u10 u11 u12 u13 u14 u15 u16 u17 u18 u19 u20 u21 u22 u23 u24 u25 u26 u27 u28 u29 u30 u31 u32 u33 u34 u35 u36 u37 u38 u39 u40 u41 u42 u43 u44 u45 u46 u47 u48 u49, a = ⟨#[.pointer (some ⟨tb, 0, none⟩), .int .i64 key, undef, undef, .pointer none, .pointer (some (c.hole tb)), u6, u7, u8, u9, u10, u11, u12, u13, u14, u15, u16, u17, u18, u19, u20, u21, u22, u23, u24, u25, u26, u27, u28, u29, u30, u31, u32, u33, u34, u35, u36, u37, u38, u39, u40, u41, u42, u43, u44, u45, u46, u47, u48, u49], []⟩
def SpEnd (w : World) (tb sb : Nat) (s key : Int) (T : Tr) (e : Ending) (w' : World) : Prop :=
  ∃ c t, e = .returned (.pointer (some (c.hole tb))) ∧ Hid (SpI w tb sb s key T c t ∧ Hangs key t) ∧ ∃ n, w' = w.drewN n

set_option maxHeartbeats 4000000 in
set_option maxRecDepth 100000 in
theorem spot_c (tb sb : Nat) (s key : Int) (T : Tr) (w : World) (hs : T ≠ .nil → (s = 1 ∨ s = 2)) (hb : Cl 3 w sb #[.int .i64 s]) (hc : CxIn w tb sb .top T.ptr) (ht : TrIn w T) (hS : Srt s T.rows) :
    Calls Try.prog 46 #[.pointer (some ⟨tb, 0, none⟩), .int .i64 key] w (SpEnd w tb sb s key T) := by
  have mixed : Try.prog.follows .mixedOrders = true := by kernel_rfl
  have HI0 : Hid (SpI w tb sb s key T .top T) := Lib.hid ⟨rfl, At.start hS, hc, ht⟩
  have HA0 : Hid (∀ a b X, X.heap = w.heap → Calls Try.prog 55 #[.int .i64 a, .int .i64 b, .pointer (some ⟨sb, 0, none⟩)] X fun e w' => e = .returned (.bool (betN s a b)) ∧ w' = X) := Lib.hid (fun a b X hX => gAhead_c sb s a b X (by unfold Cl; rw [hX]; exact hb))
  have k0 : w.cell? ⟨tb, 0, none⟩ = some (.func (.func 55) #[] #[.pointer (some ⟨sb, 0, none⟩)]) := cx_fun hc
  have HS := Lib.hid hs
  clear hc ht hS hb hs
  go_enter Try.func46, Try.ntmps46
  go_wp2_with fail
  refine scope_ghost 0 (SpJ w tb sb s key T) rfl ?_ ?_
  · intro hp
    go_wp2_with fail
    go_step3
    rename_i K hK
    refine hK _ _ (hp T.size _ _ ⟨.top, T, 0, rfl, HI0, rfl, ?_⟩)
    exact ⟨_, _, _, _, _, _, _, _, _, _, _, _, _, _, _, _, _, _, _, _, _, _, _, _, _, _, _, _, _, _, _, _, _, _, _, _, _, _, _, _, _, _, _, _, rfl⟩
  · rintro n a w' ⟨c, t, q, rfl, HI, rfl, u6, u7, u8, u9, u10, u11, u12, u13, u14, u15, u16, u17, u18, u19, u20, u21, u22, u23, u24, u25, u26, u27, u28, u29, u30, u31, u32, u33, u34, u35, u36, u37, u38, u39, u40, u41, u42, u43, u44, u45, u46, u47, u48, u49, rfl⟩
    obtain ⟨b, o, eh⟩ := hole_form tb c
    have h1 := cx_hole HI.out.cx
    rw [eh] at h1 ⊢
    obtain ⟨c1, c2⟩ := h1
    have HA : Hid (∀ a b n, Calls Try.prog 55 #[.int .i64 a, .int .i64 b, .pointer (some ⟨sb, 0, none⟩)] ((w.drewN q).drewN n) fun e w' => e = .returned (.bool (betN s a b)) ∧ w' = (w.drewN q).drewN n) := Lib.hid (fun a b n => HA0.out a b _ rfl)
    have HD : Hid (∀ n m, ((w.drewN q).drewN n).drewN m = w.drewN (q + n + m)) := Lib.hid (fun n m => by rw [World.drewN_drewN, World.drewN_drewN, Nat.add_assoc])
    have HA2 : Hid (∀ a b n m, Calls Try.prog 55 #[.int .i64 a, .int .i64 b, .pointer (some ⟨sb, 0, none⟩)] (((w.drewN q).drewN n).drewN m) fun e w' => e = .returned (.bool (betN s a b)) ∧ w' = ((w.drewN q).drewN n).drewN m) := Lib.hid (fun a b n m => HA0.out a b _ rfl)
    have HD1 : Hid (∀ n, (w.drewN q).drewN n = w.drewN (q + n)) := Lib.hid (fun n => by rw [World.drewN_drewN])
    have k0q : (w.drewN q).cell? ⟨tb, 0, none⟩ = some (.func (.func 55) #[] #[.pointer (some ⟨sb, 0, none⟩)]) := k0
    clear k0 HA0
    cases t with
    | nil =>
      have c1' : (w.drewN q).cell? ⟨b, o, none⟩ = some (.pointer none) := c1
      have HE : ∀ n, Hid (SpEnd w tb sb s key T (.returned (.pointer (some ⟨b, o, none⟩))) (w.drewN n)) := fun n => Lib.hid ⟨c, .nil, by rw [eh], Lib.hid ⟨HI.out, trivial⟩, n, rfl⟩
      clear c1 HI
      generalize w.drewN q = wq at *
      go_wp2_with fail
      go_quiet (((with_reducible exact Calls.quiet_of_same (HA.out _ _ _))))
      go_wp2_with fail
      go_quiet (((with_reducible exact Calls.quiet_of_same (HA.out _ _ _))))
      go_wp2_with fail
      show bodyPost Try.prog Try.f46 (SpEnd w tb sb s key T) Exit.ret _ _
      rw [HD.out]
      go_ret
      exact (HE _).out
    | node x k v qq l r =>
      have c1' : (w.drewN q).cell? ⟨b, o, none⟩ = some (.pointer (some ⟨x, 0, none⟩)) := c1
      have hx := HI.out.tr.1
      have d0 : (w.drewN q).cell? ⟨x, 0, none⟩ = some (.int .i64 k) := (hx.c 0).trans rfl
      clear c1 hx
      cases h1 : betN s key k with
      | true =>
        have HN : Hid (SpI w tb sb s key T (.left x k v qq r c) l) := Lib.hid ⟨HI.out.eq, HI.out.at_.goL h1, ⟨HI.out.tr.1, HI.out.tr.2.1, HI.out.tr.2.2.2, HI.out.cx⟩, HI.out.tr.2.2.1⟩
        clear HI
        generalize w.drewN q = wq at *
        go_wp2_with fail
        go_quiet (((with_reducible exact Calls.quiet_of_same (HA.out _ _ _))))
        rw [h1]
        go_wp2_with fail
        go_step3
        exact ⟨rfl, l.size, by show l.size < l.size + r.size + 1; omega, .left x k v qq r c, l, _, rfl, HN, HD1.out _, _, _, _, _, _, _, _, _, _, _, _, _, _, _, _, _, _, _, _, _, _, _, _, _, _, _, _, _, _, _, _, _, _, _, _, _, _, _, _, _, _, _, _, _, rfl⟩
      | false =>
        cases h2 : betN s k key with
        | true =>
          have HN : Hid (SpI w tb sb s key T (.right x k v qq l c) r) := Lib.hid ⟨HI.out.eq, HI.out.at_.goR h2, ⟨HI.out.tr.1, HI.out.tr.2.1, HI.out.tr.2.2.1, HI.out.cx⟩, HI.out.tr.2.2.2⟩
          clear HI
          generalize w.drewN q = wq at *
          go_wp2_with fail
          go_quiet (((with_reducible exact Calls.quiet_of_same (HA.out _ _ _))))
          rw [h1]
          go_wp2_with fail
          have k0r : (wq.drewN nq).cell? ⟨tb, 0, none⟩ = some (.func (.func 55) #[] #[.pointer (some ⟨sb, 0, none⟩)]) := k0q
          have d0r : (wq.drewN nq).cell? ⟨x, 0, none⟩ = some (.int .i64 k) := d0
          have HA3 := Lib.hid (fun a b m => HA2.out a b nq m)
          have HD3 := Lib.hid (fun m => HD.out nq m)
          clear HA2 HD k0q d0 c1' HA HD1
          generalize wq.drewN nq = wz at *
          go_quiet (((with_reducible exact Calls.quiet_of_same (HA3.out _ _ _))))
          rw [h2]
          go_wp2_with fail
          go_step3
          exact ⟨rfl, r.size, by show r.size < l.size + r.size + 1; omega, .right x k v qq l c, r, _, rfl, HN, HD3.out _, _, _, _, _, _, _, _, _, _, _, _, _, _, _, _, _, _, _, _, _, _, _, _, _, _, _, _, _, _, _, _, _, _, _, _, _, _, _, _, _, _, _, _, _, rfl⟩
        | false =>
          have HE : ∀ n, Hid (SpEnd w tb sb s key T (.returned (.pointer (some ⟨b, o, none⟩))) (w.drewN n)) := fun n => Lib.hid ⟨c, .node x k v qq l r, by rw [eh], Lib.hid ⟨HI.out, (bet_tri (HS.out (by rw [← HI.out.eq]; exact plug_ne _ _ _ _ _ _ _)) h1 h2).symm⟩, n, rfl⟩
          clear HI
          generalize w.drewN q = wq at *
          go_wp2_with fail
          go_quiet (((with_reducible exact Calls.quiet_of_same (HA.out _ _ _))))
          rw [h1]
          go_wp2_with fail
          have k0r : (wq.drewN nq).cell? ⟨tb, 0, none⟩ = some (.func (.func 55) #[] #[.pointer (some ⟨sb, 0, none⟩)]) := k0q
          have d0r : (wq.drewN nq).cell? ⟨x, 0, none⟩ = some (.int .i64 k) := d0
          have HA3 := Lib.hid (fun a b m => HA2.out a b nq m)
          have HD3 := Lib.hid (fun m => HD.out nq m)
          clear HA2 HD k0q d0 c1' HA HD1
          generalize wq.drewN nq = wz at *
          go_quiet (((with_reducible exact Calls.quiet_of_same (HA3.out _ _ _))))
          rw [h2]
          go_wp2_with fail
          show bodyPost Try.prog Try.f46 (SpEnd w tb sb s key T) Exit.ret _ _
          rw [HD3.out]
          go_ret
          exact (HE _).out
end Go.Proofs.Ytgbmgdffgmablaa

/- grove: trees in memory, turned at one place; get, put. -/
namespace Go.Proofs.Ytgbmgdffgmablaa
open Go.RowKit Go.Shelf Go.Sort Go.Maps Go.Lib
set_option linter.unusedVariables false

def Cx.blks : Cx → List Nat
  | .top => []
  | .left a _ _ _ r c => a :: (r.blks ++ c.blks)
  | .right a _ _ _ l c => a :: (l.blks ++ c.blks)
def Cx.vals : Cx → List Value
  | .top => []
  | .left _ _ v _ r c => v :: (r.vals ++ c.vals)
  | .right _ _ v _ l c => v :: (l.vals ++ c.vals)
theorem plug_blks : ∀ (c : Cx) (t : Tr), (c.plug t).blks.Perm (t.blks ++ c.blks)
  | .top, t => by simp [Cx.plug, Cx.blks]
  | .left a key v q r c, t => by
    refine (plug_blks c _).trans ?_
    simp only [Tr.blks, Cx.blks, List.append_assoc, List.cons_append]
    exact List.Perm.refl _
  | .right a key v q l c, t => by
    refine (plug_blks c _).trans ?_
    simp only [Tr.blks, Cx.blks, List.append_assoc, List.cons_append]
    exact List.perm_middle.trans ((List.Perm.cons a (List.perm_append_comm_assoc l.blks t.blks c.blks)).trans List.perm_middle.symm)
theorem TrIn.fr {S : Nat → Prop} {W W' : World} (hf : Fr S W W') : ∀ {t : Tr}, TrIn W t → (∀ b ∈ t.blks, ¬ S b) → (∀ v ∈ t.vals, ∀ k, v.ownBlock = some k → ¬ S k) → TrIn W' t
  | .nil, _, _, _ => trivial
  | .node a key v q l r, h, hb, hv => by
    refine ⟨hf.blk h.1 (hb a (by simp [Tr.blks])), own_fr h.2.1 hf (hv v (by simp [Tr.vals])), TrIn.fr hf h.2.2.1 (fun b hb' => hb b (by simp [Tr.blks, hb'])) (fun v hv' => hv v (by simp [Tr.vals, hv'])), TrIn.fr hf h.2.2.2 (fun b hb' => hb b (by simp [Tr.blks, hb'])) (fun v hv' => hv v (by simp [Tr.vals, hv']))⟩
theorem CxIn.fr {S : Nat → Prop} {W W' : World} {tb sb : Nat} (hf : Fr S W W') (ht : ¬ S tb) : ∀ {c : Cx} {p : Value}, CxIn W tb sb c p → (∀ b ∈ c.blks, ¬ S b) → (∀ v ∈ c.vals, ∀ k, v.ownBlock = some k → ¬ S k) → CxIn W' tb sb c p
  | .top, p, h, _, _ => hf.blk h ht
  | .left a key v q r c, p, h, hb, hv => by
    refine ⟨hf.blk h.1 (hb a (by simp [Cx.blks])), own_fr h.2.1 hf (hv v (by simp [Cx.vals])), TrIn.fr hf h.2.2.1 (fun b hb' => hb b (by simp [Cx.blks, hb'])) (fun v hv' => hv v (by simp [Cx.vals, hv'])), CxIn.fr hf ht h.2.2.2 (fun b hb' => hb b (by simp [Cx.blks, hb'])) (fun v hv' => hv v (by simp [Cx.vals, hv']))⟩
  | .right a key v q l c, p, h, hb, hv => by
    refine ⟨hf.blk h.1 (hb a (by simp [Cx.blks])), own_fr h.2.1 hf (hv v (by simp [Cx.vals])), TrIn.fr hf h.2.2.1 (fun b hb' => hb b (by simp [Cx.blks, hb'])) (fun v hv' => hv v (by simp [Cx.vals, hv'])), CxIn.fr hf ht h.2.2.2 (fun b hb' => hb b (by simp [Cx.blks, hb'])) (fun v hv' => hv v (by simp [Cx.vals, hv']))⟩
/-- No block of a node is a queue's. -/
theorem TrIn.ne {W : World} {g : Nat} {cs : Array Value} {T : TypeId} (hg : W.heap[g]? = some (.cells cs T (0, 0))) (hT : 22 ≠ T) : ∀ {t : Tr}, TrIn W t → ∀ v ∈ t.vals, v.ownBlock ≠ some g
  | .nil, _, v, hv => (by cases hv)
  | .node a key v q l r, h, u, hu => by
    simp only [Tr.vals, List.mem_append, List.mem_cons] at hu
    rcases hu with hu | rfl | hu
    · exact TrIn.ne hg hT h.2.2.1 u hu
    · exact own_ne h.2.1 hg hT
    · exact TrIn.ne hg hT h.2.2.2 u hu
theorem CxIn.ne {W : World} {tb sb g : Nat} {cs : Array Value} {T : TypeId} (hg : W.heap[g]? = some (.cells cs T (0, 0))) (hT : 22 ≠ T) : ∀ {c : Cx} {p : Value}, CxIn W tb sb c p → ∀ v ∈ c.vals, v.ownBlock ≠ some g
  | .top, _, _, v, hv => (by cases hv)
  | .left a key v q r c, p, h, u, hu => by
    simp only [Cx.vals, List.mem_append, List.mem_cons] at hu
    rcases hu with rfl | hu | hu
    · exact own_ne h.2.1 hg hT
    · exact TrIn.ne hg hT h.2.2.1 u hu
    · exact CxIn.ne hg hT h.2.2.2 u hu
  | .right a key v q l c, p, h, u, hu => by
    simp only [Cx.vals, List.mem_append, List.mem_cons] at hu
    rcases hu with rfl | hu | hu
    · exact own_ne h.2.1 hg hT
    · exact TrIn.ne hg hT h.2.2.1 u hu
    · exact CxIn.ne hg hT h.2.2.2 u hu
theorem CxIn.tree {W : World} {tb sb : Nat} : ∀ {c : Cx} {p : Value}, CxIn W tb sb c p → ∃ p', Cl 95 W tb #[ahF sb, p']
  | .top, p, h => ⟨p, h⟩
  | .left .., p, h => CxIn.tree h.2.2.2
  | .right .., p, h => CxIn.tree h.2.2.2
/-- Another pointer at the place. -/
theorem CxIn.set {W : World} {tb sb : Nat} {c : Cx} {p : Value} (h : CxIn W tb sb c p) (hd : c.blks.Nodup) (p' : Value) : CxIn (W.setCell (c.hole tb) p') tb sb c p' := by
  cases c with
  | top => exact (heap_set h).trans rfl
  | left a key v q r c =>
    obtain ⟨h1, h2, h3, h4⟩ := h
    have hf : Fr (fun k => k = a) W (W.setCell ⟨a, 2, none⟩ p') := (Fr.refl (fun k => k = a) W).set (p := ⟨a, 2, none⟩) (.inl rfl) _
    have hnd : a ∉ r.blks ++ c.blks := (List.nodup_cons.1 hd).1
    have hne : ∀ (v : Value), v.ownBlock ≠ some a → ∀ k, v.ownBlock = some k → ¬ k = a := fun v hv k hk e => hv (by rw [hk, e])
    obtain ⟨pt, ht⟩ := CxIn.tree h4
    refine ⟨(heap_set h1).trans rfl, own_fr h2 hf (hne v (own_ne h2 h1 (by decide))), TrIn.fr hf h3 (fun b hb e => hnd (by rw [← e]; exact List.mem_append_left _ hb)) (fun v hv => hne v (TrIn.ne h1 (by decide) h3 v hv)), CxIn.fr hf (fun e => blk_ne ht h1 (by decide) e) h4 (fun b hb e => hnd (by rw [← e]; exact List.mem_append_right _ hb)) (fun v hv => hne v (CxIn.ne h1 (by decide) h4 v hv))⟩
  | right a key v q l c =>
    obtain ⟨h1, h2, h3, h4⟩ := h
    have hf : Fr (fun k => k = a) W (W.setCell ⟨a, 3, none⟩ p') := (Fr.refl (fun k => k = a) W).set (p := ⟨a, 3, none⟩) (.inl rfl) _
    have hnd : a ∉ l.blks ++ c.blks := (List.nodup_cons.1 hd).1
    have hne : ∀ (v : Value), v.ownBlock ≠ some a → ∀ k, v.ownBlock = some k → ¬ k = a := fun v hv k hk e => hv (by rw [hk, e])
    obtain ⟨pt, ht⟩ := CxIn.tree h4
    refine ⟨(heap_set h1).trans rfl, own_fr h2 hf (hne v (own_ne h2 h1 (by decide))), TrIn.fr hf h3 (fun b hb e => hnd (by rw [← e]; exact List.mem_append_left _ hb)) (fun v hv => hne v (TrIn.ne h1 (by decide) h3 v hv)), CxIn.fr hf (fun e => blk_ne ht h1 (by decide) e) h4 (fun b hb e => hnd (by rw [← e]; exact List.mem_append_right _ hb)) (fun v hv => hne v (CxIn.ne h1 (by decide) h4 v hv))⟩
/-- A place and what hangs there are a tree. -/
theorem plug_in {W : World} {tb sb : Nat} : ∀ {c : Cx} {t : Tr}, CxIn W tb sb c t.ptr → TrIn W t → CxIn W tb sb .top (c.plug t).ptr ∧ TrIn W (c.plug t)
  | .top, t, h, k => ⟨h, k⟩
  | .left a key v q r c, t, h, k => plug_in (c := c) (t := .node a key v q t r) h.2.2.2 ⟨h.1, h.2.1, k, h.2.2.1⟩
  | .right a key v q l c, t, h, k => plug_in (c := c) (t := .node a key v q l t) h.2.2.2 ⟨h.1, h.2.1, h.2.2.1, k⟩

def Tr.val : Tr → Value
  | .nil => .slice none 0 0
  | .node _ _ v _ _ _ => v
def GetEnd (w : World) (tb sb : Nat) (s key : Int) (T : Tr) (e : Ending) (w' : World) : Prop :=
  ∃ c t, e = .returned t.val ∧ Hid (SpI w tb sb s key T c t ∧ Hangs key t) ∧ ∃ n, w' = w.drewN n
set_option maxHeartbeats 4000000 in
set_option maxRecDepth 100000 in
theorem tGet_c (tb sb : Nat) (s key : Int) (T : Tr) (w : World) (hs : T ≠ .nil → (s = 1 ∨ s = 2)) (hb : Cl 3 w sb #[.int .i64 s]) (hc : CxIn w tb sb .top T.ptr) (ht : TrIn w T) (hS : Srt s T.rows) :
    Calls Try.prog 28 #[.pointer (some ⟨tb, 0, none⟩), .int .i64 key] w (GetEnd w tb sb s key T) := by
  have HS := Lib.hid (spot_c tb sb s key T w hs hb hc ht hS)
  clear hs hb hc ht hS
  go_enter Try.func28, Try.ntmps28
  go_wp2_with fail
  ((with_reducible refine HS.out.mono ?_); rintro e w1 ⟨c, t, rfl, h, n, rfl⟩)
  obtain ⟨b, o, eh⟩ := hole_form tb c
  have h1 := (cx_hole h.out.1.cx).1
  have HE : Hid (GetEnd w tb sb s key T (.returned t.val) (w.drewN n)) := Lib.hid ⟨c, t, rfl, h, n, rfl⟩
  rw [eh] at h1 ⊢
  cases t with
  | nil =>
    have c1 : (w.drewN n).cell? ⟨b, o, none⟩ = some (.pointer none) := h1
    clear h1 HS h
    go_wp2_with fail
    go_ret
    exact HE.out
  | node x k v qq l r =>
    have c1 : (w.drewN n).cell? ⟨b, o, none⟩ = some (.pointer (some ⟨x, 0, none⟩)) := h1
    have d1 : (w.drewN n).cell? ⟨x, 1, none⟩ = some v := (h.out.1.tr.1.c 1).trans rfl
    clear h1 HS h
    go_wp2_with fail
    go_ret
    exact HE.out
end Go.Proofs.Ytgbmgdffgmablaa

/- grove: a tree's put. -/
namespace Go.Proofs.Ytgbmgdffgmablaa
open Go.RowKit Go.Shelf Go.Sort Go.Maps Go.Lib
set_option linter.unusedVariables false

/-- What hangs at a key's place behind put; x: a new node's block. -/
def Tr.with (x : Nat) (key : Int) (v : Value) (q : List Int) : Tr → Tr
  | .nil => .node x key v q .nil .nil
  | .node a k _ _ l r => .node a k v q l r
/-- Keys and queues, in the tree's order. -/
def Tr.items : Tr → List (Int × Value)
  | .nil => []
  | .node _ k v _ l r => l.items ++ (k, v) :: r.items
theorem items_row : ∀ {t : Tr} {x : Int × Value}, x ∈ t.items → ∃ q, (x.1, q) ∈ t.rows
  | .nil, x, h => (by cases h)
  | .node a k v q l r, x, h => by
    unfold Tr.items at h
    rcases List.mem_append.1 h with h | h
    · obtain ⟨q', h'⟩ := items_row h
      exact ⟨q', by unfold Tr.rows; exact List.mem_append_left _ h'⟩
    · rcases List.mem_cons.1 h with rfl | h
      · exact ⟨q, by unfold Tr.rows; simp⟩
      · obtain ⟨q', h'⟩ := items_row h
        exact ⟨q', by unfold Tr.rows; exact List.mem_append_right _ (List.mem_cons_of_mem _ h')⟩
theorem plug_items : ∀ (c : Cx), ∃ A C, ∀ t : Tr, (c.plug t).items = A ++ t.items ++ C
  | .top => ⟨[], [], fun t => by simp [Cx.plug]⟩
  | .left a key v q r c => by
    obtain ⟨A, C, h⟩ := plug_items c
    exact ⟨A, (key, v) :: r.items ++ C, fun t => by simp [Cx.plug, h, Tr.items]⟩
  | .right a key v q l c => by
    obtain ⟨A, C, h⟩ := plug_items c
    exact ⟨A ++ (l.items ++ [(key, v)]), C, fun t => by simp [Cx.plug, h, Tr.items]⟩
theorem no_key {s key : Int} {c : Cx} (h : At s key c .nil) : ∀ u, (key, u) ∉ (c.plug .nil).items := by
  intro u hu
  obtain ⟨q, hq⟩ := items_row hu
  rw [rows_plug] at hq
  have irr : ¬ betN s key key = true := by rw [bet_iff]; omega
  simp only [Tr.rows, List.append_nil] at hq
  rcases List.mem_append.1 hq with hq | hq
  · exact irr (h.pre _ hq)
  · exact irr (h.post _ hq)
/-- What put leaves. -/
structure TPut (w w' : World) (tb sb : Nat) (s key : Int) (T T' : Tr) (v : Value) (q : List Int) : Prop where
  cx : CxIn w' tb sb .top T'.ptr
  tr : TrIn w' T'
  srt : Srt s T'.rows
  nd : T'.blks.Nodup
  fr : Fr (fun b => b = tb ∨ b ∈ T.blks) w w'
  bl : ∀ b ∈ T'.blks, b ∈ T.blks ∨ w.heap.size ≤ b
  rows : ∃ P R Q, T.rows = P ++ R ++ Q ∧ T'.rows = P ++ (key, q) :: Q ∧ (R = [] ∨ ∃ q0, R = [(key, q0)]) ∧ (∀ x ∈ P, betN s x.1 key = true) ∧ (∀ x ∈ Q, betN s key x.1 = true)
  vals : ∃ A B C, T.vals = A ++ B ++ C ∧ T'.vals = A ++ v :: C ∧ ((B = [] ∧ ∀ u, (key, u) ∉ T.items) ∨ ∃ u, B = [u] ∧ (key, u) ∈ T.items)
theorem TrIn.lt {W : World} : ∀ {t : Tr}, TrIn W t → ∀ b ∈ t.blks, b < W.heap.size
  | .nil, _, b, h => (by cases h)
  | .node a key v q l r, h, b, hb => by
    simp only [Tr.blks, List.mem_append, List.mem_cons] at hb
    rcases hb with hb | rfl | hb
    · exact TrIn.lt h.2.2.1 b hb
    · exact blk_lt h.1
    · exact TrIn.lt h.2.2.2 b hb

theorem TrIn.at_ {W : World} : ∀ {t : Tr}, TrIn W t → ∀ b ∈ t.blks, ∃ cs, Cl 91 W b cs
  | .nil, _, b, h => (by cases h)
  | .node a key v q l r, h, b, hb => by
    simp only [Tr.blks, List.mem_append, List.mem_cons] at hb
    rcases hb with hb | rfl | hb
    · exact TrIn.at_ h.2.2.1 b hb
    · exact ⟨_, h.1⟩
    · exact TrIn.at_ h.2.2.2 b hb
theorem plug_vals : ∀ (c : Cx), ∃ A C, ∀ t : Tr, (c.plug t).vals = A ++ t.vals ++ C
  | .top => ⟨[], [], fun t => by simp [Cx.plug]⟩
  | .left a key v q r c => by
    obtain ⟨A, C, h⟩ := plug_vals c
    exact ⟨A, v :: r.vals ++ C, fun t => by simp [Cx.plug, h, Tr.vals]⟩
  | .right a key v q l c => by
    obtain ⟨A, C, h⟩ := plug_vals c
    exact ⟨A ++ (l.vals ++ [v]), C, fun t => by simp [Cx.plug, h, Tr.vals]⟩
theorem hole_blk (tb : Nat) (c : Cx) : (c.hole tb).block = tb ∨ (c.hole tb).block ∈ c.blks := by
  cases c <;> simp [Cx.hole, Cx.blks]
theorem srt_put {s key : Int} {q : List Int} {P R Q : List Rq} (h : Srt s (P ++ R ++ Q)) (hP : ∀ x ∈ P, betN s x.1 key = true) (hQ : ∀ x ∈ Q, betN s key x.1 = true) : Srt s (P ++ (key, q) :: Q) := by
  unfold Srt at h ⊢
  rw [List.append_assoc, List.pairwise_append] at h
  obtain ⟨h1, h2, h3⟩ := h
  rw [List.pairwise_append] at h2
  rw [List.pairwise_append, List.pairwise_cons]
  refine ⟨h1, ⟨hQ, h2.2.1⟩, fun a ha b hb => ?_⟩
  rcases List.mem_cons.1 hb with rfl | hb
  · exact hP a ha
  · exact h3 a ha b (List.mem_append_right _ hb)
/-- What put leaves, told from the place alone. -/
theorem put_done {w w' : World} {tb sb : Nat} {s key : Int} {T t : Tr} {c : Cx} {v : Value} {q : List Int} {x : Nat} (hI : SpI w tb sb s key T c t) (hh : Hangs key t) (hnd : T.blks.Nodup) (hx : w.heap.size ≤ x) (cx' : CxIn w' tb sb c (t.with x key v q).ptr) (tr' : TrIn w' (t.with x key v q)) (fr : Fr (fun b => b = tb ∨ b ∈ T.blks) w w') : TPut w w' tb sb s key T (c.plug (t.with x key v q)) v q := by
  obtain ⟨rfl, hat, hcx, htr⟩ := hI
  have hT := (plug_in hcx htr).2
  have hb0 : (c.plug t).blks.Perm (t.blks ++ c.blks) := plug_blks c t
  have hb1 := plug_blks c (t.with x key v q)
  obtain ⟨A, C, hv⟩ := plug_vals c
  have hp := plug_in cx' tr'
  have hrows : ∃ P R Q, (c.plug t).rows = P ++ R ++ Q ∧ (c.plug (t.with x key v q)).rows = P ++ (key, q) :: Q ∧ (R = [] ∨ ∃ q0, R = [(key, q0)]) ∧ (∀ x ∈ P, betN s x.1 key = true) ∧ (∀ x ∈ Q, betN s key x.1 = true) := by
    cases t with
    | nil => exact ⟨c.pre, [], c.post, by simp [rows_plug, Tr.rows], by simp [rows_plug, Tr.rows, Tr.with], .inl rfl, hat.pre, hat.post⟩
    | node a k u q0 l r =>
      have hk : k = key := hh
      subst hk
      have hs := hat.srt
      rw [rows_plug] at hs
      unfold Srt at hs
      simp only [Tr.rows, List.append_assoc, List.cons_append] at hs
      rw [List.pairwise_append] at hs
      have h2 := hs.2.1
      rw [List.pairwise_append] at h2
      refine ⟨c.pre ++ l.rows, [(k, q0)], r.rows ++ c.post, by simp [rows_plug, Tr.rows], by simp [rows_plug, Tr.rows, Tr.with], .inr ⟨q0, rfl⟩, fun x hx => ?_, fun x hx => ?_⟩
      · rcases List.mem_append.1 hx with hx | hx
        · exact hat.pre x hx
        · exact h2.2.2 x hx (k, q0) (by simp)
      · exact (List.pairwise_cons.1 h2.2.1).1 x hx
  have hsrt : Srt s (c.plug (t.with x key v q)).rows := by
    obtain ⟨P, R, Q, e1, e2, _, hP, hQ⟩ := hrows
    rw [e2]
    exact srt_put (by rw [← e1]; exact hat.srt) hP hQ
  refine ⟨hp.1, hp.2, hsrt, ?_, fr, ?_, hrows, ?_⟩
  · cases t with
    | nil =>
      refine hb1.nodup_iff.2 ?_
      show (x :: ([] ++ c.blks)).Nodup
      have h0 := hb0.nodup_iff.1 hnd
      refine List.nodup_cons.2 ⟨fun hm => ?_, h0⟩
      exact absurd (TrIn.lt hT x (hb0.mem_iff.2 hm)) (by omega)
    | node a k u q0 l r => exact hb1.nodup_iff.2 (hb0.nodup_iff.1 hnd)
  · intro b hb
    have hb2 := hb1.mem_iff.1 hb
    cases t with
    | nil =>
      simp only [Tr.with, Tr.blks, List.nil_append, List.cons_append, List.mem_cons] at hb2
      rcases hb2 with rfl | hb2
      · exact .inr hx
      · exact .inl (hb0.mem_iff.2 hb2)
    | node a k u q0 l r => exact .inl (hb0.mem_iff.2 hb2)
  · cases t with
    | nil => exact ⟨A, [], C, by simp [hv, Tr.vals], by simp [hv, Tr.vals, Tr.with], .inl ⟨rfl, no_key hat⟩⟩
    | node a k u q0 l r =>
      have hk : k = key := hh
      subst hk
      obtain ⟨A2, C2, hi⟩ := plug_items c
      exact ⟨A ++ l.vals, [u], r.vals ++ C, by simp [hv, Tr.vals], by simp [hv, Tr.vals, Tr.with], .inr ⟨u, rfl, by rw [hi]; simp [Tr.items]⟩⟩
/-- A queue of its own is no node's block, nor the tree's. -/
theorem own_off {w : World} {tb sb : Nat} {T t : Tr} {c : Cx} {s key : Int} {v : Value} {n : Nat} {xs : List Value} (hI : SpI w tb sb s key T c t) (hv : w.ownsRow 0 22 1 v n xs) : ∀ k, v.ownBlock = some k → ¬ (k = tb ∨ k ∈ T.blks) := by
  intro k hk hc
  obtain ⟨pt, ht⟩ := CxIn.tree hI.cx
  have hT := (plug_in hI.cx hI.tr).2
  rw [hI.eq] at hT
  rcases hc with rfl | hc
  · exact own_ne hv ht (by decide) hk
  · obtain ⟨cs, h⟩ := TrIn.at_ hT k hc
    exact own_ne hv h (by decide) hk
theorem put_node {w : World} {tb sb : Nat} {s key : Int} {T : Tr} {c : Cx} {x : Nat} {k : Int} {u v : Value} {qq q : List Int} {l r : Tr} (n : Nat) (hI : SpI w tb sb s key T c (.node x k u qq l r)) (hh : k = key) (hnd : T.blks.Nodup) (hv : w.ownsRow 0 22 1 v q.length (idV q)) :
    TPut w ((w.drewN n).setCell ⟨x, 1, none⟩ v) tb sb s key T (c.plug (.node x k v q l r)) v q := by
  have hperm := plug_blks c (.node x k u qq l r)
  rw [hI.eq] at hperm
  have hxT : x ∈ T.blks := hperm.mem_iff.2 (by simp [Tr.blks])
  have fr : Fr (fun b => b = tb ∨ b ∈ T.blks) w ((w.drewN n).setCell ⟨x, 1, none⟩ v) := ((Fr.refl _ w).drewN n).set (p := ⟨x, 1, none⟩) (.inl (.inr hxT)) v
  have fx : Fr (fun b => b = x) w ((w.drewN n).setCell ⟨x, 1, none⟩ v) := ((Fr.refl (fun b => b = x) w).drewN n).set (p := ⟨x, 1, none⟩) (.inl rfl) v
  have hoff := own_off hI hv
  have hd := hperm.nodup_iff.1 hnd
  obtain ⟨pt, ht⟩ := CxIn.tree hI.cx
  have hx := hI.tr.1
  have hne : ∀ (v : Value), v.ownBlock ≠ some x → ∀ k, v.ownBlock = some k → ¬ k = x := fun v hv k hk e => hv (by rw [hk, e])
  have hd1 := (List.nodup_append.1 hd).1
  have hd2 := (List.nodup_append.1 hd).2.2
  have hxl : x ∉ l.blks := fun h => by
    have := List.nodup_append.1 (show (l.blks ++ x :: r.blks).Nodup from hd1)
    exact this.2.2 x h x (by simp) rfl
  have hxr : x ∉ r.blks := fun h => by
    have := (List.nodup_append.1 (show (l.blks ++ x :: r.blks).Nodup from hd1)).2.1
    exact (List.nodup_cons.1 this).1 h
  have hxc : x ∉ c.blks := fun h => hd2 x (by simp [Tr.blks]) x h rfl
  subst hh
  refine put_done (t := .node x k u qq l r) (x := w.heap.size) hI rfl hnd (Nat.le_refl _) ?_ ?_ fr
  · exact CxIn.fr fx (fun e => blk_ne ht hx (by decide) e) hI.cx (fun b hb e => hxc (by rw [← e]; exact hb)) (fun v hv => hne v (CxIn.ne hx (by decide) hI.cx v hv))
  · refine ⟨(heap_set (w := w.drewN n) hx).trans rfl, own_fr hv fr hoff, ?_, ?_⟩
    · exact TrIn.fr fx hI.tr.2.2.1 (fun b hb e => hxl (by rw [← e]; exact hb)) (fun v hv => hne v (TrIn.ne hx (by decide) hI.tr.2.2.1 v hv))
    · exact TrIn.fr fx hI.tr.2.2.2 (fun b hb e => hxr (by rw [← e]; exact hb)) (fun v hv => hne v (TrIn.ne hx (by decide) hI.tr.2.2.2 v hv))
abbrev ndN (key : Int) (v : Value) : Array Value := #[.int .i64 key, v, .pointer none, .pointer none]
/-- The worlds of a new node. -/
theorem nil_cx {w : World} {tb sb : Nat} {s key : Int} {T : Tr} {c : Cx} (n : Nat) (hI : SpI w tb sb s key T c .nil) (hnd : T.blks.Nodup) {W1 W2 : World} (e1 : W1 = (w.drewN n).alloc (.cells (ndN key (.slice none 0 0)) 91)) (e2 : W2 = W1.setCell (c.hole tb) (.pointer (some ⟨w.heap.size, 0, none⟩))) :
    CxIn W1 tb sb c (.pointer none) ∧ CxIn W2 tb sb c (.pointer (some ⟨w.heap.size, 0, none⟩)) ∧ Cl 91 W2 w.heap.size (ndN key (.slice none 0 0)) ∧ Fr (fun b => b = tb ∨ b ∈ T.blks) w W2 ∧ w.heap.size ∉ c.blks ∧ tb ≠ w.heap.size := by
  have hperm := plug_blks c .nil
  rw [hI.eq] at hperm
  have hT := (plug_in hI.cx hI.tr).2
  rw [hI.eq] at hT
  have hd : c.blks.Nodup := hperm.nodup_iff.1 hnd
  obtain ⟨pt, ht⟩ := CxIn.tree hI.cx
  have htb := blk_lt ht
  have hnc : w.heap.size ∉ c.blks := fun h => absurd (TrIn.lt hT _ (hperm.mem_iff.2 h)) (by omega)
  have f1 : Fr (fun _ => False) w W1 := e1 ▸ ((Fr.refl _ w).drewN n).alloc _
  have h1 : CxIn W1 tb sb c (.pointer none) := CxIn.fr f1 (fun h => h) hI.cx (fun _ _ h => h) (fun _ _ _ _ h => h)
  have h2 : CxIn W2 tb sb c (.pointer (some ⟨w.heap.size, 0, none⟩)) := e2 ▸ CxIn.set h1 hd _
  have f2 : Fr (fun b => b = tb ∨ b ∈ c.blks) W1 W2 := e2 ▸ (Fr.refl _ W1).set (.inl (hole_blk tb c)) _
  have hn1 : Cl 91 W1 w.heap.size (ndN key (.slice none 0 0)) := e1 ▸ hd_last rfl
  refine ⟨h1, h2, f2.blk hn1 ?_, ?_, hnc, by omega⟩
  · rintro (h | h)
    · omega
    · exact hnc h
  · have f1' : Fr (fun b => b = tb ∨ b ∈ T.blks) w W1 := f1.mono (fun _ h => absurd h id)
    refine f1'.trans f2 (fun b hb => .inl ?_)
    rcases hb with hb | hb
    · exact .inl hb
    · exact .inr (hperm.mem_iff.2 hb)
theorem put_nil {w : World} {tb sb : Nat} {s key : Int} {T : Tr} {c : Cx} {v : Value} {q : List Int} (n : Nat) (hI : SpI w tb sb s key T c .nil) (hnd : T.blks.Nodup) (hv : w.ownsRow 0 22 1 v q.length (idV q)) {W1 W2 : World} (e1 : W1 = (w.drewN n).alloc (.cells (ndN key (.slice none 0 0)) 91)) (e2 : W2 = W1.setCell (c.hole tb) (.pointer (some ⟨w.heap.size, 0, none⟩))) :
    TPut w (W2.setCell ⟨w.heap.size, 1, none⟩ v) tb sb s key T (c.plug (.node w.heap.size key v q .nil .nil)) v q := by
  obtain ⟨h1, h2, h3, h4, h5, h6⟩ := nil_cx n hI hnd e1 e2
  have fx : Fr (fun b => b = w.heap.size) W2 (W2.setCell ⟨w.heap.size, 1, none⟩ v) := (Fr.refl (fun b => b = w.heap.size) W2).set (p := ⟨w.heap.size, 1, none⟩) (.inl rfl) v
  have fr : Fr (fun b => b = tb ∨ b ∈ T.blks) w (W2.setCell ⟨w.heap.size, 1, none⟩ v) := h4.set (p := ⟨w.heap.size, 1, none⟩) (.inr (Nat.le_refl _)) v
  have hne : ∀ (v : Value), v.ownBlock ≠ some w.heap.size → ∀ k, v.ownBlock = some k → ¬ k = w.heap.size := fun v hv k hk e => hv (by rw [hk, e])
  refine put_done (t := .nil) (x := w.heap.size) hI trivial hnd (Nat.le_refl _) ?_ ?_ fr
  · exact CxIn.fr fx h6 h2 (fun b hb e => h5 (by rw [← e]; exact hb)) (fun v hv => hne v (CxIn.ne h3 (by decide) h2 v hv))
  · exact ⟨(heap_set h3).trans rfl, own_fr hv fr (own_off hI hv), trivial, trivial⟩

set_option maxHeartbeats 4000000 in
set_option maxRecDepth 100000 in
theorem tPut_c (tb sb : Nat) (s key : Int) (T : Tr) (v : Value) (q : List Int) (w : World) (hs : s = 1 ∨ s = 2) (hb : Cl 3 w sb #[.int .i64 s]) (hc : CxIn w tb sb .top T.ptr) (ht : TrIn w T) (hS : Srt s T.rows) (hnd : T.blks.Nodup) (hv : w.ownsRow 0 22 1 v q.length (idV q)) :
    Calls Try.prog 31 #[.pointer (some ⟨tb, 0, none⟩), .int .i64 key, v] w fun e w' => e = .returned (.tuple #[]) ∧ ∃ T', Hid (TPut w w' tb sb s key T T' v q) := by
  have HS := Lib.hid (spot_c tb sb s key T w (fun _ => hs) hb hc ht hS)
  have HV := Lib.hid hv
  have HT := Lib.hid (And.intro ht hnd)
  obtain ⟨A0, c0, rfl, _⟩ := own_que2 hv
  clear hs hb hc ht hS hnd hv
  go_enter Try.func31, Try.ntmps31
  go_wp2_with fail
  ((with_reducible refine HS.out.mono ?_); rintro e w1 ⟨c, t, rfl, h, n, rfl⟩)
  obtain ⟨b, o, eh⟩ := hole_form tb c
  have h1 := cx_hole h.out.1.cx
  rw [eh] at h1 ⊢
  cases t with
  | nil =>
    obtain ⟨W1, e1⟩ : ∃ W1, W1 = (w.drewN n).alloc (.cells (ndN key (.slice none 0 0)) 91) := ⟨_, rfl⟩
    obtain ⟨W2, e2⟩ : ∃ W2, W2 = W1.setCell (c.hole tb) (.pointer (some ⟨w.heap.size, 0, none⟩)) := ⟨_, rfl⟩
    have HP := Lib.hid (put_nil n h.out.1 HT.out.2 HV.out e1 e2)
    obtain ⟨k1, k2, k3, -, -, -⟩ := nil_cx n h.out.1 HT.out.2 e1 e2
    have m1 := cx_hole k1
    have m2 := (cx_hole k2).1
    have d1 := k3.c 1
    have d2 : W2.frozen? ⟨w.heap.size, 1, none⟩ = false := k3.f
    rw [eh] at m1 m2 e2
    obtain ⟨m1, m3⟩ := m1
    have c1 : (w.drewN n).cell? ⟨b, o, none⟩ = some (.pointer none) := h1.1
    subst e2
    subst e1
    clear h1 HS k1 k2 k3 h
    go_wp2_with fail
    go_end0
    exact ⟨rfl, _, HP⟩
  | node x k u qq l r =>
    have c1 : (w.drewN n).cell? ⟨b, o, none⟩ = some (.pointer (some ⟨x, 0, none⟩)) := h1.1
    have d1 : (w.drewN n).cell? ⟨x, 1, none⟩ = some u := (h.out.1.tr.1.c 1).trans rfl
    have d2 : (w.drewN n).frozen? ⟨x, 1, none⟩ = false := h.out.1.tr.1.f
    clear h1 HS
    go_wp2_with fail
    go_end0
    exact ⟨rfl, _, Lib.hid (put_node n h.out.1 h.out.2 HT.out.2 HV.out)⟩
end Go.Proofs.Ytgbmgdffgmablaa

/- grove: a tree's first. -/
namespace Go.Proofs.Ytgbmgdffgmablaa
open Go.RowKit Go.Shelf Go.Sort Go.Maps Go.Lib
set_option linter.unusedVariables false

/-- The key, value and queue that are ahead of all. -/
def Tr.fst : Tr → Option (Int × Value × List Int)
  | .nil => none
  | .node _ k v q l _ => match l.fst with
    | none => some (k, v, q)
    | some x => some x
theorem fst_rows : ∀ t : Tr, t.rows.head? = t.fst.map (fun x => (x.1, x.2.2))
  | .nil => rfl
  | .node a k v q l r => by
    have h := fst_rows l
    unfold Tr.fst
    cases e : l.fst with
    | none =>
      rw [e] at h
      have hn : l.rows = [] := List.head?_eq_none_iff.1 h
      simp [Tr.rows, hn]
    | some x =>
      rw [e] at h
      simp only [Tr.rows]
      rw [List.head?_append, h]
      rfl
theorem fst_vals : ∀ t : Tr, t.vals.head? = t.fst.map (fun x => x.2.1)
  | .nil => rfl
  | .node a k v q l r => by
    have h := fst_vals l
    unfold Tr.fst
    cases e : l.fst with
    | none =>
      rw [e] at h
      have hn : l.vals = [] := List.head?_eq_none_iff.1 h
      simp [Tr.vals, hn]
    | some x =>
      rw [e] at h
      simp only [Tr.vals]
      rw [List.head?_append, h]
      rfl
theorem fst_in {W : World} : ∀ {t : Tr}, TrIn W t → ∀ x, t.fst = some x → W.ownsRow 0 22 1 x.2.1 x.2.2.length (idV x.2.2)
  | .nil, _, x, h => (by cases h)
  | .node a k v q l r, h, x, hx => by
    unfold Tr.fst at hx
    cases e : l.fst with
    | none => rw [e] at hx; cases hx; exact h.2.1
    | some y => rw [e] at hx; cases hx; exact fst_in h.2.2.1 _ e
def fstV : Option (Int × Value × List Int) → Value
  | none => .tuple #[.slice none 0 0, .bool false]
  | some x => .tuple #[x.2.1, .bool true]
theorem fst_down {a : Nat} {k : Int} {v : Value} {q : List Int} {l r : Tr} (h : l ≠ .nil) : (Tr.node a k v q l r).fst = l.fst := by
  cases l with
  | nil => exact absurd rfl h
  | node a' k' v' q' l' r' =>
    show (match (Tr.node a' k' v' q' l' r').fst with | none => some (k, v, q) | some x => some x) = (Tr.node a' k' v' q' l' r').fst
    cases e : (Tr.node a' k' v' q' l' r').fst with
    | none => simp only [Tr.fst] at e; split at e <;> cases e
    | some x => rfl
def FiJ (w : World) (T : Tr) (n : Nat) (a : Act) (w' : World) : Prop :=
  ∃ x k v q l r, (Tr.node x k v q l r).size = n ∧ (Tr.node x k v q l r).fst = T.fst ∧ Hid (TrIn w (.node x k v q l r)) ∧ w = w' ∧ ∃ u0 u1 u2 u3 u5 u6 u7 u8 u9 u10 u11 u12 u13 u14 u15 u16 u17 u18 u19 u20 u21 u22 u23 u24, a = ⟨#[u0, u1, u2, u3, .pointer (some ⟨x, 0, none⟩), u5, u6, u7, u8, u9, u10, u11, u12, u13, u14, u15, u16, u17, u18, u19, u20, u21, u22, u23, u24], []⟩
set_option maxHeartbeats 4000000 in
set_option maxRecDepth 100000 in
theorem tFirst_c (tb sb : Nat) (T : Tr) (w : World) (hc : CxIn w tb sb .top T.ptr) (ht : TrIn w T) :
    Calls Try.prog 32 #[.pointer (some ⟨tb, 0, none⟩)] w fun e w' => e = .returned (fstV T.fst) ∧ w = w' := by
  have k1 := (cx_hole hc).1
  have HT := Lib.hid ht
  clear hc ht
  cases T with
  | nil =>
    have k1' : w.cell? ⟨tb, 1, none⟩ = some (.pointer none) := k1
    clear k1
    go_enter Try.func32, Try.ntmps32
    go_wp2_with fail
    refine scope_ghost 0 (fun _ _ _ => False) rfl (fun hp => ?_) (fun _ _ _ h => h.elim)
    go_wp2_with fail
    show bodyPost Try.prog Try.f32 (fun e w' => e = .returned (fstV Tr.nil.fst) ∧ w = w') Exit.ret _ _
    go_ret2
    exact ⟨rfl, rfl⟩
  | node x k v q l r =>
    have k1' : w.cell? ⟨tb, 1, none⟩ = some (.pointer (some ⟨x, 0, none⟩)) := k1
    clear k1
    go_enter Try.func32, Try.ntmps32
    go_wp2_with fail
    refine scope_ghost 0 (FiJ w (.node x k v q l r)) rfl ?_ ?_
    · intro hp
      go_wp2_with fail
      go_step3
      rename_i K hK
      refine hK _ _ (hp _ _ _ ⟨x, k, v, q, l, r, rfl, rfl, HT, rfl, ?_⟩)
      exact ⟨_, _, _, _, _, _, _, _, _, _, _, _, _, _, _, _, _, _, _, _, _, _, _, _, rfl⟩
    · clear k1' HT
      obtain ⟨F, hF⟩ : ∃ F, F = (Tr.node x k v q l r).fst := ⟨_, rfl⟩
      rintro n a w' ⟨y, j, u, p, l', r', rfl, e, HI, rfl, u0, u1, u2, u3, u5, u6, u7, u8, u9, u10, u11, u12, u13, u14, u15, u16, u17, u18, u19, u20, u21, u22, u23, u24, rfl⟩
      have hx := HI.out.1
      have d1 : w.cell? ⟨y, 1, none⟩ = some u := (hx.c 1).trans rfl
      have d2 : w.cell? ⟨y, 2, none⟩ = some l'.ptr := (hx.c 2).trans rfl
      clear hx
      cases l' with
      | nil =>
        have d2' : w.cell? ⟨y, 2, none⟩ = some (.pointer none) := d2
        clear d2
        go_wp2_with fail
        show bodyPost Try.prog Try.f32 (fun e w' => e = .returned (fstV (Tr.node x k v q l r).fst) ∧ w = w') Exit.ret _ _
        go_ret2
        rw [← e]
        exact ⟨rfl, rfl⟩
      | node y2 j2 u2 p2 l2 r2 =>
        have d2' : w.cell? ⟨y, 2, none⟩ = some (.pointer (some ⟨y2, 0, none⟩)) := d2
        clear d2
        go_wp2_with fail
        go_step3
        refine ⟨rfl, _, ?_, y2, j2, u2, p2, l2, r2, rfl, (fst_down (by intro h; cases h)).symm.trans e, Lib.hid HI.out.2.2.1, rfl, _, _, _, _, _, _, _, _, _, _, _, _, _, _, _, _, _, _, _, _, _, _, _, _, rfl⟩
        simp only [Tr.size]
        omega
end Go.Proofs.Ytgbmgdffgmablaa

/- grove: two trees joined. -/
namespace Go.Proofs.Ytgbmgdffgmablaa
open Go.RowKit Go.Shelf Go.Sort Go.Maps Go.Lib
set_option linter.unusedVariables false

/-- A place in memory, whatever is over it. -/
def CtIn (W : World) : Cx → Value → Prop
  | .top, p => True
  | .left a key v q r c, p => Cl 91 W a #[.int .i64 key, v, p, r.ptr] ∧ W.ownsRow 0 22 1 v q.length (idV q) ∧ TrIn W r ∧ CtIn W c (.pointer (some ⟨a, 0, none⟩))
  | .right a key v q l c, p => Cl 91 W a #[.int .i64 key, v, l.ptr, p] ∧ W.ownsRow 0 22 1 v q.length (idV q) ∧ TrIn W l ∧ CtIn W c (.pointer (some ⟨a, 0, none⟩))
theorem plug_out {W : World} : ∀ {c : Cx} {t : Tr}, TrIn W (c.plug t) → CtIn W c t.ptr ∧ TrIn W t
  | .top, t, h => ⟨trivial, h⟩
  | .left a key v q r c, t, h => by
    obtain ⟨h1, h2⟩ := plug_out (c := c) h
    exact ⟨⟨h2.1, h2.2.1, h2.2.2.2, h1⟩, h2.2.2.1⟩
  | .right a key v q l c, t, h => by
    obtain ⟨h1, h2⟩ := plug_out (c := c) h
    exact ⟨⟨h2.1, h2.2.1, h2.2.2.1, h1⟩, h2.2.2.2⟩
theorem plug_in2 {W : World} : ∀ {c : Cx} {t : Tr}, CtIn W c t.ptr → TrIn W t → TrIn W (c.plug t)
  | .top, t, h, k => k
  | .left a key v q r c, t, h, k => plug_in2 (c := c) (t := .node a key v q t r) h.2.2.2 ⟨h.1, h.2.1, k, h.2.2.1⟩
  | .right a key v q l c, t, h, k => plug_in2 (c := c) (t := .node a key v q l t) h.2.2.2 ⟨h.1, h.2.1, h.2.2.1, k⟩
theorem CtIn.fr {S : Nat → Prop} {W W' : World} (hf : Fr S W W') : ∀ {c : Cx} {p : Value}, CtIn W c p → (∀ b ∈ c.blks, ¬ S b) → (∀ v ∈ c.vals, ∀ k, v.ownBlock = some k → ¬ S k) → CtIn W' c p
  | .top, p, h, _, _ => trivial
  | .left a key v q r c, p, h, hb, hv => by
    refine ⟨hf.blk h.1 (hb a (by simp [Cx.blks])), own_fr h.2.1 hf (hv v (by simp [Cx.vals])), TrIn.fr hf h.2.2.1 (fun b hb' => hb b (by simp [Cx.blks, hb'])) (fun v hv' => hv v (by simp [Cx.vals, hv'])), CtIn.fr hf h.2.2.2 (fun b hb' => hb b (by simp [Cx.blks, hb'])) (fun v hv' => hv v (by simp [Cx.vals, hv']))⟩
  | .right a key v q l c, p, h, hb, hv => by
    refine ⟨hf.blk h.1 (hb a (by simp [Cx.blks])), own_fr h.2.1 hf (hv v (by simp [Cx.vals])), TrIn.fr hf h.2.2.1 (fun b hb' => hb b (by simp [Cx.blks, hb'])) (fun v hv' => hv v (by simp [Cx.vals, hv'])), CtIn.fr hf h.2.2.2 (fun b hb' => hb b (by simp [Cx.blks, hb'])) (fun v hv' => hv v (by simp [Cx.vals, hv']))⟩
theorem CtIn.ne {W : World} {g : Nat} {cs : Array Value} {T : TypeId} (hg : W.heap[g]? = some (.cells cs T (0, 0))) (hT : 22 ≠ T) : ∀ {c : Cx} {p : Value}, CtIn W c p → ∀ v ∈ c.vals, v.ownBlock ≠ some g
  | .top, _, _, v, hv => (by cases hv)
  | .left a key v q r c, p, h, u, hu => by
    simp only [Cx.vals, List.mem_append, List.mem_cons] at hu
    rcases hu with rfl | hu | hu
    · exact own_ne h.2.1 hg hT
    · exact TrIn.ne hg hT h.2.2.1 u hu
    · exact CtIn.ne hg hT h.2.2.2 u hu
  | .right a key v q l c, p, h, u, hu => by
    simp only [Cx.vals, List.mem_append, List.mem_cons] at hu
    rcases hu with rfl | hu | hu
    · exact own_ne h.2.1 hg hT
    · exact TrIn.ne hg hT h.2.2.1 u hu
    · exact CtIn.ne hg hT h.2.2.2 u hu
def jhole (nb : Nat) : Cx → Addr
  | .top => ⟨nb, 0, none⟩
  | .left a _ _ _ _ _ => ⟨a, 2, none⟩
  | .right a _ _ _ _ _ => ⟨a, 3, none⟩
theorem jhole_form (nb : Nat) (c : Cx) : ∃ b o, jhole nb c = ⟨b, o, none⟩ := by cases c <;> exact ⟨_, _, rfl⟩
/-- To the right alone. -/
def Cx.ro : Cx → Prop
  | .top => True
  | .left .. => False
  | .right _ _ _ _ _ c => c.ro
theorem ro_post : ∀ {c : Cx}, c.ro → c.post = []
  | .top, _ => rfl
  | .left .., h => h.elim
  | .right _ _ _ _ _ c, h => ro_post (c := c) h
theorem ro_vals : ∀ {c : Cx}, c.ro → ∃ A, ∀ t : Tr, (c.plug t).vals = A ++ t.vals
  | .top, _ => ⟨[], fun t => rfl⟩
  | .left .., h => h.elim
  | .right a key v q l c, h => by
    obtain ⟨A, hA⟩ := ro_vals (c := c) h
    exact ⟨A ++ (l.vals ++ [v]), fun t => by simp [Cx.plug, hA, Tr.vals]⟩
theorem plug_ptr : ∀ (c : Cx) (a : Nat) (k k' : Int) (v v' : Value) (q q' : List Int) (l l' r r' : Tr), (c.plug (.node a k v q l r)).ptr = (c.plug (.node a k' v' q' l' r')).ptr
  | .top, _, _, _, _, _, _, _, _, _, _, _ => rfl
  | .left b key u p r0 c, _, _, _, _, _, _, _, _, _, _, _ => plug_ptr c b _ _ _ _ _ _ _ _ _ _
  | .right b key u p l0 c, _, _, _, _, _, _, _, _, _, _, _ => plug_ptr c b _ _ _ _ _ _ _ _ _ _
/-- What join leaves. -/
structure JoinIs (w w' : World) (L R T : Tr) : Prop where
  tr : TrIn w' T
  rows : T.rows = L.rows ++ R.rows
  vals : T.vals = L.vals ++ R.vals
  blks : T.blks.Perm (L.blks ++ R.blks)
  fr : Fr (fun b => b ∈ L.blks) w w'
structure JoI (L : Tr) (c : Cx) (t : Tr) : Prop where
  eq : c.plug t = L
  ro : c.ro
/-- The hole's cell, while join goes down. -/
theorem jo_hole {W : World} {nb : Nat} {L t : Tr} {c : Cx} (hI : JoI L c t) (hL : TrIn W L) (hb : Cl 87 W nb #[L.ptr]) : W.cell? (jhole nb c) = some t.ptr ∧ W.frozen? (jhole nb c) = false := by
  obtain ⟨rfl, hr⟩ := hI
  cases c with
  | top => exact ⟨(hb.c 0).trans rfl, hb.f⟩
  | left => exact hr.elim
  | right a key v q l c =>
    have h := (plug_out hL).1.1
    exact ⟨(h.c 3).trans rfl, h.f⟩
theorem jo_done {w W W' : World} {nb : Nat} {L R : Tr} {c : Cx} (hI : JoI L c .nil) (hL : TrIn w L) (hR : TrIn w R) (hd : (L.blks ++ R.blks).Nodup) (hn : nb = w.heap.size) (hW : W = w.alloc (.cells #[L.ptr] 87)) (hW' : W' = W.setCell (jhole nb c) R.ptr) :
    JoinIs w W' L R (c.plug R) ∧ W'.cell? ⟨nb, 0, none⟩ = some (c.plug R).ptr := by
  have f1 : Fr (fun _ => False) w W := hW ▸ (Fr.refl (fun _ => False) w).alloc _
  have hb : Cl 87 W nb #[L.ptr] := by rw [hW, hn]; exact hd_last rfl
  have hL1 : TrIn W L := TrIn.fr f1 hL (fun _ _ h => h) (fun _ _ _ _ h => h)
  have hR1 : TrIn W R := TrIn.fr f1 hR (fun _ _ h => h) (fun _ _ _ _ h => h)
  obtain ⟨rfl, hr⟩ := hI
  have hperm := plug_blks c .nil
  have hperm2 := plug_blks c R
  obtain ⟨A, hA⟩ := ro_vals hr
  have hrows : (c.plug R).rows = (c.plug .nil).rows ++ R.rows := by simp [rows_plug, ro_post hr, Tr.rows]
  have hvals : (c.plug R).vals = (c.plug .nil).vals ++ R.vals := by simp [hA, Tr.vals]
  have hblks : (c.plug R).blks.Perm ((c.plug .nil).blks ++ R.blks) := by
    refine hperm2.trans (List.perm_append_comm.trans ?_)
    exact List.Perm.append_right _ hperm.symm
  cases c with
  | top =>
    have f2 : Fr (fun b => b = nb) W W' := hW' ▸ (Fr.refl (fun b => b = nb) W).set (p := ⟨nb, 0, none⟩) (.inl rfl) _
    have hne : ∀ (v : Value), v.ownBlock ≠ some nb → ∀ k, v.ownBlock = some k → ¬ k = nb := fun v hv k hk e => hv (by rw [hk, e])
    refine ⟨⟨TrIn.fr f2 hR1 (fun b hb' e => ?_) (fun v hv => hne v (TrIn.ne hb (by decide) hR1 v hv)), hrows, hvals, hblks, ?_⟩, ?_⟩
    · have := TrIn.lt hR b hb'
      omega
    · refine (f1.trans f2 (fun b hb' => .inr (by omega))).mono (fun _ h => h.elim)
    · rw [hW']
      exact (Cl.c (heap_set hb) 0).trans rfl
  | left => exact hr.elim
  | right a key v q l c =>
    have hC := (plug_out hL1).1
    have hx := hC.1
    have hTa : a ∈ ((Cx.right a key v q l c).plug .nil).blks := hperm.mem_iff.2 (by simp [Cx.blks, Tr.blks])
    have f2 : Fr (fun b => b = a) W W' := hW' ▸ (Fr.refl (fun b => b = a) W).set (p := ⟨a, 3, none⟩) (.inl rfl) _
    have hne : ∀ (v : Value), v.ownBlock ≠ some a → ∀ k, v.ownBlock = some k → ¬ k = a := fun v hv k hk e => hv (by rw [hk, e])
    have hd1 : (a :: (l.blks ++ c.blks)).Nodup := hperm.nodup_iff.1 (List.nodup_append.1 hd).1
    have hna := (List.nodup_cons.1 hd1).1
    have hnR : a ∉ R.blks := fun h => (List.nodup_append.1 hd).2.2 a hTa a h rfl
    have fr : Fr (fun b => b ∈ ((Cx.right a key v q l c).plug .nil).blks) w W' := Fr.trans (f1.mono (fun _ h => h.elim)) f2 (fun b hb' => .inl (by rw [hb']; exact hTa))
    have hnab : ¬ nb = a := fun e => absurd (TrIn.lt hL a hTa) (by omega)
    refine ⟨⟨plug_in2 (c := .right a key v q l c) ⟨?_, own_fr hC.2.1 f2 (hne v (own_ne hC.2.1 hx (by decide))), TrIn.fr f2 hC.2.2.1 (fun b hb' e => hna (by rw [← e]; exact List.mem_append_left _ hb')) (fun v hv => hne v (TrIn.ne hx (by decide) hC.2.2.1 v hv)), CtIn.fr f2 hC.2.2.2 (fun b hb' e => hna (by rw [← e]; exact List.mem_append_right _ hb')) (fun v hv => hne v (CtIn.ne hx (by decide) hC.2.2.2 v hv))⟩ (TrIn.fr f2 hR1 (fun b hb' e => hnR (by rw [← e]; exact hb')) (fun v hv => hne v (TrIn.ne hx (by decide) hR1 v hv))), hrows, hvals, hblks, fr⟩, ?_⟩
    · rw [hW']
      exact (heap_set hx).trans rfl
    · show W'.cell? ⟨nb, 0, none⟩ = some (c.plug (.node a key v q l R)).ptr
      rw [plug_ptr c a key key v v q q l l R .nil]
      exact (Cl.c (f2.blk hb hnab) 0).trans rfl
def JoJ (w W : World) (L : Tr) (pl pr : Option Addr) (n : Nat) (a : Act) (w' : World) : Prop :=
  ∃ c t, t.size = n ∧ Hid (JoI L c t) ∧ W = w' ∧ ∃ u3 u6 u7 u8 u9 u10 u11 u12 u13 u14 u15 u16 u17 u18, a = ⟨#[.pointer pl, .pointer pr, .pointer (some ⟨w.heap.size, 0, none⟩), u3, .pointer none, .pointer (some (jhole w.heap.size c)), u6, u7, u8, u9, u10, u11, u12, u13, u14, u15, u16, u17, u18], []⟩
set_option maxHeartbeats 4000000 in
set_option maxRecDepth 100000 in
theorem tJoin_c (L R : Tr) (w : World) (hL : TrIn w L) (hR : TrIn w R) (hd : (L.blks ++ R.blks).Nodup) :
    Calls Try.prog 47 #[L.ptr, R.ptr] w fun e w' => ∃ T, e = .returned T.ptr ∧ Hid (JoinIs w w' L R T) := by
  obtain ⟨W, hW⟩ : ∃ W, W = w.alloc (.cells #[L.ptr] 87) := ⟨_, rfl⟩
  have HJ : Hid (∀ c, JoI L c .nil → JoinIs w (W.setCell (jhole w.heap.size c) R.ptr) L R (c.plug R) ∧ (W.setCell (jhole w.heap.size c) R.ptr).cell? ⟨w.heap.size, 0, none⟩ = some (c.plug R).ptr) := Lib.hid (fun c hI => jo_done hI hL hR hd rfl hW rfl)
  have HL : Hid (TrIn W L) := Lib.hid (TrIn.fr (hW ▸ (Fr.refl (fun _ => False) w).alloc _) hL (fun _ _ h => h) (fun _ _ _ _ h => h))
  have HB : Hid (Cl 87 W w.heap.size #[L.ptr]) := Lib.hid (hW ▸ hd_last rfl)
  clear hL hR hd
  obtain ⟨pl, hpl⟩ : ∃ p, L.ptr = .pointer p := by cases L <;> exact ⟨_, rfl⟩
  obtain ⟨pr, hpr⟩ : ∃ p, R.ptr = .pointer p := by cases R <;> exact ⟨_, rfl⟩
  rw [hpl] at HB hW
  rw [hpr] at HJ
  rw [hpl, hpr]
  go_enter Try.func47, Try.ntmps47
  go_wp2_with fail
  refine scope_ghost 0 (JoJ w W L pl pr) rfl ?_ ?_
  · intro hp
    go_wp2_with fail
    go_step3
    rename_i K hK
    refine hK _ _ (hp _ _ _ ⟨.top, L, rfl, Lib.hid ⟨rfl, trivial⟩, hW, ?_⟩)
    exact ⟨_, _, _, _, _, _, _, _, _, _, _, _, _, _, rfl⟩
  · clear hW
    rintro n a w' ⟨c, t, rfl, HI, rfl, u3, u6, u7, u8, u9, u10, u11, u12, u13, u14, u15, u16, u17, u18, rfl⟩
    have hm := jo_hole HI.out HL.out (by rw [hpl]; exact HB.out)
    obtain ⟨b, o, eh⟩ := jhole_form w.heap.size c
    cases t with
    | nil =>
      obtain ⟨hj, hc⟩ := HJ.out c HI.out
      have Hj := Lib.hid hj
      clear hj
      rw [eh] at hm hc Hj ⊢
      have m1 : W.cell? ⟨b, o, none⟩ = some (.pointer none) := hm.1
      have m2 := hm.2
      clear hm HJ HL HB
      have HE : Hid (∃ T, Ending.returned (c.plug R).ptr = .returned T.ptr ∧ Hid (JoinIs w (W.setCell ⟨b, o, none⟩ (.pointer pr)) L R T)) := Lib.hid ⟨_, rfl, Hj⟩
      clear Hj
      generalize (c.plug R).ptr = P at *
      go_wp2_with fail
      show bodyPost Try.prog Try.f47 (fun e w' => ∃ T, e = .returned T.ptr ∧ Hid (JoinIs w w' L R T)) Exit.ret _ _
      go_ret
      exact HE.out
    | node y k v q l r =>
      rw [eh] at hm ⊢
      have m1 : W.cell? ⟨b, o, none⟩ = some (.pointer (some ⟨y, 0, none⟩)) := hm.1
      clear hm HJ HL HB
      go_wp2_with fail
      go_step3
      refine ⟨rfl, r.size, ?_, .right y k v q l c, r, rfl, Lib.hid ⟨HI.out.eq, HI.out.ro⟩, rfl, _, _, _, _, _, _, _, _, _, _, _, _, _, _, rfl⟩
      show r.size < l.size + r.size + 1
      omega
end Go.Proofs.Ytgbmgdffgmablaa

/- grove: a tree's drop. (By mkgvf.py.) -/
namespace Go.Proofs.Ytgbmgdffgmablaa
open Go.RowKit Go.Shelf Go.Sort Go.Maps Go.Lib
set_option linter.unusedVariables false

theorem hole_cl {W : World} {tb sb : Nat} {c : Cx} {p : Value} (h : CxIn W tb sb c p) : ∃ cs T, W.heap[(c.hole tb).block]? = some (.cells cs T (0, 0)) ∧ 22 ≠ T := by
  cases c with
  | top => exact ⟨_, _, h, by decide⟩
  | left => exact ⟨_, _, h.1, by decide⟩
  | right => exact ⟨_, _, h.1, by decide⟩
/-- What drop leaves. -/
structure TDrop (w w' : World) (tb sb : Nat) (s key : Int) (T T' : Tr) : Prop where
  cx : CxIn w' tb sb .top T'.ptr
  tr : TrIn w' T'
  srt : Srt s T'.rows
  nd : T'.blks.Nodup
  fr : Fr (fun b => b = tb ∨ b ∈ T.blks) w w'
  bl : ∀ b ∈ T'.blks, b ∈ T.blks
  rows : ∃ P R Q, T.rows = P ++ R ++ Q ∧ T'.rows = P ++ Q ∧ (R = [] ∨ ∃ q0, R = [(key, q0)]) ∧ (∀ x ∈ P, betN s x.1 key = true) ∧ (∀ x ∈ Q, betN s key x.1 = true)
  vals : ∃ A B C, T.vals = A ++ B ++ C ∧ T'.vals = A ++ C ∧ (B = [] ∨ ∃ u, B = [u])
theorem srt_drop {s : Int} {P R Q : List Rq} (h : Srt s (P ++ R ++ Q)) : Srt s (P ++ Q) := by
  unfold Srt at h ⊢
  rw [List.append_assoc, List.pairwise_append] at h
  obtain ⟨h1, h2, h3⟩ := h
  rw [List.pairwise_append] at h2
  rw [List.pairwise_append]
  exact ⟨h1, h2.2.1, fun a ha b hb => h3 a ha b (List.mem_append_right _ hb)⟩
theorem drop_none {w : World} {tb sb : Nat} {s key : Int} {T : Tr} {c : Cx} (n : Nat) (hI : SpI w tb sb s key T c .nil) (hnd : T.blks.Nodup) : TDrop w (w.drewN n) tb sb s key T T := by
  have hT := plug_in hI.cx hI.tr
  have hsrt := hI.at_.srt
  obtain ⟨A, C, hv⟩ := plug_vals c
  have hrows : ∃ P R Q, T.rows = P ++ R ++ Q ∧ T.rows = P ++ Q ∧ (R = [] ∨ ∃ q0, R = [(key, q0)]) ∧ (∀ x ∈ P, betN s x.1 key = true) ∧ (∀ x ∈ Q, betN s key x.1 = true) :=
    ⟨c.pre, [], c.post, by rw [← hI.eq, rows_plug]; simp [Tr.rows], by rw [← hI.eq, rows_plug]; simp [Tr.rows], .inl rfl, hI.at_.pre, hI.at_.post⟩
  have f : Fr (fun b => b = tb ∨ b ∈ T.blks) w (w.drewN n) := (Fr.refl _ w).drewN n
  have f0 : Fr (fun _ => False) w (w.drewN n) := (Fr.refl _ w).drewN n
  rw [hI.eq] at hT hsrt
  exact ⟨CxIn.fr f0 (fun h => h) hT.1 (fun _ _ h => h) (fun _ _ _ _ h => h), TrIn.fr f0 hT.2 (fun _ _ h => h) (fun _ _ _ _ h => h), hsrt, hnd, f, fun _ h => h, hrows, T.vals, [], [], by simp, by simp, .inl rfl⟩
/-- Where drop stands behind join. -/
theorem drop_mid {w X w1 : World} {tb sb : Nat} {s key : Int} {T : Tr} {c : Cx} {x : Nat} {k : Int} {u : Value} {qq : List Int} {l r J : Tr} (hI : SpI w tb sb s key T c (.node x k u qq l r)) (hnd : T.blks.Nodup) (hX : Fr (fun _ => False) w X) (hj : JoinIs X w1 l r J) :
    CxIn w1 tb sb c (.pointer (some ⟨x, 0, none⟩)) ∧ Cl 91 w1 x #[.int .i64 k, u, l.ptr, r.ptr] ∧ Fr (fun b => b ∈ l.blks) w w1 ∧ (l.blks ++ r.blks).Nodup ∧ x ∉ c.blks ∧ x ≠ tb ∧ (∀ b, (b = tb ∨ b ∈ c.blks) → b ∉ l.blks ∧ b ∉ r.blks) := by
  have hperm := plug_blks c (.node x k u qq l r)
  rw [hI.eq] at hperm
  have hd := hperm.nodup_iff.1 hnd
  have hd1 : (l.blks ++ x :: r.blks).Nodup := (List.nodup_append.1 hd).1
  have hd2 := (List.nodup_append.1 hd).2.2
  have hd3 := List.nodup_append.1 hd1
  obtain ⟨pt, ht⟩ := CxIn.tree hI.cx
  have hx := hI.tr.1
  have hoff : ∀ b ∈ l.blks ++ x :: r.blks, b ≠ tb := fun b hb e => by
    have hm : b ∈ (Tr.node x k u qq l r).blks := hb
    obtain ⟨cs, h⟩ := TrIn.at_ hI.tr b hm
    exact blk_ne h ht (by decide) e
  have fr : Fr (fun b => b ∈ l.blks) w w1 := Fr.trans (hX.mono (fun _ h => h.elim)) hj.fr (fun b hb => .inl hb)
  have hxl : x ∉ l.blks := fun h => hd3.2.2 x h x (by simp) rfl
  have hlc : ∀ b ∈ c.blks, b ∉ l.blks := fun b hb h => hd2 b (by simp [Tr.blks, h]) b hb rfl
  have hrc : ∀ b ∈ c.blks, b ∉ r.blks := fun b hb h => hd2 b (by simp [Tr.blks, h]) b hb rfl
  refine ⟨CxIn.fr fr (fun h => hoff tb (by simp [h]) rfl) hI.cx hlc (fun v hv k hk h => ?_), fr.blk hx hxl, fr, ?_, fun h => hd2 x (by simp [Tr.blks]) x h rfl, hoff x (by simp), fun b hb => ?_⟩
  · obtain ⟨cs, hc⟩ := TrIn.at_ hI.tr.2.2.1 k h
    exact CxIn.ne hc (by decide) hI.cx v hv hk
  · rw [List.nodup_append]
    exact ⟨hd3.1, (List.nodup_cons.1 hd3.2.1).2, fun a ha b hb => hd3.2.2 a ha b (by simp [hb])⟩
  · rcases hb with rfl | hb
    · exact ⟨fun h => hoff b (by simp [h]) rfl, fun h => hoff b (by simp [h]) rfl⟩
    · exact ⟨hlc b hb, hrc b hb⟩
theorem drop_done {w X w1 : World} {tb sb : Nat} {s key : Int} {T : Tr} {c : Cx} {x : Nat} {k : Int} {u : Value} {qq : List Int} {l r J : Tr} (hI : SpI w tb sb s key T c (.node x k u qq l r)) (hk : k = key) (hnd : T.blks.Nodup) (hX : Fr (fun _ => False) w X) (hj : JoinIs X w1 l r J) :
    TDrop w (w1.setCell (c.hole tb) J.ptr) tb sb s key T (c.plug J) := by
  obtain ⟨hc1, hx1, fr1, hlr, hxc, hxt, hoff⟩ := drop_mid hI hnd hX hj
  have hperm := plug_blks c (.node x k u qq l r)
  rw [hI.eq] at hperm
  have hperm2 := plug_blks c J
  have hd := hperm.nodup_iff.1 hnd
  have hcd := (List.nodup_append.1 hd).2.1
  have hc2 := CxIn.set hc1 hcd J.ptr
  obtain ⟨cs, Tt, hcl, hT⟩ := hole_cl hc1
  have f2 : Fr (fun b => b = (c.hole tb).block) w1 (w1.setCell (c.hole tb) J.ptr) := (Fr.refl (fun b => b = (c.hole tb).block) w1).set (p := c.hole tb) (.inl rfl) _
  have hJl : ∀ b ∈ J.blks, b ∈ l.blks ∨ b ∈ r.blks := fun b hb => List.mem_append.1 (hj.blks.mem_iff.1 hb)
  have hJ2 : TrIn (w1.setCell (c.hole tb) J.ptr) J := by
    refine TrIn.fr f2 hj.tr (fun b hb e => ?_) (fun v hv k hk e => TrIn.ne hcl hT hj.tr v hv (by rw [hk, e]))
    have h := hoff _ (hole_blk tb c)
    rw [← e] at h
    rcases hJl b hb with h1 | h1
    · exact h.1 h1
    · exact h.2 h1
  obtain ⟨A, C, hv⟩ := plug_vals c
  have hp := plug_in hc2 hJ2
  have hs := hI.at_.srt
  rw [hI.eq] at hs
  have hrows : ∃ P R Q, T.rows = P ++ R ++ Q ∧ (c.plug J).rows = P ++ Q ∧ (R = [] ∨ ∃ q0, R = [(key, q0)]) ∧ (∀ x ∈ P, betN s x.1 key = true) ∧ (∀ x ∈ Q, betN s key x.1 = true) := by
    subst hk
    have hs' := hs
    rw [← hI.eq, rows_plug] at hs'
    unfold Srt at hs'
    simp only [Tr.rows, List.append_assoc, List.cons_append] at hs'
    rw [List.pairwise_append] at hs'
    have h2 := hs'.2.1
    rw [List.pairwise_append] at h2
    refine ⟨c.pre ++ l.rows, [(k, qq)], r.rows ++ c.post, by rw [← hI.eq, rows_plug]; simp [Tr.rows], by rw [rows_plug, hj.rows]; simp, .inr ⟨qq, rfl⟩, fun x hx => ?_, fun x hx => ?_⟩
    · rcases List.mem_append.1 hx with hx | hx
      · exact hI.at_.pre x hx
      · exact h2.2.2 x hx (k, qq) (by simp)
    · exact (List.pairwise_cons.1 h2.2.1).1 x hx
  refine ⟨hp.1, hp.2, ?_, ?_, ?_, ?_, hrows, A ++ l.vals, [u], r.vals ++ C, by rw [← hI.eq, hv]; simp [Tr.vals], by rw [hv, hj.vals]; simp, .inr ⟨u, rfl⟩⟩
  · obtain ⟨P, R, Q, e1, e2, _⟩ := hrows
    rw [e2]
    exact srt_drop (by rw [← e1]; exact hs)
  · refine hperm2.nodup_iff.2 ?_
    rw [List.nodup_append]
    refine ⟨hj.blks.nodup_iff.2 hlr, hcd, fun a ha b hb e => ?_⟩
    subst e
    rcases hJl a ha with h1 | h1
    · exact (hoff a (.inr hb)).1 h1
    · exact (hoff a (.inr hb)).2 h1
  · refine Fr.trans (S := fun b => b = tb ∨ b ∈ T.blks) (fr1.mono (fun b hb => .inl (.inr (hperm.mem_iff.2 (by simp [Tr.blks, hb]))))) f2 (fun b hb => .inl ?_)
    subst hb
    rcases hole_blk tb c with h | h
    · exact .inl h
    · exact .inr (hperm.mem_iff.2 (List.mem_append_right _ h))
  · intro b hb
    rcases List.mem_append.1 (hperm2.mem_iff.1 hb) with h | h
    · rcases hJl b h with h | h <;> exact hperm.mem_iff.2 (by simp [Tr.blks, h])
    · exact hperm.mem_iff.2 (List.mem_append_right _ h)
set_option maxHeartbeats 4000000 in
set_option maxRecDepth 100000 in
theorem tDrop_c (tb sb : Nat) (s key : Int) (T : Tr) (w : World) (hs : s = 1 ∨ s = 2) (hb : Cl 3 w sb #[.int .i64 s]) (hc : CxIn w tb sb .top T.ptr) (ht : TrIn w T) (hS : Srt s T.rows) (hnd : T.blks.Nodup) :
    Calls Try.prog 30 #[.pointer (some ⟨tb, 0, none⟩), .int .i64 key] w fun e w' => e = .returned (.tuple #[]) ∧ ∃ T', Hid (TDrop w w' tb sb s key T T') := by
  have HS := Lib.hid (spot_c tb sb s key T w (fun _ => hs) hb hc ht hS)
  have HT := Lib.hid hnd
  clear hs hb hc ht hS hnd
  go_enter Try.func30, Try.ntmps30
  go_wp2_with fail
  ((with_reducible refine HS.out.mono ?_); rintro e w1 ⟨c, t, rfl, h, n, rfl⟩)
  obtain ⟨b, o, eh⟩ := hole_form tb c
  have h1 := cx_hole h.out.1.cx
  rw [eh] at h1 ⊢
  cases t with
  | nil =>
    have c1 : (w.drewN n).cell? ⟨b, o, none⟩ = some (.pointer none) := h1.1
    clear h1 HS
    go_wp2_with fail
    go_end0
    exact ⟨rfl, T, Lib.hid (drop_none n h.out.1 HT.out)⟩
  | node x k u qq l r =>
    have c1 : (w.drewN n).cell? ⟨b, o, none⟩ = some (.pointer (some ⟨x, 0, none⟩)) := h1.1
    clear h1 HS
    have hX : Fr (fun _ => False) w (w.drewN n).drew := ((Fr.refl _ w).drewN n).drew
    have HX := Lib.hid hX
    have HM : Hid (∀ w1 J, JoinIs (w.drewN n).drew w1 l r J → CxIn w1 tb sb c (.pointer (some ⟨x, 0, none⟩)) ∧ Cl 91 w1 x #[.int .i64 k, u, l.ptr, r.ptr] ∧ Fr (fun b => b ∈ l.blks) w w1 ∧ (l.blks ++ r.blks).Nodup ∧ x ∉ c.blks ∧ x ≠ tb ∧ (∀ b, (b = tb ∨ b ∈ c.blks) → b ∉ l.blks ∧ b ∉ r.blks)) := Lib.hid (fun w1 J hj => drop_mid h.out.1 HT.out hX hj)
    have HD : Hid (∀ w1 J, JoinIs (w.drewN n).drew w1 l r J → TDrop w (w1.setCell ⟨b, o, none⟩ J.ptr) tb sb s key T (c.plug J)) := Lib.hid (fun w1 J hj => by rw [← eh]; exact drop_done h.out.1 h.out.2 HT.out hX hj)
    have HJ : Hid (Calls Try.prog 47 #[l.ptr, r.ptr] (w.drewN n).drew fun e w' => ∃ T, e = .returned T.ptr ∧ Hid (JoinIs (w.drewN n).drew w' l r T)) := Lib.hid (tJoin_c l r _ (TrIn.fr hX h.out.1.tr.2.2.1 (fun _ _ h => h) (fun _ _ _ _ h => h)) (TrIn.fr hX h.out.1.tr.2.2.2 (fun _ _ h => h) (fun _ _ _ _ h => h)) (by
      have hperm := plug_blks c (.node x k u qq l r)
      rw [h.out.1.eq] at hperm
      have hd1 : (l.blks ++ x :: r.blks).Nodup := (List.nodup_append.1 (hperm.nodup_iff.1 HT.out)).1
      have hd3 := List.nodup_append.1 hd1
      rw [List.nodup_append]
      exact ⟨hd3.1, (List.nodup_cons.1 hd3.2.1).2, fun a ha b hb => hd3.2.2 a ha b (by simp [hb])⟩))
    have HC : Cl 91 (w.drewN n).drew x #[.int .i64 k, u, l.ptr, r.ptr] := hX.blk h.out.1.tr.1 (fun h => h)
    obtain ⟨pl, hpl⟩ : ∃ p, l.ptr = .pointer p := by cases l <;> exact ⟨_, rfl⟩
    obtain ⟨pr, hpr⟩ : ∃ p, r.ptr = .pointer p := by cases r <;> exact ⟨_, rfl⟩
    rw [hpl, hpr] at HC HM HJ
    have HB : Hid (b = tb ∨ b ∈ c.blks) := Lib.hid (by have := hole_blk tb c; rw [eh] at this; exact this)
    go_wp2_with fail
    refine wp_region_held_drew (S := fun W => Cl 91 W x #[.int .i64 k, u, .pointer pl, .pointer pr]) (by kernel_rfl) (by exact HC) (fun hHeld => ?_)
    refine wpAnyH_take (i := 0) (oi := ⟨some 14, _, _, _, _, _⟩) (v := ?_) rfl (by kernel_rfl) (by kernel_rfl) (by kernel_rfl) (fun _ _ _ h => h) (Or.inl ⟨by kernel_rfl, ?_⟩) (by assumption) ?_
    rotate_left
    · (intro w hSw; (try dsimp only at hSw); go_simp; try with_reducible rfl)
    (repeat (first | simp only [Act.put] | simp only [List.setIfInBounds_toArray] | simp only [List.set_cons_succ] | simp only [List.set_cons_zero]))
    refine wpAnyH_take (i := 1) (oi := ⟨some 15, _, _, _, _, _⟩) (v := ?_) rfl (by kernel_rfl) (by kernel_rfl) (by kernel_rfl) (fun _ _ _ h => h) (Or.inl ⟨by kernel_rfl, ?_⟩) (by assumption) ?_
    rotate_left
    · (intro w hSw; (try dsimp only at hSw); go_simp; try with_reducible rfl)
    (repeat (first | simp only [Act.put] | simp only [List.setIfInBounds_toArray] | simp only [List.set_cons_succ] | simp only [List.set_cons_zero]))
    refine wpAnyH_take (i := 2) (oi := ⟨some 16, _, _, _, _, _⟩) (v := ?_) rfl (by kernel_rfl) (by kernel_rfl) (by kernel_rfl) (fun _ _ _ h => h) (Or.inl ⟨by kernel_rfl, ?_⟩) (by assumption) ?_
    rotate_left
    · (intro w hSw; (try dsimp only at hSw); go_simp; try with_reducible rfl)
    (repeat (first | simp only [Act.put] | simp only [List.setIfInBounds_toArray] | simp only [List.set_cons_succ] | simp only [List.set_cons_zero]))
    refine wpAnyH_take (i := 3) (oi := ⟨some 17, _, _, _, _, _⟩) (v := ?_) rfl (by kernel_rfl) (by kernel_rfl) (by kernel_rfl) (fun _ _ _ h => h) (Or.inl ⟨by kernel_rfl, ?_⟩) (by assumption) ?_
    rotate_left
    · (intro w hSw; (try dsimp only at hSw); go_simp; try with_reducible rfl)
    (repeat (first | simp only [Act.put] | simp only [List.setIfInBounds_toArray] | simp only [List.set_cons_succ] | simp only [List.set_cons_zero]))
    refine wpAnyH_take (i := 4) (oi := ⟨some 18, _, _, _, _, _⟩) (v := ?_) rfl (by kernel_rfl) (by kernel_rfl) (by kernel_rfl) (fun _ _ _ h => h) (Or.inl ⟨by kernel_rfl, ?_⟩) (by assumption) ?_
    rotate_left
    · (intro w hSw; have m1 : w.cell? ⟨x, 2, none⟩ = some (.pointer pl) := (Cl.c hSw 2).trans rfl; (try dsimp only at hSw); go_simp; try with_reducible rfl)
    (repeat (first | simp only [Act.put] | simp only [List.setIfInBounds_toArray] | simp only [List.set_cons_succ] | simp only [List.set_cons_zero]))
    refine wpAnyH_take (i := 5) (oi := ⟨some 19, _, _, _, _, _⟩) (v := ?_) rfl (by kernel_rfl) (by kernel_rfl) (by kernel_rfl) (fun _ _ _ h => h) (Or.inl ⟨by kernel_rfl, ?_⟩) (by assumption) ?_
    rotate_left
    · (intro w hSw; (try dsimp only at hSw); go_simp; try with_reducible rfl)
    (repeat (first | simp only [Act.put] | simp only [List.setIfInBounds_toArray] | simp only [List.set_cons_succ] | simp only [List.set_cons_zero]))
    refine wpAnyH_take (i := 6) (oi := ⟨some 20, _, _, _, _, _⟩) (v := ?_) rfl (by kernel_rfl) (by kernel_rfl) (by kernel_rfl) (fun _ _ _ h => h) (Or.inl ⟨by kernel_rfl, ?_⟩) (by assumption) ?_
    rotate_left
    · (intro w hSw; (try dsimp only at hSw); go_simp; try with_reducible rfl)
    (repeat (first | simp only [Act.put] | simp only [List.setIfInBounds_toArray] | simp only [List.set_cons_succ] | simp only [List.set_cons_zero]))
    refine wpAnyH_take (i := 7) (oi := ⟨some 21, _, _, _, _, _⟩) (v := ?_) rfl (by kernel_rfl) (by kernel_rfl) (by kernel_rfl) (fun _ _ _ h => h) (Or.inl ⟨by kernel_rfl, ?_⟩) (by assumption) ?_
    rotate_left
    · (intro w hSw; (try dsimp only at hSw); go_simp; try with_reducible rfl)
    (repeat (first | simp only [Act.put] | simp only [List.setIfInBounds_toArray] | simp only [List.set_cons_succ] | simp only [List.set_cons_zero]))
    refine wpAnyH_take (i := 8) (oi := ⟨some 22, _, _, _, _, _⟩) (v := ?_) rfl (by kernel_rfl) (by kernel_rfl) (by kernel_rfl) (fun _ _ _ h => h) (Or.inl ⟨by kernel_rfl, ?_⟩) (by assumption) ?_
    rotate_left
    · (intro w hSw; have m1 : w.cell? ⟨x, 3, none⟩ = some (.pointer pr) := (Cl.c hSw 3).trans rfl; (try dsimp only at hSw); go_simp; try with_reducible rfl)
    (repeat (first | simp only [Act.put] | simp only [List.setIfInBounds_toArray] | simp only [List.set_cons_succ] | simp only [List.set_cons_zero]))
    refine wpAnyH_ready (rs := [9]) (by kernel_rfl) (by simp) ?_
    refine AllReadyH.cons (o := ⟨some 23, _, _, _, _, _⟩) rfl (fun K hK => ?_) AllReadyH.nil
    go_simp
    refine HJ.out.mono ?_
    rintro e w1 ⟨J, rfl, hj⟩
    have HDo := Lib.hid (HD.out w1 J hj.out)
    obtain ⟨g1, g2, -, -, g3, g4, -⟩ := HM.out w1 J hj.out
    have e1 := cx_hole g1
    rw [eh] at e1
    obtain ⟨e1, e2⟩ := e1
    obtain ⟨pj, hpj⟩ : ∃ p, J.ptr = .pointer p := by cases J <;> exact ⟨_, rfl⟩
    rw [hpj] at HDo ⊢
    refine hK.out _ _ (by exact g2) (fun hHeld => ?_)
    clear hK K
    (repeat (first | simp only [Act.put] | simp only [List.setIfInBounds_toArray] | simp only [List.set_cons_succ] | simp only [List.set_cons_zero]))
    refine wpAnyH_take (i := 10) (oi := ⟨some 24, _, _, _, _, _⟩) (v := ?_) rfl (by kernel_rfl) (by kernel_rfl) (by kernel_rfl) (fun _ _ _ h => h) (Or.inl ⟨by kernel_rfl, ?_⟩) (by assumption) ?_
    rotate_left
    · (intro w hSw; (try dsimp only at hSw); go_simp; try with_reducible rfl)
    (repeat (first | simp only [Act.put] | simp only [List.setIfInBounds_toArray] | simp only [List.set_cons_succ] | simp only [List.set_cons_zero]))
    refine wpAnyH_ready (rs := [11]) (by kernel_rfl) (by simp) ?_
    refine AllReadyH.cons (o := ⟨none, _, _, _, _, _⟩) rfl (fun K hK => ?_) AllReadyH.nil
    go_simp
    (try go_wp2_with fail)
    refine hK.out _ _ (by exact (heap_far (a := ⟨b, o, none⟩) (fun e => by rcases HB.out with h | h <;> first | exact g4 (e.symm.trans h) | exact g4 (e.trans h) | exact g3 (e ▸ h))).trans g2) (fun hHeld => ?_)
    clear hK K
    (repeat (first | simp only [Act.put] | simp only [List.setIfInBounds_toArray] | simp only [List.set_cons_succ] | simp only [List.set_cons_zero]))
    refine wpAnyH_done (by kernel_rfl) ?_ _
    go_wp2_with fail
    go_end0
    exact ⟨rfl, _, HDo⟩
end Go.Proofs.Ytgbmgdffgmablaa

/- grove: planted; a book in memory; made. -/
namespace Go.Proofs.Ytgbmgdffgmablaa
open Go.RowKit Go.Shelf Go.Sort Go.Maps Go.Lib
set_option linter.unusedVariables false

/-- A side's tree: its block, its side's box, its nodes. -/
structure Sg where
  tb : Nat
  sb : Nat
  t : Tr
/-- A side as it lies. -/
structure SgIn (w : World) (s : Int) (g : Sg) : Prop where
  box : Cl 3 w g.sb #[.int .i64 s]
  cx : CxIn w g.tb g.sb .top g.t.ptr
  tr : TrIn w g.t
  srt : Srt s g.t.rows
  nd : g.t.blks.Nodup
theorem SgIn.fr {S : Nat → Prop} {w w' : World} {s : Int} {g : Sg} (h : SgIn w s g) (hf : Fr S w w') (h1 : ¬ S g.sb) (h2 : ¬ S g.tb) (h3 : ∀ b ∈ g.t.blks, ¬ S b) (h4 : ∀ v ∈ g.t.vals, ∀ k, v.ownBlock = some k → ¬ S k) : SgIn w' s g :=
  ⟨hf.blk h.box h1, hf.blk h.cx h2, TrIn.fr hf h.tr h3 h4, h.srt, h.nd⟩
theorem SgIn.below {w w' : World} {s : Int} {g : Sg} (h : SgIn w s g) (hf : Below w.heap.size w w') : SgIn w' s g :=
  h.fr (S := fun _ => False) (Fr.of_below hf) (fun h => h) (fun h => h) (fun _ _ h => h) (fun _ _ _ _ h => h)
set_option maxHeartbeats 4000000 in
set_option maxRecDepth 100000 in
theorem planted_c (s : Int) (w : World) : Calls Try.prog 37 #[.int .i64 s] w fun e w' => e = .returned (.pointer (some ⟨w.heap.size + 1, 0, none⟩)) ∧ Hid (SgIn w' s ⟨w.heap.size + 1, w.heap.size, .nil⟩ ∧ Below w.heap.size w w' ∧ w'.heap.size = w.heap.size + 2) := by
  go_enter Try.func37, Try.ntmps37
  go_wp2_with fail
  go_ret
  refine ⟨rfl, Lib.hid ⟨⟨?_, ?_, trivial, List.Pairwise.nil, List.nodup_nil⟩, ((Below.refl _ _).alloc (Nat.le_refl _) _).alloc (by simp) _, by simp⟩⟩
  · exact hd_prev (by simp) (hd_last rfl)
  · exact hd_last (by simp)
/-- The sides' map. -/
def sidD (g1 g2 : Sg) : DataW Value := .map [(.int .i64 1, .held (.pointer (some ⟨g1.tb, 0, none⟩))), (.int .i64 2, .held (.pointer (some ⟨g2.tb, 0, none⟩)))]
def sideP (g1 g2 : Sg) (side : Int) : Value := if side = 1 then .pointer (some ⟨g1.tb, 0, none⟩) else if side = 2 then .pointer (some ⟨g2.tb, 0, none⟩) else .pointer none
theorem zeroP (w : World) : (zeroValue 64).run Try.prog w = .ok (.pointer none) w := by kernel_rfl
theorem sidD_at (g1 g2 : Sg) (side : Int) : (sidD g1 g2).atKey (.int .i64 side) (.held (.pointer none)) = .held (sideP g1 g2 side) := by
  unfold sideP
  by_cases e1 : side = 1
  · subst e1
    simp [sidD, DataW.atKey, Lit.sameKey]
  · by_cases e2 : side = 2
    · subst e2
      simp [sidD, DataW.atKey, Lit.sameKey]
    · have e1' : ¬ (1 : Int) = side := fun h => e1 h.symm
      have e2' : ¬ (2 : Int) = side := fun h => e2 h.symm
      simp [sidD, DataW.atKey, Lit.sameKey, e1, e2, e1', e2']
theorem look_tree {w : World} {m : Nat} {g1 g2 : Sg} (h : w.ownsMap Try.prog 3 RV m 2 (sidD g1 g2)) (side : Int) (hs : (Lit.int .i64 side).wf = true) :
    (Instr.lookup 27 (.map (some m)) (.int .i64 side) false).run Try.prog w = .ok (sideP g1 g2 side) w := by
  have hat := sidD_at g1 g2 side
  obtain ⟨es, clock, hb, F, _, hD⟩ := h
  rw [hD] at hat
  rcases Maps.fit_look false keyI Try.underlying27 (zeroP w) hb F (keyOf_int_mk Try.underlying3 hs) with ⟨hrun, _, hz⟩ | ⟨e0, y, _, _, hrun, hR, hz, _⟩
  · rw [hz] at hat
    replace hat := DataW.held.inj hat
    simp only [Bool.false_eq_true, if_false] at hrun
    exact hrun.trans (congrArg (fun v => Result.ok v w) hat)
  · rw [hz] at hat
    unfold RV at hR
    replace hR := Option.some.inj hR
    rw [← hR] at hat
    replace hat := DataW.held.inj hat
    simp only [Bool.false_eq_true, if_false] at hrun
    exact hrun.trans (congrArg (fun v => Result.ok v w) hat)
/-- A book: no book (nil), one that no call made, or one that has its maps (mm). -/
structure Gk (w : World) (b : Option Addr) (mm : Option (Nat × Nat)) (L : DataW Value) (g1 g2 : Sg) : Prop where
  shape : (b = none ∧ mm = none) ∨ ∃ p, b = some ⟨p, 0, none⟩ ∧ Cl 29 w p #[.map (mm.map Prod.fst), .map (mm.map Prod.snd)]
  om : ∀ m ms, mm = some (m, ms) → w.ownsMap Try.prog 22 RV m 64 L
  sm : ∀ m ms, mm = some (m, ms) → w.ownsMap Try.prog 3 RV ms 2 (sidD g1 g2)
  s1 : mm.isSome = true → SgIn w 1 g1
  s2 : mm.isSome = true → SgIn w 2 g2
theorem neq_omap (m : Option Nat) (w : World) : (binOp .neq 26 (.map m) (.map none)).run Try.prog w = .ok (.bool m.isSome) w := by
  cases m <;> kernel_rfl
set_option maxHeartbeats 4000000 in
set_option maxRecDepth 100000 in
theorem gMade_c (b : Option Addr) (mm : Option (Nat × Nat)) (L : DataW Value) (g1 g2 : Sg) (w : World) (H : Gk w b mm L g1 g2) :
    Calls Try.prog 25 #[.pointer b] w fun e w' => e = .returned (.bool mm.isSome) ∧ w = w' := by
  rcases H.shape with ⟨rfl, rfl⟩ | ⟨p, rfl, hp⟩
  · clear H
    go_enter Try.func25, Try.ntmps25
    go_wp2_with fail
    go_ret
    exact ⟨rfl, rfl⟩
  · have c0 : w.cell? ⟨p, 0, none⟩ = some (.map (mm.map Prod.fst)) := (hp.c 0).trans rfl
    have hn := neq_omap (mm.map Prod.fst) w
    have he : (mm.map Prod.fst).isSome = mm.isSome := by cases mm <;> rfl
    rw [he] at hn
    generalize mm.map Prod.fst = m at *
    generalize mm.isSome = bb at *
    clear H hp
    go_enter Try.func25, Try.ntmps25
    go_wp2_with fail
    go_ret
    exact ⟨rfl, rfl⟩
/-- A side as side tells it: the book's own, or a new one without a price. -/
inductive SideIs (w w' : World) (mm : Option (Nat × Nat)) (g1 g2 : Sg) (side : Int) : Sg → Prop where
  | own1 : mm.isSome = true → side = 1 → w = w' → SideIs w w' mm g1 g2 side g1
  | own2 : mm.isSome = true → side = 2 → w = w' → SideIs w w' mm g1 g2 side g2
  | new : (mm.isSome = false ∨ (side ≠ 1 ∧ side ≠ 2)) → Below w.heap.size w w' → SgIn w' side ⟨w.heap.size + 1, w.heap.size, .nil⟩ → SideIs w w' mm g1 g2 side ⟨w.heap.size + 1, w.heap.size, .nil⟩
theorem sideP_none (g1 g2 : Sg) (side : Int) (h : side ≠ 1 ∧ side ≠ 2) : sideP g1 g2 side = .pointer none := by
  unfold sideP
  rw [if_neg h.1, if_neg h.2]
set_option maxHeartbeats 4000000 in
set_option maxRecDepth 100000 in
theorem gSide_c (b : Option Addr) (mm : Option (Nat × Nat)) (L : DataW Value) (g1 g2 : Sg) (side : Int) (w : World) (hs : (Lit.int .i64 side).wf = true) (H : Gk w b mm L g1 g2) :
    Calls Try.prog 26 #[.pointer b, .int .i64 side] w fun e w' => ∃ g, e = .returned (.pointer (some ⟨g.tb, 0, none⟩)) ∧ Hid (SideIs w w' mm g1 g2 side g) := by
  have HM := Lib.hid (gMade_c b mm L g1 g2 w H)
  have HP := Lib.hid (planted_c side w)
  cases mm with
  | none =>
    have HR : Hid (∀ w', (SgIn w' side ⟨w.heap.size + 1, w.heap.size, .nil⟩ ∧ Below w.heap.size w w' ∧ w'.heap.size = w.heap.size + 2) → SideIs w w' none g1 g2 side ⟨w.heap.size + 1, w.heap.size, .nil⟩) := Lib.hid (fun w' h => .new (.inl rfl) h.2.1 h.1)
    clear H
    go_enter Try.func26, Try.ntmps26
    go_wp2_with (first | ((with_reducible refine (HM.out).mono ?_); rintro e w' ⟨rfl, rfl⟩) | ((with_reducible refine (HP.out).mono ?_); rintro e w' ⟨rfl, k⟩))
    go_ret
    exact ⟨_, rfl, Lib.hid (HR.out _ k.out)⟩
  | some mm =>
    obtain ⟨m, ms⟩ := mm
    have hl := look_tree (H.sm m ms rfl) side hs
    rcases H.shape with ⟨_, h0⟩ | ⟨p, rfl, hp⟩
    · cases h0
    have c1 : w.cell? ⟨p, 1, none⟩ = some (.map (some ms)) := (hp.c 1).trans rfl
    clear H hp
    by_cases e1 : side = 1
    · have HR : Hid (SideIs w w (some (m, ms)) g1 g2 side g1) := Lib.hid (.own1 rfl e1 rfl)
      have he : sideP g1 g2 side = .pointer (some ⟨g1.tb, 0, none⟩) := by unfold sideP; rw [if_pos e1]
      rw [he] at hl
      clear HP he e1
      go_enter Try.func26, Try.ntmps26
      go_wp2_with (((with_reducible refine (HM.out).mono ?_); rintro e w' ⟨rfl, rfl⟩))
      go_ret
      exact ⟨_, rfl, HR⟩
    · by_cases e2 : side = 2
      · have HR : Hid (SideIs w w (some (m, ms)) g1 g2 side g2) := Lib.hid (.own2 rfl e2 rfl)
        have he : sideP g1 g2 side = .pointer (some ⟨g2.tb, 0, none⟩) := by unfold sideP; rw [if_neg e1, if_pos e2]
        rw [he] at hl
        clear HP he e1 e2
        go_enter Try.func26, Try.ntmps26
        go_wp2_with (((with_reducible refine (HM.out).mono ?_); rintro e w' ⟨rfl, rfl⟩))
        go_ret
        exact ⟨_, rfl, HR⟩
      · have HR : Hid (∀ w', (SgIn w' side ⟨w.heap.size + 1, w.heap.size, .nil⟩ ∧ Below w.heap.size w w' ∧ w'.heap.size = w.heap.size + 2) → SideIs w w' (some (m, ms)) g1 g2 side ⟨w.heap.size + 1, w.heap.size, .nil⟩) := Lib.hid (fun w' h => .new (.inr ⟨e1, e2⟩) h.2.1 h.1)
        rw [sideP_none g1 g2 side ⟨e1, e2⟩] at hl
        go_enter Try.func26, Try.ntmps26
        go_wp2_with (first | ((with_reducible refine (HM.out).mono ?_); rintro e w' ⟨rfl, rfl⟩) | ((with_reducible refine (HP.out).mono ?_); rintro e w' ⟨rfl, k⟩))
        go_ret
        exact ⟨_, rfl, Lib.hid (HR.out _ k.out)⟩
end Go.Proofs.Ytgbmgdffgmablaa
