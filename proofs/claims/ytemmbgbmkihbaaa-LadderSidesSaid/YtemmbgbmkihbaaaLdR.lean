/- ladder: what is told of a book, by its orders. -/
import Derived.Test.YtemmbgbmkihbaaaLdQ
namespace Go.Proofs.Ytemmbgbmkihbaaa
open Go.RowKit Go.Shelf Go.Sort

/-- The orders of a side. -/
def sideL (sd : Int) (L : List Od) : List Od := L.filter (fun x => x.side == sd)
theorem sideL_all {s : Int} {L : List Od} (h : ∀ x ∈ L, x.side = s) : sideL s L = L := by
  unfold sideL
  rw [List.filter_eq_self]
  intro x hx
  simp [h x hx]
theorem sideL_none {s sd : Int} {L : List Od} (h : ∀ x ∈ L, x.side = s) (hn : ¬ s = sd) : sideL sd L = [] := by
  unfold sideL
  rw [List.filter_eq_nil_iff]
  intro x hx
  rw [h x hx]
  simp [hn]
theorem sideL_book {w : World} {p m : Nat} {s1 s2 : Sd} (H : Whole w p m s1 s2) (sd : Int) : sideL sd (bookL s1.rs s2.rs) = flatR (rsOf s1 s2 sd) := by
  have h1 := flat_side H.ok1
  have h2 := flat_side H.ok2
  unfold bookL
  rw [show sideL sd (flatR s1.rs ++ flatR s2.rs) = sideL sd (flatR s1.rs) ++ sideL sd (flatR s2.rs) from List.filter_append _ _]
  unfold rsOf
  by_cases e1 : sd = 1
  · subst e1
    rw [if_pos rfl, sideL_all h1, sideL_none h2 (by decide), List.append_nil]
  · rw [if_neg e1]
    by_cases e2 : sd = 2
    · subst e2
      rw [if_pos rfl, sideL_all h2, sideL_none h1 (by decide), List.nil_append]
    · rw [if_neg e2, sideL_none h1 (fun e => e1 e.symm), sideL_none h2 (fun e => e2 e.symm)]
      rfl
theorem rs_ok {w : World} {p m : Nat} {s1 s2 : Sd} (H : Whole w p m s1 s2) (sd : Int) : rsOf s1 s2 sd = [] ∨ ((sd = 1 ∨ sd = 2) ∧ SideOk sd (rsOf s1 s2 sd)) := by
  unfold rsOf
  by_cases e1 : sd = 1
  · subst e1; exact .inr ⟨.inl rfl, by rw [if_pos rfl]; exact H.ok1⟩
  · rw [if_neg e1]
    by_cases e2 : sd = 2
    · subst e2; exact .inr ⟨.inr rfl, by rw [if_pos rfl]; exact H.ok2⟩
    · rw [if_neg e2]; exact .inl rfl
theorem best_head : ∀ (R : List Rw), (∀ r ∈ R, r.q ≠ []) → bestO R = (flatR R).head?
  | [], _ => rfl
  | r :: R, h => by
    show r.q.head? = (r.q ++ flatR R).head?
    have := h r (by simp)
    cases hq : r.q with
    | nil => exact absurd hq this
    | cons x q => rfl
/-- The best order of a side. -/
def bestL (sd : Int) (L : List Od) : Option Od := (sideL sd L).head?
theorem best_book {w : World} {p m : Nat} {s1 s2 : Sd} (H : Whole w p m s1 s2) (sd : Int) : bestO (rsOf s1 s2 sd) = bestL sd (bookL s1.rs s2.rs) := by
  unfold bestL
  rw [sideL_book H sd]
  exact best_head _ (fun r hr => H.ne r (rsOf_mem hr))
/-- Prices one behind the other, each once. -/
def prF (out : List Int) (x : Od) : List Int := if out.getLast? = some x.price then out else out ++ [x.price]
def prs (L : List Od) : List Int := L.foldl prF []
theorem prs_same (p : Int) : ∀ (q : List Od) (out : List Int), (∀ x ∈ q, x.price = p) → out.getLast? = some p → q.foldl prF out = out
  | [], _, _, _ => rfl
  | x :: q, out, h, hl => by
    rw [List.foldl_cons]
    have : prF out x = out := by unfold prF; rw [h x (by simp), if_pos hl]
    rw [this]
    exact prs_same p q out (fun y hy => h y (by simp [hy])) hl
theorem prs_row {p : Int} {q : List Od} {out : List Int} (h : ∀ x ∈ q, x.price = p) (hq : q ≠ []) (hl : ¬ out.getLast? = some p) : q.foldl prF out = out ++ [p] := by
  cases q with
  | nil => exact absurd rfl hq
  | cons x q =>
    rw [List.foldl_cons]
    have : prF out x = out ++ [p] := by unfold prF; rw [h x (by simp), if_neg hl]
    rw [this]
    exact prs_same p q _ (fun y hy => h y (by simp [hy])) (by simp)
theorem prs_flat {s : Int} (hs : s = 1 ∨ s = 2) : ∀ (R : List Rw) (out : List Int), SideOk s R → (∀ p, out.getLast? = some p → ∀ r ∈ R, betN s p r.pr = true) → (flatR R).foldl prF out = out ++ R.map (·.pr)
  | [], out, _, _ => by show out = out ++ []; rw [List.append_nil]
  | r :: R, out, h, ho => by
    have hq := h.some r (by simp)
    have hm := h.mem r (by simp)
    have hp := h.rows
    rw [List.pairwise_cons] at hp
    have h' : SideOk s R := ⟨hp.2, fun y hy => h.some y (by simp [hy]), fun y hy => h.mem y (by simp [hy]), fun y hy => h.que y (by simp [hy])⟩
    show (r.q ++ flatR R).foldl prF out = _
    rw [List.foldl_append, prs_row (fun x hx => (hm x hx).2) hq (fun e => by
      have := ho _ e r (by simp)
      rw [bet_iff] at this
      omega), prs_flat hs R _ h' (fun p e y hy => by
      rw [List.getLast?_concat] at e
      injection e with e
      rw [← e]
      exact hp.1 y hy), List.append_assoc]
    rfl
theorem prs_book {w : World} {p m : Nat} {s1 s2 : Sd} (H : Whole w p m s1 s2) (sd : Int) : (rsOf s1 s2 sd).map (·.pr) = prs (sideL sd (bookL s1.rs s2.rs)) := by
  rw [sideL_book H sd]
  rcases rs_ok H sd with h | ⟨hs, h⟩
  · rw [h]; rfl
  · unfold prs
    rw [prs_flat hs _ _ h (fun p e => by cases e), List.nil_append]
theorem prV_map (R : List Rw) : prV R = (R.map (·.pr)).map (fun p => .int .i64 p) := by unfold prV; rw [List.map_map]; rfl
end Go.Proofs.Ytemmbgbmkihbaaa
