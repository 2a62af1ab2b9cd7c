/- The reference's Sorted tells sortO (plain). -/
import Derived.Test.YtgbmgdffgmablaaOrV
namespace Go.Proofs.Ytgbmgdffgmablaa
open Go.RowKit Go.Sort Go.Lib Go.Shelf

def fz (s : Int) (L : List Od) : List (Od × Nat) := L.zipIdx.filter (fun d => ofO s d.1)
theorem fz_fst (s : Int) (L : List Od) : (fz s L).map Prod.fst = L.filter (ofO s) := by
  unfold fz
  have h : L.filter (ofO s) = (L.zipIdx.map Prod.fst).filter (ofO s) := by rw [List.zipIdx_map_fst]
  rw [h, List.filter_map]
  rfl
theorem zip_inc (L : List Od) : L.zipIdx.Pairwise (fun x y => x.2 < y.2) := by
  rw [List.pairwise_iff_getElem]
  intro i j hi hj hij
  rw [List.getElem_zipIdx, List.getElem_zipIdx]
  simpa using hij
theorem cls_side {s : Int} {x : Od} (hs : s = 1 ∨ s = 2) (h : ofO s x = true) : x.side = s := by
  unfold ofO clsO at h
  have := of_decide_eq_true h
  split at this <;> omega
theorem cls_0 {x : Od} (h : ofO 0 x = true) : ¬ x.side = 1 ∧ ¬ x.side = 2 := by
  unfold ofO clsO at h
  have := of_decide_eq_true h
  split at this <;> omega
theorem cls_three (x : Od) : (!ofO 1 x && !ofO 2 x) = ofO 0 x := by
  have h3 : clsO x = 0 ∨ clsO x = 1 ∨ clsO x = 2 := by unfold clsO; split <;> omega
  unfold ofO
  rcases h3 with h | h | h <;> rw [h] <;> rfl
theorem fz_sel {s : Int} (hs : s = 1 ∨ s = 2) (L : List Od) : SelD (fz s L) :=
  ⟨(zip_inc L).sublist List.filter_sublist, fun x hx y hy => by
    rw [cls_side hs (List.mem_filter.1 hx).2, cls_side hs (List.mem_filter.1 hy).2]⟩
theorem sortO_sides {L : List Od} {O1 O2 : List (Od × Nat)} (h1 : O1.Perm (fz 1 L)) (s1 : O1.Pairwise (fun x y => ltR ltO y x = false)) (h2 : O2.Perm (fz 2 L)) (s2 : O2.Pairwise (fun x y => ltR ltO y x = false)) :
    sortO L = (O1.map Prod.fst ++ O2.map Prod.fst) ++ L.filter (ofO 0) := by
  rw [← fz_fst, ← List.map_append, ← List.map_append]
  have hm1 : ∀ x ∈ O1, x.1.side = 1 := fun x hx => cls_side (.inl rfl) (List.mem_filter.1 (h1.mem_iff.1 hx)).2
  have hm2 : ∀ x ∈ O2, x.1.side = 2 := fun x hx => cls_side (.inr rfl) (List.mem_filter.1 (h2.mem_iff.1 hx)).2
  have hm0 : ∀ x ∈ fz 0 L, ¬ x.1.side = 1 ∧ ¬ x.1.side = 2 := fun x hx => cls_0 (List.mem_filter.1 hx).2
  refine sortO_eq ?_ ?_
  · refine ((h1.append h2).append_right _).trans ?_
    have p1 := List.filter_append_perm (fun d : Od × Nat => ofO 1 d.1) L.zipIdx
    have p2 := List.filter_append_perm (fun d : Od × Nat => ofO 2 d.1) (L.zipIdx.filter (fun d => !ofO 1 d.1))
    rw [List.filter_filter, List.filter_filter] at p2
    have e2 : L.zipIdx.filter (fun a => ofO 2 a.1 && !ofO 1 a.1) = fz 2 L := by
      unfold fz
      refine List.filter_congr fun d _ => ?_
      cases h : ofO 2 d.1 with
      | false => rfl
      | true =>
        cases h' : ofO 1 d.1 with
        | false => rfl
        | true => have := cls_side (.inr rfl) h; have := cls_side (.inl rfl) h'; omega
    have e0 : L.zipIdx.filter (fun a => !ofO 2 a.1 && !ofO 1 a.1) = fz 0 L := by
      unfold fz
      refine List.filter_congr fun d _ => ?_
      rw [Bool.and_comm]
      exact cls_three d.1
    rw [e2, e0] at p2
    rw [List.append_assoc]
    exact (List.Perm.append_left _ p2).trans p1
  · have cross : ∀ x y : Od × Nat, rkN x.1.side < rkN y.1.side → ltR ltO y x = false := fun x y h => by
      rw [ltR_no]
      have hl : ltO x.1 y.1 = true := by rw [ltO_iff]; exact .inl h
      exact ⟨(ltO_no _ _).2 (by unfold Lex; omega), .inl hl⟩
    have r1 : rkN 1 = 0 := rfl
    have r2 : rkN 2 = 1 := rfl
    have r0 : ∀ s : Int, ¬ s = 1 → ¬ s = 2 → rkN s = 2 := fun s a b => by unfold rkN; simp [a, b]
    rw [List.pairwise_append, List.pairwise_append]
    refine ⟨⟨s1, s2, fun x hx y hy => cross x y (by rw [hm1 x hx, hm2 y hy, r1, r2]; decide)⟩, ?_, fun x hx y hy => ?_⟩
    · have hp : (fz 0 L).Pairwise (fun x y => x.2 < y.2) := (zip_inc L).sublist List.filter_sublist
      refine (List.Pairwise.and_mem.1 hp).imp ?_
      rintro x y ⟨hx, hy, hxy⟩
      have k1 := hm0 x hx
      have k2 := hm0 y hy
      rw [ltR_no, ltO_no]
      refine ⟨?_, .inr (by omega)⟩
      rw [r0 _ k1.1 k1.2, r0 _ k2.1 k2.2]
      unfold kpO kqO kiO Lex
      simp [k1, k2]
    · have k2 := hm0 y hy
      rcases List.mem_append.1 hx with hx | hx
      · exact cross x y (by rw [hm1 x hx, r1, r0 _ k2.1 k2.2]; decide)
      · exact cross x y (by rw [hm2 x hx, r2, r0 _ k2.1 k2.2]; decide)
end Go.Proofs.Ytgbmgdffgmablaa
