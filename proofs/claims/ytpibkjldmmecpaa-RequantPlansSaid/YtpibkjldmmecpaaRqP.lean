/- requant: which of two orders came first; a stable sort by any order; what one more does to it. No program here. -/
import Derived.Test.YtpibkjldmmecpaaOrP
namespace Go.Proofs.Ytpibkjldmmecpaa
open Go.Sort

/-- Did the first order come ahead of the second one? -/
def ltC (x y : Od) : Bool := decide (x.seq < y.seq) || (decide (x.seq = y.seq) && decide (x.id < y.id))
def cmpC (x y : Od) : Int := if cmpN x.seq y.seq = 0 then cmpN x.id y.id else cmpN x.seq y.seq
theorem ltC_iff (x y : Od) : ltC x y = true ↔ x.seq < y.seq ∨ (x.seq = y.seq ∧ x.id < y.id) := by
  unfold ltC
  simp
theorem ltC_no (x y : Od) : ltC x y = false ↔ ¬ (x.seq < y.seq ∨ (x.seq = y.seq ∧ x.id < y.id)) := by
  rw [← ltC_iff]; simp
theorem cmpC_lt (x y : Od) : decide (cmpC x y < 0) = ltC x y := by
  have h : cmpC x y < 0 ↔ (x.seq < y.seq ∨ (x.seq = y.seq ∧ x.id < y.id)) := by
    unfold cmpC
    by_cases h3 : cmpN x.seq y.seq = 0
    · rw [if_pos h3, cmpN_lt]; rw [cmpN_0] at h3; omega
    · rw [if_neg h3, cmpN_lt]; rw [cmpN_0] at h3; omega
  cases e : ltC x y with
  | true => rw [ltC_iff] at e; exact decide_eq_true (h.2 e)
  | false => rw [ltC_no] at e; exact decide_eq_false (fun k => e (h.1 k))
theorem swo_ltC : SWO ltC := by
  refine ⟨fun x => ?_, fun x y z h k => ?_, fun x y z h k => ?_⟩
  · rw [ltC_no]; omega
  · rw [ltC_iff] at *; omega
  · rw [ltC_no] at *; omega

section
variable {lt : Od → Od → Bool}
/-- The orders, sorted; equal ones as they stood. -/
def sortL (lt : Od → Od → Bool) (L : List Od) : List Od := (L.zipIdx.mergeSort (fun x y => !ltR lt y x)).map Prod.fst
theorem mSort_pw (hO : SWO lt) (L : List Od) : (L.zipIdx.mergeSort (fun x y => !ltR lt y x)).Pairwise (fun x y => ltR lt y x = false) := by
  have hR := swo_ltR hO
  have := List.pairwise_mergeSort (le := fun x y => !ltR lt y x) (fun a b c h1 h2 => by
    simp only [Bool.not_eq_true'] at *; exact hR.ntrans _ _ _ h2 h1) (fun a b => by
    cases h : ltR lt b a with
    | true => have := hR.asymmA h; simp [this]
    | false => simp) L.zipIdx
  exact this.imp (fun h => by simpa using h)
theorem sortL_eq (hO : SWO lt) {L : List Od} {D : List (Od × Nat)} (hp : D.Perm L.zipIdx) (hs : D.Pairwise (fun x y => ltR lt y x = false)) : sortL lt L = D.map Prod.fst := by
  unfold sortL
  congr 1
  refine List.Perm.eq_of_pairwise (le := fun x y => ltR lt y x = false) (fun a b ha hb h1 h2 => ?_) (mSort_pw hO L) hs ((List.mergeSort_perm _ _).trans hp.symm)
  have ha' := (List.mergeSort_perm _ _).mem_iff.1 ha
  have hb' := hp.mem_iff.1 hb
  rw [ltR_no] at h1 h2
  refine zip_inj ha' hb' ?_
  rcases h1.2 with h | h
  · rw [h2.1] at h; cases h
  · rcases h2.2 with h' | h'
    · rw [h1.1] at h'; cases h'
    · omega
theorem sortL_len (L : List Od) : (sortL lt L).length = L.length := by
  unfold sortL; rw [List.length_map, (List.mergeSort_perm _ _).length_eq, List.length_zipIdx]
theorem sortL_perm (L : List Od) : (sortL lt L).Perm L := by
  have h := (List.mergeSort_perm L.zipIdx (fun x y => !ltR lt y x)).map Prod.fst
  rw [List.zipIdx_map_fst] at h
  exact h
/-- Behind the program's sort. -/
theorem sortL_merged (hO : SWO lt) {d d' : Array (Od × Nat)} {L : List Od} (hd : d.toList = L.zipIdx) (h : Merged lt 0 d.size d d') : d'.toList.map Prod.fst = sortL lt L := by
  obtain ⟨P, S⟩ := h
  have hs : d'.size = d.size := P.1
  refine (sortL_eq hO (D := d'.toList) ?_ ?_).symm
  · have := P.2.2
    rw [← hd]
    have e1 : d'.extract 0 d.size = d' := by rw [← hs]; exact Array.extract_size
    have e2 : d.extract 0 d.size = d := Array.extract_size
    rw [e1, e2] at this
    exact this
  · rw [List.pairwise_iff_getElem]
    intro i j hi hj hij
    have := S i j (Nat.zero_le _) hij (by simpa [hs] using hj)
    rw [getElem!_pos d' j (by simpa using hj), getElem!_pos d' i (by simpa using hi)] at this
    simpa using this
theorem mapFst (D : List (Od × Nat)) (i : Nat) (h : i < D.length) : (D.map Prod.fst)[i]! = (D[i]'h).1 := by
  rw [getElem!_pos _ i (by rw [List.length_map]; exact h), List.getElem_map]
/-- One more order goes behind all that it is not ahead of. -/
theorem sortL_snoc (hO : SWO lt) (M : List Od) (o : Od) (k : Nat) (h1 : k ≤ M.length) (h2 : ∀ j, k ≤ j → j < M.length → lt o (sortL lt M)[j]! = true) (h3 : k = 0 ∨ lt o (sortL lt M)[k - 1]! = false) :
    sortL lt (M ++ [o]) = (sortL lt M).take k ++ o :: (sortL lt M).drop k := by
  obtain ⟨D, hD⟩ : ∃ D, D = M.zipIdx.mergeSort (fun x y => !ltR lt y x) := ⟨_, rfl⟩
  have hS : sortL lt M = D.map Prod.fst := by rw [hD]; rfl
  have hp : D.Perm M.zipIdx := by rw [hD]; exact List.mergeSort_perm _ _
  have hw : D.Pairwise (fun x y => ltR lt y x = false) := by rw [hD]; exact mSort_pw hO M
  have hl : D.length = M.length := by rw [hp.length_eq, List.length_zipIdx]
  rw [hS] at h2 h3 ⊢
  clear hS hD
  have hidx : ∀ x ∈ D, x.2 < M.length := fun x hx => (List.mem_zipIdx' (hp.mem_iff.1 hx)).1
  have hT : (D.take k ++ (o, M.length) :: D.drop k).map Prod.fst = (D.map Prod.fst).take k ++ o :: (D.map Prod.fst).drop k := by
    rw [List.map_append, List.map_cons, List.map_take, List.map_drop]
  rw [← hT]
  refine sortL_eq hO ?_ ?_
  · refine (List.perm_middle.trans ?_)
    rw [List.take_append_drop]
    have e : (M ++ [o]).zipIdx = M.zipIdx ++ [(o, M.length)] := by simp [List.zipIdx_append]
    rw [e]
    exact ((List.Perm.cons _ hp).trans (List.perm_append_singleton _ _).symm)
  · have hw' := hw
    rw [← List.take_append_drop k D, List.pairwise_append] at hw'
    rw [List.pairwise_append]
    refine ⟨hw'.1, ?_, ?_⟩
    · rw [List.pairwise_cons]
      refine ⟨fun y hy => ?_, hw'.2.1⟩
      obtain ⟨j, hj, rfl⟩ := List.mem_iff_getElem.1 hy
      rw [List.length_drop] at hj
      have := h2 (k + j) (by omega) (by omega)
      rw [mapFst D (k + j) (by omega)] at this
      rw [List.getElem_drop, ltR_no]
      exact ⟨hO.asymmA this, .inl this⟩
    · intro x hx y hy
      rcases List.mem_cons.1 hy with rfl | hy
      · have hxD := List.mem_of_mem_take hx
        rw [ltR_no]
        refine ⟨?_, .inr (Nat.le_of_lt (hidx x hxD))⟩
        obtain ⟨i, hi, rfl⟩ := List.mem_iff_getElem.1 hx
        rw [List.length_take] at hi
        rw [List.getElem_take]
        rcases h3 with h3 | h3
        · omega
        · rw [mapFst D (k - 1) (by omega)] at h3
          by_cases e : i = k - 1
          · subst e; exact h3
          · have := (List.pairwise_iff_getElem.1 hw) i (k - 1) (by omega) (by omega) (by omega)
            rw [ltR_no] at this
            exact hO.ntrans _ _ _ h3 this.1
      · exact hw'.2.2 x hx y hy
end
theorem filP_yes {p : Od → Bool} {L : List Od} {k : Nat} (h : k < L.length) (hp : p L[k]! = true) : (L.take (k + 1)).filter p = (L.take k).filter p ++ [L[k]!] := by
  rw [List.take_succ_eq_append_getElem h, List.filter_append, ← getElem!_pos L k h]
  congr 1
  rw [List.filter_cons_of_pos hp]
  rfl
theorem filP_no {p : Od → Bool} {L : List Od} {k : Nat} (h : k < L.length) (hp : p L[k]! = false) : (L.take (k + 1)).filter p = (L.take k).filter p := by
  rw [List.take_succ_eq_append_getElem h, List.filter_append, ← getElem!_pos L k h]
  rw [List.filter_cons_of_neg (by rw [hp]; decide)]
  simp
theorem filD_yes {p : Od → Bool} {L : List Od} {k : Nat} (h : k < L.length) (hp : p L[k]! = true) : (L.drop k).filter p = L[k]! :: (L.drop (k + 1)).filter p := by
  rw [List.drop_eq_getElem_cons h, ← getElem!_pos L k h, List.filter_cons_of_pos hp]
theorem filD_no {p : Od → Bool} {L : List Od} {k : Nat} (h : k < L.length) (hp : p L[k]! = false) : (L.drop k).filter p = (L.drop (k + 1)).filter p := by
  rw [List.drop_eq_getElem_cons h, ← getElem!_pos L k h, List.filter_cons_of_neg (by rw [hp]; decide)]
end Go.Proofs.Ytpibkjldmmecpaa
