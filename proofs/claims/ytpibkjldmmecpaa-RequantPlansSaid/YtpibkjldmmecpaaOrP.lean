/- order: the order in which orders stand, in plain words. -/
import Derived.Test.YtpibkjldmmecpaaOrC
import Derived.Test.YtpibkjldmmecpaaSrQ
namespace Go.Proofs.Ytpibkjldmmecpaa
open Go.Sort

def ltO (x y : Od) : Bool := decide (rkN x.side < rkN y.side) || (decide (rkN x.side = rkN y.side) && ahdO x y)
def kpO (x : Od) : Int := if x.side = 1 then -x.price else if x.side = 2 then x.price else 0
def kqO (x : Od) : Int := if x.side = 1 ∨ x.side = 2 then x.seq else 0
def kiO (x : Od) : Int := if x.side = 1 ∨ x.side = 2 then x.id else 0
/-- By four numbers, the first one first. -/
def Lex (a b c d a' b' c' d' : Int) : Prop := a < a' ∨ (a = a' ∧ (b < b' ∨ (b = b' ∧ (c < c' ∨ (c = c' ∧ d < d')))))
theorem cmpN_lt (a b : Int) : cmpN a b < 0 ↔ a < b := by unfold cmpN; (repeat' split) <;> omega
theorem cmpN_0 (a b : Int) : cmpN a b = 0 ↔ a = b := by unfold cmpN; (repeat' split) <;> omega
theorem ahd_iff (x y : Od) : ahdO x y = true ↔ x.side = y.side ∧ ((x.side = 1 ∧ (y.price < x.price ∨ (x.price = y.price ∧ (x.seq < y.seq ∨ (x.seq = y.seq ∧ x.id < y.id))))) ∨ (x.side = 2 ∧ (x.price < y.price ∨ (x.price = y.price ∧ (x.seq < y.seq ∨ (x.seq = y.seq ∧ x.id < y.id)))))) := by
  unfold ahdO ahdN
  by_cases h1 : x.side ≠ y.side ∨ (x.side ≠ 1 ∧ x.side ≠ 2)
  · rw [if_pos h1]; simp; omega
  · rw [if_neg h1]
    by_cases h2 : x.price = y.price
    · rw [if_neg (by simp [h2])]
      rw [decide_eq_true_iff]
      by_cases h3 : cmpN x.seq y.seq = 0
      · rw [if_pos h3, cmpN_lt]; rw [cmpN_0] at h3; omega
      · rw [if_neg h3, cmpN_lt]; rw [cmpN_0] at h3; omega
    · rw [if_pos h2]
      unfold betN
      have e1 : (x.side == 1) = decide (x.side = 1) := rfl
      have e2 : (x.side == 2) = decide (x.side = 2) := rfl
      rw [e1, e2]
      simp only [Bool.or_eq_true, Bool.and_eq_true, decide_eq_true_iff]
      omega
theorem ltO_iff (x y : Od) : ltO x y = true ↔ Lex (rkN x.side) (kpO x) (kqO x) (kiO x) (rkN y.side) (kpO y) (kqO y) (kiO y) := by
  unfold ltO Lex
  simp only [Bool.or_eq_true, Bool.and_eq_true, decide_eq_true_iff, ahd_iff]
  unfold rkN kpO kqO kiO
  by_cases a1 : x.side = 1 <;> by_cases b1 : y.side = 1 <;> by_cases a2 : x.side = 2 <;> by_cases b2 : y.side = 2 <;> simp [a1, b1, a2, b2] <;> omega
theorem lex_irr (a b c d : Int) : ¬ Lex a b c d a b c d := by unfold Lex; omega
theorem lex_tr {a b c d a' b' c' d' x y z u : Int} (h : Lex a b c d a' b' c' d') (k : Lex a' b' c' d' x y z u) : Lex a b c d x y z u := by unfold Lex at *; omega
theorem lex_nt {a b c d a' b' c' d' x y z u : Int} (h : ¬ Lex a b c d a' b' c' d') (k : ¬ Lex a' b' c' d' x y z u) : ¬ Lex a b c d x y z u := by unfold Lex at *; omega
theorem ltO_no (x y : Od) : ltO x y = false ↔ ¬ Lex (rkN x.side) (kpO x) (kqO x) (kiO x) (rkN y.side) (kpO y) (kqO y) (kiO y) := by
  rw [← ltO_iff]; simp
theorem swo_ltO : SWO ltO := by
  refine ⟨fun x => ?_, fun x y z h k => ?_, fun x y z h k => ?_⟩
  · rw [ltO_no]; exact lex_irr _ _ _ _
  · rw [ltO_iff] at *; exact lex_tr h k
  · rw [ltO_no] at *; exact lex_nt h k
theorem cmpO_lt (x y : Od) : decide (cmpO x y < 0) = ltO x y := by
  unfold cmpO ltO
  by_cases h : rkN x.side = rkN y.side
  · rw [if_neg (by simp [h]), h]
    cases ahdO x y with
    | true => simp
    | false => cases ahdO y x <;> simp
  · rw [if_pos h]
    have : decide (rkN x.side = rkN y.side) = false := decide_eq_false h
    rw [this, Bool.false_and, Bool.or_false]
    by_cases h2 : rkN x.side < rkN y.side
    · rw [decide_eq_true h2, decide_eq_true (by omega)]
    · rw [decide_eq_false h2, decide_eq_false (by omega)]
/-- The orders, sorted: as they trade, equal ones as they stood. -/
def sortO (L : List Od) : List Od := (L.zipIdx.mergeSort (fun x y => !ltR ltO y x)).map Prod.fst
theorem zip_inj {L : List Od} {x y : Od × Nat} (hx : x ∈ L.zipIdx) (hy : y ∈ L.zipIdx) (h : x.2 = y.2) : x = y := by
  have h1 := List.mem_zipIdx' hx
  have h2 := List.mem_zipIdx' hy
  obtain ⟨x1, x2⟩ := x
  obtain ⟨y1, y2⟩ := y
  simp only at h h1 h2
  subst h
  rw [h1.2, h2.2]
theorem sortO_eq {L : List Od} {D : List (Od × Nat)} (hp : D.Perm L.zipIdx) (hs : D.Pairwise (fun x y => ltR ltO y x = false)) : sortO L = D.map Prod.fst := by
  have hR := swo_ltR swo_ltO
  unfold sortO
  congr 1
  have hm : (L.zipIdx.mergeSort (fun x y => !ltR ltO y x)).Pairwise (fun x y => ltR ltO y x = false) := by
    have := List.pairwise_mergeSort (le := fun x y => !ltR ltO y x) (fun a b c h1 h2 => by
      simp only [Bool.not_eq_true'] at *; exact hR.ntrans _ _ _ h2 h1) (fun a b => by
      cases h : ltR ltO b a with
      | true => have := hR.asymmA h; simp [this]
      | false => simp) L.zipIdx
    exact this.imp (fun h => by simpa using h)
  refine List.Perm.eq_of_pairwise (le := fun x y => ltR ltO y x = false) (fun a b ha hb h1 h2 => ?_) hm hs ((List.mergeSort_perm _ _).trans hp.symm)
  have ha' := (List.mergeSort_perm _ _).mem_iff.1 ha
  have hb' := hp.mem_iff.1 hb
  rw [ltR_no] at h1 h2
  refine zip_inj ha' hb' ?_
  rcases h1.2 with h | h
  · rw [h2.1] at h; cases h
  · rcases h2.2 with h' | h'
    · rw [h1.1] at h'; cases h'
    · omega
theorem sortO_len (L : List Od) : (sortO L).length = L.length := by
  unfold sortO; rw [List.length_map, (List.mergeSort_perm _ _).length_eq, List.length_zipIdx]
/-- Behind the program's sort. -/
theorem sortO_merged {d d' : Array (Od × Nat)} {L : List Od} (hd : d.toList = L.zipIdx) (h : Merged ltO 0 d.size d d') : d'.toList.map Prod.fst = sortO L := by
  obtain ⟨P, S⟩ := h
  have hs : d'.size = d.size := P.1
  refine (sortO_eq (D := d'.toList) ?_ ?_).symm
  · have := P.2.2
    rw [← hd]
    have e1 : d'.extract 0 d.size = d' := by rw [← hs]; exact Array.extract_size
    have e2 : d.extract 0 d.size = d := Array.extract_size
    rw [e1, e2] at this
    exact this
  · rw [List.pairwise_iff_getElem]
    intro i j hi hj hij
    have := S i j (Nat.zero_le _) hij (by simpa [hs] using hj)
    rw [getElem!_pos d' j (by simpa using hj), getElem!_pos d' i (by simpa using hi)] at this
    simpa using this
end Go.Proofs.Ytpibkjldmmecpaa
