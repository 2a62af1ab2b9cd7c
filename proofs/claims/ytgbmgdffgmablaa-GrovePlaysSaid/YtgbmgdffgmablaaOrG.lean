/- order.Book. -/
import Derived.Test.YtgbmgdffgmablaaOrF
import Derived.Test.YtgbmgdffgmablaaSuB
namespace Go.Proofs.Ytgbmgdffgmablaa
open Go.RowKit Go.Sort Go.Lib Go.Shelf

/-! In plain words. -/
def bookO (L : List Od) : Bool := decide (L.length ≤ 64) && (L.all goodO && (decide ((L.map Od.id).Nodup) && eqL L (sortO L)))
theorem keeps_iff (d : Array Int) (j : Nat) : keeps d j = true ↔ j = 0 ∨ d[j - 1]! ≠ d[j]! := by
  unfold keeps; by_cases h : j = 0 <;> simp [h] <;> exact ⟨fun h e => h e.symm, fun h e => h e.symm⟩
/-- Of a sorted row none is left out just if no two are the same. -/
theorem compact_len {d d' : Array Int} {n : Nat} (hn : d.size = n) (P : PermIn 0 n d d') (S : SortedIn ltInt 0 n d') : (compactUpTo d' n).length = n ↔ d.toList.Nodup := by
  have hn' : d'.size = n := P.1.trans hn
  have e1 : d'.extract 0 n = d' := by rw [← hn']; exact Array.extract_size
  have e2 : d.extract 0 n = d := by rw [← hn]; exact Array.extract_size
  have hp := P.2.2
  rw [e1, e2] at hp
  rw [← hp.nodup_iff]
  unfold compactUpTo
  rw [List.length_map]
  have hl : ((List.range n).filter (keeps d')).length = n ↔ ∀ j, j < n → keeps d' j = true := by
    constructor
    · intro h j hj
      have := List.length_filter_eq_length_iff.1 (h.trans List.length_range.symm)
      exact this j (List.mem_range.2 hj)
    · intro h
      rw [List.filter_eq_self.2 (fun j hj => h j (List.mem_range.1 hj)), List.length_range]
  rw [hl]
  constructor
  · intro h
    have hs : ∀ i j, i < j → j < n → d'[i]! < d'[j]! := by
      intro i j hij hj
      induction j with
      | zero => omega
      | succ j ih =>
        have h1 := S j (j + 1) (Nat.zero_le _) (by omega) hj
        have h2 := (keeps_iff d' (j + 1)).1 (h (j + 1) hj)
        unfold ltInt at h1
        simp only [decide_eq_false_iff_not, Int.not_lt] at h1
        have h3 : d'[j]! < d'[j + 1]! := by
          rcases h2 with h2 | h2
          · omega
          · simp only [Nat.add_sub_cancel] at h2; omega
        by_cases e : i = j
        · subst e; exact h3
        · exact Int.lt_trans (ih (by omega) (by omega)) h3
    unfold List.Nodup
    rw [List.pairwise_iff_getElem]
    intro i j hi hj hij
    have := hs i j hij (by simpa [hn'] using hj)
    rw [getElem!_pos d' i (by simpa using hi), getElem!_pos d' j (by simpa using hj)] at this
    simp only [Array.getElem_toList]
    omega
  · intro h j hj
    rw [keeps_iff]
    by_cases e : j = 0
    · exact .inl e
    · right
      unfold List.Nodup at h
      rw [List.pairwise_iff_getElem] at h
      have := h (j - 1) j (by simp [hn']; omega) (by simp [hn']; omega) (by omega)
      rw [getElem!_pos d' (j - 1) (by omega), getElem!_pos d' j (by omega)]
      simpa using this
theorem su_below {w0 w : World} {blk : Nat} {d : Array Int} {B : Nat} (S : SW eU w0 blk 0 d w) (hB : B ≤ blk) (hs : B ≤ w0.heap.size) : Below B w0 w := by
  obtain ⟨n, os, rfl⟩ := S
  refine ⟨rfl, rfl, rfl, ?_, fun j hj => ?_⟩
  · unfold sortWorld; rw [size_grow, size_putRow]; exact Nat.le_add_right _ _
  · unfold sortWorld
    rw [heap_grow_old _ _ (by rw [size_putRow]; show j < w0.heap.size; omega)]
    unfold putRow mapBlock
    show (w0.heap.modify blk _)[j]? = _
    rw [Array.getElem?_modify, if_neg (by omega)]
/-- A row of numbers of the call's own, as the sort sees it. -/
theorem own_u {w : World} {base n g cap : Nat} {zs : List Int} (h : w.ownsRow base 22 1 (.slice (some ⟨g, 0, none⟩) n cap) n (zs.map eU)) : zs.length = n ∧ n ≤ cap ∧ g < w.heap.size ∧ Holds eU w g 0 zs.toArray := by
  obtain ⟨h1, h2⟩ := h
  rw [List.length_map, Nat.mul_one] at h1
  rcases h2 with ⟨h0, _⟩ | ⟨k, cap', cur, hv, hb, hk, hc, hm, hs, ht⟩
  · cases h0
  · injection hv with e1 e2 e3
    injection e1 with e1
    injection e1 with e1
    subst e1 e3
    refine ⟨h1, hc, blk_lt hk, fun j hj => ⟨?_, frozen_of_row _ _ _ _ _ hk⟩⟩
    have hj' : j < zs.length := by simpa using hj
    have hx : (zs.map eU)[j]? = some (eU zs.toArray[j]!) := by
      rw [List.getElem?_map, List.getElem?_eq_getElem hj', getElem!_pos zs.toArray j hj]
      rfl
    rw [Nat.zero_add, cell_of_row _ _ _ _ _ _ hk]
    rw [← ht, List.getElem?_take, if_pos (by omega), Array.getElem?_toList] at hx
    exact hx
theorem ids_one (z : Int) : ∀ u ∈ [Value.int .u64 z], u.oneCell' = true := by
  intro u hu; simp at hu; subst hu; rfl
/-- The cells of the first i orders' ids. -/
def idc (L : List Od) (i : Nat) : List Value := ((L.take i).map Od.id).map eU
theorem ids_snoc {L : List Od} {i : Nat} (h : i < L.length) : idc L (i + 1) = idc L i ++ [.int .u64 (L[i]!).id] := by
  unfold idc
  rw [List.take_succ_eq_append_getElem h, List.map_append, List.map_append, getElem!_pos L i h]; rfl
theorem info_u64 : (Try.prog.info? 22).map (fun i => (i.zero, i.size, i.bytes)) = some (some (.int .u64 0), 1, 8) := by kernel_rfl
def BookIs (w : World) (b : Bool) (e : Ending) (w' : World) : Prop := e = .returned (.bool b) ∧ Below w.heap.size w w'
theorem book_long {L : List Od} (h : ¬ L.length ≤ 64) : bookO L = false := by unfold bookO; rw [decide_eq_false h, Bool.false_and]
theorem book_bad {L : List Od} {i : Nat} (hi : i < L.length) (h : goodO L[i]! = false) : bookO L = false := by
  unfold bookO
  have : L.all goodO = false := by
    rw [List.all_eq_false]
    exact ⟨L[i]!, by rw [getElem!_pos L i hi]; exact List.getElem_mem _, by rw [h]; exact Bool.false_ne_true⟩
  rw [this, Bool.false_and, Bool.and_false]
theorem book_twice {L : List Od} (h : ¬ (L.map Od.id).Nodup) : bookO L = false := by
  unfold bookO
  rw [decide_eq_false h, Bool.false_and, Bool.and_false, Bool.and_false]
theorem book_else {L : List Od} (h1 : L.length ≤ 64) (h2 : ∀ i, i < L.length → goodO L[i]! = true) (h3 : (L.map Od.id).Nodup) : bookO L = eqL L (sortO L) := by
  unfold bookO
  have : L.all goodO = true := by
    rw [List.all_eq_true]
    intro x hx
    obtain ⟨i, hi, rfl⟩ := List.getElem_of_mem hx
    have := h2 i hi
    rwa [getElem!_pos L i hi] at this
  rw [decide_eq_true h1, this, decide_eq_true h3]
  rfl
end Go.Proofs.Ytgbmgdffgmablaa
