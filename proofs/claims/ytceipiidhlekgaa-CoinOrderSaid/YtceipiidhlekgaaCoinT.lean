/- What the law on sums adds up backwards. -/
import Derived.Test.YtceipiidhlekgaaRefM
namespace Go.Proofs.Ytceipiidhlekgaa
open Go.RowKit

theorem info2 : (Try.prog.info? 2).map (fun i => (i.zero, i.size, i.bytes)) = some (some (.int .i64 0), 1, 8) := by kernel_rfl
/-- The numbers from the place j on, the last one first. -/
def revV (zs : List Int) (j : Nat) : List Value := ((zs.drop j).reverse).map (Value.int .i64)
theorem rev_step (zs : List Int) (j : Nat) (h : j < zs.length) : revV zs j = revV zs (j + 1) ++ [Value.int .i64 (zs.getD j 0)] := by
  unfold revV
  rw [List.drop_eq_getElem_cons h, List.reverse_cons, List.map_append, List.getD_eq_getElem?_getD, List.getElem?_eq_getElem h]
  rfl
theorem own_SlI {w : World} {base n : Nat} {v : Value} {zs : List Int} (h : w.ownsRow base 2 1 v n (zs.reverse.map (Value.int .i64))) (hin : ∀ m ∈ zs, InR m) :
    ∃ a cap, v = .slice a n cap ∧ SlI w a n zs.reverse := by
  obtain ⟨h1, h2⟩ := h
  have hl : zs.reverse.length = n := by simpa using h1
  have hin' : ∀ m ∈ zs.reverse, InR m := fun m hm => hin m (List.mem_reverse.1 hm)
  rcases h2 with ⟨rfl, rfl⟩ | ⟨g, cap, cur, rfl, _, hh, hn, _, hcs, ht⟩
  · exact ⟨none, 0, rfl, hl, hin', Or.inl rfl⟩
  · refine ⟨_, cap, rfl, hl, hin', Or.inr ⟨g, 0, rfl, fun i hi => ?_⟩⟩
    rw [cell_of_row w g _ _ _ _ hh, Nat.zero_add]
    have e : cur.toList[i]? = (zs.reverse.map (Value.int .i64))[i]? := by
      rw [← ht, Nat.mul_one, List.getElem?_take, if_pos hi]
    have e2 : cur[i]? = cur.toList[i]? := by simp
    rw [e2, e, List.getElem?_map, List.getElem?_eq_getElem (by omega), List.getD_eq_getElem?_getD, List.getElem?_eq_getElem (by omega)]
    rfl
theorem revV_all (zs : List Int) : revV zs 0 = zs.reverse.map (Value.int .i64) := by simp [revV]
theorem revV_none (zs : List Int) (n : Nat) (h : zs.length ≤ n) : revV zs n = [] := by simp [revV, List.drop_of_length_le h]
theorem sum_rev (zs : List Int) : zs.reverse.sum = zs.sum := by
  induction zs with
  | nil => rfl
  | cons x xs ih => rw [List.reverse_cons, List.sum_append, ih, List.sum_cons]; simp; omega
end Go.Proofs.Ytceipiidhlekgaa
