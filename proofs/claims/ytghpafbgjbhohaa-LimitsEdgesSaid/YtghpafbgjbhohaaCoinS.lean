/- coin: Sum. -/
import Derived.Test.YtghpafbgjbhohaaCoinG
namespace Go.Proofs.Ytghpafbgjbhohaa
open Go.RowKit

/-- A slice of numbers of 64 bits, as the walk reads it. -/
def SlI (w : World) (a : Option Addr) (len : Nat) (zs : List Int) : Prop :=
  zs.length = len ∧ (∀ n ∈ zs, InR n) ∧ (len = 0 ∨ ∃ b off, a = some ⟨b, off, none⟩ ∧ ∀ i, i < len → w.cell? ⟨b, off + i, none⟩ = some (.int .i64 (zs.getD i 0)))
theorem getD_in {zs : List Int} (h : ∀ n ∈ zs, InR n) (i : Nat) : InR (zs.getD i 0) := by
  by_cases hi : i < zs.length
  · rw [List.getD_eq_getElem?_getD, List.getElem?_eq_getElem hi]; exact h _ (List.getElem_mem hi)
  · rw [List.getD_eq_getElem?_getD, List.getElem?_eq_none (by omega)]; unfold InR; simp
theorem sum_take_succ (zs : List Int) (k : Nat) (h : k < zs.length) : (zs.take (k + 1)).sum = (zs.take k).sum + zs.getD k 0 := by
  rw [List.take_succ_eq_append_getElem h, List.sum_append, List.getD_eq_getElem?_getD, List.getElem?_eq_getElem h]; simp
theorem sum_bound (zs : List Int) (h : ∀ n ∈ zs, InR n) : -(9223372036854775808 * (zs.length : Int)) ≤ zs.sum ∧ zs.sum ≤ 9223372036854775807 * (zs.length : Int) := by
  induction zs with
  | nil => simp
  | cons x xs ih =>
    have h1 := ih (fun n hn => h n (List.mem_cons_of_mem _ hn))
    have h2 := h x List.mem_cons_self
    unfold InR at h2
    simp only [List.sum_cons, List.length_cons]
    omega
theorem sum_rm (zs : List Int) (k : Nat) (h : ∀ n ∈ zs, InR n) (hl : zs.length ≤ 2147483647) : Rm (zs.take k).sum := by
  have hb := sum_bound (zs.take k) (fun n hn => h n (List.mem_of_mem_take hn))
  have hl2 : (zs.take k).length ≤ zs.length := by simp; omega
  unfold Rm
  omega
theorem cell_below {w wr : World} (h : Below w.heap.size w wr) {a : Addr} {v : Value} (hc : w.cell? a = some v) : wr.cell? a = some v := by
  rw [h.cell (block_lt_of_cell hc)]; exact hc

end Go.Proofs.Ytghpafbgjbhohaa
