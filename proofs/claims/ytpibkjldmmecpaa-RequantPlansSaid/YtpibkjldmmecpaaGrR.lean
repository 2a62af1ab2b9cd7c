/- grid, the reference: a table, copied; whether it may be. -/
import Derived.Test.YtpibkjldmmecpaaGrH
import Derived.Maps.AppendAt
namespace Go.Proofs.Ytpibkjldmmecpaa
open Go.RowKit

def tkC (ts : List Tk) : List Value := ts.flatMap fun x => [.int .i64 x.f, .int .i64 x.s]
theorem tkC_len (ts : List Tk) : (tkC ts).length = ts.length * 2 := by
  induction ts with
  | nil => rfl
  | cons x xs ih => simp only [tkC, List.flatMap_cons, List.length_append, List.length_cons, List.length_nil] at ih ⊢; omega
theorem tkC_at : ∀ (ts : List Tk) (i : Nat), i < ts.length → (tkC ts)[i * 2]? = some (.int .i64 (F ts i)) ∧ (tkC ts)[i * 2 + 1]? = some (.int .i64 (S ts i))
  | x :: xs, 0, _ => ⟨rfl, rfl⟩
  | x :: xs, i + 1, h => by
    have ih := tkC_at xs i (by simpa using h)
    have e : tkC (x :: xs) = [.int .i64 x.f, .int .i64 x.s] ++ tkC xs := rfl
    rw [e]
    refine ⟨?_, ?_⟩
    · rw [show (i + 1) * 2 = i * 2 + 2 by omega]; exact ih.1
    · rw [show (i + 1) * 2 + 1 = i * 2 + 1 + 2 by omega]; exact ih.2
theorem info_rt : (Try.prog.info? 64).map (fun i => (i.zero, i.size, i.bytes)) = some (some (.agg #[.int .i64 0, .int .i64 0]), 2, 16) := by kernel_rfl
/-- A row of the call's own reads as a table. -/
theorem own_tks {w : World} {base n : Nat} {v : Value} {ts : List Tk} (h : w.ownsRow base 64 2 v n (tkC ts)) (hn : n ≤ 1000) (hok : ∀ x ∈ ts, Tk.ok w x) : ∃ A c, v = .slice A n c ∧ n ≤ c ∧ Tks w A n ts := by
  obtain ⟨h1, h2⟩ := h
  rw [tkC_len] at h1
  have hl : ts.length = n := by omega
  rcases h2 with ⟨hv, h0⟩ | ⟨k, cap, cur, hv, _, hk, hc, hm, hs, ht⟩
  · subst h0; exact ⟨none, 0, hv, Nat.le_refl _, hl, by omega, hok, .inl rfl⟩
  · refine ⟨_, _, hv, hc, hl, by omega, hok, .inr ⟨k, 0, rfl, blk_lt hk, fun i hi => ?_⟩⟩
    obtain ⟨t0, t1⟩ := tkC_at ts i (by omega)
    have hcell : ∀ j v, (tkC ts)[j]? = some v → w.cell? ⟨k, 0 + j, none⟩ = some v := by
      intro j v hj
      rw [← ht, List.getElem?_take] at hj
      split at hj
      · rw [Array.getElem?_toList] at hj
        rw [Nat.zero_add, cell_of_row _ _ _ _ _ _ hk, hj]
      · cases hj
    refine ⟨?_, ?_⟩
    · rw [getF]; exact hcell _ _ t0
    · rw [getS]; exact hcell _ _ t1

theorem two_news (w : World) (f s : Int) : ∀ (j : Nat) (u : Value), [Value.int .i64 f, .int .i64 s][j]? = some u → (w.alloc (Obj.cells #[.int .i64 f, .int .i64 s] 64)).cell? ((⟨w.heap.size, 0, none⟩ : Addr).add j) = some u := by
  intro j u hu
  rw [addr_add, cell_of_row _ _ _ _ _ _ (heap_alloc_new w _)]
  match j, hu with
  | 0, hu => simpa using hu
  | 1, hu => simpa using hu
theorem two_one (f s : Int) : ∀ u ∈ [Value.int .i64 f, .int .i64 s], u.oneCell' = true := by
  intro u hu
  simp at hu
  rcases hu with rfl | rfl <;> rfl
theorem tkC_snoc {ts : List Tk} {k : Nat} (h : k < ts.length) : tkC (ts.take (k + 1)) = tkC (ts.take k) ++ [.int .i64 (F ts k), .int .i64 (S ts k)] := by
  unfold tkC
  rw [List.take_succ_eq_append_getElem h, List.flatMap_append]
  unfold F S
  rw [List.getD_eq_getElem?_getD, List.getElem?_eq_getElem h]
  rfl

/-- The reference's table. -/
def Copied (w : World) (t : List Tk) (e : Ending) (w' : World) : Prop := ∃ A n c, e = .returned (.slice A n c) ∧ Hid (Below w.heap.size w w' ∧ Tks w' A n (t.take 9) ∧ n ≤ 9 ∧ n ≤ c)

end Go.Proofs.Ytpibkjldmmecpaa
