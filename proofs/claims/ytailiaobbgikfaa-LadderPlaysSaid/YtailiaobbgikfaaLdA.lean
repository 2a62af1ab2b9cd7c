/- ladder: rows in memory; where a price's row is, where an order stands in a queue. -/
import Derived.Test.YtailiaobbgikfaaOrC
import Derived.Test.YtailiaobbgikfaaShelfS
import Derived.Shelf.SlSortCmp.QuietGrown
namespace Go.Proofs.Ytailiaobbgikfaa
open Go.RowKit Go.Sort

/-- A price's row: the price, the queue's slice, its orders. -/
structure Rw where
  pr : Int
  v : Value
  q : List Od
instance : Inhabited Rw := ⟨⟨0, .slice none 0 0, []⟩⟩
def Rw.cs (r : Rw) : List Value := [.int .i64 r.pr, r.v]
def rl (R : List Rw) : List Value := R.flatMap Rw.cs
theorem rl_len (R : List Rw) : (rl R).length = R.length * 2 := by
  induction R with
  | nil => rfl
  | cons r R ih => unfold rl at *; rw [List.flatMap_cons, List.length_append, ih, List.length_cons]; simp [Rw.cs]; omega
theorem rl_get : ∀ (R : List Rw) (i c : Nat), i < R.length → c < 2 → (rl R)[i * 2 + c]? = (R[i]!).cs[c]?
  | [], i, _, h, _ => absurd h (Nat.not_lt_zero _)
  | r :: R, 0, c, _, hc => by
    show (r.cs ++ rl R)[0 * 2 + c]? = _
    rw [List.getElem?_append_left (by simp [Rw.cs]; omega), Nat.zero_mul, Nat.zero_add]
    rfl
  | r :: R, i + 1, c, h, hc => by
    show (r.cs ++ rl R)[(i + 1) * 2 + c]? = _
    rw [List.getElem?_append_right (by simp [Rw.cs]; omega), show (i + 1) * 2 + c - r.cs.length = i * 2 + c by simp [Rw.cs]; omega]
    rw [rl_get R i c (by simpa using h) hc]
    rfl
/-- Rows in a slice. -/
def RowsAt (w : World) (a : Option Addr) (n : Nat) (R : List Rw) : Prop :=
  R.length = n ∧ (n = 0 ∨ ∃ g, a = some ⟨g, 0, none⟩ ∧ g < w.heap.size ∧ ∀ i, i < n → w.cell? ⟨g, i * 2, none⟩ = some (.int .i64 (R[i]!).pr) ∧ w.cell? ⟨g, i * 2 + 1, none⟩ = some (R[i]!).v)
theorem own_rows {w : World} {base n : Nat} {T : TypeId} {v : Value} {R : List Rw} (h : w.ownsRow base T 2 v n (rl R)) : ∃ A c, v = .slice A n c ∧ RowsAt w A n R := by
  obtain ⟨h1, h2⟩ := h
  rw [rl_len] at h1
  have hl : R.length = n := by omega
  rcases h2 with ⟨hv, h0⟩ | ⟨k, cap, cur, hv, _, hk, hc, hm, hs, ht⟩
  · subst h0; exact ⟨none, 0, hv, hl, .inl rfl⟩
  · refine ⟨_, _, hv, hl, .inr ⟨k, rfl, blk_lt hk, fun i hi => ?_⟩⟩
    have hcell : ∀ j v, (rl R)[j]? = some v → w.cell? ⟨k, j, none⟩ = some v := by
      intro j v hj
      rw [← ht, List.getElem?_take] at hj
      split at hj
      · rw [Array.getElem?_toList] at hj
        rw [cell_of_row _ _ _ _ _ _ hk, hj]
      · cases hj
    exact ⟨hcell (i * 2 + 0) _ ((rl_get R i 0 (by omega) (by omega)).trans rfl), hcell (i * 2 + 1) _ ((rl_get R i 1 (by omega) (by omega)).trans rfl)⟩
theorem better_q (s a b : Int) (w : World) : Calls Try.prog 77 #[.int .i64 s, .int .i64 a, .int .i64 b] w fun e w' => e = .returned (.bool (betN s a b)) ∧ w' = w := (better_c s a b w).mono fun _ _ ⟨h1, h2⟩ => ⟨h1, h2.symm⟩
set_option maxHeartbeats 4000000 in
set_option maxRecDepth 100000 in
theorem fnd_c (W : World) (rb sb pb g n c i : Nat) (s p pr : Int) (hi : i < n) (h1 : W.cell? ⟨sb, 0, none⟩ = some (.int .i64 s)) (h2 : W.cell? ⟨rb, 0, none⟩ = some (.slice (some ⟨g, 0, none⟩) n c)) (h3 : W.cell? ⟨pb, 0, none⟩ = some (.int .i64 p)) (h4 : W.cell? ⟨g, i * 2, none⟩ = some (.int .i64 pr)) :
    Calls Try.prog 82 #[.int .i64 i, .pointer (some ⟨sb, 0, none⟩), .pointer (some ⟨rb, 0, none⟩), .pointer (some ⟨pb, 0, none⟩)] W fun e w' => e = .returned (.bool (!betN s pr p)) ∧ Gw W w' := by
  have mixed : Try.prog.follows .mixedOrders = true := by kernel_rfl
  have HB := Lib.hid better_q
  have q1 : (i : Int) < (n : Int) := by omega
  go_enter Try.func82, Try.ntmps82
  go_wp2_with fail
  go_quiet ((go_at_call 77; with_reducible exact Calls.quiet_of_same (HB.out _ _ _ _)))
  go_wp2_with fail
  go_ret
  exact ⟨rfl, ⟨below_drewN (Below.refl _ _) _, Nat.le_add_right _ _⟩⟩
set_option maxHeartbeats 4000000 in
set_option maxRecDepth 100000 in
theorem plc_c (W : World) (qb ob g n c i : Nat) (o x : Od) (hi : i < n) (h1 : W.heap[qb]? = some (.cells #[.slice (some ⟨g, 0, none⟩) n c] 37 (0, 0))) (h2 : W.heap[ob]? = some (.cells (encO o).toArray 24 (0, 0))) (hg : g < W.heap.size) (h3 : x.at W g (i * 6)) :
    Calls Try.prog 83 #[.int .i64 i, .pointer (some ⟨qb, 0, none⟩), .pointer (some ⟨ob, 0, none⟩)] W fun e w' => e = .returned (.bool (!ahdO x o)) ∧ Gw W w' := by
  have mixed : Try.prog.follows .mixedOrders = true := by kernel_rfl
  have HA := Lib.hid (ahead_o x o)
  have q1 : (i : Int) < (n : Int) := by omega
  have hcg : ∀ W', Calls Try.prog 72 #[(.agg #[.int .u64 x.id, .int .i64 x.acc, .int .i64 x.side, .int .i64 x.price, .int .i64 x.qty, .int .u64 x.seq]), (.agg #[.int .u64 o.id, .int .i64 o.acc, .int .i64 o.side, .int .i64 o.price, .int .i64 o.qty, .int .u64 o.seq])] W' fun e w' => e = .returned (.bool (ahdO x o)) ∧ ∃ q os', w' = grow (W'.drewN q) os' := fun W' => (ahead_o x o W').mono fun e w' ⟨h1, h2⟩ => ⟨h1, h2.grow⟩
  obtain ⟨x0, x1, x2, x3, x4, x5⟩ := h3
  have X0 := fun n os => cell_grown (a := ⟨g, _, none⟩) hg x0 n os
  have X1 := fun n os => cell_grown (a := ⟨g, _, none⟩) hg x1 n os
  have X2 := fun n os => cell_grown (a := ⟨g, _, none⟩) hg x2 n os
  have X3 := fun n os => cell_grown (a := ⟨g, _, none⟩) hg x3 n os
  have X4 := fun n os => cell_grown (a := ⟨g, _, none⟩) hg x4 n os
  have X5 := fun n os => cell_grown (a := ⟨g, _, none⟩) hg x5 n os
  have Q0 := fun n os => cell_grown (a := ⟨qb, 0, none⟩) (blk_lt h1) (by rw [cell_of_row _ _ _ _ _ _ h1]; rfl) n os
  have c0 : W.cell? ⟨ob, 0, none⟩ = some (.int .u64 o.id) := by rw [cell_of_row _ _ _ _ _ _ h2]; rfl
  have c1 : W.cell? ⟨ob, 1, none⟩ = some (.int .i64 o.acc) := by rw [cell_of_row _ _ _ _ _ _ h2]; rfl
  have c2 : W.cell? ⟨ob, 2, none⟩ = some (.int .i64 o.side) := by rw [cell_of_row _ _ _ _ _ _ h2]; rfl
  have c3 : W.cell? ⟨ob, 3, none⟩ = some (.int .i64 o.price) := by rw [cell_of_row _ _ _ _ _ _ h2]; rfl
  have c4 : W.cell? ⟨ob, 4, none⟩ = some (.int .i64 o.qty) := by rw [cell_of_row _ _ _ _ _ _ h2]; rfl
  have c5 : W.cell? ⟨ob, 5, none⟩ = some (.int .u64 o.seq) := by rw [cell_of_row _ _ _ _ _ _ h2]; rfl
  have O0 := fun n os => cell_grown (a := ⟨ob, 0, none⟩) (blk_lt h2) c0 n os
  have O1 := fun n os => cell_grown (a := ⟨ob, 1, none⟩) (blk_lt h2) c1 n os
  have O2 := fun n os => cell_grown (a := ⟨ob, 2, none⟩) (blk_lt h2) c2 n os
  have O3 := fun n os => cell_grown (a := ⟨ob, 3, none⟩) (blk_lt h2) c3 n os
  have O4 := fun n os => cell_grown (a := ⟨ob, 4, none⟩) (blk_lt h2) c4 n os
  have O5 := fun n os => cell_grown (a := ⟨ob, 5, none⟩) (blk_lt h2) c5 n os
  clear x0 x1 x2 x3 x4 x5 c0 c1 c2 c3 c4 c5 h1 h2
  go_enter Try.func83, Try.ntmps83
  go_wp2_with fail
  go_quiet_grown ((go_at_call 72; with_reducible refine Calls.grown_of (hcg _)))
  go_wp2_with fail
  go_ret
  exact ⟨rfl, ⟨below_grown_sl _ _ _ _ (Nat.le_refl _), Nat.le_add_right _ _⟩⟩
end Go.Proofs.Ytailiaobbgikfaa
