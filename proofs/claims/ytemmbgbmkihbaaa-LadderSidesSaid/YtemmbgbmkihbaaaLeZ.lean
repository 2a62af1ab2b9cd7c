/- XLeA, XLeB, XLeC, XLeD, XLeE, XLeF, XLeG, XOp, XLeH, XLeI, XLeJ, in one text. (By mkmerge.py.) -/
import Derived.Test.YtemmbgbmkihbaaaLdS
import Derived.OpenShut
import Derived.Deep.Slices
import Derived.Deep.Fields
import Derived.ChangeSame
import Derived.Test.YtemmbgbmkihbaaaLdZ

/- slices.Delete of one element. (By mklea.py.) -/
namespace Go.Proofs.Ytemmbgbmkihbaaa
open Go.RowKit Go.Sort Go.Lib Go.Shelf

/-- What block g holds behind a removal in place. -/
def delC (cur z : List Value) (n i k : Nat) : List Value := cur.take (i * k) ++ (cur.drop ((i + 1) * k)).take ((n - 1 - i) * k) ++ z ++ cur.drop (n * k)
theorem delC_steps {cur z : List Value} {n i k c : Nat} (hi : i < n) (hc : n ≤ c) (hl : cur.length = c * k) (hz : z.length = k) :
    (cur.take (i * k) ++ (cur.drop ((i + 1) * k)).take ((n - 1 - i) * k) ++ cur.drop (i * k + ((cur.drop ((i + 1) * k)).take ((n - 1 - i) * k)).length)).take ((n - 1) * k) ++ z ++
      (cur.take (i * k) ++ (cur.drop ((i + 1) * k)).take ((n - 1 - i) * k) ++ cur.drop (i * k + ((cur.drop ((i + 1) * k)).take ((n - 1 - i) * k)).length)).drop ((n - 1) * k + z.length) = delC cur z n i k := by
  obtain ⟨m, rfl⟩ : ∃ m, n = i + 1 + m := ⟨n - (i + 1), by omega⟩
  have e0 : i + 1 + m - 1 - i = m := by omega
  have e1 : (i + 1) * k = i * k + k := Nat.succ_mul i k
  have e2 : (i + 1 + m) * k = i * k + k + m * k := by rw [Nat.add_mul, e1]
  have e3 : (i + 1 + m - 1) * k = i * k + m * k := by rw [show i + 1 + m - 1 = i + m by omega, Nat.add_mul]
  have h2 : i * k + k + m * k ≤ c * k := by rw [← e2]; exact Nat.mul_le_mul_right k hc
  unfold delC
  rw [e0, e2, e3]
  have lx : ((cur.drop ((i + 1) * k)).take (m * k)).length = m * k := by rw [List.length_take, List.length_drop]; omega
  have ly : (cur.take (i * k)).length = i * k := by rw [List.length_take]; omega
  rw [lx, List.take_append_of_le_length (by rw [List.length_append]; omega), List.take_of_length_le (by rw [List.length_append]; omega), List.drop_append, List.length_append, lx, ly]
  rw [List.drop_eq_nil_of_le («as» := cur.take (i * k) ++ (cur.drop ((i + 1) * k)).take (m * k)) (by rw [List.length_append]; omega), List.nil_append, List.drop_drop, hz]
  rw [show i * k + m * k + (i * k + m * k + k - (i * k + m * k)) = i * k + k + m * k by omega]
theorem delC_take {cur z xs : List Value} {n i k c : Nat} (hi : i < n) (hc : n ≤ c) (hl : cur.length = c * k) (hz : z.length = k) (hx : cur.take (n * k) = xs) :
    (delC cur z n i k).length = c * k ∧ (delC cur z n i k).take ((n - 1) * k) = xs.take (i * k) ++ xs.drop ((i + 1) * k) := by
  obtain ⟨m, rfl⟩ : ∃ m, n = i + 1 + m := ⟨n - (i + 1), by omega⟩
  have e0 : i + 1 + m - 1 - i = m := by omega
  have e1 : (i + 1) * k = i * k + k := Nat.succ_mul i k
  have e2 : (i + 1 + m) * k = i * k + k + m * k := by rw [Nat.add_mul, e1]
  have e3 : (i + 1 + m - 1) * k = i * k + m * k := by rw [show i + 1 + m - 1 = i + m by omega, Nat.add_mul]
  have h2 : i * k + k + m * k ≤ c * k := by rw [← e2]; exact Nat.mul_le_mul_right k hc
  subst hx
  unfold delC
  rw [e0, e2, e3, e1]
  have lx : ((cur.drop (i * k + k)).take (m * k)).length = m * k := by rw [List.length_take, List.length_drop]; omega
  have ly : (cur.take (i * k)).length = i * k := by rw [List.length_take]; omega
  refine ⟨?_, ?_⟩
  · simp only [List.length_append, lx, ly, hz, List.length_drop]; omega
  · rw [List.append_assoc, List.take_append_of_le_length (by rw [List.length_append]; omega), List.take_of_length_le (by rw [List.length_append]; omega)]
    rw [List.take_take, Nat.min_eq_left (by omega), List.drop_take, show i * k + k + m * k - (i * k + k) = m * k by omega]
theorem step_app2 {P : Program} {ops : Array Oper} {o : Oper} {a : Act} {w : World} {K : Act → World → Prop} {Q : Exit → Act → World → Prop} {E : Prop}
    (hg : o.guard = none) (s x : Operand) (t : TypeId) (hop : o.op = Op.call { callee := Callee.builtin Builtin.append, args := #[s, x], argTypes := #[t, t] })
    (v u : Value) (hs : a.eval s = v) (hx : a.eval x = u) {v' : Value} {w' : World} (hr : (Builtin.append_ #[t, t] o.type #[v, u]).run P w = .ok v' w') (hK : K (a.put o.dst v') w') :
    if Region.wanted o (yielded ops a.tmps) = true then Oper.wp P o a w K Q else E := by
  have hw : Region.wanted o (yielded ops a.tmps) = true := by simp [Region.wanted, hg]
  rw [if_pos hw]
  unfold Oper.wp
  simp [execOp, hop, resolve, invoke, builtin, hs, hx, hr, Result.andThen]
  exact hK
theorem clear_R (w : World) (ty : TypeId) (g o n c : Nat) (cur : Array Value) (hn : n = 1) (hg : w.heap[g]? = some (.cells cur 87 (0, 0))) (hfit : o + 2 ≤ cur.size) :
    (Builtin.clear_ #[82] ty #[.slice (some ⟨g, o, none⟩) n c]).run Try.prog w = .ok (.tuple #[]) (w.setRow g (cur.toList.take o ++ (#[.int .i64 0, .slice none 0 0] : Array Value).toList ++ cur.toList.drop (o + (#[.int .i64 0, .slice none 0 0] : Array Value).toList.length)).toArray) := by
  subst hn
  have hst := run_storeCells_at Try.prog g o 87 (#[.int .i64 0, .slice none 0 0] : Array Value).toList 0 cur w hg (by simpa using hfit) (by decide)
  simp only [Nat.add_zero] at hst
  have hz : (Builtin.zeroCells (Value.cells (.agg #[.int .i64 0, .slice none 0 0])) 1).toList = (#[.int .i64 0, .slice none 0 0] : Array Value).toList := by kernel_rfl
  simp [Builtin.clear_, run_underlying Try.underlying82, hz, hst]
set_option maxHeartbeats 4000000 in
set_option maxRecDepth 1000000 in
theorem del_R (w : World) (g n c i : Nat) (cur : List Value) (hg : w.heap[g]? = some (.cells cur.toArray 87 (0, 0))) (hl : cur.length = c * 2) (hc : n ≤ c) (hi : i < n) (hcm : c ≤ maxLen) (h1 : ∀ v ∈ cur.take (n * 2), v.oneCell' = true) :
    Calls Try.prog 44 #[.slice (some ⟨g, 0, none⟩) n c, .int .i64 i, .int .i64 ((i : Int) + 1)] w fun e w' => e = .returned (.slice (some ⟨g, 0, none⟩) (n - 1) c) ∧ Hid (InsIn w g 87 (delC cur (#[.int .i64 0, .slice none 0 0] : Array Value).toList n i 2) w') := by
  have mixed : Try.prog.follows .mixedOrders = true := by kernel_rfl
  obtain ⟨i0, hi0, hz0, hz1, hz2⟩ := info_parts info_R
  have hcm' : c ≤ 9223372036854775807 := by unfold maxLen at hcm; omega
  have q1 : ¬ ((i : Int) = (i : Int) + 1) := by omega
  have q2 : (i : Int) ≤ (i : Int) + 1 := by omega
  have q3 : (0 : Int) ≤ (i : Int) + 1 := by omega
  have q4 : (i : Int) + 1 ≤ (n : Int) := by omega
  have q5 : (n : Int) ≤ (c : Int) := by omega
  have q6 : ¬ (n = i) := by omega
  have q7 : (i : Int) + 1 ≤ (c : Int) := by omega
  have q8 : (i : Int) ≤ (c : Int) := by omega
  have q10 : ((i : Int) + 1).toNat = i + 1 := by omega
  have q11 : ¬ (c = n - 1) := by omega
  have q12 : ((n - 1 : Nat) : Int) ≤ (n : Int) := by omega
  have hni : (n - 1 - i) * 2 = n * 2 - (i + 1) * 2 := by omega
  have hnc : n * 2 ≤ c * 2 := by omega
  obtain ⟨X, eX⟩ : ∃ X, X = (cur.drop ((i + 1) * 2)).take ((n - 1 - i) * 2) := ⟨_, rfl⟩
  have lX : X.length = (n - 1 - i) * 2 := by rw [eX, List.length_take, List.length_drop]; omega
  obtain ⟨A1, e1⟩ : ∃ A1, A1 = (cur.take (i * 2) ++ X ++ cur.drop (i * 2 + X.length)) := ⟨_, rfl⟩
  have l1 : A1.length = c * 2 := by rw [e1]; simp only [List.length_append, List.length_take, List.length_drop, lX]; omega
  have e2 : A1.take ((n - 1) * 2) ++ (#[.int .i64 0, .slice none 0 0] : Array Value).toList ++ A1.drop ((n - 1) * 2 + (#[.int .i64 0, .slice none 0 0] : Array Value).toList.length) = delC cur (#[.int .i64 0, .slice none 0 0] : Array Value).toList n i 2 := by rw [e1, eX]; exact delC_steps hi hc hl rfl
  obtain ⟨A, hA, hsrc⟩ : ∃ A : Addr, (if c = i + 1 then some (⟨g, 0, none⟩ : Addr) else some ⟨g, (i + 1) * 2, none⟩) = some A ∧ (∀ j v, X[j]? = some v → w.drew.cell? (A.add j) = some v) := by
    by_cases h : c = i + 1
    · refine ⟨_, if_pos h, fun j v hj => ?_⟩
      have h0 : X.length = 0 := by rw [lX]; omega
      rw [List.length_eq_zero_iff.1 h0] at hj
      cases hj
    · refine ⟨_, if_neg h, fun j v hj => ?_⟩
      rw [addr_add, cell_of_row _ _ _ _ _ _ (hd_drew hg)]
      rw [eX, List.getElem?_take] at hj
      split at hj
      · rw [List.getElem?_drop] at hj
        rw [List.getElem?_toArray]; exact hj
      · cases hj
  have C1 : Hid (∀ ty, (Builtin.append_ #[82, 82] ty #[.slice (some ⟨g, 0, none⟩) i c, .slice (some A) (n - (i + 1)) (c - (i + 1))]).run Try.prog w.drew = .ok (.slice (some ⟨g, 0, none⟩) (n - 1) c) (w.drew.setRow g A1.toArray)) := Lib.hid (fun ty => by
    rw [show n - (i + 1) = n - 1 - i by omega]
    have := run_append_room w.drew 82 ty 87 i0 Try.underlying82 hi0 g i c cur.toArray (hd_drew hg) A (n - 1 - i) (c - (i + 1)) X (by rw [hz1]; exact lX) hsrc (fun v hv => h1 v (by rw [eX, hni, ← List.drop_take] at hv; exact List.mem_of_mem_drop hv)) (by omega) (by rw [hz1, lX]; simp only [List.size_toArray]; omega)
    rw [hz1, show i + (n - 1 - i) = n - 1 by omega] at this
    rw [e1]
    exact this)
  have G1 : (w.drew.setRow g A1.toArray).heap[g]? = some (.cells A1.toArray 87 (0, 0)) := setRow_heap _ _ _ _ _ _ (hd_drew hg)
  have C2 : Hid (∀ ty m c', m = 1 → (Builtin.clear_ #[82] ty #[.slice (some ⟨g, (n - 1) * 2, none⟩) m c']).run Try.prog (w.drew.setRow g A1.toArray) = .ok (.tuple #[]) ((w.drew.setRow g A1.toArray).setRow g (delC cur (#[.int .i64 0, .slice none 0 0] : Array Value).toList n i 2).toArray)) := Lib.hid (fun ty m c' hm => by
    have := clear_R (w.drew.setRow g A1.toArray) ty g ((n - 1) * 2) m c' A1.toArray hm G1 (by simp only [List.size_toArray]; omega)
    rw [← e2]
    exact this)
  have F : Hid (InsIn w g 87 (delC cur (#[.int .i64 0, .slice none 0 0] : Array Value).toList n i 2) ((w.drew.setRow g A1.toArray).setRow g (delC cur (#[.int .i64 0, .slice none 0 0] : Array Value).toList n i 2).toArray)) := insIn_trans (insIn_trans (insIn_drew hg) (insIn_set (hd_drew hg))) (insIn_set G1)
  clear eX lX e1 l1 e2 G1 hni hnc hsrc
  have HX := Lib.hid (And.intro hl (And.intro hc (And.intro hi h1)))
  clear hg hl hc h1 hcm
  go_enter Try.func44, Try.ntmps44
  go_wp2_with fail
  refine wp_region_held_drew (S := fun _ => True) (by kernel_rfl) (by trivial) (fun hHeld => ?_)
  refine wpAnyH_take (i := 0) (oi := ⟨some 20, _, _, _, _, _⟩) (v := ?_) rfl (by kernel_rfl) (by kernel_rfl) (by kernel_rfl) (fun _ _ _ h => h) (Or.inl ⟨by kernel_rfl, ?_⟩) (by assumption) ?_
  rotate_left
  · (intro w hSw; (try dsimp only at hSw); go_simp; try with_reducible rfl)
  (repeat (first | simp only [Act.put] | simp only [List.setIfInBounds_toArray] | simp only [List.set_cons_succ] | simp only [List.set_cons_zero]))
  refine wpAnyH_take (i := 1) (oi := ⟨some 21, _, _, _, _, _⟩) (v := ?_) rfl (by kernel_rfl) (by kernel_rfl) (by kernel_rfl) (fun _ _ _ h => h) (Or.inl ⟨by kernel_rfl, ?_⟩) (by assumption) ?_
  rotate_left
  · (intro w hSw; (try dsimp only at hSw); go_simp; try with_reducible rfl)
  (repeat (first | simp only [Act.put] | simp only [List.setIfInBounds_toArray] | simp only [List.set_cons_succ] | simp only [List.set_cons_zero]))
  refine wpAnyH_take (i := 2) (oi := ⟨some 22, _, _, _, _, _⟩) (v := ?_) rfl (by kernel_rfl) (by kernel_rfl) (by kernel_rfl) (fun _ _ _ h => h) (Or.inl ⟨by kernel_rfl, ?_⟩) (by assumption) ?_
  rotate_left
  · (intro w hSw; (try dsimp only at hSw); go_simp; try with_reducible rfl)
  (repeat (first | simp only [Act.put] | simp only [List.setIfInBounds_toArray] | simp only [List.set_cons_succ] | simp only [List.set_cons_zero]))
  refine wpAnyH_take (i := 3) (oi := ⟨some 23, _, _, _, _, _⟩) (v := ?_) rfl (by kernel_rfl) (by kernel_rfl) (by kernel_rfl) (fun _ _ _ h => h) (Or.inl ⟨by kernel_rfl, ?_⟩) (by assumption) ?_
  rotate_left
  · (intro w hSw; (try dsimp only at hSw); go_simp; try with_reducible rfl)
  (repeat (first | simp only [Act.put] | simp only [List.setIfInBounds_toArray] | simp only [List.set_cons_succ] | simp only [List.set_cons_zero]))
  refine wpAnyH_take (i := 4) (oi := ⟨some 24, _, _, _, _, _⟩) (v := ?_) rfl (by kernel_rfl) (by kernel_rfl) (by kernel_rfl) (fun _ _ _ h => h) (Or.inl ⟨by kernel_rfl, ?_⟩) (by assumption) ?_
  rotate_left
  · (intro w hSw; (try dsimp only at hSw); go_simp; try with_reducible rfl)
  (repeat (first | simp only [Act.put] | simp only [List.setIfInBounds_toArray] | simp only [List.set_cons_succ] | simp only [List.set_cons_zero]))
  refine wpAnyH_take (i := 5) (oi := ⟨some 25, _, _, _, _, _⟩) (v := ?_) rfl (by kernel_rfl) (by kernel_rfl) (by kernel_rfl) (fun _ _ _ h => h) (Or.inl ⟨by kernel_rfl, ?_⟩) (by assumption) ?_
  rotate_left
  · (intro w hSw; (try dsimp only at hSw); go_simp; try with_reducible rfl)
  (repeat (first | simp only [Act.put] | simp only [List.setIfInBounds_toArray] | simp only [List.set_cons_succ] | simp only [List.set_cons_zero]))
  refine wpAnyH_ready (rs := [6]) (by kernel_rfl) (by simp) ?_
  refine AllReadyH.cons (o := ⟨some 26, _, _, _, _, _⟩) rfl (fun K hK => ?_) AllReadyH.nil
  refine step_app2 rfl (.tmp 22) (.tmp 25) 82 rfl _ _ rfl (by simp [Act.eval]) (C1.out _) ?_
  refine hK.out _ _ (by trivial) (fun hHeld => ?_)
  clear hK K
  (repeat (first | simp only [Act.put] | simp only [List.setIfInBounds_toArray] | simp only [List.set_cons_succ] | simp only [List.set_cons_zero]))
  refine wpAnyH_take (i := 7) (oi := ⟨some 0, _, _, _, _, _⟩) (v := ?_) rfl (by kernel_rfl) (by kernel_rfl) (by kernel_rfl) (fun _ _ _ h => h) (Or.inl ⟨by kernel_rfl, ?_⟩) (by assumption) ?_
  rotate_left
  · (intro w hSw; (try dsimp only at hSw); go_simp; try with_reducible rfl)
  (repeat (first | simp only [Act.put] | simp only [List.setIfInBounds_toArray] | simp only [List.set_cons_succ] | simp only [List.set_cons_zero]))
  refine wpAnyH_done (by kernel_rfl) ?_ _
  clear C1
  go_wp2_with fail
  rw [C2.out _ _ _ (by omega)]
  go_wp2_with fail
  go_ret
  exact ⟨rfl, F.out⟩
theorem clear_O (w : World) (ty : TypeId) (g o n c : Nat) (cur : Array Value) (hn : n = 1) (hg : w.heap[g]? = some (.cells cur 32 (0, 0))) (hfit : o + 6 ≤ cur.size) :
    (Builtin.clear_ #[47] ty #[.slice (some ⟨g, o, none⟩) n c]).run Try.prog w = .ok (.tuple #[]) (w.setRow g (cur.toList.take o ++ ((OC ⟨0, 0, 0, 0, 0, 0⟩) : Array Value).toList ++ cur.toList.drop (o + ((OC ⟨0, 0, 0, 0, 0, 0⟩) : Array Value).toList.length)).toArray) := by
  subst hn
  have hst := run_storeCells_at Try.prog g o 32 ((OC ⟨0, 0, 0, 0, 0, 0⟩) : Array Value).toList 0 cur w hg (by simpa using hfit) (by decide)
  simp only [Nat.add_zero] at hst
  have hz : (Builtin.zeroCells (Value.cells (.agg (OC ⟨0, 0, 0, 0, 0, 0⟩))) 1).toList = ((OC ⟨0, 0, 0, 0, 0, 0⟩) : Array Value).toList := by kernel_rfl
  simp [Builtin.clear_, run_underlying Try.underlying47, hz, hst]
set_option maxHeartbeats 4000000 in
set_option maxRecDepth 1000000 in
theorem del_O (w : World) (g n c i : Nat) (cur : List Value) (hg : w.heap[g]? = some (.cells cur.toArray 32 (0, 0))) (hl : cur.length = c * 6) (hc : n ≤ c) (hi : i < n) (hcm : c ≤ maxLen) (h1 : ∀ v ∈ cur.take (n * 6), v.oneCell' = true) :
    Calls Try.prog 43 #[.slice (some ⟨g, 0, none⟩) n c, .int .i64 i, .int .i64 ((i : Int) + 1)] w fun e w' => e = .returned (.slice (some ⟨g, 0, none⟩) (n - 1) c) ∧ Hid (InsIn w g 32 (delC cur ((OC ⟨0, 0, 0, 0, 0, 0⟩) : Array Value).toList n i 6) w') := by
  have mixed : Try.prog.follows .mixedOrders = true := by kernel_rfl
  obtain ⟨i0, hi0, hz0, hz1, hz2⟩ := info_parts info_O
  have hcm' : c ≤ 9223372036854775807 := by unfold maxLen at hcm; omega
  have q1 : ¬ ((i : Int) = (i : Int) + 1) := by omega
  have q2 : (i : Int) ≤ (i : Int) + 1 := by omega
  have q3 : (0 : Int) ≤ (i : Int) + 1 := by omega
  have q4 : (i : Int) + 1 ≤ (n : Int) := by omega
  have q5 : (n : Int) ≤ (c : Int) := by omega
  have q6 : ¬ (n = i) := by omega
  have q7 : (i : Int) + 1 ≤ (c : Int) := by omega
  have q8 : (i : Int) ≤ (c : Int) := by omega
  have q10 : ((i : Int) + 1).toNat = i + 1 := by omega
  have q11 : ¬ (c = n - 1) := by omega
  have q12 : ((n - 1 : Nat) : Int) ≤ (n : Int) := by omega
  have hni : (n - 1 - i) * 6 = n * 6 - (i + 1) * 6 := by omega
  have hnc : n * 6 ≤ c * 6 := by omega
  obtain ⟨X, eX⟩ : ∃ X, X = (cur.drop ((i + 1) * 6)).take ((n - 1 - i) * 6) := ⟨_, rfl⟩
  have lX : X.length = (n - 1 - i) * 6 := by rw [eX, List.length_take, List.length_drop]; omega
  obtain ⟨A1, e1⟩ : ∃ A1, A1 = (cur.take (i * 6) ++ X ++ cur.drop (i * 6 + X.length)) := ⟨_, rfl⟩
  have l1 : A1.length = c * 6 := by rw [e1]; simp only [List.length_append, List.length_take, List.length_drop, lX]; omega
  have e2 : A1.take ((n - 1) * 6) ++ ((OC ⟨0, 0, 0, 0, 0, 0⟩) : Array Value).toList ++ A1.drop ((n - 1) * 6 + ((OC ⟨0, 0, 0, 0, 0, 0⟩) : Array Value).toList.length) = delC cur ((OC ⟨0, 0, 0, 0, 0, 0⟩) : Array Value).toList n i 6 := by rw [e1, eX]; exact delC_steps hi hc hl rfl
  obtain ⟨A, hA, hsrc⟩ : ∃ A : Addr, (if c = i + 1 then some (⟨g, 0, none⟩ : Addr) else some ⟨g, (i + 1) * 6, none⟩) = some A ∧ (∀ j v, X[j]? = some v → w.drew.cell? (A.add j) = some v) := by
    by_cases h : c = i + 1
    · refine ⟨_, if_pos h, fun j v hj => ?_⟩
      have h0 : X.length = 0 := by rw [lX]; omega
      rw [List.length_eq_zero_iff.1 h0] at hj
      cases hj
    · refine ⟨_, if_neg h, fun j v hj => ?_⟩
      rw [addr_add, cell_of_row _ _ _ _ _ _ (hd_drew hg)]
      rw [eX, List.getElem?_take] at hj
      split at hj
      · rw [List.getElem?_drop] at hj
        rw [List.getElem?_toArray]; exact hj
      · cases hj
  have C1 : Hid (∀ ty, (Builtin.append_ #[47, 47] ty #[.slice (some ⟨g, 0, none⟩) i c, .slice (some A) (n - (i + 1)) (c - (i + 1))]).run Try.prog w.drew = .ok (.slice (some ⟨g, 0, none⟩) (n - 1) c) (w.drew.setRow g A1.toArray)) := Lib.hid (fun ty => by
    rw [show n - (i + 1) = n - 1 - i by omega]
    have := run_append_room w.drew 47 ty 32 i0 Try.underlying47 hi0 g i c cur.toArray (hd_drew hg) A (n - 1 - i) (c - (i + 1)) X (by rw [hz1]; exact lX) hsrc (fun v hv => h1 v (by rw [eX, hni, ← List.drop_take] at hv; exact List.mem_of_mem_drop hv)) (by omega) (by rw [hz1, lX]; simp only [List.size_toArray]; omega)
    rw [hz1, show i + (n - 1 - i) = n - 1 by omega] at this
    rw [e1]
    exact this)
  have G1 : (w.drew.setRow g A1.toArray).heap[g]? = some (.cells A1.toArray 32 (0, 0)) := setRow_heap _ _ _ _ _ _ (hd_drew hg)
  have C2 : Hid (∀ ty m c', m = 1 → (Builtin.clear_ #[47] ty #[.slice (some ⟨g, (n - 1) * 6, none⟩) m c']).run Try.prog (w.drew.setRow g A1.toArray) = .ok (.tuple #[]) ((w.drew.setRow g A1.toArray).setRow g (delC cur ((OC ⟨0, 0, 0, 0, 0, 0⟩) : Array Value).toList n i 6).toArray)) := Lib.hid (fun ty m c' hm => by
    have := clear_O (w.drew.setRow g A1.toArray) ty g ((n - 1) * 6) m c' A1.toArray hm G1 (by simp only [List.size_toArray]; omega)
    rw [← e2]
    exact this)
  have F : Hid (InsIn w g 32 (delC cur ((OC ⟨0, 0, 0, 0, 0, 0⟩) : Array Value).toList n i 6) ((w.drew.setRow g A1.toArray).setRow g (delC cur ((OC ⟨0, 0, 0, 0, 0, 0⟩) : Array Value).toList n i 6).toArray)) := insIn_trans (insIn_trans (insIn_drew hg) (insIn_set (hd_drew hg))) (insIn_set G1)
  clear eX lX e1 l1 e2 G1 hni hnc hsrc
  have HX := Lib.hid (And.intro hl (And.intro hc (And.intro hi h1)))
  clear hg hl hc h1 hcm
  go_enter Try.func43, Try.ntmps43
  go_wp2_with fail
  refine wp_region_held_drew (S := fun _ => True) (by kernel_rfl) (by trivial) (fun hHeld => ?_)
  refine wpAnyH_take (i := 0) (oi := ⟨some 20, _, _, _, _, _⟩) (v := ?_) rfl (by kernel_rfl) (by kernel_rfl) (by kernel_rfl) (fun _ _ _ h => h) (Or.inl ⟨by kernel_rfl, ?_⟩) (by assumption) ?_
  rotate_left
  · (intro w hSw; (try dsimp only at hSw); go_simp; try with_reducible rfl)
  (repeat (first | simp only [Act.put] | simp only [List.setIfInBounds_toArray] | simp only [List.set_cons_succ] | simp only [List.set_cons_zero]))
  refine wpAnyH_take (i := 1) (oi := ⟨some 21, _, _, _, _, _⟩) (v := ?_) rfl (by kernel_rfl) (by kernel_rfl) (by kernel_rfl) (fun _ _ _ h => h) (Or.inl ⟨by kernel_rfl, ?_⟩) (by assumption) ?_
  rotate_left
  · (intro w hSw; (try dsimp only at hSw); go_simp; try with_reducible rfl)
  (repeat (first | simp only [Act.put] | simp only [List.setIfInBounds_toArray] | simp only [List.set_cons_succ] | simp only [List.set_cons_zero]))
  refine wpAnyH_take (i := 2) (oi := ⟨some 22, _, _, _, _, _⟩) (v := ?_) rfl (by kernel_rfl) (by kernel_rfl) (by kernel_rfl) (fun _ _ _ h => h) (Or.inl ⟨by kernel_rfl, ?_⟩) (by assumption) ?_
  rotate_left
  · (intro w hSw; (try dsimp only at hSw); go_simp; try with_reducible rfl)
  (repeat (first | simp only [Act.put] | simp only [List.setIfInBounds_toArray] | simp only [List.set_cons_succ] | simp only [List.set_cons_zero]))
  refine wpAnyH_take (i := 3) (oi := ⟨some 23, _, _, _, _, _⟩) (v := ?_) rfl (by kernel_rfl) (by kernel_rfl) (by kernel_rfl) (fun _ _ _ h => h) (Or.inl ⟨by kernel_rfl, ?_⟩) (by assumption) ?_
  rotate_left
  · (intro w hSw; (try dsimp only at hSw); go_simp; try with_reducible rfl)
  (repeat (first | simp only [Act.put] | simp only [List.setIfInBounds_toArray] | simp only [List.set_cons_succ] | simp only [List.set_cons_zero]))
  refine wpAnyH_take (i := 4) (oi := ⟨some 24, _, _, _, _, _⟩) (v := ?_) rfl (by kernel_rfl) (by kernel_rfl) (by kernel_rfl) (fun _ _ _ h => h) (Or.inl ⟨by kernel_rfl, ?_⟩) (by assumption) ?_
  rotate_left
  · (intro w hSw; (try dsimp only at hSw); go_simp; try with_reducible rfl)
  (repeat (first | simp only [Act.put] | simp only [List.setIfInBounds_toArray] | simp only [List.set_cons_succ] | simp only [List.set_cons_zero]))
  refine wpAnyH_take (i := 5) (oi := ⟨some 25, _, _, _, _, _⟩) (v := ?_) rfl (by kernel_rfl) (by kernel_rfl) (by kernel_rfl) (fun _ _ _ h => h) (Or.inl ⟨by kernel_rfl, ?_⟩) (by assumption) ?_
  rotate_left
  · (intro w hSw; (try dsimp only at hSw); go_simp; try with_reducible rfl)
  (repeat (first | simp only [Act.put] | simp only [List.setIfInBounds_toArray] | simp only [List.set_cons_succ] | simp only [List.set_cons_zero]))
  refine wpAnyH_ready (rs := [6]) (by kernel_rfl) (by simp) ?_
  refine AllReadyH.cons (o := ⟨some 26, _, _, _, _, _⟩) rfl (fun K hK => ?_) AllReadyH.nil
  refine step_app2 rfl (.tmp 22) (.tmp 25) 47 rfl _ _ rfl (by simp [Act.eval]) (C1.out _) ?_
  refine hK.out _ _ (by trivial) (fun hHeld => ?_)
  clear hK K
  (repeat (first | simp only [Act.put] | simp only [List.setIfInBounds_toArray] | simp only [List.set_cons_succ] | simp only [List.set_cons_zero]))
  refine wpAnyH_take (i := 7) (oi := ⟨some 0, _, _, _, _, _⟩) (v := ?_) rfl (by kernel_rfl) (by kernel_rfl) (by kernel_rfl) (fun _ _ _ h => h) (Or.inl ⟨by kernel_rfl, ?_⟩) (by assumption) ?_
  rotate_left
  · (intro w hSw; (try dsimp only at hSw); go_simp; try with_reducible rfl)
  (repeat (first | simp only [Act.put] | simp only [List.setIfInBounds_toArray] | simp only [List.set_cons_succ] | simp only [List.set_cons_zero]))
  refine wpAnyH_done (by kernel_rfl) ?_ _
  clear C1
  go_wp2_with fail
  rw [C2.out _ _ _ (by omega)]
  go_wp2_with fail
  go_ret
  exact ⟨rfl, F.out⟩
end Go.Proofs.Ytemmbgbmkihbaaa

/- ladder: Take, in memory. (By mkleb.py.) -/
namespace Go.Proofs.Ytemmbgbmkihbaaa
open Go.RowKit Go.Shelf Go.Sort Go.Maps

/-- A queue has got other orders, in its row. -/
def DelOf (W4 w5 : World) (qv v' : Value) (n' : Nat) (q' : List Od) : Prop :=
  w5.ownsRow 0 32 6 v' n' (ol q') ∧ W4.grownBy w5 qv.ownBlock ∧ v'.ownBlock = qv.ownBlock
theorem del_of {W4 w5 : World} {qn i c g : Nat} {q : List Od} {cur : Array Value} (hq : q.length = qn) (hi : i < qn) (_hg : W4.heap[g]? = some (.cells cur 32 (0, 0))) (hc : qn ≤ c) (hcm : c ≤ maxLen) (hs : cur.size = c * 6) (ht : cur.toList.take (qn * 6) = ol q)
    (h : InsIn W4 g 32 (delC cur.toList (OC ⟨0, 0, 0, 0, 0, 0⟩).toList qn i 6) w5) : DelOf W4 w5 (.slice (some ⟨g, 0, none⟩) qn c) (.slice (some ⟨g, 0, none⟩) (qn - 1) c) (qn - 1) (q.eraseIdx i) := by
  obtain ⟨h1, h2⟩ := delC_take (k := 6) (z := (OC ⟨0, 0, 0, 0, 0, 0⟩).toList) hi hc (by simpa using hs) rfl ht
  have e : ol (q.eraseIdx i) = (ol q).take (i * 6) ++ (ol q).drop ((i + 1) * 6) := by
    rw [(ol_take q i (by omega)).1, (ol_take q (i + 1) (by omega)).2, ← ol_append, List.eraseIdx_eq_take_drop_succ]
  refine ⟨⟨?_, .inr ⟨g, c, _, rfl, Nat.zero_le _, h.2, by omega, hcm, by rw [List.size_toArray]; exact h1, ?_⟩⟩, h.1, rfl⟩
  · rw [ol_len, List.length_eraseIdx, if_pos (by omega)]; omega
  · rw [List.toList_toArray, h2, e]
theorem del_mid {w2 W4 w5 : World} {g n c n' : Nat} {qv v' : Value} {qn : Nat} {q q' : List Od} {xs : List Value} (hR : w2.ownsRow 0 87 2 (.slice (some ⟨g, 0, none⟩) n c) n xs) (hq : w2.ownsRow 0 32 6 qv qn (ol q)) (G : Gw w2 W4) (hI : DelOf W4 w5 qv v' n' q') :
    w5.ownsRow 0 87 2 (.slice (some ⟨g, 0, none⟩) n c) n xs := by
  refine own_fr hR (S := fun j => qv.ownBlock = some j) ?_ (fun k hk e => ?_)
  · exact ((Fr.of_below G.b).grown hI.2.1 (fun j e => .inl e))
  · injection hk with hk
    subst hk
    obtain ⟨cs, hcs⟩ := own_blk hR rfl
    exact own_ne hq hcs (by decide) e
/-- What is there when the row has got its queue. -/
theorem del_fin {w w2 W4 w5 : World} {g c n' : Nat} {qv v' : Value} {R : List Rw} {qn k : Nat} {q q' : List Od} {p : Int} (hk : k < R.length) (hp : (R[k]!).pr = p) (hR : w2.ownsRow 0 87 2 (.slice (some ⟨g, 0, none⟩) R.length c) R.length (rl R)) (hq : w2.ownsRow 0 32 6 qv qn (ol q)) (G2 : Below w.heap.size w w2) (G : Gw w2 W4) (hI : DelOf W4 w5 qv v' n' q') :
    (w5.setCell ⟨g, k * 2 + 1, none⟩ v').ownsRow 0 32 6 v' n' (ol q') ∧ (w5.setCell ⟨g, k * 2 + 1, none⟩ v').ownsRow 0 87 2 (.slice (some ⟨g, 0, none⟩) R.length c) R.length (rl (R.take k ++ ⟨p, v', q'⟩ :: R.drop (k + 1))) ∧
      Fr (fun j => (Value.slice (some ⟨g, 0, none⟩) R.length c).ownBlock = some j ∨ qv.ownBlock = some j) w (w5.setCell ⟨g, k * 2 + 1, none⟩ v') := by
  have hR5 := del_mid hR hq G hI
  obtain ⟨cs, hcs⟩ := own_blk hR5 rfl
  refine ⟨?_, ?_, ?_⟩
  · exact own_fr hI.1 (S := fun j => j = g) ((Fr.refl (fun j => j = g) w5).set (p := ⟨g, k * 2 + 1, none⟩) (.inl rfl) _) (fun j hj e => by subst e; exact own_ne hI.1 hcs (by decide) hj)
  · rw [rl_set R k hk ⟨p, v', q'⟩ hp.symm]
    exact own_setCell hR5 rfl
  · refine Fr.set ?_ (p := ⟨g, k * 2 + 1, none⟩) (.inl (.inl rfl)) _
    exact (Fr.of_below (G2.trans (G.b.mono G2.size))).grown hI.2.1 (fun j e => .inl (.inr e))
theorem put6_fr (X : World) (c : Nat) (o : Od) : Fr (fun k => k = c) X (put6 X c o) := by
  unfold put6
  exact ((((((Fr.refl (fun k => k = c) X).set (p := ⟨c, 0, none⟩) (.inl rfl) _).set (p := ⟨c, 1, none⟩) (.inl rfl) _).set (p := ⟨c, 2, none⟩) (.inl rfl) _).set (p := ⟨c, 3, none⟩) (.inl rfl) _).set (p := ⟨c, 4, none⟩) (.inl rfl) _).set (p := ⟨c, 5, none⟩) (.inl rfl) _
set_option maxHeartbeats 4000000 in
set_option maxRecDepth 100000 in
theorem take_more (p m : Nat) (s1 s2 : Sd) (o : Od) (id : Int) (w : World) (H : Bk w (some ⟨p, 0, none⟩) (some m) s1 s2) (hwf : (Lit.int .i64 o.side).wf = true)
    (HGet : Hid (∀ W, Below w.heap.size w W → Calls Try.prog 24 #[.pointer (some ⟨p, 0, none⟩), .int .u64 id] W fun e w' => e = .returned (.tuple #[optV (some o), .bool true]) ∧ Hid (Below W.heap.size W w')))
    (R : List Rw) (hR : rsOf s1 s2 o.side = R) (hs : R.Pairwise (fun a b => betN o.side a.pr b.pr = true))
    (hn : R.length ≤ 1000) (k : Nat) (hk : atN o.side o.price R = k) (hkl : k < R.length) (hp : (R[k]!).pr = o.price) (hq : (R[k]!).q.Pairwise (fun x y => ahdO x y = true)) (hql : (R[k]!).q.length ≤ 1000) (i : Nat) (hi : plN o (R[k]!).q = i) (hil : i < (R[k]!).q.length) (h2 : 2 ≤ (R[k]!).q.length) :
    Calls Try.prog 12 #[.pointer (some ⟨p, 0, none⟩), .int .u64 id] w fun e w' => e = .returned (.tuple #[optV (some o), .bool true]) ∧ ∃ v', Hid (w'.ownsRow 0 32 6 v' ((R[k]!).q.length - 1) (ol ((R[k]!).q.eraseIdx i)) ∧
      w'.ownsRow 0 87 2 (rowsOf s1 s2 o.side) R.length (rl (R.take k ++ ⟨o.price, v', (R[k]!).q.eraseIdx i⟩ :: R.drop (k + 1))) ∧ Fr (fun j => (rowsOf s1 s2 o.side).ownBlock = some j ∨ (R[k]!).v.ownBlock = some j) w w' ∧ v'.ownBlock = (R[k]!).v.ownBlock) := by
  have mixed : Try.prog.follows .mixedOrders = true := by kernel_rfl
  have hmem : R[k]! ∈ s1.rs ++ s2.rs := by
    rw [getElem!_pos R k hkl]
    exact rsOf_mem (by rw [hR]; exact List.getElem_mem hkl)
  obtain ⟨Q, hQd⟩ : ∃ Q, (R[k]!).q = Q := ⟨_, rfl⟩
  obtain ⟨V, hVd⟩ : ∃ V, (R[k]!).v = V := ⟨_, rfl⟩
  rw [hQd] at hq hql hi hil h2 ⊢
  rw [hVd]
  obtain ⟨qn, hqn⟩ : ∃ qn, Q.length = qn := ⟨_, rfl⟩
  rw [hqn] at hql hil h2 ⊢
  have hown0 := H.own o.side
  rw [hR] at hown0
  obtain ⟨g, c, hv, _, _⟩ := row_at hown0 hkl
  clear hown0
  have hqm0 := H.q _ hmem
  rw [hQd, hVd, hqn] at hqm0
  obtain ⟨g2, qc, cur, hqv, hg2⟩ : ∃ g2 qc cur, V = .slice (some ⟨g2, 0, none⟩) qn qc ∧ w.heap[g2]? = some (.cells cur 32 (0, 0)) ∧ qn ≤ qc ∧ qc ≤ maxLen ∧ cur.size = qc * 6 ∧ cur.toList.take (qn * 6) = ol Q := by
    rcases hqm0.2 with ⟨_, h0⟩ | ⟨g2, cap, cur, e, _, h1, h2, h3, h4, h5⟩
    · omega
    · exact ⟨g2, cap, cur, e, h1, h2, h3, h4, h5⟩
  have hgl : g < w.heap.size := by
    obtain ⟨A, c', hv', _, hf⟩ := H.rows o.side
    rw [hR] at hv' hf
    rw [hv] at hv'
    injection hv' with e1 e2 e3
    exact H.lt (hf g e1.symm (by omega))
  have HH := Lib.hid H
  have HG := Lib.hid hgl
  have HQ2 := Lib.hid hg2
  have HLK : Hid (∀ W, Below w.heap.size w W → (W.cell? ⟨p, 0, none⟩ = some (.map (some m))) ∧ W.ownsRow 0 87 2 (.slice (some ⟨g, 0, none⟩) R.length c) R.length (rl R) ∧ W.ownsRow 0 32 6 (.slice (some ⟨g2, 0, none⟩) qn qc) qn (ol Q) ∧ W.cell? ⟨g, k * 2, none⟩ = some (.int .i64 o.price) ∧ W.cell? ⟨g, k * 2 + 1, none⟩ = some (.slice (some ⟨g2, 0, none⟩) qn qc)) := fun W hW => by
    have hB := HH.out.below hW
    have hown := hB.own o.side
    rw [hR] at hown
    obtain ⟨g', c', hv', hc1, hc2⟩ := row_at hown hkl
    rw [hv] at hv' hown
    injection hv' with e1 e2 e3
    injection e1 with e1; injection e1 with e1
    subst e1
    have hqm := hB.q _ hmem
    rw [hQd, hVd, hqv, hqn] at hqm
    refine ⟨?_, hown, hqm, by rw [hc1, hp], by rw [hc2, hVd, hqv]⟩
    rcases hB.shape with ⟨h, _⟩ | ⟨pp, hb, hp⟩
    · cases h
    · injection hb with hb'
      injection hb' with hb''
      subst hb''
      rw [cell_of_row _ _ _ _ _ _ hp]; rfl
  have HF : Hid (∀ W, Below w.heap.size w W → Calls Try.prog 41 #[.slice (some ⟨g, 0, none⟩) R.length c, .int .i64 o.side, .int .i64 o.price] W fun e w' => e = .returned (.tuple #[.int .i64 (k : Nat), .bool true]) ∧ Gw W w') := fun W hW => by
    have := find_c (some ⟨g, 0, none⟩) R.length c R o.side o.price W ?_ hs hn
    · rw [hk, decide_eq_true hkl, hp] at this
      simpa using this
    · obtain ⟨A, c', hv', hr⟩ := own_rows (HLK.out W hW).2.1
      injection hv' with e1 e2 e3
      rw [e1]
      exact hr
  have HP : Hid (∀ W, Below w.heap.size w W → Calls Try.prog 42 #[.slice (some ⟨g2, 0, none⟩) qn qc, .agg #[.int .u64 o.id, .int .i64 o.acc, .int .i64 o.side, .int .i64 o.price, .int .i64 o.qty, .int .u64 o.seq]] W fun e w' => e = .returned (.int .i64 (i : Nat)) ∧ Gw W w') := fun W hW => by
    have := place_c (some ⟨g2, 0, none⟩) qn qc Q o W ?_ hq hql
    · rw [hi] at this; exact this
    · obtain ⟨A, c', hv', hr⟩ := own_que (HLK.out W hW).2.2.1
      injection hv' with e1 e2 e3
      rw [e1]
      exact hr
  have HD : Hid (∀ W, Below w.heap.size w W → Calls Try.prog 43 #[.slice (some ⟨g2, 0, none⟩) qn qc, .int .i64 i, .int .i64 ((i : Int) + 1)] W fun e w' => e = .returned (.slice (some ⟨g2, 0, none⟩) (qn - 1) qc) ∧ Hid (DelOf W w' (.slice (some ⟨g2, 0, none⟩) qn qc) (.slice (some ⟨g2, 0, none⟩) (qn - 1) qc) (qn - 1) (Q.eraseIdx i))) := fun W hW => by
    obtain ⟨a1, a2, a3, a4, a5⟩ := HQ2.out
    have hg := (hW.block _ (blk_lt a1)).trans a1
    refine (del_O W g2 qn qc i cur.toList (by rw [Array.toArray_toList]; exact hg) (by simpa using a4) a2 hil a3 (by rw [a5]; exact ol_one Q)).mono ?_
    rintro e w' ⟨rfl, h⟩
    exact ⟨rfl, Lib.hid (del_of hqn hil hg a2 a3 a4 a5 h.out)⟩
  have hlk := fun q W (hW : Below w.heap.size w W) => look_side ((HH.out.below (hW.trans (below_drewN ((Below.refl _ _).mono hW.size) q))).mp m rfl) HH.out.t1 HH.out.t2 o.side hwf
  rw [hv] at hlk
  have HLQ := Lib.hid hlk
  have HV := Lib.hid (And.intro hv (And.intro hqv (And.intro hqn hmem)))
  have HK := Lib.hid (And.intro hkl hp)
  obtain ⟨n1, hn1⟩ : ∃ n1, qn - 1 = n1 := ⟨_, rfl⟩
  rw [hn1] at HD ⊢
  have hn10 : ¬ ((n1 : Int) = 0) := by omega
  have HN1 := Lib.hid hn1
  have H2N := Lib.hid h2
  clear hn1 h2
  have HC : Hid ((rl R)[k * 2 + 1]? = some (.slice (some ⟨g2, 0, none⟩) qn qc)) := by
    have := rl_get R k 1 hkl (by omega)
    rw [this, ← hqv, ← hVd]
    rfl
  clear H hs hn hwf hmem hgl hg2 hlk hqm0 hk hi hq
  obtain ⟨W0, hW0⟩ : ∃ W0, w.alloc (.cells (OC ⟨0, 0, 0, 0, 0, 0⟩) 32) = W0 := ⟨_, rfl⟩
  have HB0 : Hid (Below w.heap.size w W0) := by rw [← hW0]; exact (Below.refl _ _).alloc (Nat.le_refl _) _
  have HC0 : Hid (Cl 32 W0 w.heap.size (OC ⟨0, 0, 0, 0, 0, 0⟩)) := by rw [← hW0]; exact hd_last rfl
  obtain ⟨rb, hrb⟩ : ∃ rb, w.heap.size = rb := ⟨_, rfl⟩
  go_enter Try.func12, Try.ntmps12
  go_wp2_with ((with_reducible refine (HGet.out _ HB0.out).mono ?_); rintro e w1 ⟨rfl, hb1⟩; dsimp only [optV])
  obtain ⟨W1, hW1⟩ : ∃ W1, w1.alloc (.cells (OC o) 32) = W1 := ⟨_, rfl⟩
  have HB1 : Hid (Below w.heap.size w W1) := by rw [← hW1]; exact (HB0.out.trans (hb1.out.mono HB0.out.size)).alloc (Nat.le_trans HB0.out.size hb1.out.size) _
  have hO1 : Cl 32 W1 w1.heap.size (OC o) := by rw [← hW1]; exact hd_last rfl
  have hZ1 : Cl 32 W1 w.heap.size (OC ⟨0, 0, 0, 0, 0, 0⟩) := by rw [← hW1]; exact hd_prev (blk_lt ((hb1.out.block _ (blk_lt HC0.out)).trans HC0.out)) ((hb1.out.block _ (blk_lt HC0.out)).trans HC0.out)
  have HOB : Hid (w.heap.size < w1.heap.size) := Nat.lt_of_lt_of_le (blk_lt HC0.out) hb1.out.size
  rw [hW1]
  obtain ⟨ob, hob⟩ : ∃ ob, w1.heap.size = ob := ⟨_, rfl⟩
  rw [hob] at hO1 HOB ⊢
  rw [hrb] at hZ1 HOB
  obtain ⟨x0, x1, x2, x3, x4, x5⟩ := six_of hO1
  have hpc := (HLK.out W1 HB1.out).1
  have hlk := fun q => HLQ.out q W1 HB1.out
  clear hob hW1 hb1 HGet HB0 HC0 hW0
  clear w1 W0
  go_quiet (fail)
  go_wp2_with ((with_reducible refine (HF.out _ (below_drewN HB1.out _)).mono ?_); rintro e w2 ⟨rfl, k2⟩; have HB2 : Hid (Below w.heap.size w w2) := (below_drewN HB1.out _).trans (k2.b.mono (below_drewN HB1.out _).size); have hO2 : Cl 32 w2 ob (OC o) := Cl.gw (X := W1.drewN _) hO1 k2; have hZ2 : Cl 32 w2 rb (OC ⟨0, 0, 0, 0, 0, 0⟩) := Cl.gw (X := W1.drewN _) hZ1 k2; clear x0 x1 x2 x3 x4 x5 hpc hlk)
  clear hO1 hZ1 k2 HB1
  clear W1
  have HO2 : Hid (∀ W, Gw w2 W → Cl 32 W ob (OC o)) := fun W hW => hO2.gw hW
  have HZ2 : Hid (∀ W, Gw w2 W → Cl 32 W rb (OC ⟨0, 0, 0, 0, 0, 0⟩)) := fun W hW => hZ2.gw hW
  have HBB : Hid (∀ W, Gw w2 W → Below w.heap.size w W) := fun W hW => HB2.out.trans (hW.b.mono HB2.out.size)
  clear hO2 hZ2
  refine wp_region_held_drew (S := fun W => Gw w2 W) (by kernel_rfl) (by exact ⟨(Below.refl _ _).drew, Nat.le_succ _⟩) (fun hHeld => ?_)
  refine wpAnyH_take (i := 0) (oi := ⟨some 41, _, _, _, _, _⟩) (v := ?_) rfl (by kernel_rfl) (by kernel_rfl) (by kernel_rfl) (fun _ _ _ h => h) (Or.inl ⟨by kernel_rfl, ?_⟩) (by assumption) ?_
  rotate_left
  · (intro w hSw; (try dsimp only at hSw); go_simp; try with_reducible rfl)
  (repeat (first | simp only [Act.put] | simp only [List.setIfInBounds_toArray] | simp only [List.set_cons_succ] | simp only [List.set_cons_zero]))
  refine wpAnyH_take (i := 1) (oi := ⟨some 42, _, _, _, _, _⟩) (v := ?_) rfl (by kernel_rfl) (by kernel_rfl) (by kernel_rfl) (fun _ _ _ h => h) (Or.inl ⟨by kernel_rfl, ?_⟩) (by assumption) ?_
  rotate_left
  · (intro w hSw; (try dsimp only at hSw); go_simp; try with_reducible rfl)
  (repeat (first | simp only [Act.put] | simp only [List.setIfInBounds_toArray] | simp only [List.set_cons_succ] | simp only [List.set_cons_zero]))
  refine wpAnyH_take (i := 2) (oi := ⟨some 43, _, _, _, _, _⟩) (v := ?_) rfl (by kernel_rfl) (by kernel_rfl) (by kernel_rfl) (fun _ _ _ h => h) (Or.inl ⟨by kernel_rfl, ?_⟩) (by assumption) ?_
  rotate_left
  · (intro w hSw; (try dsimp only at hSw); go_simp; try with_reducible rfl)
  (repeat (first | simp only [Act.put] | simp only [List.setIfInBounds_toArray] | simp only [List.set_cons_succ] | simp only [List.set_cons_zero]))
  refine wpAnyH_take (i := 3) (oi := ⟨some 44, _, _, _, _, _⟩) (v := ?_) rfl (by kernel_rfl) (by kernel_rfl) (by kernel_rfl) (fun _ _ _ h => h) (Or.inl ⟨by kernel_rfl, ?_⟩) (by assumption) ?_
  rotate_left
  · (intro w hSw; have hs := (HLK.out _ (HBB.out _ hSw)).2.2.2.2; (try dsimp only at hSw); go_simp; try with_reducible rfl)
  (repeat (first | simp only [Act.put] | simp only [List.setIfInBounds_toArray] | simp only [List.set_cons_succ] | simp only [List.set_cons_zero]))
  refine wpAnyH_take (i := 4) (oi := ⟨some 45, _, _, _, _, _⟩) (v := ?_) rfl (by kernel_rfl) (by kernel_rfl) (by kernel_rfl) (fun _ _ _ h => h) (Or.inl ⟨by kernel_rfl, ?_⟩) (by assumption) ?_
  rotate_left
  · (intro w hSw; obtain ⟨hs0, hs1, hs2, hs3, hs4, hs5⟩ := six_of (HO2.out _ hSw); (try dsimp only at hSw); go_simp; try with_reducible rfl)
  (repeat (first | simp only [Act.put] | simp only [List.setIfInBounds_toArray] | simp only [List.set_cons_succ] | simp only [List.set_cons_zero]))
  refine wpAnyH_ready (rs := [5]) (by kernel_rfl) (by simp) ?_
  refine AllReadyH.cons (o := ⟨some 46, _, _, _, _, _⟩) rfl (fun K hK => ?_) AllReadyH.nil
  go_simp
  ((with_reducible refine (HP.out _ (HBB.out _ hHeld)).mono ?_); rintro e w3 ⟨rfl, k3⟩)
  refine hK.out _ _ (by exact hHeld.trans k3) (fun hHeld => ?_)
  clear hK K
  (repeat (first | simp only [Act.put] | simp only [List.setIfInBounds_toArray] | simp only [List.set_cons_succ] | simp only [List.set_cons_zero]))
  refine wpAnyH_take (i := 6) (oi := ⟨some 12, _, _, _, _, _⟩) (v := ?_) rfl (by kernel_rfl) (by kernel_rfl) (by kernel_rfl) (fun _ _ _ h => h) (Or.inl ⟨by kernel_rfl, ?_⟩) (by assumption) ?_
  rotate_left
  · (intro w hSw; (try dsimp only at hSw); go_simp; try with_reducible rfl)
  (repeat (first | simp only [Act.put] | simp only [List.setIfInBounds_toArray] | simp only [List.set_cons_succ] | simp only [List.set_cons_zero]))
  refine wpAnyH_done (by kernel_rfl) ?_ _
  have HNE : Hid (ob ≠ g ∧ some ob ≠ (Value.slice (some ⟨g2, 0, none⟩) qn qc).ownBlock ∧ rb ≠ g ∧ some rb ≠ (Value.slice (some ⟨g2, 0, none⟩) qn qc).ownBlock) := by
    have a := HG.out
    have b := blk_lt HQ2.out.1
    have c := HOB.out
    refine ⟨by omega, fun e => ?_, by omega, fun e => ?_⟩ <;> (injection e with e; (try simp only at e); omega)
  have z0 := (HLK.out _ (HBB.out _ hHeld)).2.2.2.2
  go_wp2_with ((with_reducible refine (HD.out _ (HBB.out _ hHeld)).mono ?_); rintro e w5 ⟨rfl, hI⟩; have z5 : w5.cell? ⟨g, k * 2 + 1, none⟩ = some (.slice (some ⟨g2, 0, none⟩) qn qc) := (own_cell (del_mid (HLK.out _ HB2.out).2.1 (HLK.out _ HB2.out).2.2.1 hHeld hI.out) rfl HC.out).1; have f5 : w5.frozen? ⟨g, k * 2 + 1, none⟩ = false := (own_cell (del_mid (HLK.out _ HB2.out).2.1 (HLK.out _ HB2.out).2.2.1 hHeld hI.out) rfl HC.out).2; have hO6 : Cl 32 (w5.setCell ⟨g, k * 2 + 1, none⟩ (.slice (some ⟨g2, 0, none⟩) n1 qc)) ob (OC o) := (heap_far (a := ⟨g, k * 2 + 1, none⟩) HNE.out.1).trans ((hI.out.2.1.block _ (blk_lt (HO2.out _ hHeld)) HNE.out.2.1).trans (HO2.out _ hHeld)); have hZ6 : Cl 32 (w5.setCell ⟨g, k * 2 + 1, none⟩ (.slice (some ⟨g2, 0, none⟩) n1 qc)) rb (OC ⟨0, 0, 0, 0, 0, 0⟩) := (heap_far (a := ⟨g, k * 2 + 1, none⟩) HNE.out.2.2.1).trans ((hI.out.2.1.block _ (blk_lt (HZ2.out _ hHeld)) HNE.out.2.2.2).trans (HZ2.out _ hHeld)); have HZ6 := Lib.hid hZ6; have HF6 := Lib.hid (del_fin HK.out.1 HK.out.2 (HLK.out _ HB2.out).2.1 (HLK.out _ HB2.out).2.2.1 HB2.out hHeld hI.out); have c6 : (w5.setCell ⟨g, k * 2 + 1, none⟩ (.slice (some ⟨g2, 0, none⟩) n1 qc)).cell? ⟨g, k * 2 + 1, none⟩ = some (.slice (some ⟨g2, 0, none⟩) n1 qc) := (own_cell (own_setCell (j := k * 2 + 1) (u := (.slice (some ⟨g2, 0, none⟩) n1 qc)) (del_mid (HLK.out _ HB2.out).2.1 (HLK.out _ HB2.out).2.2.1 hHeld hI.out) rfl) rfl (List.getElem?_set_self (List.getElem?_eq_some_iff.1 HC.out).1)).1; obtain ⟨x0, x1, x2, x3, x4, x5⟩ := six_of hO6; obtain ⟨z0', z1', z2', z3', z4', z5'⟩ := six_of hZ6; have g0 := hZ6.f (k := 0); have g1 := hZ6.f (k := 1); have g2' := hZ6.f (k := 2); have g3 := hZ6.f (k := 3); have g4 := hZ6.f (k := 4); have g5 := hZ6.f (k := 5); clear z0 hI)
  have hf := put6_cl o HZ6.out
  refine bodyPost_ret (retOt rfl _ _ _ rfl o _ hf _ rfl) rfl ?_
  refine ⟨rfl, .slice (some ⟨g2, 0, none⟩) n1 qc, Lib.hid ?_⟩
  rw [HV.out.1, HV.out.2.1]
  obtain ⟨a1, a2, a3⟩ := HF6.out
  have hne := HNE.out
  refine ⟨own_fr a1 (put6_fr _ rb o) (fun j hj e => hne.2.2.2 (by rw [← e]; exact hj.symm)), own_fr a2 (put6_fr _ rb o) (fun j hj e => ?_), a3.trans (put6_fr _ rb o) (fun j e => .inr (by omega)), rfl⟩
  injection hj with hj
  exact hne.2.2.1 (by rw [← e, ← hj])
end Go.Proofs.Ytemmbgbmkihbaaa

/- ladder: Take where its row goes, in memory. (By mklec.py.) -/
namespace Go.Proofs.Ytemmbgbmkihbaaa
open Go.RowKit Go.Shelf Go.Sort Go.Maps

/-- A row has gone. -/
def RowDel (W w7 : World) (g c : Nat) (R : List Rw) (k : Nat) : Prop :=
  w7.ownsRow 0 87 2 (.slice (some ⟨g, 0, none⟩) (R.length - 1) c) (R.length - 1) (rl (R.take k ++ R.drop (k + 1))) ∧ W.grownBy w7 (some g)
theorem rows_of {R : List Rw} (h : ∀ r ∈ R, r.v.oneCell' = true) : ∀ u ∈ rl R, u.oneCell' = true := by
  intro u hu
  obtain ⟨r, hr, hu⟩ := List.mem_flatMap.1 hu
  exact row_one r u hu (h r hr)
theorem row_del {W : World} {g c k : Nat} {R : List Rw} {x : Rw} (hk : k < R.length) (ho : ∀ u ∈ rl (R.take k ++ x :: R.drop (k + 1)), u.oneCell' = true) (h : W.ownsRow 0 87 2 (.slice (some ⟨g, 0, none⟩) R.length c) R.length (rl (R.take k ++ x :: R.drop (k + 1)))) :
    Calls Try.prog 44 #[.slice (some ⟨g, 0, none⟩) R.length c, .int .i64 k, .int .i64 ((k : Int) + 1)] W fun e w' => e = .returned (.slice (some ⟨g, 0, none⟩) (R.length - 1) c) ∧ Hid (RowDel W w' g c R k) := by
  rcases h.2 with ⟨h0, _⟩ | ⟨g', cap, cur, e, _, h1, h2, h3, h4, h5⟩
  · cases h0
  injection e with e1 e2 e3
  injection e1 with e1; injection e1 with e1
  subst e1 e3
  have h6 : cur.toList.length = c * 2 := by simpa using h4
  refine (del_R W g R.length c k cur.toList (by rw [Array.toArray_toList]; exact h1) h6 h2 hk h3 (by rw [h5]; exact ho)).mono ?_
  rintro e w' ⟨rfl, hi⟩
  obtain ⟨b1, b2⟩ := delC_take (k := 2) (z := (#[.int .i64 0, .slice none 0 0] : Array Value).toList) hk h2 h6 rfl h5
  have hl : (R.take k ++ x :: R.drop (k + 1)).length = R.length := set_len R k hk x
  have e : rl (R.take k ++ R.drop (k + 1)) = (rl (R.take k ++ x :: R.drop (k + 1))).take (k * 2) ++ (rl (R.take k ++ x :: R.drop (k + 1))).drop ((k + 1) * 2) := by
    rw [(rl_take _ k (by omega)).1, (rl_take _ (k + 1) (by omega)).2, ← rl_app]
    have lk : (R.take k).length = k := by rw [List.length_take]; omega
    rw [List.take_left' lk, List.drop_append, lk, List.drop_eq_nil_of_le («as» := R.take k) (by omega), List.nil_append, show k + 1 - k = 1 by omega]
    rfl
  refine ⟨rfl, Lib.hid ⟨⟨?_, .inr ⟨g, c, _, rfl, Nat.zero_le _, hi.out.2, by omega, h3, by rw [List.size_toArray]; exact b1, ?_⟩⟩, hi.out.1⟩⟩
  · rw [rl_len, List.length_append, List.length_take, List.length_drop]; omega
  · rw [List.toList_toArray, b2, e]
set_option maxHeartbeats 4000000 in
set_option maxRecDepth 100000 in
theorem take_last (p m : Nat) (s1 s2 : Sd) (o : Od) (id : Int) (w : World) (H : Bk w (some ⟨p, 0, none⟩) (some m) s1 s2) (hwf : (Lit.int .i64 o.side).wf = true)
    (HGet : Hid (∀ W, Below w.heap.size w W → Calls Try.prog 24 #[.pointer (some ⟨p, 0, none⟩), .int .u64 id] W fun e w' => e = .returned (.tuple #[optV (some o), .bool true]) ∧ Hid (Below W.heap.size W w')))
    (R : List Rw) (hR : rsOf s1 s2 o.side = R) (hs : R.Pairwise (fun a b => betN o.side a.pr b.pr = true))
    (hn : R.length ≤ 1000) (k : Nat) (hk : atN o.side o.price R = k) (hkl : k < R.length) (hp : (R[k]!).pr = o.price) (hq : (R[k]!).q.Pairwise (fun x y => ahdO x y = true)) (hql : (R[k]!).q.length ≤ 1000) (i : Nat) (hi : plN o (R[k]!).q = i) (hil : i < (R[k]!).q.length) (h2 : (R[k]!).q.length = 1) :
    Calls Try.prog 12 #[.pointer (some ⟨p, 0, none⟩), .int .u64 id] w fun e w' => e = .returned (.tuple #[optV (some o), .bool true]) ∧ ∃ v2, Hid (w'.ownsRow 0 87 2 v2 (R.length - 1) (rl (R.take k ++ R.drop (k + 1))) ∧ w'.ownsMap Try.prog 3 RV m 3 ((mapD s1 s2).put (.int .i64 o.side) (.held v2)) ∧
      Fr (fun j => j = m ∨ (rowsOf s1 s2 o.side).ownBlock = some j ∨ (R[k]!).v.ownBlock = some j) w w' ∧ v2.ownBlock = (rowsOf s1 s2 o.side).ownBlock) := by
  have mixed : Try.prog.follows .mixedOrders = true := by kernel_rfl
  have hmem : R[k]! ∈ s1.rs ++ s2.rs := by
    rw [getElem!_pos R k hkl]
    exact rsOf_mem (by rw [hR]; exact List.getElem_mem hkl)
  obtain ⟨Q, hQd⟩ : ∃ Q, (R[k]!).q = Q := ⟨_, rfl⟩
  obtain ⟨V, hVd⟩ : ∃ V, (R[k]!).v = V := ⟨_, rfl⟩
  rw [hQd] at hq hql hi hil h2
  rw [hVd]
  obtain ⟨qn, hqn⟩ : ∃ qn, Q.length = qn := ⟨_, rfl⟩
  rw [hqn] at hql hil h2
  have hown0 := H.own o.side
  rw [hR] at hown0
  obtain ⟨g, c, hv, _, _⟩ := row_at hown0 hkl
  clear hown0
  have hqm0 := H.q _ hmem
  rw [hQd, hVd, hqn] at hqm0
  obtain ⟨g2, qc, cur, hqv, hg2⟩ : ∃ g2 qc cur, V = .slice (some ⟨g2, 0, none⟩) qn qc ∧ w.heap[g2]? = some (.cells cur 32 (0, 0)) ∧ qn ≤ qc ∧ qc ≤ maxLen ∧ cur.size = qc * 6 ∧ cur.toList.take (qn * 6) = ol Q := by
    rcases hqm0.2 with ⟨_, h0⟩ | ⟨g2, cap, cur, e, _, h1, h2, h3, h4, h5⟩
    · omega
    · exact ⟨g2, cap, cur, e, h1, h2, h3, h4, h5⟩
  have hgl : g < w.heap.size := by
    obtain ⟨A, c', hv', _, hf⟩ := H.rows o.side
    rw [hR] at hv' hf
    rw [hv] at hv'
    injection hv' with e1 e2 e3
    exact H.lt (hf g e1.symm (by omega))
  have HH := Lib.hid H
  have HG := Lib.hid hgl
  have HQ2 := Lib.hid hg2
  have HLK : Hid (∀ W, Below w.heap.size w W → (W.cell? ⟨p, 0, none⟩ = some (.map (some m))) ∧ W.ownsRow 0 87 2 (.slice (some ⟨g, 0, none⟩) R.length c) R.length (rl R) ∧ W.ownsRow 0 32 6 (.slice (some ⟨g2, 0, none⟩) qn qc) qn (ol Q) ∧ W.cell? ⟨g, k * 2, none⟩ = some (.int .i64 o.price) ∧ W.cell? ⟨g, k * 2 + 1, none⟩ = some (.slice (some ⟨g2, 0, none⟩) qn qc)) := fun W hW => by
    have hB := HH.out.below hW
    have hown := hB.own o.side
    rw [hR] at hown
    obtain ⟨g', c', hv', hc1, hc2⟩ := row_at hown hkl
    rw [hv] at hv' hown
    injection hv' with e1 e2 e3
    injection e1 with e1; injection e1 with e1
    subst e1
    have hqm := hB.q _ hmem
    rw [hQd, hVd, hqv, hqn] at hqm
    refine ⟨?_, hown, hqm, by rw [hc1, hp], by rw [hc2, hVd, hqv]⟩
    rcases hB.shape with ⟨h, _⟩ | ⟨pp, hb, hp⟩
    · cases h
    · injection hb with hb'
      injection hb' with hb''
      subst hb''
      rw [cell_of_row _ _ _ _ _ _ hp]; rfl
  have HF : Hid (∀ W, Below w.heap.size w W → Calls Try.prog 41 #[.slice (some ⟨g, 0, none⟩) R.length c, .int .i64 o.side, .int .i64 o.price] W fun e w' => e = .returned (.tuple #[.int .i64 (k : Nat), .bool true]) ∧ Gw W w') := fun W hW => by
    have := find_c (some ⟨g, 0, none⟩) R.length c R o.side o.price W ?_ hs hn
    · rw [hk, decide_eq_true hkl, hp] at this
      simpa using this
    · obtain ⟨A, c', hv', hr⟩ := own_rows (HLK.out W hW).2.1
      injection hv' with e1 e2 e3
      rw [e1]
      exact hr
  have HP : Hid (∀ W, Below w.heap.size w W → Calls Try.prog 42 #[.slice (some ⟨g2, 0, none⟩) qn qc, .agg #[.int .u64 o.id, .int .i64 o.acc, .int .i64 o.side, .int .i64 o.price, .int .i64 o.qty, .int .u64 o.seq]] W fun e w' => e = .returned (.int .i64 (i : Nat)) ∧ Gw W w') := fun W hW => by
    have := place_c (some ⟨g2, 0, none⟩) qn qc Q o W ?_ hq hql
    · rw [hi] at this; exact this
    · obtain ⟨A, c', hv', hr⟩ := own_que (HLK.out W hW).2.2.1
      injection hv' with e1 e2 e3
      rw [e1]
      exact hr
  have HD : Hid (∀ W, Below w.heap.size w W → Calls Try.prog 43 #[.slice (some ⟨g2, 0, none⟩) qn qc, .int .i64 i, .int .i64 ((i : Int) + 1)] W fun e w' => e = .returned (.slice (some ⟨g2, 0, none⟩) (qn - 1) qc) ∧ Hid (DelOf W w' (.slice (some ⟨g2, 0, none⟩) qn qc) (.slice (some ⟨g2, 0, none⟩) (qn - 1) qc) (qn - 1) (Q.eraseIdx i))) := fun W hW => by
    obtain ⟨a1, a2, a3, a4, a5⟩ := HQ2.out
    have hg := (hW.block _ (blk_lt a1)).trans a1
    refine (del_O W g2 qn qc i cur.toList (by rw [Array.toArray_toList]; exact hg) (by simpa using a4) a2 hil a3 (by rw [a5]; exact ol_one Q)).mono ?_
    rintro e w' ⟨rfl, h⟩
    exact ⟨rfl, Lib.hid (del_of hqn hil hg a2 a3 a4 a5 h.out)⟩
  have hlk := fun q W (hW : Below w.heap.size w W) => look_side ((HH.out.below (hW.trans (below_drewN ((Below.refl _ _).mono hW.size) q))).mp m rfl) HH.out.t1 HH.out.t2 o.side hwf
  rw [hv] at hlk
  have HLQ := Lib.hid hlk
  have HV := Lib.hid (And.intro hv (And.intro hqv (And.intro hqn hmem)))
  have HK := Lib.hid (And.intro hkl hp)
  obtain ⟨n1, hn1⟩ : ∃ n1, qn - 1 = n1 := ⟨_, rfl⟩
  obtain rfl : n1 = 0 := by omega
  rw [hn1] at HD
  have HWF := Lib.hid hwf
  have HRN := Lib.hid hn
  clear hn1 h2
  have HC : Hid ((rl R)[k * 2 + 1]? = some (.slice (some ⟨g2, 0, none⟩) qn qc)) := by
    have := rl_get R k 1 hkl (by omega)
    rw [this, ← hqv, ← hVd]
    rfl
  clear H hs hn hwf hmem hgl hg2 hlk hqm0 hk hi hq
  obtain ⟨W0, hW0⟩ : ∃ W0, w.alloc (.cells (OC ⟨0, 0, 0, 0, 0, 0⟩) 32) = W0 := ⟨_, rfl⟩
  have HB0 : Hid (Below w.heap.size w W0) := by rw [← hW0]; exact (Below.refl _ _).alloc (Nat.le_refl _) _
  have HC0 : Hid (Cl 32 W0 w.heap.size (OC ⟨0, 0, 0, 0, 0, 0⟩)) := by rw [← hW0]; exact hd_last rfl
  obtain ⟨rb, hrb⟩ : ∃ rb, w.heap.size = rb := ⟨_, rfl⟩
  go_enter Try.func12, Try.ntmps12
  go_wp2_with ((with_reducible refine (HGet.out _ HB0.out).mono ?_); rintro e w1 ⟨rfl, hb1⟩; dsimp only [optV])
  obtain ⟨W1, hW1⟩ : ∃ W1, w1.alloc (.cells (OC o) 32) = W1 := ⟨_, rfl⟩
  have HB1 : Hid (Below w.heap.size w W1) := by rw [← hW1]; exact (HB0.out.trans (hb1.out.mono HB0.out.size)).alloc (Nat.le_trans HB0.out.size hb1.out.size) _
  have hO1 : Cl 32 W1 w1.heap.size (OC o) := by rw [← hW1]; exact hd_last rfl
  have hZ1 : Cl 32 W1 w.heap.size (OC ⟨0, 0, 0, 0, 0, 0⟩) := by rw [← hW1]; exact hd_prev (blk_lt ((hb1.out.block _ (blk_lt HC0.out)).trans HC0.out)) ((hb1.out.block _ (blk_lt HC0.out)).trans HC0.out)
  have HOB : Hid (w.heap.size < w1.heap.size) := Nat.lt_of_lt_of_le (blk_lt HC0.out) hb1.out.size
  rw [hW1]
  obtain ⟨ob, hob⟩ : ∃ ob, w1.heap.size = ob := ⟨_, rfl⟩
  rw [hob] at hO1 HOB ⊢
  rw [hrb] at hZ1 HOB
  obtain ⟨x0, x1, x2, x3, x4, x5⟩ := six_of hO1
  have hpc := (HLK.out W1 HB1.out).1
  have hlk := fun q => HLQ.out q W1 HB1.out
  clear hob hW1 hb1 HGet HB0 HC0 hW0
  clear w1 W0
  go_quiet (fail)
  go_wp2_with ((with_reducible refine (HF.out _ (below_drewN HB1.out _)).mono ?_); rintro e w2 ⟨rfl, k2⟩; have HB2 : Hid (Below w.heap.size w w2) := (below_drewN HB1.out _).trans (k2.b.mono (below_drewN HB1.out _).size); have hO2 : Cl 32 w2 ob (OC o) := Cl.gw (X := W1.drewN _) hO1 k2; have hZ2 : Cl 32 w2 rb (OC ⟨0, 0, 0, 0, 0, 0⟩) := Cl.gw (X := W1.drewN _) hZ1 k2; clear x0 x1 x2 x3 x4 x5 hpc hlk)
  clear hO1 hZ1 k2 HB1
  clear W1
  have HO2 : Hid (∀ W, Gw w2 W → Cl 32 W ob (OC o)) := fun W hW => hO2.gw hW
  have HZ2 : Hid (∀ W, Gw w2 W → Cl 32 W rb (OC ⟨0, 0, 0, 0, 0, 0⟩)) := fun W hW => hZ2.gw hW
  have HBB : Hid (∀ W, Gw w2 W → Below w.heap.size w W) := fun W hW => HB2.out.trans (hW.b.mono HB2.out.size)
  clear hO2 hZ2
  refine wp_region_held_drew (S := fun W => Gw w2 W) (by kernel_rfl) (by exact ⟨(Below.refl _ _).drew, Nat.le_succ _⟩) (fun hHeld => ?_)
  refine wpAnyH_take (i := 0) (oi := ⟨some 41, _, _, _, _, _⟩) (v := ?_) rfl (by kernel_rfl) (by kernel_rfl) (by kernel_rfl) (fun _ _ _ h => h) (Or.inl ⟨by kernel_rfl, ?_⟩) (by assumption) ?_
  rotate_left
  · (intro w hSw; (try dsimp only at hSw); go_simp; try with_reducible rfl)
  (repeat (first | simp only [Act.put] | simp only [List.setIfInBounds_toArray] | simp only [List.set_cons_succ] | simp only [List.set_cons_zero]))
  refine wpAnyH_take (i := 1) (oi := ⟨some 42, _, _, _, _, _⟩) (v := ?_) rfl (by kernel_rfl) (by kernel_rfl) (by kernel_rfl) (fun _ _ _ h => h) (Or.inl ⟨by kernel_rfl, ?_⟩) (by assumption) ?_
  rotate_left
  · (intro w hSw; (try dsimp only at hSw); go_simp; try with_reducible rfl)
  (repeat (first | simp only [Act.put] | simp only [List.setIfInBounds_toArray] | simp only [List.set_cons_succ] | simp only [List.set_cons_zero]))
  refine wpAnyH_take (i := 2) (oi := ⟨some 43, _, _, _, _, _⟩) (v := ?_) rfl (by kernel_rfl) (by kernel_rfl) (by kernel_rfl) (fun _ _ _ h => h) (Or.inl ⟨by kernel_rfl, ?_⟩) (by assumption) ?_
  rotate_left
  · (intro w hSw; (try dsimp only at hSw); go_simp; try with_reducible rfl)
  (repeat (first | simp only [Act.put] | simp only [List.setIfInBounds_toArray] | simp only [List.set_cons_succ] | simp only [List.set_cons_zero]))
  refine wpAnyH_take (i := 3) (oi := ⟨some 44, _, _, _, _, _⟩) (v := ?_) rfl (by kernel_rfl) (by kernel_rfl) (by kernel_rfl) (fun _ _ _ h => h) (Or.inl ⟨by kernel_rfl, ?_⟩) (by assumption) ?_
  rotate_left
  · (intro w hSw; have hs := (HLK.out _ (HBB.out _ hSw)).2.2.2.2; (try dsimp only at hSw); go_simp; try with_reducible rfl)
  (repeat (first | simp only [Act.put] | simp only [List.setIfInBounds_toArray] | simp only [List.set_cons_succ] | simp only [List.set_cons_zero]))
  refine wpAnyH_take (i := 4) (oi := ⟨some 45, _, _, _, _, _⟩) (v := ?_) rfl (by kernel_rfl) (by kernel_rfl) (by kernel_rfl) (fun _ _ _ h => h) (Or.inl ⟨by kernel_rfl, ?_⟩) (by assumption) ?_
  rotate_left
  · (intro w hSw; obtain ⟨hs0, hs1, hs2, hs3, hs4, hs5⟩ := six_of (HO2.out _ hSw); (try dsimp only at hSw); go_simp; try with_reducible rfl)
  (repeat (first | simp only [Act.put] | simp only [List.setIfInBounds_toArray] | simp only [List.set_cons_succ] | simp only [List.set_cons_zero]))
  refine wpAnyH_ready (rs := [5]) (by kernel_rfl) (by simp) ?_
  refine AllReadyH.cons (o := ⟨some 46, _, _, _, _, _⟩) rfl (fun K hK => ?_) AllReadyH.nil
  go_simp
  ((with_reducible refine (HP.out _ (HBB.out _ hHeld)).mono ?_); rintro e w3 ⟨rfl, k3⟩)
  refine hK.out _ _ (by exact hHeld.trans k3) (fun hHeld => ?_)
  clear hK K
  (repeat (first | simp only [Act.put] | simp only [List.setIfInBounds_toArray] | simp only [List.set_cons_succ] | simp only [List.set_cons_zero]))
  refine wpAnyH_take (i := 6) (oi := ⟨some 12, _, _, _, _, _⟩) (v := ?_) rfl (by kernel_rfl) (by kernel_rfl) (by kernel_rfl) (fun _ _ _ h => h) (Or.inl ⟨by kernel_rfl, ?_⟩) (by assumption) ?_
  rotate_left
  · (intro w hSw; (try dsimp only at hSw); go_simp; try with_reducible rfl)
  (repeat (first | simp only [Act.put] | simp only [List.setIfInBounds_toArray] | simp only [List.set_cons_succ] | simp only [List.set_cons_zero]))
  refine wpAnyH_done (by kernel_rfl) ?_ _
  have HNE : Hid (ob ≠ g ∧ some ob ≠ (Value.slice (some ⟨g2, 0, none⟩) qn qc).ownBlock ∧ rb ≠ g ∧ some rb ≠ (Value.slice (some ⟨g2, 0, none⟩) qn qc).ownBlock) := by
    have a := HG.out
    have b := blk_lt HQ2.out.1
    have c := HOB.out
    refine ⟨by omega, fun e => ?_, by omega, fun e => ?_⟩ <;> (injection e with e; (try simp only at e); omega)
  have z0 := (HLK.out _ (HBB.out _ hHeld)).2.2.2.2
  go_wp2_with ((with_reducible refine (HD.out _ (HBB.out _ hHeld)).mono ?_); rintro e w5 ⟨rfl, hI⟩; have z5 : w5.cell? ⟨g, k * 2 + 1, none⟩ = some (.slice (some ⟨g2, 0, none⟩) qn qc) := (own_cell (del_mid (HLK.out _ HB2.out).2.1 (HLK.out _ HB2.out).2.2.1 hHeld hI.out) rfl HC.out).1; have f5 : w5.frozen? ⟨g, k * 2 + 1, none⟩ = false := (own_cell (del_mid (HLK.out _ HB2.out).2.1 (HLK.out _ HB2.out).2.2.1 hHeld hI.out) rfl HC.out).2; have hO6 : Cl 32 (w5.setCell ⟨g, k * 2 + 1, none⟩ (.slice (some ⟨g2, 0, none⟩) 0 qc)) ob (OC o) := (heap_far (a := ⟨g, k * 2 + 1, none⟩) HNE.out.1).trans ((hI.out.2.1.block _ (blk_lt (HO2.out _ hHeld)) HNE.out.2.1).trans (HO2.out _ hHeld)); have hZ6 : Cl 32 (w5.setCell ⟨g, k * 2 + 1, none⟩ (.slice (some ⟨g2, 0, none⟩) 0 qc)) rb (OC ⟨0, 0, 0, 0, 0, 0⟩) := (heap_far (a := ⟨g, k * 2 + 1, none⟩) HNE.out.2.2.1).trans ((hI.out.2.1.block _ (blk_lt (HZ2.out _ hHeld)) HNE.out.2.2.2).trans (HZ2.out _ hHeld)); have HZ6 := Lib.hid hZ6; have HF6 := Lib.hid (del_fin HK.out.1 HK.out.2 (HLK.out _ HB2.out).2.1 (HLK.out _ HB2.out).2.2.1 HB2.out hHeld hI.out); have c6 : (w5.setCell ⟨g, k * 2 + 1, none⟩ (.slice (some ⟨g2, 0, none⟩) 0 qc)).cell? ⟨g, k * 2 + 1, none⟩ = some (.slice (some ⟨g2, 0, none⟩) 0 qc) := (own_cell (own_setCell (j := k * 2 + 1) (u := (.slice (some ⟨g2, 0, none⟩) 0 qc)) (del_mid (HLK.out _ HB2.out).2.1 (HLK.out _ HB2.out).2.2.1 hHeld hI.out) rfl) rfl (List.getElem?_set_self (List.getElem?_eq_some_iff.1 HC.out).1)).1; clear z0 hI)
  obtain ⟨W6, hW6⟩ : ∃ W6, w5.setCell ⟨g, k * 2 + 1, none⟩ (.slice (some ⟨g2, 0, none⟩) 0 qc) = W6 := ⟨_, rfl⟩
  rw [hW6] at hO6 HZ6 HF6 c6 ⊢
  have HPg : p ≠ g ∧ W6.cell? ⟨p, 0, none⟩ = some (.map (some m)) := by
    rcases HH.out.shape with ⟨h, _⟩ | ⟨pp, hb, hp⟩
    · cases h
    · injection hb with hb'
      injection hb' with hb''
      subst hb''
      have hw := HLK.out w (Below.refl _ _)
      refine ⟨fun e => own_ne hw.2.1 hp (by decide) (by rw [e]; rfl), ?_⟩
      have := HF6.out.2.2.blk hp (fun h => by
        rcases h with h | h
        · exact own_ne hw.2.1 hp (by decide) h
        · exact own_ne hw.2.2.1 hp (by decide) h)
      rw [cell_of_row _ _ _ _ _ _ this]; rfl
  have HPG := Lib.hid HPg.1
  have hp6 := HPg.2
  have HM6 : Hid (W6.drew.ownsMap Try.prog 3 RV m 2 (mapD s1 s2) ∧ m ≠ g) := by
    have hw := HLK.out w (Below.refl _ _)
    have hm := HH.out.mp m rfl
    obtain ⟨c1, h1⟩ := own_blk hw.2.1 rfl
    obtain ⟨c2, h2⟩ := own_blk hw.2.2.1 rfl
    refine ⟨(ownsMap_fr hm HF6.out.2.2 (fun h => ?_)).drew, fun e => map_ne hm h1 e.symm⟩
    rcases h with h | h
    · exact map_ne hm h1 (Option.some.inj h)
    · exact map_ne hm h2 (Option.some.inj h)
  have HOne : ∀ u ∈ rl (R.take k ++ (⟨o.price, (.slice (some ⟨g2, 0, none⟩) 0 qc), Q.eraseIdx i⟩ : Rw) :: R.drop (k + 1)), u.oneCell' = true := rows_of (fun r hr => by
    have key : ∀ r ∈ R, r.v.oneCell' = true := fun r hr => by
      obtain ⟨A, c', hv, _⟩ := own_que2 (HH.out.q r (rsOf_mem (by rw [hR]; exact hr)))
      rw [hv]; rfl
    rcases List.mem_append.1 hr with hr | hr
    · exact key r (List.mem_of_mem_take hr)
    · rcases List.mem_cons.1 hr with rfl | hr
      · rfl
      · exact key r (List.mem_of_mem_drop hr))
  have HDR := Lib.hid (row_del HK.out.1 HOne (show W6.drew.ownsRow _ _ _ _ _ _ from HF6.out.2.1))
  have hkw : IntKind.i64.wrap ((k : Int) + 1) = (k : Int) + 1 := by
    rw [IntKind.wrap_i64]
    have h1 := HK.out.1
    have h2 := HRN.out
    omega
  clear HPg hW6 c6 HOne
  refine wp_region_held_drew (S := fun W => Cl 32 W ob (OC o) ∧ W.cell? ⟨p, 0, none⟩ = some (.map (some m))) (by kernel_rfl) (by exact ⟨hd_drew hO6, hp6⟩) (fun hHeld => ?_)
  refine wpAnyH_take (i := 0) (oi := ⟨some 64, _, _, _, _, _⟩) (v := ?_) rfl (by kernel_rfl) (by kernel_rfl) (by kernel_rfl) (fun _ _ _ h => h) (Or.inl ⟨by kernel_rfl, ?_⟩) (by assumption) ?_
  rotate_left
  · (intro w hSw; (try dsimp only at hSw); go_simp; try with_reducible rfl)
  (repeat (first | simp only [Act.put] | simp only [List.setIfInBounds_toArray] | simp only [List.set_cons_succ] | simp only [List.set_cons_zero]))
  refine wpAnyH_take (i := 1) (oi := ⟨some 65, _, _, _, _, _⟩) (v := ?_) rfl (by kernel_rfl) (by kernel_rfl) (by kernel_rfl) (fun _ _ _ h => h) (Or.inl ⟨by kernel_rfl, ?_⟩) (by assumption) ?_
  rotate_left
  · (intro w hSw; (try dsimp only at hSw); go_simp; try with_reducible rfl)
  (repeat (first | simp only [Act.put] | simp only [List.setIfInBounds_toArray] | simp only [List.set_cons_succ] | simp only [List.set_cons_zero]))
  refine wpAnyH_take (i := 2) (oi := ⟨some 66, _, _, _, _, _⟩) (v := ?_) rfl (by kernel_rfl) (by kernel_rfl) (by kernel_rfl) (fun _ _ _ h => h) (Or.inl ⟨by kernel_rfl, ?_⟩) (by assumption) ?_
  rotate_left
  · (intro w hSw; (try dsimp only at hSw); go_simp; try with_reducible rfl)
  (repeat (first | simp only [Act.put] | simp only [List.setIfInBounds_toArray] | simp only [List.set_cons_succ] | simp only [List.set_cons_zero]))
  refine wpAnyH_take (i := 3) (oi := ⟨some 67, _, _, _, _, _⟩) (v := ?_) rfl (by kernel_rfl) (by kernel_rfl) (by kernel_rfl) (fun _ _ _ h => h) (Or.inl ⟨by kernel_rfl, ?_⟩) (by assumption) ?_
  rotate_left
  · (intro w hSw; have hs := hSw.2; (try dsimp only at hSw); go_simp; try with_reducible rfl)
  (repeat (first | simp only [Act.put] | simp only [List.setIfInBounds_toArray] | simp only [List.set_cons_succ] | simp only [List.set_cons_zero]))
  refine wpAnyH_take (i := 4) (oi := ⟨some 68, _, _, _, _, _⟩) (v := ?_) rfl (by kernel_rfl) (by kernel_rfl) (by kernel_rfl) (fun _ _ _ h => h) (Or.inl ⟨by kernel_rfl, ?_⟩) (by assumption) ?_
  rotate_left
  · (intro w hSw; (try dsimp only at hSw); go_simp; try with_reducible rfl)
  (repeat (first | simp only [Act.put] | simp only [List.setIfInBounds_toArray] | simp only [List.set_cons_succ] | simp only [List.set_cons_zero]))
  refine wpAnyH_take (i := 5) (oi := ⟨some 69, _, _, _, _, _⟩) (v := ?_) rfl (by kernel_rfl) (by kernel_rfl) (by kernel_rfl) (fun _ _ _ h => h) (Or.inl ⟨by kernel_rfl, ?_⟩) (by assumption) ?_
  rotate_left
  · (intro w hSw; obtain ⟨hs0, hs1, hs2, hs3, hs4, hs5⟩ := six_of hSw.1; (try dsimp only at hSw); go_simp; try with_reducible rfl)
  (repeat (first | simp only [Act.put] | simp only [List.setIfInBounds_toArray] | simp only [List.set_cons_succ] | simp only [List.set_cons_zero]))
  refine wpAnyH_take (i := 6) (oi := ⟨some 70, _, _, _, _, _⟩) (v := ?_) rfl (by kernel_rfl) (by kernel_rfl) (by kernel_rfl) (fun _ _ _ h => h) (Or.inl ⟨by kernel_rfl, ?_⟩) (by assumption) ?_
  rotate_left
  · (intro w hSw; (try dsimp only at hSw); go_simp; try with_reducible rfl)
  (repeat (first | simp only [Act.put] | simp only [List.setIfInBounds_toArray] | simp only [List.set_cons_succ] | simp only [List.set_cons_zero]))
  refine wpAnyH_take (i := 7) (oi := ⟨some 71, _, _, _, _, _⟩) (v := ?_) rfl (by kernel_rfl) (by kernel_rfl) (by kernel_rfl) (fun _ _ _ h => h) (Or.inl ⟨by kernel_rfl, ?_⟩) (by assumption) ?_
  rotate_left
  · (intro w hSw; (try dsimp only at hSw); go_simp; try with_reducible rfl)
  (repeat (first | simp only [Act.put] | simp only [List.setIfInBounds_toArray] | simp only [List.set_cons_succ] | simp only [List.set_cons_zero]))
  refine wpAnyH_take (i := 8) (oi := ⟨some 72, _, _, _, _, _⟩) (v := ?_) rfl (by kernel_rfl) (by kernel_rfl) (by kernel_rfl) (fun _ _ _ h => h) (Or.inl ⟨by kernel_rfl, ?_⟩) (by assumption) ?_
  rotate_left
  · (intro w hSw; (try dsimp only at hSw); go_simp; try with_reducible rfl)
  (repeat (first | simp only [Act.put] | simp only [List.setIfInBounds_toArray] | simp only [List.set_cons_succ] | simp only [List.set_cons_zero]))
  refine wpAnyH_take (i := 9) (oi := ⟨some 73, _, _, _, _, _⟩) (v := ?_) rfl (by kernel_rfl) (by kernel_rfl) (by kernel_rfl) (fun _ _ _ h => h) (Or.inl ⟨by kernel_rfl, ?_⟩) (by assumption) ?_
  rotate_left
  · (intro w hSw; (try dsimp only at hSw); go_simp; try with_reducible rfl)
  (repeat (first | simp only [Act.put] | simp only [List.setIfInBounds_toArray] | simp only [List.set_cons_succ] | simp only [List.set_cons_zero]))
  refine wpAnyH_ready (rs := [10]) (by kernel_rfl) (by simp) ?_
  refine AllReadyH.cons (o := ⟨some 74, _, _, _, _, _⟩) rfl (fun K hK => ?_) AllReadyH.nil
  go_simp
  ((with_reducible refine (HDR.out).mono ?_); rintro e w7 ⟨rfl, h7⟩)
  have hO7 : Cl 32 w7 ob (OC o) := (h7.out.2.block _ (blk_lt hHeld.1) (fun e => HNE.out.1 (Option.some.inj e))).trans hHeld.1
  have hp7 : w7.cell? ⟨p, 0, none⟩ = some (.map (some m)) := (World.cell?_of_block (w := W6.drew) (a := ⟨p, 0, none⟩) (h7.out.2.block p (World.block_lt_of_cell? W6.drew ⟨p, 0, none⟩ hHeld.2) (fun e => HPG.out (Option.some.inj e)))).trans hHeld.2
  have hm7 : w7.ownsMap Try.prog 3 RV m 2 (mapD s1 s2) := by
    obtain ⟨es, clock, hb, F, hs, hD⟩ := HM6.out.1
    exact ⟨es, clock, (h7.out.2.block m (blk_lt hb) (fun e => HM6.out.2 (Option.some.inj e))).trans hb, F, hs, hD⟩
  obtain ⟨w8, hrun, hown8, hturn⟩ := hm7.store keyI Try.underlying56 (by decide) (keyOf_int_mk Try.underlying3 HWF.out) (show RV (.slice (some ⟨g, 0, none⟩) (R.length - 1) c) = some (.held (.slice (some ⟨g, 0, none⟩) (R.length - 1) c), []) from rfl)
  have HT := Lib.hid (And.intro hown8 hturn)
  clear hown8 hturn hm7
  refine hK.out _ _ (by exact ⟨hO7, hp7⟩) (fun hHeld => ?_)
  clear hK K
  (repeat (first | simp only [Act.put] | simp only [List.setIfInBounds_toArray] | simp only [List.set_cons_succ] | simp only [List.set_cons_zero]))
  refine wpAnyH_ready (rs := [11]) (by kernel_rfl) (by simp) ?_
  refine AllReadyH.cons (o := ⟨none, _, _, _, _, _⟩) rfl (fun K hK => ?_) AllReadyH.nil
  go_simp
  refine hK.out _ _ (by exact ⟨turn_keep HT.out.2 hHeld.1, turn_cell HT.out.2 hHeld.2⟩) (fun hHeld => ?_)
  clear hK K
  (repeat (first | simp only [Act.put] | simp only [List.setIfInBounds_toArray] | simp only [List.set_cons_succ] | simp only [List.set_cons_zero]))
  refine wpAnyH_done (by kernel_rfl) ?_ _
  have hO8 : Cl 32 w8 ob (OC o) := hHeld.1
  have hZ8 : Cl 32 w8 rb (OC ⟨0, 0, 0, 0, 0, 0⟩) := turn_keep HT.out.2 ((h7.out.2.block _ (blk_lt HZ6.out) (fun e => HNE.out.2.2.1 (Option.some.inj e))).trans HZ6.out)
  have HZ8 := Lib.hid hZ8
  have HB8 : Hid (Fr (fun j => j = m ∨ (Value.slice (some ⟨g, 0, none⟩) R.length c).ownBlock = some j ∨ (Value.slice (some ⟨g2, 0, none⟩) qn qc).ownBlock = some j) w w8) := by
    have f1 : Fr (fun j => j = m ∨ (Value.slice (some ⟨g, 0, none⟩) R.length c).ownBlock = some j ∨ (Value.slice (some ⟨g2, 0, none⟩) qn qc).ownBlock = some j) w W6.drew := (HF6.out.2.2.mono (fun j h => .inl (.inr h))).drew
    exact (f1.grown h7.out.2 (fun j e => .inl (.inr (.inl e)))).grown HT.out.2.grown (fun j e => .inl (.inl (Option.some.inj e).symm))
  obtain ⟨x0, x1, x2, x3, x4, x5⟩ := six_of hO8
  obtain ⟨z0', z1', z2', z3', z4', z5'⟩ := six_of hZ8
  have g0 := hZ8.f (k := 0)
  have g1 := hZ8.f (k := 1)
  have g2' := hZ8.f (k := 2)
  have g3 := hZ8.f (k := 3)
  have g4 := hZ8.f (k := 4)
  have g5 := hZ8.f (k := 5)
  clear hO8 hZ8 hHeld hp7 hO7 hrun hp6 hO6 z5 f5
  go_wp2_with fail
  have hf := put6_cl o HZ8.out
  refine bodyPost_ret (retOt rfl _ _ _ rfl o _ hf _ rfl) rfl ?_
  refine ⟨rfl, .slice (some ⟨g, 0, none⟩) (R.length - 1) c, Lib.hid ?_⟩
  (try rw [HV.out.1])
  (try rw [HV.out.2.1])
  have hne := HNE.out
  refine ⟨own_fr (own_turn HT.out.2 h7.out.1) (put6_fr _ rb o) (fun j hj e => ?_), ownsMap_fr HT.out.1 (put6_fr _ rb o) (fun e => ?_), HB8.out.trans (put6_fr _ rb o) (fun j e => .inr (by omega)), rfl⟩
  · injection hj with hj
    exact hne.2.2.1 (by rw [← e, ← hj])
  · exact map_ne HT.out.1 HZ8.out e.symm
end Go.Proofs.Ytemmbgbmkihbaaa

/- ladder: Take, whole. (By mkled.py.) -/
namespace Go.Proofs.Ytemmbgbmkihbaaa
open Go.RowKit Go.Shelf Go.Sort Go.Maps

/-- A book that has turned. -/
structure TurnIs (w w' : World) (p m : Nat) (s1 s2 s1' s2' : Sd) : Prop where
  wh : Whole w' p m s1' s2'
  fr : Fr (foot (some ⟨p, 0, none⟩) (some m) s1 s2) w w'
  ft : ∀ k, foot (some ⟨p, 0, none⟩) (some m) s1' s2' k → foot (some ⟨p, 0, none⟩) (some m) s1 s2 k ∨ w.heap.size ≤ k
/-- What is there when an order was taken away. -/
structure TakeIs (w w' : World) (p m : Nat) (s1 s2 s1' s2' : Sd) (o : Od) : Prop where
  tu : TurnIs w w' p m s1 s2 s1' s2'
  perm : (bookL s1.rs s2.rs).Perm (o :: bookL s1'.rs s2'.rs)
  e2 : o.side = 1 → s2' = s2
  e1 : o.side = 2 → s1' = s1
theorem ahd_irr (x : Od) : ahdO x x = false := by
  cases h : ahdO x x with
  | false => rfl
  | true => have := lt_of_ahd h; rw [lt_irr] at this; cases this
theorem bet_irr (s a : Int) : betN s a a = false := by
  cases h : betN s a a with
  | false => rfl
  | true => have := (bet_iff s a a).1 h; omega
theorem que_place {o : Od} {q : List Od} (hp : q.Pairwise (fun x y => ahdO x y = true)) (ho : o ∈ q) : plN o q < q.length ∧ q[plN o q]! = o := by
  obtain ⟨h1, h2⟩ := split_pw (fun x => ahdO x o) q (que_mono hp)
  have hd : o ∈ q.drop (plN o q) := by
    have := ho
    rw [← List.take_append_drop (plN o q) q] at this
    rcases List.mem_append.1 this with h | h
    · have h' : ahdO o o = true := h1 o h
      rw [ahd_irr] at h'; cases h'
    · exact h
  cases e : q.drop (plN o q) with
  | nil => rw [e] at hd; cases hd
  | cons y rest =>
    have hlt : plN o q < q.length := by
      rcases Nat.lt_or_ge (plN o q) q.length with h | h
      · exact h
      · rw [List.drop_eq_nil_of_le h] at e; cases e
    refine ⟨hlt, ?_⟩
    have hy : q[plN o q]! = y := by
      rw [getElem!_pos q _ hlt]
      have := List.drop_eq_getElem_cons hlt
      rw [e] at this
      injection this with a _
      exact a.symm
    rw [hy]
    rw [e] at hd
    rcases List.mem_cons.1 hd with h | h
    · exact h.symm
    · exfalso
      have hpd : (q.drop (plN o q)).Pairwise (fun x y => ahdO x y = true) := List.Pairwise.sublist (List.drop_sublist _ _) hp
      rw [e, List.pairwise_cons] at hpd
      have a := hpd.1 o h
      have b : ahdO y o = false := h2 y (by show y ∈ q.drop (plN o q); rw [e]; exact List.mem_cons_self)
      rw [a] at b; cases b
theorem row_place {s : Int} {o : Od} {R : List Rw} (hs : s = 1 ∨ s = 2) (h : SideOk s R) (ho : o ∈ flatR R) : atN s o.price R < R.length ∧ (R[atN s o.price R]!).pr = o.price ∧ o ∈ (R[atN s o.price R]!).q := by
  obtain ⟨r, hr, hor⟩ := List.mem_flatMap.1 ho
  have hp : r.pr = o.price := (h.mem r hr o hor).2.symm
  obtain ⟨h1, h2, h3, h4⟩ := row_split (p := o.price) hs h.rows
  have hd : r ∈ R.drop (atN s o.price R) := by
    have := hr
    rw [← List.take_append_drop (atN s o.price R) R] at this
    rcases List.mem_append.1 this with h' | h'
    · have h'' := h1 r h'
      rw [hp, bet_irr] at h''; cases h''
    · exact h'
  cases e : R.drop (atN s o.price R) with
  | nil => rw [e] at hd; cases hd
  | cons y rest =>
    have hlt : atN s o.price R < R.length := by
      rcases Nat.lt_or_ge (atN s o.price R) R.length with h' | h'
      · exact h'
      · rw [List.drop_eq_nil_of_le h'] at e; cases e
    have hy : R[atN s o.price R]! = y := by
      rw [getElem!_pos R _ hlt]
      have := List.drop_eq_getElem_cons hlt
      rw [e] at this
      injection this with a _
      exact a.symm
    rw [hy]
    rw [e] at hd
    have hry : r = y := by
      by_cases hyp : y.pr = o.price
      · rcases List.mem_cons.1 hd with h' | h'
        · exact h'
        · have := h4 y rest e hyp r h'
          rw [hp, bet_irr] at this; cases this
      · have := h3 y rest e hyp r hd
        rw [hp, bet_irr] at this; cases this
    rw [← hry]
    exact ⟨hlt, hp, hor⟩
theorem era_perm {q : List Od} {i : Nat} {o : Od} (h : i < q.length) (e : q[i]! = o) : q.Perm (o :: q.eraseIdx i) := by
  rw [getElem!_pos q i h] at e
  have h1 : q = q.take i ++ o :: q.drop (i + 1) := by
    rw [← e, ← List.drop_eq_getElem_cons h, List.take_append_drop]
  rw [List.eraseIdx_eq_take_drop_succ]
  conv => lhs; rw [h1]
  exact List.perm_middle
theorem ids_inj : ∀ {L : List Od}, L.Pairwise (fun x y => ¬ x.id = y.id) → ∀ {x y : Od}, x ∈ L → y ∈ L → x.id = y.id → x = y
  | [], _, _, _, hx, _, _ => by cases hx
  | a :: L, h, x, y, hx, hy, e => by
    rw [List.pairwise_cons] at h
    rcases List.mem_cons.1 hx with rfl | hx'
    · rcases List.mem_cons.1 hy with rfl | hy'
      · rfl
      · exact absurd e (h.1 y hy')
    · rcases List.mem_cons.1 hy with rfl | hy'
      · exact absurd e.symm (h.1 x hx')
      · exact ids_inj h.2 hx' hy' e
theorem flat_take {A B M X : List Rw} {o : Od} (h : (flatR M).Perm (o :: flatR X)) : (flatR (A ++ M ++ B)).Perm (o :: flatR (A ++ X ++ B)) := by
  have e : ∀ Y : List Rw, flatR (A ++ Y ++ B) = flatR A ++ flatR Y ++ flatR B := fun Y => by unfold flatR; rw [List.flatMap_append, List.flatMap_append]
  rw [e, e]
  refine ((h.append_left _).append_right _).trans ?_
  rw [List.append_assoc, List.cons_append]
  refine List.perm_middle.trans ?_
  rw [List.append_assoc]
/-- Side 1 has turned: what follows of the cells. -/
theorem turn_side1 {w w' : World} {p m : Nat} {s1 s2 : Sd} {A B M X : List Rw} {v2 : Value} (H : Whole w p m s1 s2)
    (hR : s1.rs = A ++ M ++ B) (hX : Swap w.heap.size M X) (hv2 : v2.ownBlock = s1.v.ownBlock ∨ ∃ j, v2.ownBlock = some j ∧ w.heap.size ≤ j)
    (hx : ∀ r ∈ X, w'.ownsRow 0 32 6 r.v r.q.length (ol r.q)) (hr : w'.ownsRow 0 87 2 v2 (A ++ X ++ B).length (rl (A ++ X ++ B))) (hm : w'.ownsMap Try.prog 3 RV m 2 (mapD ⟨true, v2, A ++ X ++ B⟩ s2)) (hF : Fr (TurnS m s1.v M) w w')
    (c1 : SideOk 1 (A ++ X ++ B)) (hids : (bookL (A ++ X ++ B) s2.rs).Pairwise (fun x y => ¬ x.id = y.id)) (hlen : (bookL (A ++ X ++ B) s2.rs).length ≤ 64) (hgood : ∀ x ∈ bookL (A ++ X ++ B) s2.rs, Od.ok w x ∧ goodO x = true) : TurnIs w w' p m s1 s2 ⟨true, v2, A ++ X ++ B⟩ s2 := by
  obtain ⟨b1, b2, b3⟩ := swap1 H hR hX hv2 hx hr hm hF
  refine ⟨⟨b1, c1, H.ok2, b2, b3, hids, hlen, hgood⟩, ?_, ?_⟩
  · refine hF.mono (fun k hk => .inl ?_)
    rcases hk with rfl | e | ⟨r, hr, e⟩
    · exact .inr (.inl rfl)
    · exact .inr (.inr (.inl e))
    · exact .inr (.inr (.inr (.inr ⟨r, List.mem_append_left _ (by rw [hR]; simp [hr]), e⟩)))
  · intro k hk
    have hn : ∀ u : Value, (u.ownBlock = s1.v.ownBlock ∨ ∃ j, u.ownBlock = some j ∧ w.heap.size ≤ j) → u.ownBlock = some k → foot (some ⟨p, 0, none⟩) (some m) s1 s2 k ∨ w.heap.size ≤ k := by
      intro u hu e
      rcases hu with e' | ⟨j, e', hj⟩
      · rw [e'] at e; exact .inl (.inr (.inr (.inl e)))
      · rw [e'] at e; injection e with e; exact .inr (by omega)
    rcases hk with e | e | e | e | ⟨r, hr, e⟩
    · exact .inl (.inl e)
    · exact .inl (.inr (.inl e))
    · exact hn v2 hv2 e
    · exact .inl (.inr (.inr (.inr (.inl e))))
    · have hr' : r ∈ X ∨ r ∈ s1.rs ++ s2.rs := by
        have hr2 : r ∈ A ++ X ++ B ++ s2.rs := hr
        rw [hR]
        simp only [List.mem_append] at hr2 ⊢
        rcases hr2 with ((h | h) | h) | h
        · exact .inr (.inl (.inl (.inl h)))
        · exact .inl h
        · exact .inr (.inl (.inr h))
        · exact .inr (.inr h)
      rcases hr' with h | h
      · rcases hX.2 with rfl | ⟨x, rfl, hx'⟩
        · cases h
        · obtain rfl := List.mem_singleton.1 h
          rcases hx' with ⟨y, rfl, e'⟩ | ⟨j, e', hj⟩
          · rw [e'] at e
            exact .inl (.inr (.inr (.inr (.inr ⟨y, List.mem_append_left _ (by rw [hR]; simp), e⟩))))
          · rw [e'] at e; injection e with e; exact .inr (by omega)
      · exact .inl (.inr (.inr (.inr (.inr ⟨r, h, e⟩))))
theorem take_side1 {w w' : World} {p m : Nat} {s1 s2 : Sd} {A B M X : List Rw} {v2 : Value} {o : Od} (H : Whole w p m s1 s2) (hs : o.side = 1)
    (hR : s1.rs = A ++ M ++ B) (hX : Swap w.heap.size M X) (hv2 : v2.ownBlock = s1.v.ownBlock ∨ ∃ j, v2.ownBlock = some j ∧ w.heap.size ≤ j)
    (hx : ∀ r ∈ X, w'.ownsRow 0 32 6 r.v r.q.length (ol r.q)) (hr : w'.ownsRow 0 87 2 v2 (A ++ X ++ B).length (rl (A ++ X ++ B))) (hm : w'.ownsMap Try.prog 3 RV m 2 (mapD ⟨true, v2, A ++ X ++ B⟩ s2)) (hF : Fr (TurnS m s1.v M) w w')
    (c1 : SideOk 1 (A ++ X ++ B)) (hP : (flatR M).Perm (o :: flatR X)) : TakeIs w w' p m s1 s2 ⟨true, v2, A ++ X ++ B⟩ s2 o := by
  have hperm : (bookL s1.rs s2.rs).Perm (o :: bookL (A ++ X ++ B) s2.rs) := by
    unfold bookL
    rw [hR]
    exact (flat_take hP).append_right _
  have hids := List.pairwise_cons.1 (ids_perm hperm.symm H.ids)
  have hl := hperm.length_eq
  rw [List.length_cons] at hl
  refine ⟨turn_side1 H hR hX hv2 hx hr hm hF c1 hids.2 (by have := H.len; omega) (fun x hx => H.ok x (hperm.mem_iff.2 (List.mem_cons_of_mem _ hx))), hperm, fun _ => rfl, (fun h => by rw [hs] at h; cases h)⟩
/-- Side 2 has turned: what follows of the cells. -/
theorem turn_side2 {w w' : World} {p m : Nat} {s1 s2 : Sd} {A B M X : List Rw} {v2 : Value} (H : Whole w p m s1 s2)
    (hR : s2.rs = A ++ M ++ B) (hX : Swap w.heap.size M X) (hv2 : v2.ownBlock = s2.v.ownBlock ∨ ∃ j, v2.ownBlock = some j ∧ w.heap.size ≤ j)
    (hx : ∀ r ∈ X, w'.ownsRow 0 32 6 r.v r.q.length (ol r.q)) (hr : w'.ownsRow 0 87 2 v2 (A ++ X ++ B).length (rl (A ++ X ++ B))) (hm : w'.ownsMap Try.prog 3 RV m 2 (mapD s1 ⟨true, v2, A ++ X ++ B⟩)) (hF : Fr (TurnS m s2.v M) w w')
    (c1 : SideOk 2 (A ++ X ++ B)) (hids : (bookL s1.rs (A ++ X ++ B)).Pairwise (fun x y => ¬ x.id = y.id)) (hlen : (bookL s1.rs (A ++ X ++ B)).length ≤ 64) (hgood : ∀ x ∈ bookL s1.rs (A ++ X ++ B), Od.ok w x ∧ goodO x = true) : TurnIs w w' p m s1 s2 s1 ⟨true, v2, A ++ X ++ B⟩ := by
  obtain ⟨b1, b2, b3⟩ := swap2 H hR hX hv2 hx hr hm hF
  refine ⟨⟨b1, H.ok1, c1, b2, b3, hids, hlen, hgood⟩, ?_, ?_⟩
  · refine hF.mono (fun k hk => .inl ?_)
    rcases hk with rfl | e | ⟨r, hr, e⟩
    · exact .inr (.inl rfl)
    · exact .inr (.inr (.inr (.inl e)))
    · exact .inr (.inr (.inr (.inr ⟨r, List.mem_append_right _ (by rw [hR]; simp [hr]), e⟩)))
  · intro k hk
    have hn : ∀ u : Value, (u.ownBlock = s2.v.ownBlock ∨ ∃ j, u.ownBlock = some j ∧ w.heap.size ≤ j) → u.ownBlock = some k → foot (some ⟨p, 0, none⟩) (some m) s1 s2 k ∨ w.heap.size ≤ k := by
      intro u hu e
      rcases hu with e' | ⟨j, e', hj⟩
      · rw [e'] at e; exact .inl (.inr (.inr (.inr (.inl e))))
      · rw [e'] at e; injection e with e; exact .inr (by omega)
    rcases hk with e | e | e | e | ⟨r, hr, e⟩
    · exact .inl (.inl e)
    · exact .inl (.inr (.inl e))
    · exact .inl (.inr (.inr (.inl e)))
    · exact hn v2 hv2 e
    · have hr' : r ∈ X ∨ r ∈ s1.rs ++ s2.rs := by
        have hr2 : r ∈ s1.rs ++ (A ++ X ++ B) := hr
        rw [hR]
        simp only [List.mem_append] at hr2 ⊢
        rcases hr2 with h | (h | h) | h
        · exact .inr (.inl h)
        · exact .inr (.inr (.inl (.inl h)))
        · exact .inl h
        · exact .inr (.inr (.inr h))
      rcases hr' with h | h
      · rcases hX.2 with rfl | ⟨x, rfl, hx'⟩
        · cases h
        · obtain rfl := List.mem_singleton.1 h
          rcases hx' with ⟨y, rfl, e'⟩ | ⟨j, e', hj⟩
          · rw [e'] at e
            exact .inl (.inr (.inr (.inr (.inr ⟨y, List.mem_append_right _ (by rw [hR]; simp), e⟩))))
          · rw [e'] at e; injection e with e; exact .inr (by omega)
      · exact .inl (.inr (.inr (.inr (.inr ⟨r, h, e⟩))))
theorem take_side2 {w w' : World} {p m : Nat} {s1 s2 : Sd} {A B M X : List Rw} {v2 : Value} {o : Od} (H : Whole w p m s1 s2) (hs : o.side = 2)
    (hR : s2.rs = A ++ M ++ B) (hX : Swap w.heap.size M X) (hv2 : v2.ownBlock = s2.v.ownBlock ∨ ∃ j, v2.ownBlock = some j ∧ w.heap.size ≤ j)
    (hx : ∀ r ∈ X, w'.ownsRow 0 32 6 r.v r.q.length (ol r.q)) (hr : w'.ownsRow 0 87 2 v2 (A ++ X ++ B).length (rl (A ++ X ++ B))) (hm : w'.ownsMap Try.prog 3 RV m 2 (mapD s1 ⟨true, v2, A ++ X ++ B⟩)) (hF : Fr (TurnS m s2.v M) w w')
    (c1 : SideOk 2 (A ++ X ++ B)) (hP : (flatR M).Perm (o :: flatR X)) : TakeIs w w' p m s1 s2 s1 ⟨true, v2, A ++ X ++ B⟩ o := by
  have hperm : (bookL s1.rs s2.rs).Perm (o :: bookL s1.rs (A ++ X ++ B)) := by
    unfold bookL
    rw [hR]
    exact ((flat_take hP).append_left _).trans List.perm_middle
  have hids := List.pairwise_cons.1 (ids_perm hperm.symm H.ids)
  have hl := hperm.length_eq
  rw [List.length_cons] at hl
  refine ⟨turn_side2 H hR hX hv2 hx hr hm hF c1 hids.2 (by have := H.len; omega) (fun x hx => H.ok x (hperm.mem_iff.2 (List.mem_cons_of_mem _ hx))), hperm, (fun h => by rw [hs] at h; cases h), fun _ => rfl⟩
set_option maxHeartbeats 4000000 in
set_option maxRecDepth 100000 in
theorem take_w1 (p m : Nat) (s1 s2 : Sd) (o : Od) (id : Int) (w : World) (H : Whole w p m s1 s2) (ho : o ∈ bookL s1.rs s2.rs) (hid : o.id = id) (hs : o.side = 1) :
    Calls Try.prog 12 #[.pointer (some ⟨p, 0, none⟩), .int .u64 id] w fun e w' => e = .returned (.tuple #[optV (some o), .bool true]) ∧ ∃ s1' s2', Hid (TakeIs w w' p m s1 s2 s1' s2' o) := by
  have hwf : (Lit.int .i64 o.side).wf = true := by rw [hs]; decide
  have hR : rsOf s1 s2 o.side = s1.rs := by rw [hs]; rfl
  have hv : rowsOf s1 s2 o.side = s1.v := by rw [hs]; rfl
  have hpw : s1.rs.Pairwise (fun a b => betN o.side a.pr b.pr = true) := by rw [hs]; exact H.ok1.rows
  have hn := H.n1
  have HGet : Hid (∀ W, Below w.heap.size w W → Calls Try.prog 24 #[.pointer (some ⟨p, 0, none⟩), .int .u64 id] W fun e w' => e = .returned (.tuple #[optV (some o), .bool true]) ∧ Hid (Below W.heap.size W w')) := fun W hW => by
    refine (lGet_c _ _ s1 s2 id W (H.bk.below hW) (by omega) (by omega) (by omega)).mono ?_
    rintro e w' ⟨r, rfl, h⟩
    obtain rfl : r = some o := by
      cases r with
      | none => exact absurd hid (h.out.1 o ho)
      | some y => rw [ids_inj H.ids h.out.1.1 ho (h.out.1.2.trans hid.symm)]
    exact ⟨rfl, Lib.hid h.out.2⟩
  have hfl : o ∈ flatR s1.rs := by
    unfold bookL at ho
    rcases List.mem_append.1 ho with h | h
    · exact h
    · have := flat_side H.ok2 o h; rw [hs] at this; cases this
  obtain ⟨hkl, hp, hoq⟩ := row_place (.inl rfl) H.ok1 hfl
  obtain ⟨k, hk⟩ : ∃ k, atN 1 o.price s1.rs = k := ⟨_, rfl⟩
  rw [hk] at hkl hp hoq
  have hk' : atN o.side o.price s1.rs = k := by rw [hs]; exact hk
  have hmem : s1.rs[k]! ∈ s1.rs := by rw [getElem!_pos s1.rs k hkl]; exact List.getElem_mem hkl
  have hql : (s1.rs[k]!).q.length ≤ 1000 := by
    have h1 : (s1.rs[k]!).q.length ≤ lenQ (s1.rs ++ s2.rs) := lenQ_pre (x := ⟨s1.rs[k]!, List.mem_append_left _ hmem⟩)
    omega
  have hqp := H.ok1.que _ hmem
  obtain ⟨hil, hio⟩ := que_place hqp hoq
  obtain ⟨i, hi⟩ : ∃ i, plN o (s1.rs[k]!).q = i := ⟨_, rfl⟩
  rw [hi] at hil hio
  have hsp := split_at s1.rs k hkl
  have hsid : SideOk 1 (s1.rs.take k ++ [s1.rs[k]!] ++ s1.rs.drop (k + 1)) := by rw [← hsp]; exact H.ok1
  have hth : s1.there = true := (map_there H).1 (fun e => by rw [e] at hkl; exact absurd hkl (Nat.not_lt_zero _))
  have hep := era_perm hil hio
  have hsplit := row_split (s := 1) (p := o.price) (.inl rfl) H.ok1.rows
  rw [hk] at hsplit
  by_cases h2 : 2 ≤ (s1.rs[k]!).q.length
  · refine (take_more p m s1 s2 o id w H.bk hwf HGet s1.rs hR hpw (by omega) k hk' hkl hp hqp hql i hi hil h2).mono fun e w' ⟨he, v', hh⟩ => ⟨he, ?_⟩
    obtain ⟨h1, h2', h3, h4⟩ := hh.out
    rw [hv] at h2' h3
    have he2 : s1.rs.take k ++ (⟨o.price, v', (s1.rs[k]!).q.eraseIdx i⟩ : Rw) :: s1.rs.drop (k + 1) = s1.rs.take k ++ [⟨o.price, v', (s1.rs[k]!).q.eraseIdx i⟩] ++ s1.rs.drop (k + 1) := by rw [List.append_assoc]; rfl
    have hmm : w'.ownsMap Try.prog 3 RV m 2 (mapD s1 s2) := ownsMap_fr (H.bk.mp m rfl) h3 (fun hS => by
      rcases hS with e | e
      · obtain ⟨cs, hcs⟩ := own_blk H.bk.r1 e
        exact map_ne (H.bk.mp m rfl) hcs rfl
      · obtain ⟨cs, hcs⟩ := own_blk (H.bk.q _ (List.mem_append_left _ hmem)) e
        exact map_ne (H.bk.mp m rfl) hcs rfl)
    have hse : SideOk 1 (s1.rs.take k ++ (⟨o.price, v', (s1.rs[k]!).q.eraseIdx i⟩ : Rw) :: s1.rs.drop (k + 1)) :=
      side_set (p := o.price) hsplit.1 (fun b hb => hsplit.2.2.2 _ _ (by rw [getElem!_pos s1.rs k hkl]; exact List.drop_eq_getElem_cons hkl) hp b hb) hsid rfl (by intro e; have := congrArg List.length e; rw [List.length_eraseIdx, if_pos hil] at this; simp only [List.length_nil] at this; omega)
        (fun x hx => by rw [← hp]; exact H.ok1.mem _ hmem x ((List.eraseIdx_sublist _ _).subset hx)) (hqp.sublist (List.eraseIdx_sublist _ _))
    rw [he2] at h2' hse
    refine ⟨_, _, Lib.hid (take_side1 (v2 := s1.v) H hs hsp ⟨.inr ⟨_, rfl⟩, .inr ⟨_, rfl, .inl ⟨_, rfl, h4⟩⟩⟩ (.inl rfl) (fun r hr => ?_) ?_ ?_ ?_ hse ?_)⟩
    · rw [List.mem_singleton.1 hr]
      show w'.ownsRow 0 32 6 v' ((s1.rs[k]!).q.eraseIdx i).length _
      rw [List.length_eraseIdx, if_pos hil]; exact h1
    · rw [← he2, set_len _ _ hkl, he2]; exact h2'
    · have : mapD ⟨true, s1.v, s1.rs.take k ++ [⟨o.price, v', (s1.rs[k]!).q.eraseIdx i⟩] ++ s1.rs.drop (k + 1)⟩ s2 = mapD s1 s2 := by
        unfold mapD
        rw [hth]
      rw [this]; exact hmm
    · refine h3.mono (fun j hj => .inl ?_)
      rcases hj with e | e
      · exact .inr (.inl e)
      · exact .inr (.inr ⟨_, List.mem_singleton.2 rfl, e⟩)
    · unfold flatR
      simpa using hep
  · have hq1 : (s1.rs[k]!).q.length = 1 := by omega
    refine (take_last p m s1 s2 o id w H.bk hwf HGet s1.rs hR hpw (by omega) k hk' hkl hp hqp hql i hi hil hq1).mono fun e w' ⟨he, v2, hh⟩ => ⟨he, ?_⟩
    obtain ⟨h1, h2', h3, h4⟩ := hh.out
    rw [hv] at h3 h4
    rw [hs, map_put1 s1 s2 v2 (s1.rs.take k ++ [] ++ s1.rs.drop (k + 1))] at h2'
    have hnil : (s1.rs[k]!).q.eraseIdx i = [] := List.length_eq_zero_iff.1 (by rw [List.length_eraseIdx, if_pos hil]; omega)
    refine ⟨_, _, Lib.hid (take_side1 (X := []) (v2 := v2) H hs hsp ⟨.inr ⟨_, rfl⟩, .inl rfl⟩ (.inl h4) (fun r hr => by cases hr) ?_ (map_two h2') ?_ ?_ ?_)⟩
    · have hln : (s1.rs.take k ++ [] ++ s1.rs.drop (k + 1)).length = s1.rs.length - 1 := by
        simp only [List.append_nil, List.length_append, List.length_take, List.length_drop]; omega
      rw [hln, List.append_nil]; exact h1
    · refine h3.mono (fun j hj => .inl ?_)
      rcases hj with e | e | e
      · exact .inl e
      · exact .inr (.inl e)
      · exact .inr (.inr ⟨_, List.mem_singleton.2 rfl, e⟩)
    · rw [List.append_nil]; exact side_drop hsid
    · rw [hnil] at hep
      unfold flatR
      simpa using hep
set_option maxHeartbeats 4000000 in
set_option maxRecDepth 100000 in
theorem take_w2 (p m : Nat) (s1 s2 : Sd) (o : Od) (id : Int) (w : World) (H : Whole w p m s1 s2) (ho : o ∈ bookL s1.rs s2.rs) (hid : o.id = id) (hs : o.side = 2) :
    Calls Try.prog 12 #[.pointer (some ⟨p, 0, none⟩), .int .u64 id] w fun e w' => e = .returned (.tuple #[optV (some o), .bool true]) ∧ ∃ s1' s2', Hid (TakeIs w w' p m s1 s2 s1' s2' o) := by
  have hwf : (Lit.int .i64 o.side).wf = true := by rw [hs]; decide
  have hR : rsOf s1 s2 o.side = s2.rs := by rw [hs]; rfl
  have hv : rowsOf s1 s2 o.side = s2.v := by rw [hs]; rfl
  have hpw : s2.rs.Pairwise (fun a b => betN o.side a.pr b.pr = true) := by rw [hs]; exact H.ok2.rows
  have hn := H.n1
  have HGet : Hid (∀ W, Below w.heap.size w W → Calls Try.prog 24 #[.pointer (some ⟨p, 0, none⟩), .int .u64 id] W fun e w' => e = .returned (.tuple #[optV (some o), .bool true]) ∧ Hid (Below W.heap.size W w')) := fun W hW => by
    refine (lGet_c _ _ s1 s2 id W (H.bk.below hW) (by omega) (by omega) (by omega)).mono ?_
    rintro e w' ⟨r, rfl, h⟩
    obtain rfl : r = some o := by
      cases r with
      | none => exact absurd hid (h.out.1 o ho)
      | some y => rw [ids_inj H.ids h.out.1.1 ho (h.out.1.2.trans hid.symm)]
    exact ⟨rfl, Lib.hid h.out.2⟩
  have hfl : o ∈ flatR s2.rs := by
    unfold bookL at ho
    rcases List.mem_append.1 ho with h | h
    · have := flat_side H.ok1 o h; rw [hs] at this; cases this
    · exact h
  obtain ⟨hkl, hp, hoq⟩ := row_place (.inr rfl) H.ok2 hfl
  obtain ⟨k, hk⟩ : ∃ k, atN 2 o.price s2.rs = k := ⟨_, rfl⟩
  rw [hk] at hkl hp hoq
  have hk' : atN o.side o.price s2.rs = k := by rw [hs]; exact hk
  have hmem : s2.rs[k]! ∈ s2.rs := by rw [getElem!_pos s2.rs k hkl]; exact List.getElem_mem hkl
  have hql : (s2.rs[k]!).q.length ≤ 1000 := by
    have h1 : (s2.rs[k]!).q.length ≤ lenQ (s1.rs ++ s2.rs) := lenQ_pre (x := ⟨s2.rs[k]!, List.mem_append_right _ hmem⟩)
    omega
  have hqp := H.ok2.que _ hmem
  obtain ⟨hil, hio⟩ := que_place hqp hoq
  obtain ⟨i, hi⟩ : ∃ i, plN o (s2.rs[k]!).q = i := ⟨_, rfl⟩
  rw [hi] at hil hio
  have hsp := split_at s2.rs k hkl
  have hsid : SideOk 2 (s2.rs.take k ++ [s2.rs[k]!] ++ s2.rs.drop (k + 1)) := by rw [← hsp]; exact H.ok2
  have hth : s2.there = true := (map_there H).2 (fun e => by rw [e] at hkl; exact absurd hkl (Nat.not_lt_zero _))
  have hep := era_perm hil hio
  have hsplit := row_split (s := 2) (p := o.price) (.inr rfl) H.ok2.rows
  rw [hk] at hsplit
  by_cases h2 : 2 ≤ (s2.rs[k]!).q.length
  · refine (take_more p m s1 s2 o id w H.bk hwf HGet s2.rs hR hpw (by omega) k hk' hkl hp hqp hql i hi hil h2).mono fun e w' ⟨he, v', hh⟩ => ⟨he, ?_⟩
    obtain ⟨h1, h2', h3, h4⟩ := hh.out
    rw [hv] at h2' h3
    have he2 : s2.rs.take k ++ (⟨o.price, v', (s2.rs[k]!).q.eraseIdx i⟩ : Rw) :: s2.rs.drop (k + 1) = s2.rs.take k ++ [⟨o.price, v', (s2.rs[k]!).q.eraseIdx i⟩] ++ s2.rs.drop (k + 1) := by rw [List.append_assoc]; rfl
    have hmm : w'.ownsMap Try.prog 3 RV m 2 (mapD s1 s2) := ownsMap_fr (H.bk.mp m rfl) h3 (fun hS => by
      rcases hS with e | e
      · obtain ⟨cs, hcs⟩ := own_blk H.bk.r2 e
        exact map_ne (H.bk.mp m rfl) hcs rfl
      · obtain ⟨cs, hcs⟩ := own_blk (H.bk.q _ (List.mem_append_right _ hmem)) e
        exact map_ne (H.bk.mp m rfl) hcs rfl)
    have hse : SideOk 2 (s2.rs.take k ++ (⟨o.price, v', (s2.rs[k]!).q.eraseIdx i⟩ : Rw) :: s2.rs.drop (k + 1)) :=
      side_set (p := o.price) hsplit.1 (fun b hb => hsplit.2.2.2 _ _ (by rw [getElem!_pos s2.rs k hkl]; exact List.drop_eq_getElem_cons hkl) hp b hb) hsid rfl (by intro e; have := congrArg List.length e; rw [List.length_eraseIdx, if_pos hil] at this; simp only [List.length_nil] at this; omega)
        (fun x hx => by rw [← hp]; exact H.ok2.mem _ hmem x ((List.eraseIdx_sublist _ _).subset hx)) (hqp.sublist (List.eraseIdx_sublist _ _))
    rw [he2] at h2' hse
    refine ⟨_, _, Lib.hid (take_side2 (v2 := s2.v) H hs hsp ⟨.inr ⟨_, rfl⟩, .inr ⟨_, rfl, .inl ⟨_, rfl, h4⟩⟩⟩ (.inl rfl) (fun r hr => ?_) ?_ ?_ ?_ hse ?_)⟩
    · rw [List.mem_singleton.1 hr]
      show w'.ownsRow 0 32 6 v' ((s2.rs[k]!).q.eraseIdx i).length _
      rw [List.length_eraseIdx, if_pos hil]; exact h1
    · rw [← he2, set_len _ _ hkl, he2]; exact h2'
    · have : mapD s1 ⟨true, s2.v, s2.rs.take k ++ [⟨o.price, v', (s2.rs[k]!).q.eraseIdx i⟩] ++ s2.rs.drop (k + 1)⟩ = mapD s1 s2 := by
        unfold mapD
        rw [hth]
      rw [this]; exact hmm
    · refine h3.mono (fun j hj => .inl ?_)
      rcases hj with e | e
      · exact .inr (.inl e)
      · exact .inr (.inr ⟨_, List.mem_singleton.2 rfl, e⟩)
    · unfold flatR
      simpa using hep
  · have hq1 : (s2.rs[k]!).q.length = 1 := by omega
    refine (take_last p m s1 s2 o id w H.bk hwf HGet s2.rs hR hpw (by omega) k hk' hkl hp hqp hql i hi hil hq1).mono fun e w' ⟨he, v2, hh⟩ => ⟨he, ?_⟩
    obtain ⟨h1, h2', h3, h4⟩ := hh.out
    rw [hv] at h3 h4
    rw [hs, map_put2 s1 s2 v2 (s2.rs.take k ++ [] ++ s2.rs.drop (k + 1))] at h2'
    have hnil : (s2.rs[k]!).q.eraseIdx i = [] := List.length_eq_zero_iff.1 (by rw [List.length_eraseIdx, if_pos hil]; omega)
    refine ⟨_, _, Lib.hid (take_side2 (X := []) (v2 := v2) H hs hsp ⟨.inr ⟨_, rfl⟩, .inl rfl⟩ (.inl h4) (fun r hr => by cases hr) ?_ (map_two h2') ?_ ?_ ?_)⟩
    · have hln : (s2.rs.take k ++ [] ++ s2.rs.drop (k + 1)).length = s2.rs.length - 1 := by
        simp only [List.append_nil, List.length_append, List.length_take, List.length_drop]; omega
      rw [hln, List.append_nil]; exact h1
    · refine h3.mono (fun j hj => .inl ?_)
      rcases hj with e | e | e
      · exact .inl e
      · exact .inr (.inl e)
      · exact .inr (.inr ⟨_, List.mem_singleton.2 rfl, e⟩)
    · rw [List.append_nil]; exact side_drop hsid
    · rw [hnil] at hep
      unfold flatR
      simpa using hep
theorem lTake_c (p m : Nat) (s1 s2 : Sd) (o : Od) (id : Int) (w : World) (H : Whole w p m s1 s2) (ho : o ∈ bookL s1.rs s2.rs) (hid : o.id = id) :
    Calls Try.prog 12 #[.pointer (some ⟨p, 0, none⟩), .int .u64 id] w fun e w' => e = .returned (.tuple #[optV (some o), .bool true]) ∧ ∃ s1' s2', Hid (TakeIs w w' p m s1 s2 s1' s2' o) := by
  rcases good_side (H.ok o ho).2 with h | h
  · exact take_w1 p m s1 s2 o id w H ho hid h
  · exact take_w2 p m s1 s2 o id w H ho hid h
end Go.Proofs.Ytemmbgbmkihbaaa

/- ladder: Cut where the order is made less, in memory. (By mklee.py.) -/
namespace Go.Proofs.Ytemmbgbmkihbaaa
open Go.RowKit Go.Shelf Go.Sort Go.Maps

/-- An order made less. -/
def lessO (o : Od) (qty : Int) : Od := ⟨o.id, o.acc, o.side, o.price, o.qty - qty, o.seq⟩
theorem ol_less {q : List Od} {i : Nat} {o : Od} {qty : Int} (h : i < q.length) (e : q[i]! = o) : (ol q).set (i * 6 + 4) (.int .i64 (o.qty - qty)) = ol (q.set i (lessO o qty)) := by
  rw [getElem!_pos q i h] at e
  have e1 : q = q.take i ++ o :: q.drop (i + 1) := by
    rw [← e, ← List.drop_eq_getElem_cons h, List.take_append_drop]
  have e2 : q.set i (lessO o qty) = q.take i ++ lessO o qty :: q.drop (i + 1) := List.set_eq_take_append_cons_drop.trans (if_pos h)
  have hl : (ol (q.take i)).length = i * 6 := by rw [ol_len, List.length_take, Nat.min_eq_left (Nat.le_of_lt h)]
  conv => lhs; rw [e1]
  rw [e2, ol_append, ol_append, List.set_append, if_neg (by omega)]
  congr 1
  rw [hl, show i * 6 + 4 - i * 6 = 4 by omega]
  rfl
set_option maxHeartbeats 4000000 in
set_option maxRecDepth 100000 in
theorem cut_less (p m : Nat) (s1 s2 : Sd) (o : Od) (id : Int) (w : World) (H : Bk w (some ⟨p, 0, none⟩) (some m) s1 s2) (hwf : (Lit.int .i64 o.side).wf = true)
    (HGet : Hid (∀ W, Below w.heap.size w W → Calls Try.prog 24 #[.pointer (some ⟨p, 0, none⟩), .int .u64 id] W fun e w' => e = .returned (.tuple #[optV (some o), .bool true]) ∧ Hid (Below W.heap.size W w')))
    (R : List Rw) (hR : rsOf s1 s2 o.side = R) (hs : R.Pairwise (fun a b => betN o.side a.pr b.pr = true))
    (hn : R.length ≤ 1000) (k : Nat) (hk : atN o.side o.price R = k) (hkl : k < R.length) (hp : (R[k]!).pr = o.price) (hq : (R[k]!).q.Pairwise (fun x y => ahdO x y = true)) (hql : (R[k]!).q.length ≤ 1000) (i : Nat) (hi : plN o (R[k]!).q = i) (hil : i < (R[k]!).q.length) (hio : ((R[k]!).q)[i]! = o) (qty : Int) (hq1 : ¬ qty < 1) (hq2 : ¬ o.qty < qty) (hq3 : ¬ qty = o.qty) (hqw : wrap64 (o.qty - qty) = o.qty - qty) :
    Calls Try.prog 14 #[.pointer (some ⟨p, 0, none⟩), .int .u64 id, .int .i64 qty] w fun e w' => e = .returned (.int .i64 0) ∧ Hid (w'.ownsRow 0 32 6 (R[k]!).v (R[k]!).q.length (ol ((R[k]!).q.set i (lessO o qty))) ∧ Fr (fun j => (R[k]!).v.ownBlock = some j) w w') := by
  have mixed : Try.prog.follows .mixedOrders = true := by kernel_rfl
  have hmem : R[k]! ∈ s1.rs ++ s2.rs := by
    rw [getElem!_pos R k hkl]
    exact rsOf_mem (by rw [hR]; exact List.getElem_mem hkl)
  obtain ⟨Q, hQd⟩ : ∃ Q, (R[k]!).q = Q := ⟨_, rfl⟩
  obtain ⟨V, hVd⟩ : ∃ V, (R[k]!).v = V := ⟨_, rfl⟩
  rw [hQd] at hq hql hi hil hio ⊢
  rw [hVd]
  obtain ⟨qn, hqn⟩ : ∃ qn, Q.length = qn := ⟨_, rfl⟩
  rw [hqn] at hql hil ⊢
  have hown0 := H.own o.side
  rw [hR] at hown0
  obtain ⟨g, c, hv, _, _⟩ := row_at hown0 hkl
  clear hown0
  have hqm0 := H.q _ hmem
  rw [hQd, hVd, hqn] at hqm0
  obtain ⟨g2, qc, cur, hqv, hg2⟩ : ∃ g2 qc cur, V = .slice (some ⟨g2, 0, none⟩) qn qc ∧ w.heap[g2]? = some (.cells cur 32 (0, 0)) ∧ qn ≤ qc ∧ qc ≤ maxLen ∧ cur.size = qc * 6 ∧ cur.toList.take (qn * 6) = ol Q := by
    rcases hqm0.2 with ⟨_, h0⟩ | ⟨g2, cap, cur, e, _, h1, h2, h3, h4, h5⟩
    · omega
    · exact ⟨g2, cap, cur, e, h1, h2, h3, h4, h5⟩
  have hgl : g < w.heap.size := by
    obtain ⟨A, c', hv', _, hf⟩ := H.rows o.side
    rw [hR] at hv' hf
    rw [hv] at hv'
    injection hv' with e1 e2 e3
    exact H.lt (hf g e1.symm (by omega))
  have HH := Lib.hid H
  have HG := Lib.hid hgl
  have HQ2 := Lib.hid hg2
  have HLK : Hid (∀ W, Below w.heap.size w W → (W.cell? ⟨p, 0, none⟩ = some (.map (some m))) ∧ W.ownsRow 0 87 2 (.slice (some ⟨g, 0, none⟩) R.length c) R.length (rl R) ∧ W.ownsRow 0 32 6 (.slice (some ⟨g2, 0, none⟩) qn qc) qn (ol Q) ∧ W.cell? ⟨g, k * 2, none⟩ = some (.int .i64 o.price) ∧ W.cell? ⟨g, k * 2 + 1, none⟩ = some (.slice (some ⟨g2, 0, none⟩) qn qc)) := fun W hW => by
    have hB := HH.out.below hW
    have hown := hB.own o.side
    rw [hR] at hown
    obtain ⟨g', c', hv', hc1, hc2⟩ := row_at hown hkl
    rw [hv] at hv' hown
    injection hv' with e1 e2 e3
    injection e1 with e1; injection e1 with e1
    subst e1
    have hqm := hB.q _ hmem
    rw [hQd, hVd, hqv, hqn] at hqm
    refine ⟨?_, hown, hqm, by rw [hc1, hp], by rw [hc2, hVd, hqv]⟩
    rcases hB.shape with ⟨h, _⟩ | ⟨pp, hb, hp⟩
    · cases h
    · injection hb with hb'
      injection hb' with hb''
      subst hb''
      rw [cell_of_row _ _ _ _ _ _ hp]; rfl
  have HF : Hid (∀ W, Below w.heap.size w W → Calls Try.prog 41 #[.slice (some ⟨g, 0, none⟩) R.length c, .int .i64 o.side, .int .i64 o.price] W fun e w' => e = .returned (.tuple #[.int .i64 (k : Nat), .bool true]) ∧ Gw W w') := fun W hW => by
    have := find_c (some ⟨g, 0, none⟩) R.length c R o.side o.price W ?_ hs hn
    · rw [hk, decide_eq_true hkl, hp] at this
      simpa using this
    · obtain ⟨A, c', hv', hr⟩ := own_rows (HLK.out W hW).2.1
      injection hv' with e1 e2 e3
      rw [e1]
      exact hr
  have HP : Hid (∀ W, Below w.heap.size w W → Calls Try.prog 42 #[.slice (some ⟨g2, 0, none⟩) qn qc, .agg #[.int .u64 o.id, .int .i64 o.acc, .int .i64 o.side, .int .i64 o.price, .int .i64 o.qty, .int .u64 o.seq]] W fun e w' => e = .returned (.int .i64 (i : Nat)) ∧ Gw W w') := fun W hW => by
    have := place_c (some ⟨g2, 0, none⟩) qn qc Q o W ?_ hq hql
    · rw [hi] at this; exact this
    · obtain ⟨A, c', hv', hr⟩ := own_que (HLK.out W hW).2.2.1
      injection hv' with e1 e2 e3
      rw [e1]
      exact hr
  have hlk := fun q W (hW : Below w.heap.size w W) => look_side ((HH.out.below (hW.trans (below_drewN ((Below.refl _ _).mono hW.size) q))).mp m rfl) HH.out.t1 HH.out.t2 o.side hwf
  rw [hv] at hlk
  have HLQ := Lib.hid hlk
  have HV := Lib.hid (And.intro hv (And.intro hqv (And.intro hqn (And.intro hmem hio))))
  have HK := Lib.hid (And.intro hkl hp)
  have HC : Hid ((rl R)[k * 2 + 1]? = some (.slice (some ⟨g2, 0, none⟩) qn qc)) := by
    have := rl_get R k 1 hkl (by omega)
    rw [this, ← hqv, ← hVd]
    rfl
  have HIL := Lib.hid hil
  have HOC : Hid ((ol Q)[i * 6 + 4]? = some (.int .i64 o.qty)) := by
    rw [ol_get Q i 4 (by rw [hqn]; exact hil) (by omega), hio]
    rfl
  clear H hs hn hwf hmem hgl hg2 hlk hqm0 hk hi hq hio
  have HM := Lib.hid (made_c (some ⟨p, 0, none⟩) (some m) s1 s2 w HH.out)
  have hkI : (k : Int) < (R.length : Int) := by have := HK.out.1; omega
  have hiI : (i : Int) < (qn : Int) := by omega
  go_enter Try.func14, Try.ntmps14
  go_wp2_with (first | ((with_reducible refine HM.out.mono ?_); rintro e w1' ⟨rfl, hw1⟩; obtain rfl : w = w1' := hw1.symm; clear HM) | ((with_reducible refine (HGet.out _ (Below.refl _ _)).mono ?_); rintro e w1 ⟨rfl, hb1⟩; dsimp only [optV]; clear HGet))
  obtain ⟨W1, hW1⟩ : ∃ W1, w1.alloc (.cells (OC o) 32) = W1 := ⟨_, rfl⟩
  have HB1 : Hid (Below w.heap.size w W1) := by rw [← hW1]; exact hb1.out.alloc hb1.out.size _
  have hO1 : Cl 32 W1 w1.heap.size (OC o) := by rw [← hW1]; exact hd_last rfl
  rw [hW1]
  obtain ⟨ob, hob⟩ : ∃ ob, w1.heap.size = ob := ⟨_, rfl⟩
  rw [hob] at hO1 ⊢
  obtain ⟨x0, x1, x2, x3, x4, x5⟩ := six_of hO1
  have hpc := (HLK.out W1 HB1.out).1
  have hlk := fun q => HLQ.out q W1 HB1.out
  clear hob hW1 hb1
  clear w1
  go_quiet (fail)
  go_wp2_with (first | ((with_reducible refine (HF.out _ (below_drewN HB1.out _)).mono ?_); rintro e w2 ⟨rfl, k2⟩; have HB2 : Hid (Below w.heap.size w w2) := (below_drewN HB1.out _).trans (k2.b.mono (below_drewN HB1.out _).size); have hO2 : Cl 32 w2 ob (OC o) := Cl.gw (X := W1.drewN _) hO1 k2; have z0 := (HLK.out w2 HB2.out).2.2.2.2; obtain ⟨y0, y1, y2, y3, y4, y5⟩ := six_of hO2; clear x0 x1 x2 x3 x4 x5 hpc hlk hO1 k2 HB1 HF) | ((with_reducible refine (HP.out _ HB2.out).mono ?_); rintro e w3 ⟨rfl, k3⟩; have HB3 : Hid (Below w.heap.size w w3) := HB2.out.trans (k3.b.mono HB2.out.size); have q4 : w3.cell? ⟨g2, i * 6 + 4, none⟩ = some (.int .i64 o.qty) := (own_cell (HLK.out w3 HB3.out).2.2.1 rfl HOC.out).1; have f4 : w3.frozen? ⟨g2, i * 6 + 4, none⟩ = false := (own_cell (HLK.out w3 HB3.out).2.2.1 rfl HOC.out).2; clear y0 y1 y2 y3 y4 y5 hO2 HB2 HP z0 k3))
  go_ret
  refine ⟨rfl, Lib.hid ?_⟩
  rw [HV.out.2.1]
  refine ⟨?_, ?_⟩
  · rw [← HV.out.2.2.1, ← ol_less (by rw [HV.out.2.2.1]; exact HIL.out) HV.out.2.2.2.2, HV.out.2.2.1]
    exact own_setCell (HLK.out w3 HB3.out).2.2.1 rfl
  · exact (Fr.of_below HB3.out : Fr (fun j => (Value.slice (some ⟨g2, 0, none⟩) qn qc).ownBlock = some j) w w3).set (p := ⟨g2, i * 6 + 4, none⟩) (.inl rfl) _
end Go.Proofs.Ytemmbgbmkihbaaa

/- ladder: Cut, whole. (By mklef.py.) -/
namespace Go.Proofs.Ytemmbgbmkihbaaa
open Go.RowKit Go.Shelf Go.Sort Go.Maps

theorem set_self : ∀ {l : List Value} {n : Nat} {v : Value}, l[n]? = some v → l.set n v = l
  | [], _, _, h => by cases h
  | a :: l, 0, v, h => by injection h with h; rw [← h]; rfl
  | a :: l, n + 1, v, h => by
    show a :: l.set n v = a :: l
    rw [set_self (l := l) (n := n) (v := v) h]
/-- What a book's orders are when one was made less. -/
def lessF (id qty : Int) (x : Od) : Od := if x.id = id then lessO x qty else x
theorem less_id (id qty : Int) (x : Od) : (lessF id qty x).id = x.id ∧ (lessF id qty x).side = x.side ∧ (lessF id qty x).price = x.price := by
  unfold lessF
  split <;> exact ⟨rfl, rfl, rfl⟩
theorem less_ahd (id qty : Int) (x y : Od) : ahdO (lessF id qty x) (lessF id qty y) = ahdO x y := by
  unfold lessF
  split <;> split <;> rfl
theorem less_map {P T : List Od} {o : Od} {qty : Int} (h : (P ++ o :: T).Pairwise (fun x y => ¬ x.id = y.id)) : (P ++ o :: T).map (lessF o.id qty) = P ++ lessO o qty :: T := by
  rw [List.pairwise_append, List.pairwise_cons] at h
  obtain ⟨_, ⟨h2, _⟩, h3⟩ := h
  have e1 : P.map (lessF o.id qty) = P := by
    conv => rhs; rw [← List.map_id P]
    exact List.map_congr_left (fun x hx => if_neg (h3 x hx o List.mem_cons_self))
  have e2 : T.map (lessF o.id qty) = T := by
    conv => rhs; rw [← List.map_id T]
    exact List.map_congr_left (fun x hx => if_neg (fun e => h2 x hx e.symm))
  rw [List.map_append, List.map_cons, e1, e2]
  show P ++ lessF o.id qty o :: T = _
  unfold lessF
  rw [if_pos rfl]
theorem less_good {w : World} {o : Od} {qty : Int} (h : Od.ok w o ∧ goodO o = true) (h1 : ¬ qty < 1) (h2 : qty < o.qty) : Od.ok w (lessO o qty) ∧ goodO (lessO o qty) = true := by
  obtain ⟨ho, hg⟩ := h
  have hg' := hg
  unfold goodO at hg
  simp only [Bool.and_eq_true, decide_eq_true_eq] at hg
  obtain ⟨g1, g2, g3, g4, g5, g6, g7⟩ := hg
  unfold Od.ok at ho ⊢
  refine ⟨⟨ho.1, ho.2.1, ho.2.2.1, ho.2.2.2.1, ⟨by show _ ≤ o.qty - qty; omega, by show o.qty - qty ≤ _; omega⟩, ho.2.2.2.2.2⟩, ?_⟩
  unfold goodO
  simp only [Bool.and_eq_true, decide_eq_true_eq]
  exact ⟨g1, g2, g3, g4, g5, by show 1 ≤ o.qty - qty; omega, by show o.qty - qty ≤ _; omega⟩
/-- What is there when an order was made less. -/
structure LessIs (w w' : World) (p m : Nat) (s1 s2 s1' s2' : Sd) (o : Od) (qty : Int) : Prop where
  tu : TurnIs w w' p m s1 s2 s1' s2'
  now : bookL s1'.rs s2'.rs = (bookL s1.rs s2.rs).map (lessF o.id qty)
  e2 : o.side = 1 → s2' = s2
  e1 : o.side = 2 → s1' = s1
/-- What Cut tells, and leaves. -/
def CutIs (w w' : World) (p m : Nat) (s1 s2 s1' s2' : Sd) (id qty c : Int) : Prop :=
  (c = 51 ∧ (∀ x ∈ bookL s1.rs s2.rs, ¬ x.id = id) ∧ s1' = s1 ∧ s2' = s2 ∧ Below w.heap.size w w') ∨
  ∃ o ∈ bookL s1.rs s2.rs, o.id = id ∧ ((c = 2 ∧ (qty < 1 ∨ o.qty < qty) ∧ s1' = s1 ∧ s2' = s2 ∧ Below w.heap.size w w') ∨ (c = 0 ∧ ¬ qty < 1 ∧ qty = o.qty ∧ TakeIs w w' p m s1 s2 s1' s2' o) ∨ (c = 0 ∧ ¬ qty < 1 ∧ qty < o.qty ∧ LessIs w w' p m s1 s2 s1' s2' o qty))
set_option maxHeartbeats 4000000 in
set_option maxRecDepth 100000 in
theorem cut_w1 (p m : Nat) (s1 s2 : Sd) (o : Od) (id qty : Int) (w : World) (H : Whole w p m s1 s2) (ho : o ∈ bookL s1.rs s2.rs) (hs : o.side = 1) (hq1 : ¬ qty < 1) (hq2 : qty < o.qty)
    (HGet : Hid (∀ W, Below w.heap.size w W → Calls Try.prog 24 #[.pointer (some ⟨p, 0, none⟩), .int .u64 id] W fun e w' => e = .returned (.tuple #[optV (some o), .bool true]) ∧ Hid (Below W.heap.size W w'))) :
    Calls Try.prog 14 #[.pointer (some ⟨p, 0, none⟩), .int .u64 id, .int .i64 qty] w fun e w' => e = .returned (.int .i64 0) ∧ ∃ s1' s2', Hid (LessIs w w' p m s1 s2 s1' s2' o qty) := by
  have hwf : (Lit.int .i64 o.side).wf = true := by rw [hs]; decide
  have hR : rsOf s1 s2 o.side = s1.rs := by rw [hs]; rfl
  have hv : rowsOf s1 s2 o.side = s1.v := by rw [hs]; rfl
  have hpw : s1.rs.Pairwise (fun a b => betN o.side a.pr b.pr = true) := by rw [hs]; exact H.ok1.rows
  have hn := H.n1
  have hgo := H.ok o ho
  have hfl : o ∈ flatR s1.rs := by
    have ho := ho
    unfold bookL at ho
    rcases List.mem_append.1 ho with h | h
    · exact h
    · have := flat_side H.ok2 o h; rw [hs] at this; cases this
  obtain ⟨hkl, hp, hoq⟩ := row_place (.inl rfl) H.ok1 hfl
  obtain ⟨k, hk⟩ : ∃ k, atN 1 o.price s1.rs = k := ⟨_, rfl⟩
  rw [hk] at hkl hp hoq
  have hk' : atN o.side o.price s1.rs = k := by rw [hs]; exact hk
  have hmem : s1.rs[k]! ∈ s1.rs := by rw [getElem!_pos s1.rs k hkl]; exact List.getElem_mem hkl
  have hql : (s1.rs[k]!).q.length ≤ 1000 := by
    have h1 : (s1.rs[k]!).q.length ≤ lenQ (s1.rs ++ s2.rs) := lenQ_pre (x := ⟨s1.rs[k]!, List.mem_append_left _ hmem⟩)
    omega
  have hqp := H.ok1.que _ hmem
  obtain ⟨hil, hio⟩ := que_place hqp hoq
  obtain ⟨i, hi⟩ : ∃ i, plN o (s1.rs[k]!).q = i := ⟨_, rfl⟩
  rw [hi] at hil hio
  have hsp := split_at s1.rs k hkl
  have hsid : SideOk 1 (s1.rs.take k ++ [s1.rs[k]!] ++ s1.rs.drop (k + 1)) := by rw [← hsp]; exact H.ok1
  have hth : s1.there = true := (map_there H).1 (fun e => by rw [e] at hkl; exact absurd hkl (Nat.not_lt_zero _))
  have hsplit := row_split (s := 1) (p := o.price) (.inl rfl) H.ok1.rows
  rw [hk] at hsplit
  have hqw : wrap64 (o.qty - qty) = o.qty - qty := by
    have hg := hgo.2
    unfold goodO at hg
    simp only [Bool.and_eq_true, decide_eq_true_eq] at hg
    have h6 := hg.2.2.2.2.2
    simp only [wrap64]; omega
  -- the queue, and the book, around the order
  have hio' := hio
  rw [getElem!_pos _ i hil] at hio'
  have hQ1 : (s1.rs[k]!).q = (s1.rs[k]!).q.take i ++ o :: (s1.rs[k]!).q.drop (i + 1) := by
    rw [← hio', ← List.drop_eq_getElem_cons hil, List.take_append_drop]
  have hQ2 : (s1.rs[k]!).q.set i (lessO o qty) = (s1.rs[k]!).q.take i ++ lessO o qty :: (s1.rs[k]!).q.drop (i + 1) := List.set_eq_take_append_cons_drop.trans (if_pos hil)
  have hidq : (s1.rs[k]!).q.Pairwise (fun x y => ¬ x.id = y.id) := by
    refine List.Pairwise.sublist ?_ H.ids
    unfold bookL
    have hs1 : (s1.rs[k]!).q.Sublist (flatR s1.rs) := by
      conv => rhs; rw [hsp]
      unfold flatR
      rw [List.flatMap_append, List.flatMap_append, List.flatMap_singleton]
      exact (List.sublist_append_right _ _).trans (List.sublist_append_left _ _)
    exact hs1.trans (List.sublist_append_left _ _)
  have hQm : (s1.rs[k]!).q.set i (lessO o qty) = (s1.rs[k]!).q.map (lessF o.id qty) := by
    rw [hQ2]
    conv => rhs; rw [hQ1]
    exact (less_map (by rw [← hQ1]; exact hidq)).symm
  have hbook : bookL (s1.rs.take k ++ [(⟨o.price, (s1.rs[k]!).v, (s1.rs[k]!).q.set i (lessO o qty)⟩ : Rw)] ++ s1.rs.drop (k + 1)) s2.rs = (bookL s1.rs s2.rs).map (lessF o.id qty) := by
    have e0 : ∀ Y : Rw, flatR (s1.rs.take k ++ [Y] ++ s1.rs.drop (k + 1)) = flatR (s1.rs.take k) ++ Y.q ++ flatR (s1.rs.drop (k + 1)) := fun Y => by
      unfold flatR; rw [List.flatMap_append, List.flatMap_append, List.flatMap_singleton]
    have e1 : bookL s1.rs s2.rs = flatR (s1.rs.take k) ++ (s1.rs[k]!).q.take i ++ o :: ((s1.rs[k]!).q.drop (i + 1) ++ flatR (s1.rs.drop (k + 1)) ++ flatR s2.rs) := by
      unfold bookL
      conv => lhs; rw [hsp, e0, hQ1]
      simp only [List.append_assoc, List.cons_append]
    have h2 := H.ids
    rw [e1] at h2 ⊢
    rw [less_map h2]
    unfold bookL
    rw [e0]
    show flatR (s1.rs.take k) ++ (s1.rs[k]!).q.set i (lessO o qty) ++ flatR (s1.rs.drop (k + 1)) ++ flatR s2.rs = _
    rw [hQ2]
    simp only [List.append_assoc, List.cons_append]
  refine (cut_less p m s1 s2 o id w H.bk hwf HGet s1.rs hR hpw (by omega) k hk' hkl hp hqp hql i hi hil hio qty hq1 (by omega) (by omega) hqw).mono fun e w' ⟨he, hh⟩ => ⟨he, ?_⟩
  obtain ⟨h1, h3⟩ := hh.out
  have hblk : ∀ T (v : Value) (nn sz : Nat) (xs : List Value), w.ownsRow 0 T sz v nn xs → T ≠ 32 → ∀ j, v.ownBlock = some j → ¬ (s1.rs[k]!).v.ownBlock = some j := fun T v nn sz xs hown hT j hj e => by
    obtain ⟨cs, hcs⟩ := own_blk hown hj
    exact own_ne (H.bk.q _ (List.mem_append_left _ hmem)) hcs (fun e' => hT e'.symm) e
  have hmm : w'.ownsMap Try.prog 3 RV m 2 (mapD s1 s2) := ownsMap_fr (H.bk.mp m rfl) h3 (fun e => by
    obtain ⟨cs, hcs⟩ := own_blk (H.bk.q _ (List.mem_append_left _ hmem)) e
    exact map_ne (H.bk.mp m rfl) hcs rfl)
  have he2 : s1.rs.take k ++ (⟨o.price, (s1.rs[k]!).v, (s1.rs[k]!).q.set i (lessO o qty)⟩ : Rw) :: s1.rs.drop (k + 1) = s1.rs.take k ++ [(⟨o.price, (s1.rs[k]!).v, (s1.rs[k]!).q.set i (lessO o qty)⟩ : Rw)] ++ s1.rs.drop (k + 1) := by rw [List.append_assoc]; rfl
  have hrl : rl (s1.rs.take k ++ [(⟨o.price, (s1.rs[k]!).v, (s1.rs[k]!).q.set i (lessO o qty)⟩ : Rw)] ++ s1.rs.drop (k + 1)) = rl s1.rs := by
    rw [← he2]
    rw [rl_set s1.rs k hkl (⟨o.price, (s1.rs[k]!).v, (s1.rs[k]!).q.set i (lessO o qty)⟩ : Rw) hp.symm]
    have := rl_get s1.rs k 1 hkl (by omega)
    refine set_self ?_
    rw [this]
    rfl
  have hse : SideOk 1 (s1.rs.take k ++ (⟨o.price, (s1.rs[k]!).v, (s1.rs[k]!).q.set i (lessO o qty)⟩ : Rw) :: s1.rs.drop (k + 1)) :=
    side_set (p := o.price) hsplit.1 (fun b hb => hsplit.2.2.2 _ _ (by rw [getElem!_pos s1.rs k hkl]; exact List.drop_eq_getElem_cons hkl) hp b hb) hsid rfl (by show (s1.rs[k]!).q.set i (lessO o qty) ≠ []; rw [hQ2]; simp)
      (fun x hx => by
        have hx' : x ∈ (s1.rs[k]!).q.set i (lessO o qty) := hx
        rw [hQm] at hx'
        obtain ⟨y, hy, rfl⟩ := List.mem_map.1 hx'
        rw [(less_id _ _ y).2.1, (less_id _ _ y).2.2, ← hp]
        exact H.ok1.mem _ hmem y hy)
      (by
        show ((s1.rs[k]!).q.set i (lessO o qty)).Pairwise _
        rw [hQm]
        exact List.pairwise_map.2 (hqp.imp (fun h => by rw [less_ahd]; exact h)))
  rw [he2] at hse
  refine ⟨_, _, Lib.hid ⟨turn_side1 (M := [s1.rs[k]!]) (X := [(⟨o.price, (s1.rs[k]!).v, (s1.rs[k]!).q.set i (lessO o qty)⟩ : Rw)]) (v2 := s1.v) H hsp ⟨.inr ⟨_, rfl⟩, .inr ⟨_, rfl, .inl ⟨_, rfl, rfl⟩⟩⟩ (.inl rfl) (fun r hr => ?_) ?_ ?_ ?_ hse ?_ ?_ ?_, hbook, fun _ => rfl, (fun h => by rw [hs] at h; cases h)⟩⟩
  · rw [List.mem_singleton.1 hr]
    show w'.ownsRow 0 32 6 (s1.rs[k]!).v ((s1.rs[k]!).q.set i (lessO o qty)).length _
    rw [List.length_set]; exact h1
  · rw [hrl, ← he2, set_len _ _ hkl]
    exact own_fr H.bk.r1 h3 (fun j hj => hblk _ _ _ _ _ H.bk.r1 (by decide) j hj)
  · have : mapD ⟨true, s1.v, s1.rs.take k ++ [(⟨o.price, (s1.rs[k]!).v, (s1.rs[k]!).q.set i (lessO o qty)⟩ : Rw)] ++ s1.rs.drop (k + 1)⟩ s2 = mapD s1 s2 := by
      unfold mapD
      rw [hth]
    rw [this]; exact hmm
  · exact h3.mono (fun j e => .inl (.inr (.inr ⟨_, List.mem_singleton.2 rfl, e⟩)))
  · rw [hbook]
    exact List.pairwise_map.2 (H.ids.imp (fun h => by rw [(less_id _ _ _).1, (less_id _ _ _).1]; exact h))
  · rw [hbook, List.length_map]; exact H.len
  · rw [hbook]
    intro x hx
    obtain ⟨y, hy, rfl⟩ := List.mem_map.1 hx
    unfold lessF
    split
    · rename_i hyi
      rw [ids_inj H.ids hy ho hyi]
      exact less_good hgo hq1 hq2
    · exact H.ok y hy
set_option maxHeartbeats 4000000 in
set_option maxRecDepth 100000 in
theorem cut_w2 (p m : Nat) (s1 s2 : Sd) (o : Od) (id qty : Int) (w : World) (H : Whole w p m s1 s2) (ho : o ∈ bookL s1.rs s2.rs) (hs : o.side = 2) (hq1 : ¬ qty < 1) (hq2 : qty < o.qty)
    (HGet : Hid (∀ W, Below w.heap.size w W → Calls Try.prog 24 #[.pointer (some ⟨p, 0, none⟩), .int .u64 id] W fun e w' => e = .returned (.tuple #[optV (some o), .bool true]) ∧ Hid (Below W.heap.size W w'))) :
    Calls Try.prog 14 #[.pointer (some ⟨p, 0, none⟩), .int .u64 id, .int .i64 qty] w fun e w' => e = .returned (.int .i64 0) ∧ ∃ s1' s2', Hid (LessIs w w' p m s1 s2 s1' s2' o qty) := by
  have hwf : (Lit.int .i64 o.side).wf = true := by rw [hs]; decide
  have hR : rsOf s1 s2 o.side = s2.rs := by rw [hs]; rfl
  have hv : rowsOf s1 s2 o.side = s2.v := by rw [hs]; rfl
  have hpw : s2.rs.Pairwise (fun a b => betN o.side a.pr b.pr = true) := by rw [hs]; exact H.ok2.rows
  have hn := H.n1
  have hgo := H.ok o ho
  have hfl : o ∈ flatR s2.rs := by
    have ho := ho
    unfold bookL at ho
    rcases List.mem_append.1 ho with h | h
    · have := flat_side H.ok1 o h; rw [hs] at this; cases this
    · exact h
  obtain ⟨hkl, hp, hoq⟩ := row_place (.inr rfl) H.ok2 hfl
  obtain ⟨k, hk⟩ : ∃ k, atN 2 o.price s2.rs = k := ⟨_, rfl⟩
  rw [hk] at hkl hp hoq
  have hk' : atN o.side o.price s2.rs = k := by rw [hs]; exact hk
  have hmem : s2.rs[k]! ∈ s2.rs := by rw [getElem!_pos s2.rs k hkl]; exact List.getElem_mem hkl
  have hql : (s2.rs[k]!).q.length ≤ 1000 := by
    have h1 : (s2.rs[k]!).q.length ≤ lenQ (s1.rs ++ s2.rs) := lenQ_pre (x := ⟨s2.rs[k]!, List.mem_append_right _ hmem⟩)
    omega
  have hqp := H.ok2.que _ hmem
  obtain ⟨hil, hio⟩ := que_place hqp hoq
  obtain ⟨i, hi⟩ : ∃ i, plN o (s2.rs[k]!).q = i := ⟨_, rfl⟩
  rw [hi] at hil hio
  have hsp := split_at s2.rs k hkl
  have hsid : SideOk 2 (s2.rs.take k ++ [s2.rs[k]!] ++ s2.rs.drop (k + 1)) := by rw [← hsp]; exact H.ok2
  have hth : s2.there = true := (map_there H).2 (fun e => by rw [e] at hkl; exact absurd hkl (Nat.not_lt_zero _))
  have hsplit := row_split (s := 2) (p := o.price) (.inr rfl) H.ok2.rows
  rw [hk] at hsplit
  have hqw : wrap64 (o.qty - qty) = o.qty - qty := by
    have hg := hgo.2
    unfold goodO at hg
    simp only [Bool.and_eq_true, decide_eq_true_eq] at hg
    have h6 := hg.2.2.2.2.2
    simp only [wrap64]; omega
  -- the queue, and the book, around the order
  have hio' := hio
  rw [getElem!_pos _ i hil] at hio'
  have hQ1 : (s2.rs[k]!).q = (s2.rs[k]!).q.take i ++ o :: (s2.rs[k]!).q.drop (i + 1) := by
    rw [← hio', ← List.drop_eq_getElem_cons hil, List.take_append_drop]
  have hQ2 : (s2.rs[k]!).q.set i (lessO o qty) = (s2.rs[k]!).q.take i ++ lessO o qty :: (s2.rs[k]!).q.drop (i + 1) := List.set_eq_take_append_cons_drop.trans (if_pos hil)
  have hidq : (s2.rs[k]!).q.Pairwise (fun x y => ¬ x.id = y.id) := by
    refine List.Pairwise.sublist ?_ H.ids
    unfold bookL
    have hs1 : (s2.rs[k]!).q.Sublist (flatR s2.rs) := by
      conv => rhs; rw [hsp]
      unfold flatR
      rw [List.flatMap_append, List.flatMap_append, List.flatMap_singleton]
      exact (List.sublist_append_right _ _).trans (List.sublist_append_left _ _)
    exact hs1.trans (List.sublist_append_right _ _)
  have hQm : (s2.rs[k]!).q.set i (lessO o qty) = (s2.rs[k]!).q.map (lessF o.id qty) := by
    rw [hQ2]
    conv => rhs; rw [hQ1]
    exact (less_map (by rw [← hQ1]; exact hidq)).symm
  have hbook : bookL s1.rs (s2.rs.take k ++ [(⟨o.price, (s2.rs[k]!).v, (s2.rs[k]!).q.set i (lessO o qty)⟩ : Rw)] ++ s2.rs.drop (k + 1)) = (bookL s1.rs s2.rs).map (lessF o.id qty) := by
    have e0 : ∀ Y : Rw, flatR (s2.rs.take k ++ [Y] ++ s2.rs.drop (k + 1)) = flatR (s2.rs.take k) ++ Y.q ++ flatR (s2.rs.drop (k + 1)) := fun Y => by
      unfold flatR; rw [List.flatMap_append, List.flatMap_append, List.flatMap_singleton]
    have e1 : bookL s1.rs s2.rs = flatR s1.rs ++ flatR (s2.rs.take k) ++ (s2.rs[k]!).q.take i ++ o :: ((s2.rs[k]!).q.drop (i + 1) ++ flatR (s2.rs.drop (k + 1))) := by
      unfold bookL
      conv => lhs; rw [hsp, e0, hQ1]
      simp only [List.append_assoc, List.cons_append]
    have h2 := H.ids
    rw [e1] at h2 ⊢
    rw [less_map h2]
    unfold bookL
    rw [e0]
    show flatR s1.rs ++ (flatR (s2.rs.take k) ++ (s2.rs[k]!).q.set i (lessO o qty) ++ flatR (s2.rs.drop (k + 1))) = _
    rw [hQ2]
    simp only [List.append_assoc, List.cons_append]
  refine (cut_less p m s1 s2 o id w H.bk hwf HGet s2.rs hR hpw (by omega) k hk' hkl hp hqp hql i hi hil hio qty hq1 (by omega) (by omega) hqw).mono fun e w' ⟨he, hh⟩ => ⟨he, ?_⟩
  obtain ⟨h1, h3⟩ := hh.out
  have hblk : ∀ T (v : Value) (nn sz : Nat) (xs : List Value), w.ownsRow 0 T sz v nn xs → T ≠ 32 → ∀ j, v.ownBlock = some j → ¬ (s2.rs[k]!).v.ownBlock = some j := fun T v nn sz xs hown hT j hj e => by
    obtain ⟨cs, hcs⟩ := own_blk hown hj
    exact own_ne (H.bk.q _ (List.mem_append_right _ hmem)) hcs (fun e' => hT e'.symm) e
  have hmm : w'.ownsMap Try.prog 3 RV m 2 (mapD s1 s2) := ownsMap_fr (H.bk.mp m rfl) h3 (fun e => by
    obtain ⟨cs, hcs⟩ := own_blk (H.bk.q _ (List.mem_append_right _ hmem)) e
    exact map_ne (H.bk.mp m rfl) hcs rfl)
  have he2 : s2.rs.take k ++ (⟨o.price, (s2.rs[k]!).v, (s2.rs[k]!).q.set i (lessO o qty)⟩ : Rw) :: s2.rs.drop (k + 1) = s2.rs.take k ++ [(⟨o.price, (s2.rs[k]!).v, (s2.rs[k]!).q.set i (lessO o qty)⟩ : Rw)] ++ s2.rs.drop (k + 1) := by rw [List.append_assoc]; rfl
  have hrl : rl (s2.rs.take k ++ [(⟨o.price, (s2.rs[k]!).v, (s2.rs[k]!).q.set i (lessO o qty)⟩ : Rw)] ++ s2.rs.drop (k + 1)) = rl s2.rs := by
    rw [← he2]
    rw [rl_set s2.rs k hkl (⟨o.price, (s2.rs[k]!).v, (s2.rs[k]!).q.set i (lessO o qty)⟩ : Rw) hp.symm]
    have := rl_get s2.rs k 1 hkl (by omega)
    refine set_self ?_
    rw [this]
    rfl
  have hse : SideOk 2 (s2.rs.take k ++ (⟨o.price, (s2.rs[k]!).v, (s2.rs[k]!).q.set i (lessO o qty)⟩ : Rw) :: s2.rs.drop (k + 1)) :=
    side_set (p := o.price) hsplit.1 (fun b hb => hsplit.2.2.2 _ _ (by rw [getElem!_pos s2.rs k hkl]; exact List.drop_eq_getElem_cons hkl) hp b hb) hsid rfl (by show (s2.rs[k]!).q.set i (lessO o qty) ≠ []; rw [hQ2]; simp)
      (fun x hx => by
        have hx' : x ∈ (s2.rs[k]!).q.set i (lessO o qty) := hx
        rw [hQm] at hx'
        obtain ⟨y, hy, rfl⟩ := List.mem_map.1 hx'
        rw [(less_id _ _ y).2.1, (less_id _ _ y).2.2, ← hp]
        exact H.ok2.mem _ hmem y hy)
      (by
        show ((s2.rs[k]!).q.set i (lessO o qty)).Pairwise _
        rw [hQm]
        exact List.pairwise_map.2 (hqp.imp (fun h => by rw [less_ahd]; exact h)))
  rw [he2] at hse
  refine ⟨_, _, Lib.hid ⟨turn_side2 (M := [s2.rs[k]!]) (X := [(⟨o.price, (s2.rs[k]!).v, (s2.rs[k]!).q.set i (lessO o qty)⟩ : Rw)]) (v2 := s2.v) H hsp ⟨.inr ⟨_, rfl⟩, .inr ⟨_, rfl, .inl ⟨_, rfl, rfl⟩⟩⟩ (.inl rfl) (fun r hr => ?_) ?_ ?_ ?_ hse ?_ ?_ ?_, hbook, (fun h => by rw [hs] at h; cases h), fun _ => rfl⟩⟩
  · rw [List.mem_singleton.1 hr]
    show w'.ownsRow 0 32 6 (s2.rs[k]!).v ((s2.rs[k]!).q.set i (lessO o qty)).length _
    rw [List.length_set]; exact h1
  · rw [hrl, ← he2, set_len _ _ hkl]
    exact own_fr H.bk.r2 h3 (fun j hj => hblk _ _ _ _ _ H.bk.r2 (by decide) j hj)
  · have : mapD s1 ⟨true, s2.v, s2.rs.take k ++ [(⟨o.price, (s2.rs[k]!).v, (s2.rs[k]!).q.set i (lessO o qty)⟩ : Rw)] ++ s2.rs.drop (k + 1)⟩ = mapD s1 s2 := by
      unfold mapD
      rw [hth]
    rw [this]; exact hmm
  · exact h3.mono (fun j e => .inl (.inr (.inr ⟨_, List.mem_singleton.2 rfl, e⟩)))
  · rw [hbook]
    exact List.pairwise_map.2 (H.ids.imp (fun h => by rw [(less_id _ _ _).1, (less_id _ _ _).1]; exact h))
  · rw [hbook, List.length_map]; exact H.len
  · rw [hbook]
    intro x hx
    obtain ⟨y, hy, rfl⟩ := List.mem_map.1 hx
    unfold lessF
    split
    · rename_i hyi
      rw [ids_inj H.ids hy ho hyi]
      exact less_good hgo hq1 hq2
    · exact H.ok y hy
end Go.Proofs.Ytemmbgbmkihbaaa

/- ladder: Cut, its answers. (By mkleg.py.) -/
namespace Go.Proofs.Ytemmbgbmkihbaaa
open Go.RowKit Go.Shelf Go.Sort Go.Maps

theorem get_there {p m : Nat} {s1 s2 : Sd} {o : Od} {id : Int} {w : World} (H : Whole w p m s1 s2) (ho : o ∈ bookL s1.rs s2.rs) (hid : o.id = id) :
    Hid (∀ W, Below w.heap.size w W → Calls Try.prog 24 #[.pointer (some ⟨p, 0, none⟩), .int .u64 id] W fun e w' => e = .returned (.tuple #[optV (some o), .bool true]) ∧ Hid (Below W.heap.size W w')) := fun W hW => by
  have hn := H.n1
  refine (lGet_c _ _ s1 s2 id W (H.bk.below hW) (by omega) (by omega) (by omega)).mono ?_
  rintro e w' ⟨r, rfl, h⟩
  obtain rfl : r = some o := by
    cases r with
    | none => exact absurd hid (h.out.1 o ho)
    | some y => rw [ids_inj H.ids h.out.1.1 ho (h.out.1.2.trans hid.symm)]
  exact ⟨rfl, Lib.hid h.out.2⟩
set_option maxHeartbeats 4000000 in
set_option maxRecDepth 100000 in
theorem cut_none (p m : Nat) (s1 s2 : Sd) (id qty : Int) (w : World) (H : Whole w p m s1 s2) (hno : ∀ x ∈ bookL s1.rs s2.rs, ¬ x.id = id) :
    Calls Try.prog 14 #[.pointer (some ⟨p, 0, none⟩), .int .u64 id, .int .i64 qty] w fun e w' => e = .returned (.int .i64 51) ∧ Hid (Below w.heap.size w w') := by
  have HM := Lib.hid (made_c (some ⟨p, 0, none⟩) (some m) s1 s2 w H.bk)
  have hn := H.n1
  have HGet := Lib.hid (lGet_c _ _ s1 s2 id w H.bk (by omega) (by omega) (by omega))
  have HNo := Lib.hid hno
  clear H hn hno
  go_enter Try.func14, Try.ntmps14
  go_wp2_with (first | ((with_reducible refine HM.out.mono ?_); rintro e w1' ⟨rfl, hw1⟩; obtain rfl : w = w1' := hw1.symm; clear HM) | ((with_reducible refine HGet.out.mono ?_); rintro e w1 ⟨r, rfl, hr⟩; obtain rfl : r = none := (by cases r with | none => rfl | some y => exact absurd hr.out.1.2 (HNo.out y hr.out.1.1)); dsimp only [optV, Option.isSome]; have HB1 : Hid (Below w.heap.size w (w1.alloc (.cells (OC ⟨0, 0, 0, 0, 0, 0⟩) 32))) := hr.out.2.alloc hr.out.2.size _; clear HGet hr))
  go_ret
  exact ⟨rfl, Lib.hid HB1.out⟩
set_option maxHeartbeats 4000000 in
set_option maxRecDepth 100000 in
theorem cut_low (p m : Nat) (s1 s2 : Sd) (o : Od) (id qty : Int) (w : World) (H : Whole w p m s1 s2)
    (HGet : Hid (∀ W, Below w.heap.size w W → Calls Try.prog 24 #[.pointer (some ⟨p, 0, none⟩), .int .u64 id] W fun e w' => e = .returned (.tuple #[optV (some o), .bool true]) ∧ Hid (Below W.heap.size W w'))) (hq : qty < 1) :
    Calls Try.prog 14 #[.pointer (some ⟨p, 0, none⟩), .int .u64 id, .int .i64 qty] w fun e w' => e = .returned (.int .i64 2) ∧ Hid (Below w.heap.size w w') := by
  have HM := Lib.hid (made_c (some ⟨p, 0, none⟩) (some m) s1 s2 w H.bk)
  have hd : decide (qty < 1) = true := decide_eq_true hq
  clear H
  go_enter Try.func14, Try.ntmps14
  go_wp2_with (first | ((with_reducible refine HM.out.mono ?_); rintro e w1' ⟨rfl, hw1⟩; obtain rfl : w = w1' := hw1.symm; clear HM) | ((with_reducible refine (HGet.out _ (Below.refl _ _)).mono ?_); rintro e w1 ⟨rfl, hb1⟩; dsimp only [optV]; have HB1 : Hid (Below w.heap.size w (w1.alloc (.cells (OC o) 32))) := hb1.out.alloc hb1.out.size _; clear HGet))
  all_goals (try (exfalso; omega))
  go_ret
  exact ⟨rfl, Lib.hid HB1.out⟩
set_option maxHeartbeats 4000000 in
set_option maxRecDepth 100000 in
theorem cut_high (p m : Nat) (s1 s2 : Sd) (o : Od) (id qty : Int) (w : World) (H : Whole w p m s1 s2)
    (HGet : Hid (∀ W, Below w.heap.size w W → Calls Try.prog 24 #[.pointer (some ⟨p, 0, none⟩), .int .u64 id] W fun e w' => e = .returned (.tuple #[optV (some o), .bool true]) ∧ Hid (Below W.heap.size W w'))) (hq1 : ¬ qty < 1) (hq : o.qty < qty) :
    Calls Try.prog 14 #[.pointer (some ⟨p, 0, none⟩), .int .u64 id, .int .i64 qty] w fun e w' => e = .returned (.int .i64 2) ∧ Hid (Below w.heap.size w w') := by
  have HM := Lib.hid (made_c (some ⟨p, 0, none⟩) (some m) s1 s2 w H.bk)
  have hd : decide (qty < 1) = false := decide_eq_false hq1
  clear H
  go_enter Try.func14, Try.ntmps14
  go_wp2_with (first | ((with_reducible refine HM.out.mono ?_); rintro e w1' ⟨rfl, hw1⟩; obtain rfl : w = w1' := hw1.symm; clear HM) | ((with_reducible refine (HGet.out _ (Below.refl _ _)).mono ?_); rintro e w1 ⟨rfl, hb1⟩; dsimp only [optV]; have HB1 : Hid (Below w.heap.size w (w1.alloc (.cells (OC o) 32))) := hb1.out.alloc hb1.out.size _; clear HGet))
  all_goals (try (exfalso; omega))
  go_ret
  exact ⟨rfl, Lib.hid HB1.out⟩
set_option maxHeartbeats 4000000 in
set_option maxRecDepth 100000 in
theorem cut_all (p m : Nat) (s1 s2 : Sd) (o : Od) (id : Int) (w : World) (H : Whole w p m s1 s2) (ho : o ∈ bookL s1.rs s2.rs) (hid : o.id = id)
    (HGet : Hid (∀ W, Below w.heap.size w W → Calls Try.prog 24 #[.pointer (some ⟨p, 0, none⟩), .int .u64 id] W fun e w' => e = .returned (.tuple #[optV (some o), .bool true]) ∧ Hid (Below W.heap.size W w'))) (hq1 : ¬ o.qty < 1) :
    Calls Try.prog 14 #[.pointer (some ⟨p, 0, none⟩), .int .u64 id, .int .i64 o.qty] w fun e w' => e = .returned (.int .i64 0) ∧ ∃ s1' s2', Hid (TakeIs w w' p m s1 s2 s1' s2' o) := by
  have HM := Lib.hid (made_c (some ⟨p, 0, none⟩) (some m) s1 s2 w H.bk)
  have hq2 : ¬ o.qty < o.qty := by omega
  have HT : Hid (∀ W, Below w.heap.size w W → Calls Try.prog 12 #[.pointer (some ⟨p, 0, none⟩), .int .u64 id] W fun e w' => e = .returned (.tuple #[optV (some o), .bool true]) ∧ ∃ s1' s2', Hid (TakeIs W w' p m s1 s2 s1' s2' o)) := fun W hW => lTake_c p m s1 s2 o id W (H.below hW) ho hid
  clear H ho hid
  go_enter Try.func14, Try.ntmps14
  go_wp2_with (first | ((with_reducible refine HM.out.mono ?_); rintro e w1' ⟨rfl, hw1⟩; obtain rfl : w = w1' := hw1.symm; clear HM) | ((with_reducible refine (HGet.out _ (Below.refl _ _)).mono ?_); rintro e w1 ⟨rfl, hb1⟩; dsimp only [optV]; have HB1 : Hid (Below w.heap.size w (w1.alloc (.cells (OC o) 32))) := hb1.out.alloc hb1.out.size _; clear HGet) | ((with_reducible refine (HT.out _ HB1.out).mono ?_); rintro e w3 ⟨rfl, t1, t2, ht⟩; dsimp only [optV]; clear HT))
  all_goals (try (exfalso; omega))
  go_ret
  have h := ht.out
  exact ⟨rfl, t1, t2, Lib.hid ⟨⟨h.tu.wh, (Fr.of_below HB1.out : Fr (foot (some ⟨p, 0, none⟩) (some m) s1 s2) w _).t h.tu.fr, fun k hk => (h.tu.ft k hk).imp (fun h' => h') (fun h' => Nat.le_trans HB1.out.size h')⟩, h.perm, h.e2, h.e1⟩⟩
theorem lCut_c (p m : Nat) (s1 s2 : Sd) (id qty : Int) (w : World) (H : Whole w p m s1 s2) :
    Calls Try.prog 14 #[.pointer (some ⟨p, 0, none⟩), .int .u64 id, .int .i64 qty] w fun e w' => ∃ c s1' s2', e = .returned (.int .i64 c) ∧ Hid (CutIs w w' p m s1 s2 s1' s2' id qty c) := by
  by_cases hx : ∃ x ∈ bookL s1.rs s2.rs, x.id = id
  · obtain ⟨o, ho, hid⟩ := hx
    have HGet := get_there H ho hid
    by_cases hq1 : qty < 1
    · exact (cut_low p m s1 s2 o id qty w H HGet hq1).mono fun e w' ⟨he, h⟩ => ⟨2, s1, s2, he, Lib.hid (.inr ⟨o, ho, hid, .inl ⟨rfl, .inl hq1, rfl, rfl, h.out⟩⟩)⟩
    by_cases hq2 : o.qty < qty
    · exact (cut_high p m s1 s2 o id qty w H HGet hq1 hq2).mono fun e w' ⟨he, h⟩ => ⟨2, s1, s2, he, Lib.hid (.inr ⟨o, ho, hid, .inl ⟨rfl, .inr hq2, rfl, rfl, h.out⟩⟩)⟩
    by_cases hq3 : qty = o.qty
    · subst hq3
      exact (cut_all p m s1 s2 o id w H ho hid HGet hq1).mono fun e w' ⟨he, t1, t2, h⟩ => ⟨0, t1, t2, he, Lib.hid (.inr ⟨o, ho, hid, .inr (.inl ⟨rfl, hq1, rfl, h.out⟩)⟩)⟩
    · have hl : qty < o.qty := by omega
      rcases good_side (H.ok o ho).2 with hs | hs
      · exact (cut_w1 p m s1 s2 o id qty w H ho hs hq1 hl HGet).mono fun e w' ⟨he, t1, t2, h⟩ => ⟨0, t1, t2, he, Lib.hid (.inr ⟨o, ho, hid, .inr (.inr ⟨rfl, hq1, hl, h.out⟩)⟩)⟩
      · exact (cut_w2 p m s1 s2 o id qty w H ho hs hq1 hl HGet).mono fun e w' ⟨he, t1, t2, h⟩ => ⟨0, t1, t2, he, Lib.hid (.inr ⟨o, ho, hid, .inr (.inr ⟨rfl, hq1, hl, h.out⟩)⟩)⟩
  · have hno : ∀ x ∈ bookL s1.rs s2.rs, ¬ x.id = id := fun x h1 h2 => hx ⟨x, h1, h2⟩
    exact (cut_none p m s1 s2 id qty w H hno).mono fun e w' ⟨he, h⟩ => ⟨51, s1, s2, he, Lib.hid (.inl ⟨rfl, hno, rfl, rfl, h.out⟩)⟩
end Go.Proofs.Ytemmbgbmkihbaaa

/- jobberlaw13.Op: opened, by value and in a slice. (By mkopen.py.) -/
namespace Go.Proofs.Ytemmbgbmkihbaaa
open Go.RowKit Go.ChangeShapes Go.WideShapes Go.Deep
set_option linter.unusedVariables false

structure Op where
  kind : Int
  id : Int
  acc : Int
  side : Int
  price : Int
  qt : Int
  seq : Int
  n : Int
  qty : Int
instance : Inhabited Op := ⟨⟨0, 0, 0, 0, 0, 0, 0, 0, 0⟩⟩
def Op.ok (w : World) (x : Op) : Prop := (-9223372036854775808 ≤ x.kind ∧ x.kind ≤ 9223372036854775807) ∧ (0 ≤ x.id ∧ x.id ≤ 18446744073709551615) ∧ (-9223372036854775808 ≤ x.acc ∧ x.acc ≤ 9223372036854775807) ∧ (-9223372036854775808 ≤ x.side ∧ x.side ≤ 9223372036854775807) ∧ (-9223372036854775808 ≤ x.price ∧ x.price ≤ 9223372036854775807) ∧ (-9223372036854775808 ≤ x.qt ∧ x.qt ≤ 9223372036854775807) ∧ (0 ≤ x.seq ∧ x.seq ≤ 18446744073709551615) ∧ (0 ≤ x.n ∧ x.n ≤ 18446744073709551615) ∧ (-9223372036854775808 ≤ x.qty ∧ x.qty ≤ 9223372036854775807)
def Op.val (x : Op) : Value := .agg #[(.int .i64 x.kind), (.int .u64 x.id), (.int .i64 x.acc), (.int .i64 x.side), (.int .i64 x.price), (.int .i64 x.qt), (.int .u64 x.seq), (.int .u64 x.n), (.int .i64 x.qty)]
/-- The cells of one at an address. -/
def Op.at (x : Op) (w : World) (b o : Nat) : Prop := w.cell? ⟨b, o, none⟩ = some (.int .i64 x.kind) ∧ w.cell? ⟨b, o + 1, none⟩ = some (.int .u64 x.id) ∧ w.cell? ⟨b, o + 2, none⟩ = some (.int .i64 x.acc) ∧ w.cell? ⟨b, o + 3, none⟩ = some (.int .i64 x.side) ∧ w.cell? ⟨b, o + 4, none⟩ = some (.int .i64 x.price) ∧ w.cell? ⟨b, o + 5, none⟩ = some (.int .i64 x.qt) ∧ w.cell? ⟨b, o + 6, none⟩ = some (.int .u64 x.seq) ∧ w.cell? ⟨b, o + 7, none⟩ = some (.int .u64 x.n) ∧ w.cell? ⟨b, o + 8, none⟩ = some (.int .i64 x.qty)
theorem Op.ok_below {w w' : World} {x : Op} (h : x.ok w) (hb : Below w.heap.size w w') : x.ok w' := by
  exact h
theorem Op.at_below {w w' : World} {x : Op} {b o : Nat} (h : x.at w b o) (hl : b < w.heap.size) (hb : Below w.heap.size w w') : x.at w' b o := by
  unfold Op.at at h ⊢
  simpa only [hb.cell (p := ⟨b, o, none⟩) hl, hb.cell (p := ⟨b, o + 1, none⟩) hl, hb.cell (p := ⟨b, o + 2, none⟩) hl, hb.cell (p := ⟨b, o + 3, none⟩) hl, hb.cell (p := ⟨b, o + 4, none⟩) hl, hb.cell (p := ⟨b, o + 5, none⟩) hl, hb.cell (p := ⟨b, o + 6, none⟩) hl, hb.cell (p := ⟨b, o + 7, none⟩) hl, hb.cell (p := ⟨b, o + 8, none⟩) hl] using h
/-- Some of them in a slice. -/
def Ops (w : World) (a : Option Addr) (len : Nat) (its : List Op) : Prop :=
  its.length = len ∧ len ≤ 9223372036854775807 ∧ (∀ x ∈ its, x.ok w) ∧ (len = 0 ∨ ∃ b off, a = some ⟨b, off, none⟩ ∧ b < w.heap.size ∧ ∀ i, i < len → (its[i]!).at w b (off + i * 9))
theorem Ops.below {w w' : World} {a : Option Addr} {len : Nat} {its : List Op} (h : Ops w a len its) (hb : Below w.heap.size w w') : Ops w' a len its := by
  obtain ⟨h1, hle, h2, h3⟩ := h
  refine ⟨h1, hle, fun x hx => Op.ok_below (h2 x hx) hb, ?_⟩
  rcases h3 with h0 | ⟨b, off, rfl, hlt, hc⟩
  · exact .inl h0
  · exact .inr ⟨b, off, rfl, Nat.lt_of_lt_of_le hlt hb.size, fun i hi => Op.at_below (hc i hi) hlt hb⟩
theorem cells_op : Try.prog.cellsOf 34 = 9 := by kernel_rfl

set_option maxRecDepth 100000 in
set_option maxHeartbeats 2000000 in
theorem open_op {H : Type} {enc : TypeId × Value → H} {w : World} {fuel : Nat} {cs : List Value} {y : DataW H × List MemPlace} (hl : cs.length = 9) (h : DataW.trod enc Try.prog w 0 (fun _ => true) true fuel 34 cs = some y) :
    ∃ x : Op, x.ok w ∧ cs[0]? = some (.int .i64 x.kind) ∧ cs[1]? = some (.int .u64 x.id) ∧ cs[2]? = some (.int .i64 x.acc) ∧ cs[3]? = some (.int .i64 x.side) ∧ cs[4]? = some (.int .i64 x.price) ∧ cs[5]? = some (.int .i64 x.qt) ∧ cs[6]? = some (.int .u64 x.seq) ∧ cs[7]? = some (.int .u64 x.n) ∧ cs[8]? = some (.int .i64 x.qty) := by
  obtain ⟨xs, n', _, _, _, hxl, hg⟩ := DataW.trod_struct Try.underlying34 h
  have at_ : ∀ (j k : Nat) (f : Field), j < 4 → k < 9 → f.offset = k ∧ Try.prog.cellsOf f.type = 1 → DataW.trod enc Try.prog w 0 (fun _ => true) true n' f.type ((cs.drop f.offset).take (Try.prog.cellsOf f.type)) = xs[j]? →
      ∃ v y, cs[k]? = some v ∧ DataW.trod enc Try.prog w 0 (fun _ => true) true n' f.type [v] = some y := by
    intro j k f hj hk' ⟨ho, hk⟩ htr
    rw [ho, hk] at htr
    have hjl : k < cs.length := by omega
    have e1 : (cs.drop k).take 1 = [cs[k]] := by
      rw [List.drop_eq_getElem_cons hjl]; rfl
    rw [e1] at htr
    have hxj : j < xs.length := by rw [hxl]; exact hj
    rw [List.getElem?_eq_getElem hxj] at htr
    exact ⟨_, _, List.getElem?_eq_getElem hjl, htr⟩
  have g0 := hg 0 _ rfl
  have g1 := hg 1 _ rfl
  have g2 := hg 2 _ rfl
  have g3 := hg 3 _ rfl
  obtain ⟨v0, y0, p0, q0⟩ := at_ 0 0 _ (by omega) (by omega) ⟨rfl, by kernel_rfl⟩ g0
  obtain ⟨v7, y7, p7, q7⟩ := at_ 2 7 _ (by omega) (by omega) ⟨rfl, by kernel_rfl⟩ g2
  obtain ⟨v8, y8, p8, q8⟩ := at_ 3 8 _ (by omega) (by omega) ⟨rfl, by kernel_rfl⟩ g3
  have hx1 : 1 < xs.length := by rw [hxl]; decide
  rw [List.getElem?_eq_getElem hx1] at g1
  have g1' : DataW.trod enc Try.prog w 0 (fun _ => true) true n' 32 ((cs.drop 1).take (Try.prog.cellsOf 32)) = some xs[1] := g1
  rw [cells_od] at g1'
  obtain ⟨x, hx, p1, p2, p3, p4, p5, p6⟩ := open_od (by rw [List.length_take, List.length_drop]; omega) g1'
  obtain ⟨k0, e0, _, w0⟩ := DataW.trod_int Try.underlying3 q0
  obtain ⟨k7, e7, _, w7⟩ := DataW.trod_int Try.underlying30 q7
  obtain ⟨k8, e8, _, w8⟩ := DataW.trod_int Try.underlying2 q8
  injection e0 with e0; injection e7 with e7; injection e8 with e8
  subst e0; subst e7; subst e8
  have key : ∀ j u, j < 6 → ((cs.drop 1).take 6)[j]? = some u → cs[j + 1]? = some u := fun j u hj h => by
    rw [List.getElem?_take, if_pos hj, List.getElem?_drop, Nat.add_comm] at h; exact h
  obtain ⟨o1, o2, o3, o4, o5, o6⟩ := hx
  exact ⟨⟨k0, x.id, x.acc, x.side, x.price, x.qty, x.seq, k7, k8⟩, ⟨bounds_i64 w0, o1, o2, o3, o4, o5, o6, bounds_u64 w7, bounds_i64 w8⟩, p0, key 0 _ (by omega) p1, key 1 _ (by omega) p2, key 2 _ (by omega) p3, key 3 _ (by omega) p4, key 4 _ (by omega) p5, key 5 _ (by omega) p6, p7, p8⟩

set_option maxRecDepth 100000 in
set_option maxHeartbeats 2000000 in
theorem open_op_val {H : Type} {enc : TypeId × Value → H} {w : World} {r : Reach} {b0 : Nat} {v : Value} {d : DataW H} {p : List MemPlace} (hv : Value.okWide Try.prog w r b0 34 v) (h : DataW.Trod enc Try.prog w 0 (fun _ => true) true 34 v d p) : ∃ x : Op, x.ok w ∧ v = x.val := by
  obtain ⟨cs, rfl, hsz⟩ := okWide_struct Try.underlying34 hv
  obtain ⟨fuel, hf⟩ := h
  have hl : cs.toList.length = 9 := by rw [Array.length_toList, hsz, cells_op]
  obtain ⟨x, hx, p0, p1, p2, p3, p4, p5, p6, p7, p8⟩ := open_op hl hf
  refine ⟨x, hx, ?_⟩
  unfold Op.val
  congr 1
  apply Array.ext'
  match cs.toList, hl, p0, p1, p2, p3, p4, p5, p6, p7, p8 with
  | [v0, v1, v2, v3, v4, v5, v6, v7, v8], _, p0, p1, p2, p3, p4, p5, p6, p7, p8 => simp at p0 p1 p2 p3 p4 p5 p6 p7 p8; simp [p0, p1, p2, p3, p4, p5, p6, p7, p8]

set_option maxRecDepth 100000 in
set_option maxHeartbeats 2000000 in
theorem open_ops {H : Type} {enc : TypeId × Value → H} {w : World} {a : Option Addr} {len cap : Nat} {d : DataW H} {p : List MemPlace}
    (h : DataW.Trod enc Try.prog w 0 (fun _ => true) true 22 (.slice a len cap) d p) : ∃ its, Ops w a len its ∧ len ≤ cap ∧ cap ≤ maxLen := by
  obtain ⟨fuel, hf⟩ := h
  have hlt := DataW.trod_lt _ _ _ _ hf
  rcases open_slice Try.underlying22 hf with ⟨hcs, _⟩ | ⟨x, l, c, m, n, D, Pl, hcs, _, hl, hm, hmm, hx, hi⟩
  · simp [Value.cells] at hcs
    obtain ⟨rfl, rfl, rfl⟩ := hcs
    exact ⟨[], ⟨rfl, by omega, by simp, .inl rfl⟩, Nat.le_refl _, Nat.zero_le _⟩
  · simp [Value.cells] at hcs
    obtain ⟨rfl, rfl, rfl⟩ := hcs
    rw [if_pos rfl] at hmm
    subst hmm
    have one : ∀ i, i < len → ∃ y : Op, y.ok w ∧ w.cell? ((x.add (i * 9)).add 0) = some (.int .i64 y.kind) ∧ w.cell? ((x.add (i * 9)).add 1) = some (.int .u64 y.id) ∧ w.cell? ((x.add (i * 9)).add 2) = some (.int .i64 y.acc) ∧ w.cell? ((x.add (i * 9)).add 3) = some (.int .i64 y.side) ∧ w.cell? ((x.add (i * 9)).add 4) = some (.int .i64 y.price) ∧ w.cell? ((x.add (i * 9)).add 5) = some (.int .i64 y.qt) ∧ w.cell? ((x.add (i * 9)).add 6) = some (.int .u64 y.seq) ∧ w.cell? ((x.add (i * 9)).add 7) = some (.int .u64 y.n) ∧ w.cell? ((x.add (i * 9)).add 8) = some (.int .i64 y.qty) := by
      intro i hil
      obtain ⟨cs', hc, ht⟩ := hi i (by omega)
      rw [cells_op] at hc
      obtain ⟨_, hlen, hcell⟩ := World.cells?_some hc
      obtain ⟨y, hy, p0, p1, p2, p3, p4, p5, p6, p7, p8⟩ := open_op hlen ht
      exact ⟨y, hy, by rw [hcell 0 (by omega), p0], by rw [hcell 1 (by omega), p1], by rw [hcell 2 (by omega), p2], by rw [hcell 3 (by omega), p3], by rw [hcell 4 (by omega), p4], by rw [hcell 5 (by omega), p5], by rw [hcell 6 (by omega), p6], by rw [hcell 7 (by omega), p7], by rw [hcell 8 (by omega), p8]⟩
    refine ⟨(List.range len).map fun i => if h : i < len then Classical.choose (one i h) else default, ⟨by simp, by unfold maxLen at hm; omega, fun z hz => ?_, ?_⟩, hl, hm⟩
    · obtain ⟨i, hi1, rfl⟩ := List.mem_map.1 hz
      have hil : i < len := by simpa using hi1
      rw [dif_pos hil]
      exact (Classical.choose_spec (one i hil)).1
    · by_cases h0 : len = 0
      · exact .inl h0
      obtain ⟨b, off, spot⟩ := x
      obtain ⟨y, _, hy, _⟩ := one 0 (by omega)
      have hspot : spot = none := by simpa [Addr.add] using World.cell?_spot hy
      subst hspot
      have hb : b < w.heap.size := World.block_lt_of_cell? w ⟨b, off + 0 * 9 + 0, none⟩ (by simpa only [addr_add] using hy)
      refine .inr ⟨b, off, rfl, hb, fun i hil => ?_⟩
      have e : ((List.range len).map fun i => if h : i < len then Classical.choose (one i h) else (default : Op))[i]! = Classical.choose (one i hil) := by
        rw [List.getElem!_eq_getElem?_getD, List.getElem?_map, List.getElem?_range hil]
        simp [hil]
      have hs := (Classical.choose_spec (one i hil)).2
      rw [e]
      unfold Op.at
      simpa only [addr_add, ← Nat.add_assoc, Nat.add_zero] using hs
end Go.Proofs.Ytemmbgbmkihbaaa

/- The law's prices: two rows of the same numbers. -/
namespace Go.Proofs.Ytemmbgbmkihbaaa
open Go.RowKit Go.Shelf Go.Sort Go.Maps

/-- A row of numbers, read. -/
theorem ints_at {w : World} {base n : Nat} {v : Value} {l : List Int} (h : w.ownsRow base 2 1 v n (l.map (fun p => Value.int .i64 p))) : ∃ A c, v = .slice A n c ∧ l.length = n ∧ (n = 0 ∨ ∃ g, A = some ⟨g, 0, none⟩ ∧ ∀ i, i < n → w.cell? ⟨g, i, none⟩ = some (.int .i64 (l[i]!))) := by
  obtain ⟨h1, h2⟩ := h
  rw [List.length_map, Nat.mul_one] at h1
  rcases h2 with ⟨e, h0⟩ | ⟨g, cap, cur, e, _, hg, hc, hm, hs, ht⟩
  · subst h0; exact ⟨none, 0, e, h1, .inl rfl⟩
  · refine ⟨_, _, e, h1, .inr ⟨g, rfl, fun i hi => ?_⟩⟩
    have hi' : i < l.length := by rw [h1]; exact hi
    rw [cell_of_row _ _ _ _ _ _ hg, ← Array.getElem?_toList]
    have : (cur.toList.take (n * 1))[i]? = (l.map (fun p => Value.int .i64 p))[i]? := by rw [ht]
    rw [List.getElem?_take, if_pos (by omega), List.getElem?_map, List.getElem?_eq_getElem hi'] at this
    rw [this, getElem!_pos l i hi']
    rfl
set_option maxHeartbeats 4000000 in
set_option maxRecDepth 100000 in
theorem prices_c (v u : Value) (n : Nat) (l : List Int) (base base' : Nat) (w : World) (H : w.ownsRow base 2 1 v n (l.map (fun p => Value.int .i64 p))) (K : w.ownsRow base' 2 1 u n (l.map (fun p => Value.int .i64 p))) (hn : n ≤ 1000) :
    Calls Try.prog 25 #[v, u] w fun e w' => e = .returned (.bool true) ∧ Hid (Below w.heap.size w w') := by
  have mixed : Try.prog.follows .mixedOrders = true := by kernel_rfl
  obtain ⟨A, c, rfl, _, h⟩ := ints_at H
  obtain ⟨B, c', rfl, _, k⟩ := ints_at K
  have HH := Lib.hid h
  have KK := Lib.hid k
  clear H K h k
  have hnI : (n : Int) ≤ 1000 := by omega
  have enn : ((n : Int) == (n : Int)) = true := by simp
  go_enter Try.func25, Try.ntmps25
  go_wp2_with fail
  go_loopw [13] (fun s wr => ∃ i q : Nat, s = .int .i64 (i : Int) ∧ wr = w.drewN q ∧ Hid (i ≤ n)) (fun s _ => match s with | .int _ z => n - z.toNat | _ => 0)
  case atStart => exact ⟨0, 0, rfl, rfl, Nat.zero_le _⟩
  case round =>
    obtain ⟨i, q, rfl, rfl, hd⟩ := hrel
    by_cases hi : i < n
    · have hiI : (i : Int) < (n : Int) := by omega
      rcases HH.out with h | ⟨g, rfl, hg⟩
      · omega
      rcases KK.out with h | ⟨g', rfl, hg'⟩
      · omega
      have h1 := hg i hi
      have h2 := hg' i hi
      obtain ⟨x, hx⟩ : ∃ x, l[i]! = x := ⟨_, rfl⟩
      rw [hx] at h1 h2
      have Hi := Lib.hid hi
      clear hg hg' hx hi
      have d1 : ∀ q, (w.drewN q).cell? ⟨g, i, none⟩ = some (.int .i64 x) := fun _ => h1
      have d2 : ∀ q, (w.drewN q).cell? ⟨g', i, none⟩ = some (.int .i64 x) := fun _ => h2
      go_wp2_with fail
      go_quiet (fail)
      go_wp2_with fail
      exact ⟨⟨i + 1, _, rfl, rfl, Hi.out⟩, less_left Hi.out⟩
    · obtain rfl : i = n := by have := hd.out; omega
      have hiI : ¬ (i : Int) < (i : Int) := by omega
      go_wp2_with fail
      go_ret
      exact ⟨rfl, Lib.hid (below_drewN (Below.refl _ _) _)⟩
end Go.Proofs.Ytemmbgbmkihbaaa

/- LadderSides: what stays of a side. -/
namespace Go.Proofs.Ytemmbgbmkihbaaa
open Go.RowKit Go.Shelf Go.Sort Go.Maps

/-- A book of the call's own. -/
structure One (w W : World) (p m : Nat) (s1 s2 : Sd) : Prop where
  wh : Whole W p m s1 s2
  be : Below w.heap.size w W
  lo : ∀ k, foot (some ⟨p, 0, none⟩) (some m) s1 s2 k → w.heap.size ≤ k
/-- A turn of the book. -/
def Turn (W W' : World) (p m : Nat) (s1 s2 s1' s2' : Sd) : Prop :=
  Whole W' p m s1' s2' ∧ Fr (foot (some ⟨p, 0, none⟩) (some m) s1 s2) W W' ∧ ∀ k, foot (some ⟨p, 0, none⟩) (some m) s1' s2' k → foot (some ⟨p, 0, none⟩) (some m) s1 s2 k ∨ W.heap.size ≤ k
theorem One.below {w W W' : World} {p m : Nat} {s1 s2 : Sd} (h : One w W p m s1 s2) (hb : Below W.heap.size W W') : One w W' p m s1 s2 := ⟨h.wh.below hb, h.be.trans (hb.mono h.be.size), h.lo⟩
theorem One.turn {w W W' : World} {p m : Nat} {s1 s2 s1' s2' : Sd} (h : One w W p m s1 s2) (t : Turn W W' p m s1 s2 s1' s2') : One w W' p m s1' s2' :=
  ⟨t.1, h.be.trans (t.2.1.below h.lo h.be.size), fun k hk => (t.2.2 k hk).elim (h.lo k) (fun e => Nat.le_trans h.be.size e)⟩
theorem turn_same {W W' : World} {p m : Nat} {s1 s2 : Sd} (H : Whole W p m s1 s2) (hb : Below W.heap.size W W') : Turn W W' p m s1 s2 s1 s2 := ⟨H.below hb, Fr.of_below hb, fun _ h => .inl h⟩
/-- Add at another side leaves the side. -/
theorem add_side {W W' : World} {p m : Nat} {s1 s2 s1' s2' : Sd} {o : Od} {c sd : Int} (H : Whole W p m s1 s2) (k : AddIs W W' p m s1 s2 s1' s2' o c) (hs : ¬ o.side = sd) (h2 : sd = 1 ∨ sd = 2) : Turn W W' p m s1 s2 s1' s2' ∧ rsOf s1' s2' sd = rsOf s1 s2 sd := by
  refine ⟨add_whole H k, ?_⟩
  rcases k with ⟨_, _, rfl, rfl, _⟩ | ⟨_, _, _, rfl, rfl, _⟩ | ⟨hg, _, ⟨_, _, rfl, rfl, _⟩ | ⟨_, _, hp⟩⟩
  · rfl
  · rfl
  · rfl
  · rcases good_side hg with e | e
    · rcases h2 with rfl | rfl
      · exact absurd e hs
      · rw [hp.e2 e]; rfl
    · rcases h2 with rfl | rfl
      · rw [hp.e1 e]; rfl
      · exact absurd e hs
theorem cut_side {W W' : World} {p m : Nat} {s1 s2 s1' s2' : Sd} {id qty c sd : Int} {y : Od} (H : Whole W p m s1 s2) (k : CutIs W W' p m s1 s2 s1' s2' id qty c) (hy : GetIs id (bookL s1.rs s2.rs) (some y)) (hs : ¬ y.side = sd) (h2 : sd = 1 ∨ sd = 2) : Turn W W' p m s1 s2 s1' s2' ∧ rsOf s1' s2' sd = rsOf s1 s2 sd := by
  rcases k with ⟨_, hno, _⟩ | ⟨o, ho, hid, k⟩
  · exact absurd hy.2 (hno y hy.1)
  obtain rfl : y = o := ids_inj H.ids hy.1 ho (hy.2.trans hid.symm)
  rcases k with ⟨_, _, rfl, rfl, hb⟩ | ⟨_, _, _, ht⟩ | ⟨_, _, _, hl⟩
  · exact ⟨turn_same H hb, rfl⟩
  · refine ⟨⟨ht.tu.wh, ht.tu.fr, ht.tu.ft⟩, ?_⟩
    rcases good_side (H.ok y ho).2 with e | e
    · rcases h2 with rfl | rfl
      · exact absurd e hs
      · rw [ht.e2 e]; rfl
    · rcases h2 with rfl | rfl
      · rw [ht.e1 e]; rfl
      · exact absurd e hs
  · refine ⟨⟨hl.tu.wh, hl.tu.fr, hl.tu.ft⟩, ?_⟩
    rcases good_side (H.ok y ho).2 with e | e
    · rcases h2 with rfl | rfl
      · exact absurd e hs
      · rw [hl.e2 e]; rfl
    · rcases h2 with rfl | rfl
      · rw [hl.e1 e]; rfl
      · exact absurd e hs
/-- What is kept beside the book. -/
structure Kept (w W : World) (p m : Nat) (s1 s2 : Sd) (sd : Int) (R : List Rw) (v : Value) (n : Nat) (l : List Int) (fb : Nat) (z : Od) : Prop where
  one : One w W p m s1 s2
  rs : rsOf s1 s2 sd = R
  was : W.ownsRow 0 2 1 v n (l.map (fun p => Value.int .i64 p))
  bx : Cl 32 W fb (OC z)
  nf : ¬ foot (some ⟨p, 0, none⟩) (some m) s1 s2 fb
  nv : ∀ j, v.ownBlock = some j → ¬ foot (some ⟨p, 0, none⟩) (some m) s1 s2 j
section
variable {w W W' : World} {p m n fb : Nat} {s1 s2 s1' s2' : Sd} {sd : Int} {R : List Rw} {v : Value} {l : List Int} {z : Od}
theorem Kept.below (h : Kept w W p m s1 s2 sd R v n l fb z) (hb : Below W.heap.size W W') : Kept w W' p m s1 s2 sd R v n l fb z :=
  ⟨h.one.below hb, h.rs, own_low h.was hb, (hb.block _ (blk_lt h.bx)).trans h.bx, h.nf, h.nv⟩
theorem Kept.turn (h : Kept w W p m s1 s2 sd R v n l fb z) (t : Turn W W' p m s1 s2 s1' s2' ∧ rsOf s1' s2' sd = rsOf s1 s2 sd) : Kept w W' p m s1' s2' sd R v n l fb z := by
  obtain ⟨t, e⟩ := t
  refine ⟨h.one.turn t, e.trans h.rs, own_fr h.was t.2.1 (fun j hj => h.nv j hj), t.2.1.blk h.bx h.nf, fun hk => ?_, fun j hj hk => ?_⟩
  · rcases t.2.2 fb hk with h' | h'
    · exact h.nf h'
    · have := blk_lt h.bx; omega
  · rcases t.2.2 j hk with h' | h'
    · exact h.nv j hj h'
    · have := (own_lt h.was j hj).2; omega
theorem turn_cl {T : TypeId} {c : Nat} {cs : Array Value} (hc : Cl T W c cs) (hn : ¬ foot (some ⟨p, 0, none⟩) (some m) s1 s2 c) (t : Turn W W' p m s1 s2 s1' s2' ∧ rsOf s1' s2' sd = rsOf s1 s2 sd) : Cl T W' c cs := t.1.2.1.blk hc hn
end
end Go.Proofs.Ytemmbgbmkihbaaa

/- LadderSides, walked. (By mklej.py.) -/
namespace Go.Proofs.Ytemmbgbmkihbaaa
open Go.RowKit Go.Shelf Go.Sort Go.Maps

theorem one_new {w w1 : World} (h : Bk w1 (some ⟨w.heap.size + 1, 0, none⟩) (some w.heap.size) nilS nilS ∧ Below w.heap.size w w1) : One w w1 (w.heap.size + 1) w.heap.size nilS nilS :=
  ⟨whole_new h.1, h.2, fun k hk => by rcases whole_foot hk with e | e <;> omega⟩
theorem prices_in {W : World} {p m : Nat} {s1 s2 : Sd} {sd : Int} {R : List Rw} (H : Whole W p m s1 s2) (hR : rsOf s1 s2 sd = R) (hsd : (Lit.int .i64 sd).wf = true) :
    Calls Try.prog 22 #[.pointer (some ⟨p, 0, none⟩), .int .i64 sd] W fun e w' => ∃ v, e = .returned v ∧ Hid (w'.ownsRow W.heap.size 2 1 v R.length ((R.map (·.pr)).map (fun p => Value.int .i64 p)) ∧ Below W.heap.size W w') := by
  have hn := H.n1
  have := lPrices_c _ _ s1 s2 sd hsd W H.bk (by omega) (by omega)
  rwa [hR, prV_map] at this
theorem side_len {W : World} {p m : Nat} {s1 s2 : Sd} (H : Whole W p m s1 s2) (sd : Int) : (rsOf s1 s2 sd).length ≤ 64 := by
  have hn := H.n1
  unfold rsOf
  (repeat' split)
  · exact hn.1
  · exact hn.2.1
  · exact Nat.zero_le _
theorem opt_agg (r : Option Od) : ∃ z, optV r = .agg (OC z) ∧ ∀ y, r = some y → z = y := by
  cases r with
  | none => exact ⟨_, rfl, fun y h => by cases h⟩
  | some x => exact ⟨x, rfl, fun y h => by injection h⟩
theorem nine_of {T : TypeId} {W : World} {c : Nat} {x : Op} (h : Cl T W c #[.int .i64 x.kind, .int .u64 x.id, .int .i64 x.acc, .int .i64 x.side, .int .i64 x.price, .int .i64 x.qt, .int .u64 x.seq, .int .u64 x.n, .int .i64 x.qty]) :
    W.cell? ⟨c, 0, none⟩ = some (.int .i64 x.kind) ∧ W.cell? ⟨c, 1, none⟩ = some (.int .u64 x.id) ∧ W.cell? ⟨c, 2, none⟩ = some (.int .i64 x.acc) ∧ W.cell? ⟨c, 3, none⟩ = some (.int .i64 x.side) ∧ W.cell? ⟨c, 4, none⟩ = some (.int .i64 x.price) ∧ W.cell? ⟨c, 5, none⟩ = some (.int .i64 x.qt) ∧ W.cell? ⟨c, 6, none⟩ = some (.int .u64 x.seq) ∧ W.cell? ⟨c, 7, none⟩ = some (.int .u64 x.n) ∧ W.cell? ⟨c, 8, none⟩ = some (.int .i64 x.qty) :=
  ⟨(h.c 0).trans rfl, (h.c 1).trans rfl, (h.c 2).trans rfl, (h.c 3).trans rfl, (h.c 4).trans rfl, (h.c 5).trans rfl, (h.c 6).trans rfl, (h.c 7).trans rfl, (h.c 8).trans rfl⟩
set_option maxHeartbeats 8000000 in
set_option maxRecDepth 100000 in
theorem sides_w1 (a0 : Option Addr) (len0 cap0 : Nat) (its : List Od) (a1 : Option Addr) (len1 cap1 : Nat) (ops : List Op) (w : World) (hO : Ods w a0 len0 its) (hP : Ops w a1 len1 ops) (h64 : len0 ≤ 64) (h60 : len1 ≤ 60) :
    Calls Try.prog 5 #[.slice a0 len0 cap0, .slice a1 len1 cap1, .int .i64 1] w fun e w' => e = .returned (.bool true) ∧ Below w.heap.size w w' := by
  have mixed : Try.prog.follows .mixedOrders = true := by kernel_rfl
  have HL := Lib.hid lives13_c
  have hz : ¬ (64 : Int) < (len0 : Int) := by omega
  have hz1 : ¬ (60 : Int) < (len1 : Int) := by omega
  have HN0 : Hid (its.length = len0) := hO.1
  have HN1 : Hid (ops.length = len1) := hP.1
  have HO := Lib.hid hO
  have HP := Lib.hid hP
  have H64 := Lib.hid h64
  have H60 := Lib.hid h60
  have HN := Lib.hid (new_c w)
  clear hO hP h64 h60
  go_enter Try.func5, Try.ntmps5
  go_wp2_with ((with_reducible refine HN.out.mono ?_); rintro e w1 ⟨rfl, hn1⟩; clear HN)
  obtain ⟨pa, epa⟩ : ∃ x, w.heap.size + 1 = x := ⟨_, rfl⟩
  obtain ⟨ma, I0⟩ : ∃ ma, Hid (One w w1 pa ma nilS nilS) := by
    have h := one_new hn1.out
    rw [epa] at h
    exact ⟨_, Lib.hid h⟩
  rw [epa]
  clear epa hn1
  go_loopw [39] (fun s wr => ∃ (k : Nat) (s1 s2 : Sd), s = .int .i64 (k : Int) ∧ Hid (k ≤ len0 ∧ One w wr pa ma s1 s2)) (fun s _ => match s with | .int _ z => len0 - z.toNat | _ => 0)
  case atStart => exact ⟨0, nilS, nilS, rfl, Nat.zero_le _, I0.out⟩
  case round =>
    clear I0
    obtain ⟨k, s1, s2, rfl, hd⟩ := hrel
    by_cases hk : k < len0
    · have hkI : (k : Int) < (len0 : Int) := by omega
      have h1 := (HO.out.below hd.out.2.be).2.2.2
      rcases h1 with h1 | ⟨b, off, rfl, _, hc⟩
      · omega
      have hx := hc k hk
      clear hc
      have HA : Hid (∀ W, Whole W pa ma s1 s2 → Calls Try.prog 17 #[.pointer (some ⟨pa, 0, none⟩), .agg #[.int .u64 (k : Int), .int .i64 (its[k]!).acc, .int .i64 (its[k]!).side, .int .i64 (its[k]!).price, .int .i64 (its[k]!).qty, .int .u64 (its[k]!).seq]] W fun e w' => ∃ c s1' s2', e = .returned (.int .i64 c) ∧ Hid (AddIs W w' pa ma s1 s2 s1' s2' (oN its k) c)) := fun W h => lAdd_c pa ma s1 s2 (oN its k) W h (oN_ok (w := W) HO.out.2.2.1 (by rw [HN0.out]; exact hk) (by rw [HN0.out]; exact H64.out))
      obtain ⟨x, ex⟩ : ∃ x, its[k]! = x := ⟨_, rfl⟩
      rw [ex] at hx HA
      obtain ⟨x0, x1, x2, x3, x4, x5⟩ := hx
      have Hk := Lib.hid hk
      clear hk
      have HW := Lib.hid (hd.out.2.below ((Below.refl _ _).alloc (Nat.le_refl _) (.cells (OC ⟨(k : Int), x.acc, x.side, x.price, x.qty, x.seq⟩) 32)))
      go_wp2_with ((with_reducible refine (HA.out _ HW.out.wh).mono ?_); rintro e w3 ⟨cc, t1, t2, rfl, ha⟩)
      have Hs := HW.out.turn (add_whole HW.out.wh ha.out)
      exact ⟨⟨k + 1, t1, t2, rfl, Hk.out, Hs⟩, less_left Hk.out⟩
    · obtain rfl : k = len0 := by have := hd.out.1; omega
      have hkI : ¬ (k : Int) < (k : Int) := by omega
      obtain ⟨R, hR⟩ : ∃ R, rsOf s1 s2 1 = R := ⟨_, rfl⟩
      have HO1 := Lib.hid hd.out.2
      have HPr := Lib.hid (prices_in (sd := 1) HO1.out.wh hR (by decide))
      have HRl : Hid (R.length ≤ 64) := by rw [← hR]; exact side_len HO1.out.wh 1
      have HBe : Hid (∀ W p m s1 s2, Whole W p m s1 s2 → rsOf s1 s2 1 = R → Calls Try.prog 23 #[.pointer (some ⟨p, 0, none⟩), .int .i64 1] W fun e w' => e = .returned (.tuple #[optV (bestO R), .bool (bestO R).isSome]) ∧ Hid (Below W.heap.size W w')) := fun W p m s1 s2 H hR => by
        have := lBest_c _ _ s1 s2 1 (by decide) W H.bk H.ne
        rwa [hR] at this
      obtain ⟨z, hz0, _⟩ := opt_agg (bestO R)
      obtain ⟨bb, hbb⟩ : ∃ bb, (bestO R).isSome = bb := ⟨_, rfl⟩
      rw [hz0, hbb] at HBe
      have HRs := Lib.hid hR
      clear hz0 hbb hR hk hd
      go_wp2_with (first | ((with_reducible refine HPr.out.mono ?_); rintro e w2 ⟨v, rfl, hv⟩; clear HPr) | ((with_reducible refine (HBe.out _ _ _ _ _ (HO1.out.below hv.out.2).wh HRs.out).mono ?_); rintro e w3 ⟨rfl, hb3⟩))
      have HK0 : Hid (Kept w (w3.alloc (.cells (OC z) 32)) pa ma s1 s2 1 R v R.length (R.map (·.pr)) w3.heap.size z) := by
        have hl := HO1.out.wh.bk
        refine Kept.mk (((HO1.out.below hv.out.2).below hb3.out).below ((Below.refl _ _).alloc (Nat.le_refl _) _)) HRs.out ((own_low (own_base hv.out.1 (Nat.zero_le _)) hb3.out).alloc _) (hd_last rfl) (fun h => ?_) (fun j hj h => ?_)
        · have := hl.lt h
          have := hv.out.2.size
          have := hb3.out.size
          omega
        · have := hl.lt h
          have := (hv.out.1.lt j hj).1
          omega
      obtain ⟨fb, hfb⟩ : ∃ fb, w3.heap.size = fb := ⟨_, rfl⟩
      obtain ⟨W3, hW3⟩ : ∃ W3, w3.alloc (.cells (OC z) 32) = W3 := ⟨_, rfl⟩
      obtain ⟨n, hn⟩ : ∃ n, R.length = n := ⟨_, rfl⟩
      obtain ⟨l, hl⟩ : ∃ l, R.map (·.pr) = l := ⟨_, rfl⟩
      rw [hfb, hW3, hn, hl] at HK0
      rw [hfb, hW3]
      have HRn := Lib.hid (And.intro hn hl)
      rw [hn] at HRl
      clear hfb hW3 hn hl hb3 hv HO1
      clear w2 w3
      go_loopw [62] (fun s wr => ∃ (i : Nat) (s1 s2 : Sd), s = .int .i64 (i : Int) ∧ Hid (i ≤ len1 ∧ Kept w wr pa ma s1 s2 1 R v n l fb z)) (fun s _ => match s with | .int _ z => len1 - z.toNat | _ => 0)
      case atStart => exact ⟨0, s1, s2, rfl, Nat.zero_le _, HK0.out⟩
      case round =>
        clear HK0 HRs
        clear s1 s2
        obtain ⟨i, s1, s2, rfl, hd⟩ := hrel
        by_cases hi : i < len1
        · have hiI : (i : Int) < (len1 : Int) := by omega
          have h1 := (HP.out.below hd.out.2.one.be).2.2.2
          rcases h1 with h1 | ⟨b, off, rfl, _, hc⟩
          · omega
          have hx := hc i hi
          have hok := HP.out.2.2.1 (ops[i]!) (by rw [getElem!_pos ops i (by rw [HN1.out]; exact hi)]; exact List.getElem_mem _)
          clear hc
          obtain ⟨⟨xk, xid, xacc, xsd, xpr, xqt, xsq, xn, xq⟩, ex⟩ : ∃ x, ops[i]! = x := ⟨_, rfl⟩
          rw [ex] at hx hok
          obtain ⟨x0, x1, x2, x3, x4, x5, x6, x7, x8⟩ := hx
          dsimp only at x0 x1 x2 x3 x4 x5 x6 x7 x8
          have Hi := Lib.hid hi
          have hoo : Od.ok w ⟨xid, xacc, xsd, xpr, xqt, xsq⟩ := ⟨hok.2.1, hok.2.2.1, hok.2.2.2.1, hok.2.2.2.2.1, hok.2.2.2.2.2.1, hok.2.2.2.2.2.2.1⟩
          have HAd : Hid (∀ W, Whole W pa ma s1 s2 → Calls Try.prog 17 #[.pointer (some ⟨pa, 0, none⟩), .agg #[.int .u64 xid, .int .i64 xacc, .int .i64 xsd, .int .i64 xpr, .int .i64 xqt, .int .u64 xsq]] W fun e w' => ∃ c s1' s2', e = .returned (.int .i64 c) ∧ Hid (AddIs W w' pa ma s1 s2 s1' s2' ⟨xid, xacc, xsd, xpr, xqt, xsq⟩ c)) := fun W h => lAdd_c pa ma s1 s2 ⟨xid, xacc, xsd, xpr, xqt, xsq⟩ W h hoo
          have HCt : Hid (∀ W, Whole W pa ma s1 s2 → Calls Try.prog 14 #[.pointer (some ⟨pa, 0, none⟩), .int .u64 xn, .int .i64 xq] W fun e w' => ∃ c s1' s2', e = .returned (.int .i64 c) ∧ Hid (CutIs W w' pa ma s1 s2 s1' s2' xn xq c)) := fun W h => lCut_c pa ma s1 s2 xn xq W h
          have HGt : Hid (∀ W, Whole W pa ma s1 s2 → Calls Try.prog 24 #[.pointer (some ⟨pa, 0, none⟩), .int .u64 xn] W fun e w' => ∃ r, e = .returned (.tuple #[optV r, .bool r.isSome]) ∧ Hid (GetIs xn (bookL s1.rs s2.rs) r ∧ Below W.heap.size W w')) := fun W h => lGet_c _ _ s1 s2 xn W h.bk (by have := h.n1; omega) (by have := h.n1; omega) (by have := h.n1; omega)
          have HW := Lib.hid (hd.out.2.below ((Below.refl _ _).alloc (Nat.le_refl _) (.cells #[.int .i64 xk, .int .u64 xid, .int .i64 xacc, .int .i64 xsd, .int .i64 xpr, .int .i64 xqt, .int .u64 xsq, .int .u64 xn, .int .i64 xq] 34)))
          clear hok hi hoo
          by_cases hk : xk = 0
          · subst hk
            by_cases hs : xsd = 1
            · subst hs
              go_wp2_with ((with_reducible refine (HGt.out _ HW.out.one.wh).mono ?_); rintro e w1 ⟨r, rfl, hr⟩; obtain ⟨z', hz', hzy⟩ := opt_agg r; obtain ⟨b2, hb2⟩ : ∃ b2, r.isSome = b2 := ⟨_, rfl⟩; rw [hz', hb2]; have HZy := Lib.hid hzy; have HB2 := Lib.hid hb2; clear hz' hzy hb2; have KK := Lib.hid ((HW.out.below hr.out.2).below ((Below.refl _ _).alloc (Nat.le_refl _) (.cells (OC z') 32))); have hCl : Cl 34 (w1.alloc (.cells (OC z') 32)) wr.heap.size #[.int .i64 0, .int .u64 xid, .int .i64 xacc, .int .i64 1, .int .i64 xpr, .int .i64 xqt, .int .u64 xsq, .int .u64 xn, .int .i64 xq] := hd_prev (Nat.lt_of_lt_of_le (Nat.lt_succ_self _) (by have := hr.out.2.size; rw [World.size_alloc] at this; exact this)) ((hr.out.2.block _ (by rw [World.size_alloc]; exact Nat.lt_succ_self _)).trans (hd_last rfl)); have HCl := Lib.hid hCl; have HNf : Hid (¬ foot (some ⟨pa, 0, none⟩) (some ma) s1 s2 wr.heap.size) := (fun h => Nat.lt_irrefl _ (hd.out.2.one.wh.bk.lt h)); obtain ⟨f0, f1, f2, f3, f4, f5, f6, f7, f8⟩ := nine_of (x := ⟨0, xid, xacc, 1, xpr, xqt, xsq, xn, xq⟩) hCl; dsimp only at f0 f1 f2 f3 f4 f5 f6 f7 f8; clear hCl HGt x0 x1 x2 x3 x4 x5 x6 x7 x8)
              exact ⟨⟨i + 1, s1, s2, rfl, Hi.out, KK.out⟩, less_left Hi.out⟩
            · go_wp2_with (first | ((with_reducible refine (HGt.out _ HW.out.one.wh).mono ?_); rintro e w1 ⟨r, rfl, hr⟩; obtain ⟨z', hz', hzy⟩ := opt_agg r; obtain ⟨b2, hb2⟩ : ∃ b2, r.isSome = b2 := ⟨_, rfl⟩; rw [hz', hb2]; have HZy := Lib.hid hzy; have HB2 := Lib.hid hb2; clear hz' hzy hb2; have KK := Lib.hid ((HW.out.below hr.out.2).below ((Below.refl _ _).alloc (Nat.le_refl _) (.cells (OC z') 32))); have hCl : Cl 34 (w1.alloc (.cells (OC z') 32)) wr.heap.size #[.int .i64 0, .int .u64 xid, .int .i64 xacc, .int .i64 xsd, .int .i64 xpr, .int .i64 xqt, .int .u64 xsq, .int .u64 xn, .int .i64 xq] := hd_prev (Nat.lt_of_lt_of_le (Nat.lt_succ_self _) (by have := hr.out.2.size; rw [World.size_alloc] at this; exact this)) ((hr.out.2.block _ (by rw [World.size_alloc]; exact Nat.lt_succ_self _)).trans (hd_last rfl)); have HCl := Lib.hid hCl; have HNf : Hid (¬ foot (some ⟨pa, 0, none⟩) (some ma) s1 s2 wr.heap.size) := (fun h => Nat.lt_irrefl _ (hd.out.2.one.wh.bk.lt h)); obtain ⟨f0, f1, f2, f3, f4, f5, f6, f7, f8⟩ := nine_of (x := ⟨0, xid, xacc, xsd, xpr, xqt, xsq, xn, xq⟩) hCl; dsimp only at f0 f1 f2 f3 f4 f5 f6 f7 f8; clear hCl HGt x0 x1 x2 x3 x4 x5 x6 x7 x8) | ((with_reducible refine (HAd.out _ KK.out.one.wh).mono ?_); rintro e w5 ⟨cc, t1, t2, rfl, ha⟩; have HF5 := Lib.hid (KK.out.turn (add_side KK.out.one.wh ha.out hs (by decide))); obtain ⟨f0, f1, f2, f3, f4, f5, f6, f7, f8⟩ := nine_of (x := ⟨0, xid, xacc, xsd, xpr, xqt, xsq, xn, xq⟩) (turn_cl HCl.out HNf.out (add_side KK.out.one.wh ha.out hs (by decide))); dsimp only at f0 f1 f2 f3 f4 f5 f6 f7 f8))
              exact ⟨⟨i + 1, t1, t2, rfl, Hi.out, HF5.out⟩, less_left Hi.out⟩
          · go_wp2_with (first | ((with_reducible refine (HGt.out _ HW.out.one.wh).mono ?_); rintro e w1 ⟨r, rfl, hr⟩; rcases r with _ | ⟨zid, zacc, zsd, zpr, zqt, zsq⟩; dsimp only [optV, Option.isSome]; have KK := Lib.hid ((HW.out.below hr.out.2).below ((Below.refl _ _).alloc (Nat.le_refl _) (.cells (OC ⟨0, 0, 0, 0, 0, 0⟩) 32))); have hCl : Cl 34 (w1.alloc (.cells (OC ⟨0, 0, 0, 0, 0, 0⟩) 32)) wr.heap.size #[.int .i64 xk, .int .u64 xid, .int .i64 xacc, .int .i64 xsd, .int .i64 xpr, .int .i64 xqt, .int .u64 xsq, .int .u64 xn, .int .i64 xq] := hd_prev (Nat.lt_of_lt_of_le (Nat.lt_succ_self _) (by have := hr.out.2.size; rw [World.size_alloc] at this; exact this)) ((hr.out.2.block _ (by rw [World.size_alloc]; exact Nat.lt_succ_self _)).trans (hd_last rfl)); have HCl := Lib.hid hCl; have HNf : Hid (¬ foot (some ⟨pa, 0, none⟩) (some ma) s1 s2 wr.heap.size) := (fun h => Nat.lt_irrefl _ (hd.out.2.one.wh.bk.lt h)); obtain ⟨f0, f1, f2, f3, f4, f5, f6, f7, f8⟩ := nine_of (x := ⟨xk, xid, xacc, xsd, xpr, xqt, xsq, xn, xq⟩) hCl; dsimp only at f0 f1 f2 f3 f4 f5 f6 f7 f8; clear hCl HGt x0 x1 x2 x3 x4 x5 x6 x7 x8; rotate_left; dsimp only [optV, Option.isSome]; by_cases hy : zsd = 1; subst hy; have KK := Lib.hid ((HW.out.below hr.out.2).below ((Below.refl _ _).alloc (Nat.le_refl _) (.cells (OC ⟨zid, zacc, 1, zpr, zqt, zsq⟩) 32))); have hCl : Cl 34 (w1.alloc (.cells (OC ⟨zid, zacc, 1, zpr, zqt, zsq⟩) 32)) wr.heap.size #[.int .i64 xk, .int .u64 xid, .int .i64 xacc, .int .i64 xsd, .int .i64 xpr, .int .i64 xqt, .int .u64 xsq, .int .u64 xn, .int .i64 xq] := hd_prev (Nat.lt_of_lt_of_le (Nat.lt_succ_self _) (by have := hr.out.2.size; rw [World.size_alloc] at this; exact this)) ((hr.out.2.block _ (by rw [World.size_alloc]; exact Nat.lt_succ_self _)).trans (hd_last rfl)); have HCl := Lib.hid hCl; have HNf : Hid (¬ foot (some ⟨pa, 0, none⟩) (some ma) s1 s2 wr.heap.size) := (fun h => Nat.lt_irrefl _ (hd.out.2.one.wh.bk.lt h)); obtain ⟨f0, f1, f2, f3, f4, f5, f6, f7, f8⟩ := nine_of (x := ⟨xk, xid, xacc, xsd, xpr, xqt, xsq, xn, xq⟩) hCl; dsimp only at f0 f1 f2 f3 f4 f5 f6 f7 f8; clear hCl HGt x0 x1 x2 x3 x4 x5 x6 x7 x8; rotate_left; have KK := Lib.hid ((HW.out.below hr.out.2).below ((Below.refl _ _).alloc (Nat.le_refl _) (.cells (OC ⟨zid, zacc, zsd, zpr, zqt, zsq⟩) 32))); have hCl : Cl 34 (w1.alloc (.cells (OC ⟨zid, zacc, zsd, zpr, zqt, zsq⟩) 32)) wr.heap.size #[.int .i64 xk, .int .u64 xid, .int .i64 xacc, .int .i64 xsd, .int .i64 xpr, .int .i64 xqt, .int .u64 xsq, .int .u64 xn, .int .i64 xq] := hd_prev (Nat.lt_of_lt_of_le (Nat.lt_succ_self _) (by have := hr.out.2.size; rw [World.size_alloc] at this; exact this)) ((hr.out.2.block _ (by rw [World.size_alloc]; exact Nat.lt_succ_self _)).trans (hd_last rfl)); have HCl := Lib.hid hCl; have HNf : Hid (¬ foot (some ⟨pa, 0, none⟩) (some ma) s1 s2 wr.heap.size) := (fun h => Nat.lt_irrefl _ (hd.out.2.one.wh.bk.lt h)); obtain ⟨f0, f1, f2, f3, f4, f5, f6, f7, f8⟩ := nine_of (x := ⟨xk, xid, xacc, xsd, xpr, xqt, xsq, xn, xq⟩) hCl; dsimp only at f0 f1 f2 f3 f4 f5 f6 f7 f8; clear hCl HGt x0 x1 x2 x3 x4 x5 x6 x7 x8) | ((with_reducible refine (HCt.out _ KK.out.one.wh).mono ?_); rintro e w5 ⟨cc, t1, t2, rfl, ha⟩; have HF5 := Lib.hid (KK.out.turn (cut_side KK.out.one.wh ha.out hr.out.1 hy (by decide)))))
            all_goals (first | exact ⟨⟨i + 1, t1, t2, rfl, Hi.out, HF5.out⟩, less_left Hi.out⟩ | exact ⟨⟨i + 1, s1, s2, rfl, Hi.out, KK.out⟩, less_left Hi.out⟩)
        · obtain rfl : i = len1 := by have := hd.out.1; omega
          have hiI : ¬ (i : Int) < (i : Int) := by omega
          have HKp := Lib.hid hd.out.2
          have HPr2 : Hid (∀ W p m s1 s2, Whole W p m s1 s2 → rsOf s1 s2 1 = R → Calls Try.prog 22 #[.pointer (some ⟨p, 0, none⟩), .int .i64 1] W fun e w' => ∃ v, e = .returned v ∧ Hid (w'.ownsRow W.heap.size 2 1 v n (l.map (fun p => Value.int .i64 p)) ∧ Below W.heap.size W w')) := fun W p m s1 s2 H hR => by
            have := prices_in (sd := 1) H hR (by decide)
            rwa [HRn.out.1, HRn.out.2] at this
          have HPc : Hid (∀ W v' base, W.ownsRow base 2 1 v' n (l.map (fun p => Value.int .i64 p)) → W.ownsRow 0 2 1 v n (l.map (fun p => Value.int .i64 p)) → Calls Try.prog 25 #[v', v] W fun e w' => e = .returned (.bool true) ∧ Hid (Below W.heap.size W w')) := fun W v' base h k => prices_c v' v n l base 0 W h k (by have := HRl.out; omega)
          clear hd hi
          go_wp2_with (first | ((with_reducible refine (HBe.out _ _ _ _ _ HKp.out.one.wh HKp.out.rs).mono ?_); rintro e w5 ⟨rfl, hb5⟩; have HK5 := Lib.hid ((HKp.out.below hb5.out).below ((Below.refl _ _).alloc (Nat.le_refl _) (.cells (OC z) 32))); have hC5 : Hid (Cl 32 (w5.alloc (.cells (OC z) 32)) w5.heap.size (OC z)) := hd_last rfl; clear HBe) | ((with_reducible refine (HPr2.out _ _ _ _ _ HK5.out.one.wh HK5.out.rs).mono ?_); rintro e w6 ⟨v', rfl, hv'⟩; have HK6 := Lib.hid (HK5.out.below hv'.out.2); have hC6 : Hid (Cl 32 w6 w5.heap.size (OC z)) := (hv'.out.2.block _ (blk_lt hC5.out)).trans hC5.out; clear HPr2) | ((with_reducible refine (HPc.out _ _ _ hv'.out.1 HK6.out.was).mono ?_); rintro e w7 ⟨rfl, hb7⟩; have HK7 := Lib.hid (HK6.out.below hb7.out); have hC7 : Cl 32 w7 w5.heap.size (OC z) := (hb7.out.block _ (blk_lt hC6.out)).trans hC6.out; obtain ⟨y0, y1, y2, y3, y4, y5⟩ := six_of hC7; obtain ⟨z0, z1, z2, z3, z4, z5⟩ := six_of HK7.out.bx; clear HPc hC7) | ((with_reducible refine (HL.out _).mono ?_); rintro e w8 ⟨rfl, hb8⟩))
          go_ret
          exact ⟨rfl, HK7.out.one.be.trans (hb8.mono HK7.out.one.be.size)⟩
set_option maxHeartbeats 8000000 in
set_option maxRecDepth 100000 in
theorem sides_w2 (a0 : Option Addr) (len0 cap0 : Nat) (its : List Od) (a1 : Option Addr) (len1 cap1 : Nat) (ops : List Op) (w : World) (hO : Ods w a0 len0 its) (hP : Ops w a1 len1 ops) (h64 : len0 ≤ 64) (h60 : len1 ≤ 60) :
    Calls Try.prog 5 #[.slice a0 len0 cap0, .slice a1 len1 cap1, .int .i64 2] w fun e w' => e = .returned (.bool true) ∧ Below w.heap.size w w' := by
  have mixed : Try.prog.follows .mixedOrders = true := by kernel_rfl
  have HL := Lib.hid lives13_c
  have hz : ¬ (64 : Int) < (len0 : Int) := by omega
  have hz1 : ¬ (60 : Int) < (len1 : Int) := by omega
  have HN0 : Hid (its.length = len0) := hO.1
  have HN1 : Hid (ops.length = len1) := hP.1
  have HO := Lib.hid hO
  have HP := Lib.hid hP
  have H64 := Lib.hid h64
  have H60 := Lib.hid h60
  have HN := Lib.hid (new_c w)
  clear hO hP h64 h60
  go_enter Try.func5, Try.ntmps5
  go_wp2_with ((with_reducible refine HN.out.mono ?_); rintro e w1 ⟨rfl, hn1⟩; clear HN)
  obtain ⟨pa, epa⟩ : ∃ x, w.heap.size + 1 = x := ⟨_, rfl⟩
  obtain ⟨ma, I0⟩ : ∃ ma, Hid (One w w1 pa ma nilS nilS) := by
    have h := one_new hn1.out
    rw [epa] at h
    exact ⟨_, Lib.hid h⟩
  rw [epa]
  clear epa hn1
  go_loopw [39] (fun s wr => ∃ (k : Nat) (s1 s2 : Sd), s = .int .i64 (k : Int) ∧ Hid (k ≤ len0 ∧ One w wr pa ma s1 s2)) (fun s _ => match s with | .int _ z => len0 - z.toNat | _ => 0)
  case atStart => exact ⟨0, nilS, nilS, rfl, Nat.zero_le _, I0.out⟩
  case round =>
    clear I0
    obtain ⟨k, s1, s2, rfl, hd⟩ := hrel
    by_cases hk : k < len0
    · have hkI : (k : Int) < (len0 : Int) := by omega
      have h1 := (HO.out.below hd.out.2.be).2.2.2
      rcases h1 with h1 | ⟨b, off, rfl, _, hc⟩
      · omega
      have hx := hc k hk
      clear hc
      have HA : Hid (∀ W, Whole W pa ma s1 s2 → Calls Try.prog 17 #[.pointer (some ⟨pa, 0, none⟩), .agg #[.int .u64 (k : Int), .int .i64 (its[k]!).acc, .int .i64 (its[k]!).side, .int .i64 (its[k]!).price, .int .i64 (its[k]!).qty, .int .u64 (its[k]!).seq]] W fun e w' => ∃ c s1' s2', e = .returned (.int .i64 c) ∧ Hid (AddIs W w' pa ma s1 s2 s1' s2' (oN its k) c)) := fun W h => lAdd_c pa ma s1 s2 (oN its k) W h (oN_ok (w := W) HO.out.2.2.1 (by rw [HN0.out]; exact hk) (by rw [HN0.out]; exact H64.out))
      obtain ⟨x, ex⟩ : ∃ x, its[k]! = x := ⟨_, rfl⟩
      rw [ex] at hx HA
      obtain ⟨x0, x1, x2, x3, x4, x5⟩ := hx
      have Hk := Lib.hid hk
      clear hk
      have HW := Lib.hid (hd.out.2.below ((Below.refl _ _).alloc (Nat.le_refl _) (.cells (OC ⟨(k : Int), x.acc, x.side, x.price, x.qty, x.seq⟩) 32)))
      go_wp2_with ((with_reducible refine (HA.out _ HW.out.wh).mono ?_); rintro e w3 ⟨cc, t1, t2, rfl, ha⟩)
      have Hs := HW.out.turn (add_whole HW.out.wh ha.out)
      exact ⟨⟨k + 1, t1, t2, rfl, Hk.out, Hs⟩, less_left Hk.out⟩
    · obtain rfl : k = len0 := by have := hd.out.1; omega
      have hkI : ¬ (k : Int) < (k : Int) := by omega
      obtain ⟨R, hR⟩ : ∃ R, rsOf s1 s2 2 = R := ⟨_, rfl⟩
      have HO1 := Lib.hid hd.out.2
      have HPr := Lib.hid (prices_in (sd := 2) HO1.out.wh hR (by decide))
      have HRl : Hid (R.length ≤ 64) := by rw [← hR]; exact side_len HO1.out.wh 2
      have HBe : Hid (∀ W p m s1 s2, Whole W p m s1 s2 → rsOf s1 s2 2 = R → Calls Try.prog 23 #[.pointer (some ⟨p, 0, none⟩), .int .i64 2] W fun e w' => e = .returned (.tuple #[optV (bestO R), .bool (bestO R).isSome]) ∧ Hid (Below W.heap.size W w')) := fun W p m s1 s2 H hR => by
        have := lBest_c _ _ s1 s2 2 (by decide) W H.bk H.ne
        rwa [hR] at this
      obtain ⟨z, hz0, _⟩ := opt_agg (bestO R)
      obtain ⟨bb, hbb⟩ : ∃ bb, (bestO R).isSome = bb := ⟨_, rfl⟩
      rw [hz0, hbb] at HBe
      have HRs := Lib.hid hR
      clear hz0 hbb hR hk hd
      go_wp2_with (first | ((with_reducible refine HPr.out.mono ?_); rintro e w2 ⟨v, rfl, hv⟩; clear HPr) | ((with_reducible refine (HBe.out _ _ _ _ _ (HO1.out.below hv.out.2).wh HRs.out).mono ?_); rintro e w3 ⟨rfl, hb3⟩))
      have HK0 : Hid (Kept w (w3.alloc (.cells (OC z) 32)) pa ma s1 s2 2 R v R.length (R.map (·.pr)) w3.heap.size z) := by
        have hl := HO1.out.wh.bk
        refine Kept.mk (((HO1.out.below hv.out.2).below hb3.out).below ((Below.refl _ _).alloc (Nat.le_refl _) _)) HRs.out ((own_low (own_base hv.out.1 (Nat.zero_le _)) hb3.out).alloc _) (hd_last rfl) (fun h => ?_) (fun j hj h => ?_)
        · have := hl.lt h
          have := hv.out.2.size
          have := hb3.out.size
          omega
        · have := hl.lt h
          have := (hv.out.1.lt j hj).1
          omega
      obtain ⟨fb, hfb⟩ : ∃ fb, w3.heap.size = fb := ⟨_, rfl⟩
      obtain ⟨W3, hW3⟩ : ∃ W3, w3.alloc (.cells (OC z) 32) = W3 := ⟨_, rfl⟩
      obtain ⟨n, hn⟩ : ∃ n, R.length = n := ⟨_, rfl⟩
      obtain ⟨l, hl⟩ : ∃ l, R.map (·.pr) = l := ⟨_, rfl⟩
      rw [hfb, hW3, hn, hl] at HK0
      rw [hfb, hW3]
      have HRn := Lib.hid (And.intro hn hl)
      rw [hn] at HRl
      clear hfb hW3 hn hl hb3 hv HO1
      clear w2 w3
      go_loopw [62] (fun s wr => ∃ (i : Nat) (s1 s2 : Sd), s = .int .i64 (i : Int) ∧ Hid (i ≤ len1 ∧ Kept w wr pa ma s1 s2 2 R v n l fb z)) (fun s _ => match s with | .int _ z => len1 - z.toNat | _ => 0)
      case atStart => exact ⟨0, s1, s2, rfl, Nat.zero_le _, HK0.out⟩
      case round =>
        clear HK0 HRs
        clear s1 s2
        obtain ⟨i, s1, s2, rfl, hd⟩ := hrel
        by_cases hi : i < len1
        · have hiI : (i : Int) < (len1 : Int) := by omega
          have h1 := (HP.out.below hd.out.2.one.be).2.2.2
          rcases h1 with h1 | ⟨b, off, rfl, _, hc⟩
          · omega
          have hx := hc i hi
          have hok := HP.out.2.2.1 (ops[i]!) (by rw [getElem!_pos ops i (by rw [HN1.out]; exact hi)]; exact List.getElem_mem _)
          clear hc
          obtain ⟨⟨xk, xid, xacc, xsd, xpr, xqt, xsq, xn, xq⟩, ex⟩ : ∃ x, ops[i]! = x := ⟨_, rfl⟩
          rw [ex] at hx hok
          obtain ⟨x0, x1, x2, x3, x4, x5, x6, x7, x8⟩ := hx
          dsimp only at x0 x1 x2 x3 x4 x5 x6 x7 x8
          have Hi := Lib.hid hi
          have hoo : Od.ok w ⟨xid, xacc, xsd, xpr, xqt, xsq⟩ := ⟨hok.2.1, hok.2.2.1, hok.2.2.2.1, hok.2.2.2.2.1, hok.2.2.2.2.2.1, hok.2.2.2.2.2.2.1⟩
          have HAd : Hid (∀ W, Whole W pa ma s1 s2 → Calls Try.prog 17 #[.pointer (some ⟨pa, 0, none⟩), .agg #[.int .u64 xid, .int .i64 xacc, .int .i64 xsd, .int .i64 xpr, .int .i64 xqt, .int .u64 xsq]] W fun e w' => ∃ c s1' s2', e = .returned (.int .i64 c) ∧ Hid (AddIs W w' pa ma s1 s2 s1' s2' ⟨xid, xacc, xsd, xpr, xqt, xsq⟩ c)) := fun W h => lAdd_c pa ma s1 s2 ⟨xid, xacc, xsd, xpr, xqt, xsq⟩ W h hoo
          have HCt : Hid (∀ W, Whole W pa ma s1 s2 → Calls Try.prog 14 #[.pointer (some ⟨pa, 0, none⟩), .int .u64 xn, .int .i64 xq] W fun e w' => ∃ c s1' s2', e = .returned (.int .i64 c) ∧ Hid (CutIs W w' pa ma s1 s2 s1' s2' xn xq c)) := fun W h => lCut_c pa ma s1 s2 xn xq W h
          have HGt : Hid (∀ W, Whole W pa ma s1 s2 → Calls Try.prog 24 #[.pointer (some ⟨pa, 0, none⟩), .int .u64 xn] W fun e w' => ∃ r, e = .returned (.tuple #[optV r, .bool r.isSome]) ∧ Hid (GetIs xn (bookL s1.rs s2.rs) r ∧ Below W.heap.size W w')) := fun W h => lGet_c _ _ s1 s2 xn W h.bk (by have := h.n1; omega) (by have := h.n1; omega) (by have := h.n1; omega)
          have HW := Lib.hid (hd.out.2.below ((Below.refl _ _).alloc (Nat.le_refl _) (.cells #[.int .i64 xk, .int .u64 xid, .int .i64 xacc, .int .i64 xsd, .int .i64 xpr, .int .i64 xqt, .int .u64 xsq, .int .u64 xn, .int .i64 xq] 34)))
          clear hok hi hoo
          by_cases hk : xk = 0
          · subst hk
            by_cases hs : xsd = 2
            · subst hs
              go_wp2_with ((with_reducible refine (HGt.out _ HW.out.one.wh).mono ?_); rintro e w1 ⟨r, rfl, hr⟩; obtain ⟨z', hz', hzy⟩ := opt_agg r; obtain ⟨b2, hb2⟩ : ∃ b2, r.isSome = b2 := ⟨_, rfl⟩; rw [hz', hb2]; have HZy := Lib.hid hzy; have HB2 := Lib.hid hb2; clear hz' hzy hb2; have KK := Lib.hid ((HW.out.below hr.out.2).below ((Below.refl _ _).alloc (Nat.le_refl _) (.cells (OC z') 32))); have hCl : Cl 34 (w1.alloc (.cells (OC z') 32)) wr.heap.size #[.int .i64 0, .int .u64 xid, .int .i64 xacc, .int .i64 2, .int .i64 xpr, .int .i64 xqt, .int .u64 xsq, .int .u64 xn, .int .i64 xq] := hd_prev (Nat.lt_of_lt_of_le (Nat.lt_succ_self _) (by have := hr.out.2.size; rw [World.size_alloc] at this; exact this)) ((hr.out.2.block _ (by rw [World.size_alloc]; exact Nat.lt_succ_self _)).trans (hd_last rfl)); have HCl := Lib.hid hCl; have HNf : Hid (¬ foot (some ⟨pa, 0, none⟩) (some ma) s1 s2 wr.heap.size) := (fun h => Nat.lt_irrefl _ (hd.out.2.one.wh.bk.lt h)); obtain ⟨f0, f1, f2, f3, f4, f5, f6, f7, f8⟩ := nine_of (x := ⟨0, xid, xacc, 2, xpr, xqt, xsq, xn, xq⟩) hCl; dsimp only at f0 f1 f2 f3 f4 f5 f6 f7 f8; clear hCl HGt x0 x1 x2 x3 x4 x5 x6 x7 x8)
              exact ⟨⟨i + 1, s1, s2, rfl, Hi.out, KK.out⟩, less_left Hi.out⟩
            · go_wp2_with (first | ((with_reducible refine (HGt.out _ HW.out.one.wh).mono ?_); rintro e w1 ⟨r, rfl, hr⟩; obtain ⟨z', hz', hzy⟩ := opt_agg r; obtain ⟨b2, hb2⟩ : ∃ b2, r.isSome = b2 := ⟨_, rfl⟩; rw [hz', hb2]; have HZy := Lib.hid hzy; have HB2 := Lib.hid hb2; clear hz' hzy hb2; have KK := Lib.hid ((HW.out.below hr.out.2).below ((Below.refl _ _).alloc (Nat.le_refl _) (.cells (OC z') 32))); have hCl : Cl 34 (w1.alloc (.cells (OC z') 32)) wr.heap.size #[.int .i64 0, .int .u64 xid, .int .i64 xacc, .int .i64 xsd, .int .i64 xpr, .int .i64 xqt, .int .u64 xsq, .int .u64 xn, .int .i64 xq] := hd_prev (Nat.lt_of_lt_of_le (Nat.lt_succ_self _) (by have := hr.out.2.size; rw [World.size_alloc] at this; exact this)) ((hr.out.2.block _ (by rw [World.size_alloc]; exact Nat.lt_succ_self _)).trans (hd_last rfl)); have HCl := Lib.hid hCl; have HNf : Hid (¬ foot (some ⟨pa, 0, none⟩) (some ma) s1 s2 wr.heap.size) := (fun h => Nat.lt_irrefl _ (hd.out.2.one.wh.bk.lt h)); obtain ⟨f0, f1, f2, f3, f4, f5, f6, f7, f8⟩ := nine_of (x := ⟨0, xid, xacc, xsd, xpr, xqt, xsq, xn, xq⟩) hCl; dsimp only at f0 f1 f2 f3 f4 f5 f6 f7 f8; clear hCl HGt x0 x1 x2 x3 x4 x5 x6 x7 x8) | ((with_reducible refine (HAd.out _ KK.out.one.wh).mono ?_); rintro e w5 ⟨cc, t1, t2, rfl, ha⟩; have HF5 := Lib.hid (KK.out.turn (add_side KK.out.one.wh ha.out hs (by decide))); obtain ⟨f0, f1, f2, f3, f4, f5, f6, f7, f8⟩ := nine_of (x := ⟨0, xid, xacc, xsd, xpr, xqt, xsq, xn, xq⟩) (turn_cl HCl.out HNf.out (add_side KK.out.one.wh ha.out hs (by decide))); dsimp only at f0 f1 f2 f3 f4 f5 f6 f7 f8))
              exact ⟨⟨i + 1, t1, t2, rfl, Hi.out, HF5.out⟩, less_left Hi.out⟩
          · go_wp2_with (first | ((with_reducible refine (HGt.out _ HW.out.one.wh).mono ?_); rintro e w1 ⟨r, rfl, hr⟩; rcases r with _ | ⟨zid, zacc, zsd, zpr, zqt, zsq⟩; dsimp only [optV, Option.isSome]; have KK := Lib.hid ((HW.out.below hr.out.2).below ((Below.refl _ _).alloc (Nat.le_refl _) (.cells (OC ⟨0, 0, 0, 0, 0, 0⟩) 32))); have hCl : Cl 34 (w1.alloc (.cells (OC ⟨0, 0, 0, 0, 0, 0⟩) 32)) wr.heap.size #[.int .i64 xk, .int .u64 xid, .int .i64 xacc, .int .i64 xsd, .int .i64 xpr, .int .i64 xqt, .int .u64 xsq, .int .u64 xn, .int .i64 xq] := hd_prev (Nat.lt_of_lt_of_le (Nat.lt_succ_self _) (by have := hr.out.2.size; rw [World.size_alloc] at this; exact this)) ((hr.out.2.block _ (by rw [World.size_alloc]; exact Nat.lt_succ_self _)).trans (hd_last rfl)); have HCl := Lib.hid hCl; have HNf : Hid (¬ foot (some ⟨pa, 0, none⟩) (some ma) s1 s2 wr.heap.size) := (fun h => Nat.lt_irrefl _ (hd.out.2.one.wh.bk.lt h)); obtain ⟨f0, f1, f2, f3, f4, f5, f6, f7, f8⟩ := nine_of (x := ⟨xk, xid, xacc, xsd, xpr, xqt, xsq, xn, xq⟩) hCl; dsimp only at f0 f1 f2 f3 f4 f5 f6 f7 f8; clear hCl HGt x0 x1 x2 x3 x4 x5 x6 x7 x8; rotate_left; dsimp only [optV, Option.isSome]; by_cases hy : zsd = 2; subst hy; have KK := Lib.hid ((HW.out.below hr.out.2).below ((Below.refl _ _).alloc (Nat.le_refl _) (.cells (OC ⟨zid, zacc, 2, zpr, zqt, zsq⟩) 32))); have hCl : Cl 34 (w1.alloc (.cells (OC ⟨zid, zacc, 2, zpr, zqt, zsq⟩) 32)) wr.heap.size #[.int .i64 xk, .int .u64 xid, .int .i64 xacc, .int .i64 xsd, .int .i64 xpr, .int .i64 xqt, .int .u64 xsq, .int .u64 xn, .int .i64 xq] := hd_prev (Nat.lt_of_lt_of_le (Nat.lt_succ_self _) (by have := hr.out.2.size; rw [World.size_alloc] at this; exact this)) ((hr.out.2.block _ (by rw [World.size_alloc]; exact Nat.lt_succ_self _)).trans (hd_last rfl)); have HCl := Lib.hid hCl; have HNf : Hid (¬ foot (some ⟨pa, 0, none⟩) (some ma) s1 s2 wr.heap.size) := (fun h => Nat.lt_irrefl _ (hd.out.2.one.wh.bk.lt h)); obtain ⟨f0, f1, f2, f3, f4, f5, f6, f7, f8⟩ := nine_of (x := ⟨xk, xid, xacc, xsd, xpr, xqt, xsq, xn, xq⟩) hCl; dsimp only at f0 f1 f2 f3 f4 f5 f6 f7 f8; clear hCl HGt x0 x1 x2 x3 x4 x5 x6 x7 x8; rotate_left; have KK := Lib.hid ((HW.out.below hr.out.2).below ((Below.refl _ _).alloc (Nat.le_refl _) (.cells (OC ⟨zid, zacc, zsd, zpr, zqt, zsq⟩) 32))); have hCl : Cl 34 (w1.alloc (.cells (OC ⟨zid, zacc, zsd, zpr, zqt, zsq⟩) 32)) wr.heap.size #[.int .i64 xk, .int .u64 xid, .int .i64 xacc, .int .i64 xsd, .int .i64 xpr, .int .i64 xqt, .int .u64 xsq, .int .u64 xn, .int .i64 xq] := hd_prev (Nat.lt_of_lt_of_le (Nat.lt_succ_self _) (by have := hr.out.2.size; rw [World.size_alloc] at this; exact this)) ((hr.out.2.block _ (by rw [World.size_alloc]; exact Nat.lt_succ_self _)).trans (hd_last rfl)); have HCl := Lib.hid hCl; have HNf : Hid (¬ foot (some ⟨pa, 0, none⟩) (some ma) s1 s2 wr.heap.size) := (fun h => Nat.lt_irrefl _ (hd.out.2.one.wh.bk.lt h)); obtain ⟨f0, f1, f2, f3, f4, f5, f6, f7, f8⟩ := nine_of (x := ⟨xk, xid, xacc, xsd, xpr, xqt, xsq, xn, xq⟩) hCl; dsimp only at f0 f1 f2 f3 f4 f5 f6 f7 f8; clear hCl HGt x0 x1 x2 x3 x4 x5 x6 x7 x8) | ((with_reducible refine (HCt.out _ KK.out.one.wh).mono ?_); rintro e w5 ⟨cc, t1, t2, rfl, ha⟩; have HF5 := Lib.hid (KK.out.turn (cut_side KK.out.one.wh ha.out hr.out.1 hy (by decide)))))
            all_goals (first | exact ⟨⟨i + 1, t1, t2, rfl, Hi.out, HF5.out⟩, less_left Hi.out⟩ | exact ⟨⟨i + 1, s1, s2, rfl, Hi.out, KK.out⟩, less_left Hi.out⟩)
        · obtain rfl : i = len1 := by have := hd.out.1; omega
          have hiI : ¬ (i : Int) < (i : Int) := by omega
          have HKp := Lib.hid hd.out.2
          have HPr2 : Hid (∀ W p m s1 s2, Whole W p m s1 s2 → rsOf s1 s2 2 = R → Calls Try.prog 22 #[.pointer (some ⟨p, 0, none⟩), .int .i64 2] W fun e w' => ∃ v, e = .returned v ∧ Hid (w'.ownsRow W.heap.size 2 1 v n (l.map (fun p => Value.int .i64 p)) ∧ Below W.heap.size W w')) := fun W p m s1 s2 H hR => by
            have := prices_in (sd := 2) H hR (by decide)
            rwa [HRn.out.1, HRn.out.2] at this
          have HPc : Hid (∀ W v' base, W.ownsRow base 2 1 v' n (l.map (fun p => Value.int .i64 p)) → W.ownsRow 0 2 1 v n (l.map (fun p => Value.int .i64 p)) → Calls Try.prog 25 #[v', v] W fun e w' => e = .returned (.bool true) ∧ Hid (Below W.heap.size W w')) := fun W v' base h k => prices_c v' v n l base 0 W h k (by have := HRl.out; omega)
          clear hd hi
          go_wp2_with (first | ((with_reducible refine (HBe.out _ _ _ _ _ HKp.out.one.wh HKp.out.rs).mono ?_); rintro e w5 ⟨rfl, hb5⟩; have HK5 := Lib.hid ((HKp.out.below hb5.out).below ((Below.refl _ _).alloc (Nat.le_refl _) (.cells (OC z) 32))); have hC5 : Hid (Cl 32 (w5.alloc (.cells (OC z) 32)) w5.heap.size (OC z)) := hd_last rfl; clear HBe) | ((with_reducible refine (HPr2.out _ _ _ _ _ HK5.out.one.wh HK5.out.rs).mono ?_); rintro e w6 ⟨v', rfl, hv'⟩; have HK6 := Lib.hid (HK5.out.below hv'.out.2); have hC6 : Hid (Cl 32 w6 w5.heap.size (OC z)) := (hv'.out.2.block _ (blk_lt hC5.out)).trans hC5.out; clear HPr2) | ((with_reducible refine (HPc.out _ _ _ hv'.out.1 HK6.out.was).mono ?_); rintro e w7 ⟨rfl, hb7⟩; have HK7 := Lib.hid (HK6.out.below hb7.out); have hC7 : Cl 32 w7 w5.heap.size (OC z) := (hb7.out.block _ (blk_lt hC6.out)).trans hC6.out; obtain ⟨y0, y1, y2, y3, y4, y5⟩ := six_of hC7; obtain ⟨z0, z1, z2, z3, z4, z5⟩ := six_of HK7.out.bx; clear HPc hC7) | ((with_reducible refine (HL.out _).mono ?_); rintro e w8 ⟨rfl, hb8⟩))
          go_ret
          exact ⟨rfl, HK7.out.one.be.trans (hb8.mono HK7.out.one.be.size)⟩
set_option maxHeartbeats 4000000 in
set_option maxRecDepth 100000 in
theorem sides_l1 (a0 : Option Addr) (len0 cap0 : Nat) (a1 : Option Addr) (len1 cap1 : Nat) (a2 : Int) (w : World) (hz : (64 : Int) < (len0 : Int)) :
    Calls Try.prog 5 #[.slice a0 len0 cap0, .slice a1 len1 cap1, .int .i64 a2] w fun e w' => e = .returned (.bool true) ∧ Below w.heap.size w w' := by
  have mixed : Try.prog.follows .mixedOrders = true := by kernel_rfl
  have HL := Lib.hid lives13_c
  go_enter Try.func5, Try.ntmps5
  go_wp2_with ((with_reducible refine (HL.out _).mono ?_); rintro e w2 ⟨rfl, k2⟩; have G2 : Hid (Below w.heap.size w w2) := Lib.hid k2; clear k2)
  go_ret
  exact ⟨rfl, G2.out⟩
set_option maxHeartbeats 4000000 in
set_option maxRecDepth 100000 in
theorem sides_l2 (a0 : Option Addr) (len0 cap0 : Nat) (a1 : Option Addr) (len1 cap1 : Nat) (a2 : Int) (w : World) (hz : ¬ (64 : Int) < (len0 : Int)) (hz1 : (60 : Int) < (len1 : Int)) :
    Calls Try.prog 5 #[.slice a0 len0 cap0, .slice a1 len1 cap1, .int .i64 a2] w fun e w' => e = .returned (.bool true) ∧ Below w.heap.size w w' := by
  have mixed : Try.prog.follows .mixedOrders = true := by kernel_rfl
  have HL := Lib.hid lives13_c
  go_enter Try.func5, Try.ntmps5
  go_wp2_with ((with_reducible refine (HL.out _).mono ?_); rintro e w2 ⟨rfl, k2⟩; have G2 : Hid (Below w.heap.size w w2) := Lib.hid k2; clear k2)
  go_ret
  exact ⟨rfl, G2.out⟩
set_option maxHeartbeats 4000000 in
set_option maxRecDepth 100000 in
theorem sides_l3 (a0 : Option Addr) (len0 cap0 : Nat) (a1 : Option Addr) (len1 cap1 : Nat) (a2 : Int) (w : World) (hz : ¬ (64 : Int) < (len0 : Int)) (hz1 : ¬ (60 : Int) < (len1 : Int)) (h1 : ¬ a2 = 1) (h2 : ¬ a2 = 2) :
    Calls Try.prog 5 #[.slice a0 len0 cap0, .slice a1 len1 cap1, .int .i64 a2] w fun e w' => e = .returned (.bool true) ∧ Below w.heap.size w w' := by
  have mixed : Try.prog.follows .mixedOrders = true := by kernel_rfl
  have e1 : (a2 != 1) = true := by simp [h1]
  have e2 : (a2 != 2) = true := by simp [h2]
  have HL := Lib.hid lives13_c
  go_enter Try.func5, Try.ntmps5
  go_wp2_with ((with_reducible refine (HL.out _).mono ?_); rintro e w2 ⟨rfl, k2⟩; have G2 : Hid (Below w.heap.size w w2) := Lib.hid k2; clear k2)
  go_ret
  exact ⟨rfl, G2.out⟩
theorem sides_w (a0 : Option Addr) (len0 cap0 : Nat) (its : List Od) (a1 : Option Addr) (len1 cap1 : Nat) (ops : List Op) (a2 : Int) (w : World) (hO : Ods w a0 len0 its) (hP : Ops w a1 len1 ops) :
    Calls Try.prog 5 #[.slice a0 len0 cap0, .slice a1 len1 cap1, .int .i64 a2] w fun e w' => e = .returned (.bool true) ∧ Below w.heap.size w w' := by
  by_cases h64 : len0 ≤ 64
  · by_cases h60 : len1 ≤ 60
    · by_cases h1 : a2 = 1
      · subst h1; exact sides_w1 a0 len0 cap0 its a1 len1 cap1 ops w hO hP h64 h60
      by_cases h2 : a2 = 2
      · subst h2; exact sides_w2 a0 len0 cap0 its a1 len1 cap1 ops w hO hP h64 h60
      exact sides_l3 a0 len0 cap0 a1 len1 cap1 a2 w (by omega) (by omega) h1 h2
    · exact sides_l2 a0 len0 cap0 a1 len1 cap1 a2 w (by omega) (by omega)
  · exact sides_l1 a0 len0 cap0 a1 len1 cap1 a2 w (by omega)
end Go.Proofs.Ytemmbgbmkihbaaa
