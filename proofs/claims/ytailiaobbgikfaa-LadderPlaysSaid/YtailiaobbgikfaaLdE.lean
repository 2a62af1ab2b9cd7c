/- ladder: Len. -/
import Derived.Test.YtailiaobbgikfaaLdD
namespace Go.Proofs.Ytailiaobbgikfaa
open Go.RowKit Go.Shelf Go.Sort

attribute [local go_sem] Oper.semAt_some

/-- A block of cells alone. -/
def Cl (T : TypeId) (W : World) (c : Nat) (cs : Array Value) : Prop := W.heap[c]? = some (.cells cs T (0, 0))
theorem Cl.own {T : TypeId} {c : Nat} {cs : Array Value} {X Y : World} {row : Option Nat} (h : Cl T X c cs) (hg : X.grownBy Y row) (hr : ∀ r, row = some r → ∃ o : Obj, X.heap[r]? = some o ∧ o.isCells = false) : Cl T Y c cs :=
  (hg.block c (blk_lt h) (fun e => by obtain ⟨o, ho, hc⟩ := hr c e.symm; rw [show X.heap[c]? = _ from h] at ho; cases ho; cases hc)).trans h
theorem Cl.c {T : TypeId} {c : Nat} {cs : Array Value} {X : World} (h : Cl T X c cs) (k : Nat) : X.cell? ⟨c, k, none⟩ = cs[k]? := cell_of_row _ _ _ _ _ _ h
theorem Cl.f {T : TypeId} {c k : Nat} {cs : Array Value} {X : World} (h : Cl T X c cs) : X.frozen? ⟨c, k, none⟩ = false := frozen_of_row _ _ _ _ _ h
theorem wrap_more (a b : Nat) : wrap64 (wrap64 (a : Int) + (b : Int)) = IntKind.i64.wrap ((a + b : Nat) : Int) := by simp only [IntKind.wrap_i64, wrap64]; omega
theorem wrap_fit {a : Nat} (h : a ≤ 1000000) : IntKind.i64.wrap (a : Int) = (a : Int) := by rw [IntKind.wrap_i64]; omega
/-- What comes of the rows: how many orders. -/
def lenQ (R : List Rw) : Nat := (R.map (fun r => r.q.length)).sum
theorem lenQ_flat (R : List Rw) : lenQ R = (flatR R).length := by
  unfold lenQ flatR
  rw [List.length_flatMap]
theorem lenQ_snoc {s1 s2 : Sd} (pre : List (Rx s1 s2)) (x : Rx s1 s2) : lenQ (vals (pre ++ [x])) = lenQ (vals pre) + x.1.q.length := by
  unfold lenQ vals
  simp
theorem two_sides (s1 s2 : Sd) : [1, 2].flatMap (rsOf s1 s2) = s1.rs ++ s2.rs := by
  show rsOf s1 s2 1 ++ (rsOf s1 s2 2 ++ []) = _
  rw [List.append_nil]
  rfl
theorem lenQ_pre {s1 s2 : Sd} {x : Rx s1 s2} : x.1.q.length ≤ lenQ (s1.rs ++ s2.rs) := by
  have h : ∀ (l : List Rw), x.1 ∈ l → x.1.q.length ≤ lenQ l := by
    intro l
    induction l with
    | nil => intro h; cases h
    | cons y l ih =>
      intro h
      unfold lenQ at ih ⊢
      rw [List.map_cons, List.sum_cons]
      rcases List.mem_cons.1 h with h | h
      · rw [h]; omega
      · have := ih h; omega
  exact h _ x.2
theorem ov_two (S : Nat → Prop) (W1 : World) (b : Option Addr) (m : Option Nat) (s1 s2 : Sd) (H : Bk W1 b m s1 s2) (hf : ∀ k, foot b m s1 s2 k → ¬ S k) (h0 : ¬ S W1.heap.size) (h1 : ¬ S (W1.heap.size + 1)) (h2 : ¬ S (W1.heap.size + 2)) :
    OvM S (((W1.alloc (.cells #[.int .i64 1, .int .i64 2] 3)).alloc (.cells #[.pointer b] 65)).alloc (.cells #[.slice (some ⟨W1.heap.size, 0, none⟩) 2 2] 82)) (W1.heap.size + 2) (W1.heap.size + 1) W1.heap.size [1, 2] b m s1 s2 := by
  have e0 : (((W1.alloc (.cells #[.int .i64 1, .int .i64 2] 3)).alloc (.cells #[.pointer b] 65)).alloc (.cells #[.slice (some ⟨W1.heap.size, 0, none⟩) 2 2] 82)).heap[W1.heap.size]? = some (.cells #[.int .i64 1, .int .i64 2] 3) := hd_prev (by simp; omega) (hd_prev (by simp) (hd_last rfl))
  have e1 : (((W1.alloc (.cells #[.int .i64 1, .int .i64 2] 3)).alloc (.cells #[.pointer b] 65)).alloc (.cells #[.slice (some ⟨W1.heap.size, 0, none⟩) 2 2] 82)).heap[W1.heap.size + 1]? = some (.cells #[.pointer b] 65) := hd_prev (by simp) (hd_last (by simp))
  have e2 : (((W1.alloc (.cells #[.int .i64 1, .int .i64 2] 3)).alloc (.cells #[.pointer b] 65)).alloc (.cells #[.slice (some ⟨W1.heap.size, 0, none⟩) 2 2] 82)).heap[W1.heap.size + 2]? = some (.cells #[.slice (some ⟨W1.heap.size, 0, none⟩) 2 2] 82) := hd_last (by simp)
  refine ⟨by rw [cell_of_row _ _ _ _ _ _ e2]; rfl, h2, by rw [cell_of_row _ _ _ _ _ _ e1]; rfl, h1, fun k hk => ?_, h0, ?_, hf⟩
  · have hk' : k = 0 ∨ k = 1 := by simp at hk; omega
    rcases hk' with rfl | rfl
    · exact ⟨by rw [cell_of_row _ _ _ _ _ _ e0]; rfl, by decide⟩
    · exact ⟨by rw [cell_of_row _ _ _ _ _ _ e0]; rfl, by decide⟩
  · exact H.below ((((Below.refl _ _).alloc (Nat.le_refl _) _).alloc (by simp) _).alloc (by simp; omega) _)
theorem ov_one (S : Nat → Prop) (W1 : World) (sd : Int) (hs : (Lit.int .i64 sd).wf = true) (b : Option Addr) (m : Option Nat) (s1 s2 : Sd) (H : Bk W1 b m s1 s2) (hf : ∀ k, foot b m s1 s2 k → ¬ S k) (h0 : ¬ S W1.heap.size) (h1 : ¬ S (W1.heap.size + 1)) (h2 : ¬ S (W1.heap.size + 2)) :
    OvM S (((W1.alloc (.cells #[.int .i64 sd] 3)).alloc (.cells #[.pointer b] 65)).alloc (.cells #[.slice (some ⟨W1.heap.size, 0, none⟩) 1 1] 82)) (W1.heap.size + 2) (W1.heap.size + 1) W1.heap.size [sd] b m s1 s2 := by
  have e0 : (((W1.alloc (.cells #[.int .i64 sd] 3)).alloc (.cells #[.pointer b] 65)).alloc (.cells #[.slice (some ⟨W1.heap.size, 0, none⟩) 1 1] 82)).heap[W1.heap.size]? = some (.cells #[.int .i64 sd] 3) := hd_prev (by simp; omega) (hd_prev (by simp) (hd_last rfl))
  have e1 : (((W1.alloc (.cells #[.int .i64 sd] 3)).alloc (.cells #[.pointer b] 65)).alloc (.cells #[.slice (some ⟨W1.heap.size, 0, none⟩) 1 1] 82)).heap[W1.heap.size + 1]? = some (.cells #[.pointer b] 65) := hd_prev (by simp) (hd_last (by simp))
  have e2 : (((W1.alloc (.cells #[.int .i64 sd] 3)).alloc (.cells #[.pointer b] 65)).alloc (.cells #[.slice (some ⟨W1.heap.size, 0, none⟩) 1 1] 82)).heap[W1.heap.size + 2]? = some (.cells #[.slice (some ⟨W1.heap.size, 0, none⟩) 1 1] 82) := hd_last (by simp)
  refine ⟨by rw [cell_of_row _ _ _ _ _ _ e2]; rfl, h2, by rw [cell_of_row _ _ _ _ _ _ e1]; rfl, h1, fun k hk => ?_, h0, ?_, hf⟩
  · have hk' : k = 0 := by simp at hk; omega
    subst hk'
    exact ⟨by rw [cell_of_row _ _ _ _ _ _ e0]; rfl, hs⟩
  · exact H.below ((((Below.refl _ _).alloc (Nat.le_refl _) _).alloc (by simp) _).alloc (by simp; omega) _)
theorem fr_b {S : Nat → Prop} (W : World) (l : Nat) (o o' : Obj) (hl : S l) (_ : W.heap[l]? = some o) : Fr S W (W.putObj l o') :=
  (Fr.refl S W).grown (grownBy_putObj' W l o') (fun j e => by cases e; exact .inl hl)

/-- A loop over rows: the loop's variable lies in a box. -/
def AxR (n : Nat) (tm : Array Value) (k1 k2 : Nat) {s1 s2 : Sd} (x : Rx s1 s2) (a' : Act) (W : World) : Prop :=
  ∃ B A c, n ≤ B ∧ Cl 100 W B #[.int .i64 x.1.pr, .slice A x.1.q.length c] ∧ x.1.v = .slice A x.1.q.length c ∧ a' = { tmps := (tm.setIfInBounds k1 (.pointer (some ⟨B, 0, none⟩))).setIfInBounds k2 (Rw.val x.1), defers := [] }
set_option maxHeartbeats 4000000 in
set_option maxRecDepth 100000 in
theorem lLen_c (b : Option Addr) (m : Option Nat) (s1 s2 : Sd) (w : World) (H : Bk w b m s1 s2) (hR1 : s1.rs.length ≤ 1000) (hR2 : s2.rs.length ≤ 1000) (hQ : lenQ (s1.rs ++ s2.rs) ≤ 1000) :
    Calls Try.prog 55 #[.pointer b] w fun e w' => e = .returned (.int .i64 (lenQ (s1.rs ++ s2.rs) : Nat)) ∧ Hid (Below w.heap.size w w') := by
  refine (callsIn_wide (n := 5)).1 ?_
  refine callsIn_of_wp_marks Try.func55 rfl trivial ?_ rfl
  simp only [Try.ntmps55, List.size_toArray, List.length_cons, List.length_nil, Nat.reduceAdd, Nat.reduceSub, Array.replicate_succ, Array.replicate_zero, List.push_toArray, List.append_toArray, List.nil_append, List.cons_append]
  gi_wp2_with (refine ⟨trivial, ?_⟩; refine ((callsIn_wide (n := 5 - 1)).2 (over_c _ _ _ _ _)).mono ?_; rintro e w' ⟨rfl, rfl⟩)
  have e1 : w.heap.size + 1 + 1 + 1 = w.heap.size + 3 := rfl
  obtain ⟨W1, hW1⟩ : ∃ W1, w.alloc (.cells #[.int .i64 0] 3) = W1 := ⟨_, rfl⟩
  have hz1 : W1.heap.size = w.heap.size + 1 := by rw [← hW1]; simp
  have hB1 : Below w.heap.size w W1 := by rw [← hW1]; exact (Below.refl _ _).alloc (Nat.le_refl _) _
  have hM := ov_two (fun k => k = w.heap.size ∨ w.heap.size + 4 ≤ k) W1 b m s1 s2 (H.below hB1) (fun k hk hS => by have := H.lt hk; omega) (by omega) (by omega) (by omega)
  obtain ⟨W0, hW0⟩ : ∃ W0, (((W1.alloc (.cells #[.int .i64 1, .int .i64 2] 3)).alloc (.cells #[.pointer b] 65)).alloc (.cells #[.slice (some ⟨W1.heap.size, 0, none⟩) 2 2] 82)) = W0 := ⟨_, rfl⟩
  have hc0 : Cl 3 W0 w.heap.size #[.int .i64 0] := by
    rw [← hW0, ← hW1]
    exact hd_prev (by simp; omega) (hd_prev (by simp; omega) (hd_prev (by simp) (hd_last rfl)))
  have hB0 : Below w.heap.size w W0 := by rw [← hW0, ← hW1]; exact ((((Below.refl _ _).alloc (Nat.le_refl _) _).alloc (by simp) _).alloc (by simp; omega) _).alloc (by simp; omega) _
  have hsz : W0.heap.size = w.heap.size + 4 := by rw [← hW0]; simp; omega
  rw [hW0] at hM
  rw [hz1] at hM hW0
  have hWW : (((w.alloc (.cells #[.int .i64 0] 3)).alloc (.cells #[.int .i64 1, .int .i64 2] 3)).alloc (.cells #[.pointer b] 65)).alloc (.cells #[.slice (some ⟨w.heap.size + 1, 0, none⟩) 2 2] 82) = W0 := by rw [hW1]; exact hW0
  rw [hWW]
  clear hWW hW0 hW1 hz1 hB1
  refine wpIn_rangeFunc_ownH rfl (by omega) (gf := 93) (lb := #[.pointer (some ⟨w.heap.size + 3, 0, none⟩), .pointer (some ⟨w.heap.size + 2, 0, none⟩)]) rfl trivial (enters_of Try.func93 (by kernel_rfl) rfl)
    (over_stops (5 - 1) (by omega) (fun k => k = w.heap.size ∨ w.heap.size + 4 ≤ k) (w.heap.size + 3) (w.heap.size + 2) (w.heap.size + 1) [1, 2] b m s1 s2 (by simp) hR1 hR2 W0 (s1.rs ++ s2.rs).length (by rw [two_sides]; exact Nat.le_refl _) hM) Fr.t (fun W l o o' hl ho _ _ => fr_b W l o o' (.inr (by omega)) ho) (Below.refl _ _) (fun _ => rfl)
    (fun pre W => Cl 3 W w.heap.size #[.int .i64 (IntKind.i64.wrap (lenQ (vals pre) : Nat))] ∧ Below w.heap.size w W)
    (fun _ _ _ => False)
    (OwnFrom.and (Own.from (fun s A B row hs hg hr => hs.own hg hr) _) (ownFrom_below (Nat.le_refl _) (by omega)))
    (fun _ _ _ _ _ hs _ _ => hs)
    ⟨hc0, hB0⟩
    (AxR (w.heap.size + 1) #[.pointer b, undef, .int .i64 0, .pointer (some ⟨w.heap.size, 0, none⟩), undef, .pointer b, .slice (some ⟨w.heap.size + 1, 0, none⟩) 2 2, .func (.func 93) #[] #[.pointer (some ⟨w.heap.size + 3, 0, none⟩), .pointer (some ⟨w.heap.size + 2, 0, none⟩)], undef, undef, undef, undef, undef, undef, undef] 4 8)
    (fun x a' _ X Y row hs hg hr => by obtain ⟨B, A, c, h1, h2, h3⟩ := hs; exact ⟨B, A, c, h1, h2.own hg (fun r e => (hr r e).2), h3⟩)
    ?assign ?body ?done ?stop
  case assign =>
    rintro l0 pre x W K ⟨hc, hB⟩ hK
    obtain ⟨A, c, hv, _⟩ := own_que (H.q x.1 x.2)
    have hval : Rw.val x.1 = .agg #[.int .i64 x.1.pr, .slice A x.1.q.length c] := by unfold Rw.val; rw [hv]
    unfold AxR at hK
    simp only [hval] at hK ⊢
    have hlt := hB.size
    have hsz' := hc
    gi_wp2
    refine hK _ _ ((KeepsOthers.alloc _ _).from _) ((Fr.refl _ W).alloc _) ⟨hd_prev (blk_lt hc) hc, hB.alloc hB.size _⟩ ⟨W.heap.size, A, c, ?_, hd_last rfl, hv, rfl⟩
    have := blk_lt hc
    omega
  case body =>
    rintro l0 pre x a' W hl ⟨r, hr⟩ ⟨hc, hB⟩ ⟨Bx, A, c, hBx, bX, hv, rfl⟩ hlt
    have p0 : W.cell? ⟨w.heap.size, 0, none⟩ = some (.int .i64 (IntKind.i64.wrap (lenQ (vals pre) : Nat))) := (hc.c 0).trans rfl
    have p1 : W.cell? ⟨Bx, 1, none⟩ = some (.slice A x.1.q.length c) := (bX.c 1).trans rfl
    have f0 := hc.f (k := 0)
    have hval : Rw.val x.1 = .agg #[.int .i64 x.1.pr, .slice A x.1.q.length c] := by unfold Rw.val; rw [hv]
    simp only [hval]
    gi_wp2
    refine ⟨(KeepsOthers.setCell _ _ _).from _, (Fr.refl _ W).set (.inl (.inl rfl)) _, ?_, hB.setCell (p := ⟨w.heap.size, 0, none⟩) (Nat.le_refl _) _⟩
    show (W.setCell _ _).heap[_]? = _
    rw [heap_set hc, lenQ_snoc]
    simp only [Array.setIfInBounds, List.size_toArray, List.length_cons, List.length_nil, Nat.zero_add, Nat.lt_add_one, dif_pos]
    rw [wrap_more]
    rfl
  case done =>
    rintro D ys W hD hys ⟨hc, hB⟩ hK
    have e2 : lenQ (vals ys) = lenQ (s1.rs ++ s2.rs) := by rw [hys, two_sides]
    rw [e2] at hc
    have e3 := wrap_fit (Nat.le_trans hQ (by decide : 1000 ≤ 1000000))
    rw [e3] at hc
    have p0 : W.cell? ⟨w.heap.size, 0, none⟩ = some (.int .i64 (lenQ (s1.rs ++ s2.rs) : Nat)) := (hc.c 0).trans rfl
    clear hys e2 e3 hc hM hc0
    gi_wp2_with fail
    refine ⟨by simp, .inl ⟨_, _, rfl, run_takeDeferred hK, ?_⟩⟩
    exact ⟨_, results_tmp rfl _ _ _, rfl, Lib.hid (hB.trans (belowK_b (w := w) (Nat.le_refl _) W D _ _ (by omega) hK rfl rfl))⟩
  case stop =>
    rintro D c pre W _ _ h _
    exact h.elim
end Go.Proofs.Ytailiaobbgikfaa
