/- ladder: All. -/
import Derived.Test.YtailiaobbgikfaaLdF
import Derived.Test.YtailiaobbgikfaaLdI
import Derived.Maps.OwnIn
namespace Go.Proofs.Ytailiaobbgikfaa
open Go.RowKit Go.Shelf Go.Sort

attribute [local go_sem] Oper.semAt_some

theorem own_kept {w w' : World} {base n size : Nat} {e : TypeId} {v : Value} {xs : List Value} {row : Option Nat} (h : w.ownsRow base e size v n xs) (hg : w.grownBy w' row) (hr : ∀ r, row = some r → ∃ o : Obj, w.heap[r]? = some o ∧ o.isCells = false) : w'.ownsRow base e size v n xs := by
  obtain ⟨h1, h2⟩ := h
  refine ⟨h1, ?_⟩
  rcases h2 with hn | ⟨k, cap, cur, rfl, hb, hk, rest⟩
  · exact .inl hn
  · exact .inr ⟨k, cap, cur, rfl, hb, (Cl.own (T := e) (cs := cur) hk hg hr), rest⟩
/-- An own row's cells, as they are appended. -/
theorem que_news {S : Nat → Prop} {w W : World} {base : Nat} {T : TypeId} {v : Value} {A : Option Addr} {n c : Nat} {q : List Od} (h : w.ownsRow base T 6 v q.length (ol q)) (hv : v = .slice A n c) (hne : q ≠ []) (hf : Fr S w W) (hS : ∀ k, v.ownBlock = some k → ¬ S k) :
    ∃ ad, A = some ad ∧ ∀ j u, (ol q)[j]? = some u → W.cell? (ad.add j) = some u := by
  rcases h.2 with ⟨_, h0⟩ | ⟨k, cap, cur, hv', _, hk, _, _, _, ht⟩
  · exact absurd (List.length_eq_zero_iff.1 h0) hne
  · rw [hv] at hv'
    injection hv' with e1 e2 e3
    refine ⟨⟨k, 0, none⟩, e1, fun j u hj => ?_⟩
    have hk' := hf.blk hk (hS k (by rw [hv, e1]; rfl))
    rw [addr_add, Nat.zero_add, cell_of_row _ _ _ _ _ _ hk']
    rw [← ht, List.getElem?_take] at hj
    split at hj
    · rw [Array.getElem?_toList] at hj; exact hj
    · cases hj
theorem own_que2 {w : World} {base n size : Nat} {T : TypeId} {v : Value} {xs : List Value} (h : w.ownsRow base T size v n xs) : ∃ A c, v = .slice A n c ∧ True := by
  rcases h.2 with ⟨hv, h0⟩ | ⟨k, cap, cur, hv, _⟩
  · subst h0; exact ⟨none, 0, hv, trivial⟩
  · exact ⟨_, _, hv, trivial⟩
theorem own_far {T T' : TypeId} {W w1 : World} {B base n size : Nat} {cs : Array Value} {v : Value} {xs : List Value} (h : Cl T W B cs) (ho : W.ownsRow base T' size v n xs) (hg : W.grownBy w1 v.ownBlock) (hB : B < base) : Cl T w1 B cs :=
  (hg.block _ (blk_lt h) (fun e => by have := (own_lt ho B e.symm).1; omega)).trans h
theorem keeps_own {T : TypeId} {W w1 : World} (B : Nat) {base n size : Nat} {v : Value} {xs : List Value} (ho : W.ownsRow base T size v n xs) (hg : W.grownBy w1 v.ownBlock) : KeepsFrom B W w1 := by
  refine ⟨hg.size, fun i o _ hi hc => ?_⟩
  refine (hg.block i (blk_lt hi) (fun e => ?_)).trans hi
  rcases ho.2 with ⟨hv, _⟩ | ⟨k, cap, cur, hv, _, hk, _⟩
  · rw [hv] at e; cases e
  · rw [hv] at e
    injection e with e
    subst e
    rw [hk] at hi; cases hi; cases hc
theorem own_put {T : TypeId} {X : World} {base n size : Nat} {v : Value} {xs : List Value} (h : X.ownsRow base T size v n xs) (D : Nat) {o o' : Obj} (hD : X.heap[D]? = some o) (hc : o.isCells = false) : (X.putObj D o').ownsRow base T size v n xs := by
  obtain ⟨h1, h2⟩ := h
  refine ⟨h1, ?_⟩
  rcases h2 with hn | ⟨k, cap, cur, rfl, hb, hk, rest⟩
  · exact .inl hn
  · exact .inr ⟨k, cap, cur, rfl, hb, Cl.put (T := T) (cs := cur) hk D hD hc, rest⟩
theorem ol_append (a b : List Od) : ol (a ++ b) = ol a ++ ol b := by unfold ol; rw [List.flatMap_append]
theorem vals_snoc {s1 s2 : Sd} (pre : List (Rx s1 s2)) (x : Rx s1 s2) : vals (pre ++ [x]) = vals pre ++ [x.1] := by unfold vals; simp
theorem flat_many : ∀ (l : List Rw), (∀ r ∈ l, r.q.length ≤ 1000) → (flatR l).length ≤ l.length * 1000
  | [], _ => Nat.le_refl _
  | r :: l, h => by
    have h1 := h r (by simp)
    have h2 := flat_many l (fun r hr => h r (by simp [hr]))
    unfold flatR at *
    rw [List.flatMap_cons, List.length_append, List.length_cons]
    omega
theorem all_bound {s1 s2 : Sd} {pre : List (Rx s1 s2)} {s : Rx s1 s2} (hQ : lenQ (s1.rs ++ s2.rs) ≤ 1000) (hp : pre.length < (s1.rs ++ s2.rs).length) (h1 : s1.rs.length ≤ 1000) (h2 : s2.rs.length ≤ 1000) : (flatR (vals pre)).length + s.1.q.length ≤ 2001000 := by
  have hb := flat_many (vals pre) (fun r hr => by
    obtain ⟨x, _, rfl⟩ := List.mem_map.1 hr
    exact Nat.le_trans lenQ_pre hQ)
  have hs := Nat.le_trans (lenQ_pre (x := s)) hQ
  rw [vals_len] at hb
  rw [List.length_append] at hp
  omega
set_option maxHeartbeats 4000000 in
set_option maxRecDepth 100000 in
theorem lAll_c (b : Option Addr) (m : Option Nat) (s1 s2 : Sd) (w : World) (H : Bk w b m s1 s2) (hR1 : s1.rs.length ≤ 1000) (hR2 : s2.rs.length ≤ 1000) (hQ : lenQ (s1.rs ++ s2.rs) ≤ 1000) (hne : ∀ r ∈ s1.rs ++ s2.rs, r.q ≠ []) :
    Calls Try.prog 62 #[.pointer b] w fun e w' => ∃ v, e = .returned v ∧ Hid (w'.ownsRow w.heap.size 24 6 v (bookL s1.rs s2.rs).length (ol (bookL s1.rs s2.rs)) ∧ Below w.heap.size w w') := by
  obtain ⟨i0, hi0, hz0, hz1, hz2⟩ := info_parts info_O
  refine (callsIn_wide (n := 5)).1 ?_
  refine callsIn_of_wp_marks Try.func62 rfl trivial ?_ rfl
  simp only [Try.ntmps62, List.size_toArray, List.length_cons, List.length_nil, Nat.reduceAdd, Nat.reduceSub, Array.replicate_succ, Array.replicate_zero, List.push_toArray, List.append_toArray, List.nil_append, List.cons_append]
  gi_wp2_with (refine ⟨trivial, ?_⟩; refine ((callsIn_wide (n := 5 - 1)).2 (over_c _ _ _ _ _)).mono ?_; rintro e w' ⟨rfl, rfl⟩)
  have e1 : w.heap.size + 1 + 1 + 1 = w.heap.size + 3 := rfl
  obtain ⟨W1, hW1⟩ : ∃ W1, w.alloc (.cells #[.slice none 0 0] 37) = W1 := ⟨_, rfl⟩
  have hz1 : W1.heap.size = w.heap.size + 1 := by rw [← hW1]; simp
  have hB1 : Below w.heap.size w W1 := by rw [← hW1]; exact (Below.refl _ _).alloc (Nat.le_refl _) _
  have hM := ov_two (fun k => k = w.heap.size ∨ w.heap.size + 4 ≤ k) W1 b m s1 s2 (H.below hB1) (fun k hk hS => by have := H.lt hk; omega) (by omega) (by omega) (by omega)
  obtain ⟨W0, hW0⟩ : ∃ W0, (((W1.alloc (.cells #[.int .i64 1, .int .i64 2] 3)).alloc (.cells #[.pointer b] 65)).alloc (.cells #[.slice (some ⟨W1.heap.size, 0, none⟩) 2 2] 82)) = W0 := ⟨_, rfl⟩
  have hc0 : Cl 37 W0 w.heap.size #[.slice none 0 0] := by
    rw [← hW0, ← hW1]
    exact hd_prev (by simp; omega) (hd_prev (by simp; omega) (hd_prev (by simp) (hd_last rfl)))
  have hB0 : Below w.heap.size w W0 := by rw [← hW0, ← hW1]; exact ((((Below.refl _ _).alloc (Nat.le_refl _) _).alloc (by simp) _).alloc (by simp; omega) _).alloc (by simp; omega) _
  have hsz : W0.heap.size = w.heap.size + 4 := by rw [← hW0]; simp; omega
  rw [hW0] at hM
  rw [hz1] at hM hW0
  have hWW : (((w.alloc (.cells #[.slice none 0 0] 37)).alloc (.cells #[.int .i64 1, .int .i64 2] 3)).alloc (.cells #[.pointer b] 65)).alloc (.cells #[.slice (some ⟨w.heap.size + 1, 0, none⟩) 2 2] 82) = W0 := by rw [hW1]; exact hW0
  rw [hWW]
  clear hWW hW0 hW1 hz1 hB1
  refine wpIn_rangeFunc_ownH rfl (by omega) (gf := 93) (lb := #[.pointer (some ⟨w.heap.size + 3, 0, none⟩), .pointer (some ⟨w.heap.size + 2, 0, none⟩)]) rfl trivial (enters_of Try.func93 (by kernel_rfl) rfl)
    (over_stops (5 - 1) (by omega) (fun k => k = w.heap.size ∨ w.heap.size + 4 ≤ k) (w.heap.size + 3) (w.heap.size + 2) (w.heap.size + 1) [1, 2] b m s1 s2 (by simp) hR1 hR2 W0 (s1.rs ++ s2.rs).length (by rw [two_sides]; exact Nat.le_refl _) hM) Fr.t (fun W l o o' hl ho _ _ => fr_b W l o o' (.inr (by omega)) ho) (Below.refl _ _) (fun _ => rfl)
    (fun pre W => (∃ v, Cl 37 W w.heap.size #[v] ∧ W.ownsRow (w.heap.size + 4) 24 6 v (flatR (vals pre)).length (ol (flatR (vals pre))) ∧ w.heap.size + 4 ≤ W.heap.size ∧ ∀ r ∈ vals pre, r ∈ s1.rs ++ s2.rs) ∧ Below w.heap.size w W)
    (fun _ _ _ => False)
    (OwnFrom.and (Own.from (fun s A B row hs hg hr => by obtain ⟨v, h1, h2, h3, h4⟩ := hs; exact ⟨v, h1.own hg hr, own_kept h2 hg hr, Nat.le_trans h3 hg.size, h4⟩) _) (ownFrom_below (Nat.le_refl _) (by omega)))
    (fun _ _ _ _ _ hs _ _ => hs)
    ⟨⟨_, hc0, ⟨rfl, .inl ⟨rfl, rfl⟩⟩, by omega, fun r hr => by cases hr⟩, hB0⟩
    (AxR (w.heap.size + 1) #[.pointer b, undef, .slice none 0 0, .pointer (some ⟨w.heap.size, 0, none⟩), undef, .pointer b, .slice (some ⟨w.heap.size + 1, 0, none⟩) 2 2, .func (.func 93) #[] #[.pointer (some ⟨w.heap.size + 3, 0, none⟩), .pointer (some ⟨w.heap.size + 2, 0, none⟩)], undef, undef, undef, undef, undef, undef] 4 8)
    (fun x a' _ X Y row hs hg hr => by obtain ⟨B, A, c, h1, h2, h3⟩ := hs; exact ⟨B, A, c, h1, h2.own hg (fun r e => (hr r e).2), h3⟩)
    ?assign ?body ?done ?stop
  case assign =>
    rintro l0 pre x W K ⟨⟨v, hc, ho, h4, hm⟩, hB⟩ hK
    obtain ⟨A, c, hv, _⟩ := own_que (H.q x.1 x.2)
    have hval : Rw.val x.1 = .agg #[.int .i64 x.1.pr, .slice A x.1.q.length c] := by unfold Rw.val; rw [hv]
    unfold AxR at hK
    simp only [hval] at hK ⊢
    gi_wp2
    refine hK _ _ ((KeepsOthers.alloc _ _).from _) ((Fr.refl _ W).alloc _) ⟨⟨v, hd_prev (blk_lt hc) hc, ho.alloc _, by rw [World.size_alloc]; omega, hm⟩, hB.alloc hB.size _⟩ ⟨W.heap.size, A, c, ?_, hd_last rfl, hv, rfl⟩
    have := blk_lt hc
    omega
  case body =>
    rintro l0 pre x a' W hl ⟨r, hr⟩ ⟨⟨v, hc, ho, h4, hm⟩, hB⟩ ⟨Bx, A, c, hBx, bX, hv, rfl⟩ hlt
    obtain ⟨A0, c0, rfl, _⟩ := own_que ho
    have p0 : W.cell? ⟨w.heap.size, 0, none⟩ = some (.slice A0 (flatR (vals pre)).length c0) := (hc.c 0).trans rfl
    have p1 : W.cell? ⟨Bx, 1, none⟩ = some (.slice A x.1.q.length c) := (bX.c 1).trans rfl
    have f0 := hc.f (k := 0)
    have hval : Rw.val x.1 = .agg #[.int .i64 x.1.pr, .slice A x.1.q.length c] := by unfold Rw.val; rw [hv]
    simp only [hval]
    obtain ⟨ad, rfl, hnews⟩ := que_news (H.q x.1 x.2) hv (hne x.1 x.2) (fr_low hB) (fun k hk => by
      intro hle
      have := H.lt (.inr (.inr (.inr (.inr ⟨x.1, x.2, hk⟩))) : foot b m s1 s2 k)
      omega)
    have hbd := all_bound hQ (s := x) hlt hR1 hR2
    have HW := Lib.hid (And.intro hc (And.intro ho (And.intro h4 (And.intro hm hB))))
    clear hc h4 hm hB hl hval bX
    gi_wp2_with (gi_at_builtin; refine wpListIn_append_own_at _ rfl _ _ _ rfl (w.heap.size + 4) _ i0 (.agg (OC ⟨0, 0, 0, 0, 0, 0⟩)) 6 48 Try.underlying37 hi0 hz0 hz1 hz2 rfl (by decide) _ _ _ rfl ho ad _ _ (ol x.1.q) rfl (ol_len _) hnews (ol_one _) (by unfold maxLen; omega) (by omega) HW.out.2.2.1 ?_; intro v' w1 hown' hgrow hnil hloc; obtain ⟨A1, c1, rfl, _⟩ := own_que2 hown'; have hc1 : Cl 37 w1 w.heap.size #[.slice A0 (flatR (vals pre)).length c0] := own_far HW.out.1 ho hgrow (Nat.lt_of_lt_of_le (Nat.lt_succ_self _) (Nat.le_add_right (w.heap.size + 1) 3)); have p2 : w1.cell? ⟨w.heap.size, 0, none⟩ = some (.slice A0 (flatR (vals pre)).length c0) := (hc1.c 0).trans rfl; have f2 := hc1.f (k := 0); clear p0 p1 f0)
    have hfr : Fr (fun k => k = w.heap.size ∨ w.heap.size + 4 ≤ k) W w1 := (Fr.refl _ W).grown hgrow (fun j e => .inl (.inr (own_lt ho j e).1))
    refine ⟨(keeps_own _ ho hgrow).trans ((KeepsOthers.setCell _ _ _).from _), hfr.set (.inl (.inl rfl)) _, ⟨.slice A1 ((flatR (vals pre)).length + x.1.q.length) c1, (heap_set hc1).trans rfl, ?_, (by rw [show (w1.setCell ⟨w.heap.size, 0, none⟩ _).heap.size = w1.heap.size by simp [World.setCell]]; exact Nat.le_trans HW.out.2.2.1 hgrow.size), ?_⟩, (HW.out.2.2.2.2.trans (hfr.below (fun k hk => by rcases hk with h | h <;> omega) HW.out.2.2.2.2.size)).setCell (p := ⟨w.heap.size, 0, none⟩) (Nat.le_refl _) _⟩
    · rw [flat_snoc, List.length_append, ol_append]
      refine own_fr (S := fun k => k = w.heap.size) hown' ((Fr.refl (fun k => k = w.heap.size) w1).set (p := ⟨w.heap.size, 0, none⟩) (.inl rfl) _) (fun k hk e => ?_)
      have := (own_lt hown' k hk).1
      omega
    · intro y hy
      rw [vals_snoc] at hy
      rcases List.mem_append.1 hy with hy | hy
      · exact List.mem_append.1 (HW.out.2.2.2.1 y hy)
      · rw [List.mem_singleton.1 hy]; exact List.mem_append.1 x.2
  case done =>
    rintro D ys W hD hys ⟨⟨v, hc, ho, h4, hm⟩, hB⟩ hK
    rw [two_sides] at hys
    rw [hys, flatR_app] at ho
    obtain ⟨A0, c0, rfl, _⟩ := own_que2 ho
    have p0 : W.cell? ⟨w.heap.size, 0, none⟩ = some (.slice A0 (bookL s1.rs s2.rs).length c0) := (hc.c 0).trans rfl
    clear hys hm hM hc0
    gi_wp2_with fail
    refine ⟨by simp, .inl ⟨_, _, rfl, run_takeDeferred hK, ?_⟩⟩
    exact ⟨_, results_tmp rfl _ _ _, _, rfl, Lib.hid ⟨own_base (own_put ho D hK rfl) (by omega), hB.trans (belowK_b (w := w) (Nat.le_refl _) W D _ _ (by omega) hK rfl rfl)⟩⟩
  case stop =>
    rintro D c pre W _ _ h _
    exact h.elim
end Go.Proofs.Ytailiaobbgikfaa
