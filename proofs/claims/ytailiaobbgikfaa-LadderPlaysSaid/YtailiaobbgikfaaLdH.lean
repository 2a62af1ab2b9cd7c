/- ladder: Prices. -/
import Derived.Test.YtailiaobbgikfaaLdG
namespace Go.Proofs.Ytailiaobbgikfaa
open Go.RowKit Go.Shelf Go.Sort

attribute [local go_sem] Oper.semAt_some

def prV (R : List Rw) : List Value := R.map (fun r => .int .i64 r.pr)
theorem prV_snoc (R : List Rw) (x : Rw) : prV (R ++ [x]) = prV R ++ [.int .i64 x.pr] := by unfold prV; rw [List.map_append]; rfl
theorem info_i64 : (Try.prog.info? 2).map (fun i => (i.zero, i.size, i.bytes)) = some (some (.int .i64 0), 1, 8) := by kernel_rfl
theorem one_side (s1 s2 : Sd) (sd : Int) : [sd].flatMap (rsOf s1 s2) = rsOf s1 s2 sd := by
  show rsOf s1 s2 sd ++ [] = _
  rw [List.append_nil]
theorem rs_len {s1 s2 : Sd} (sd : Int) (h1 : s1.rs.length ≤ 1000) (h2 : s2.rs.length ≤ 1000) : (rsOf s1 s2 sd).length ≤ 1000 := by
  unfold rsOf
  (repeat' split)
  · exact h1
  · exact h2
  · exact Nat.zero_le _
theorem one_news (W : World) (p : Int) : ∀ (j : Nat) (u : Value), ([.int .i64 p] : List Value)[j]? = some u → (W.alloc (.cells #[.int .i64 p] 2)).cell? ((⟨W.heap.size, 0, none⟩ : Addr).add j) = some u := by
  intro j u hu
  have hj := (List.getElem?_eq_some_iff.1 hu).1
  obtain rfl : j = 0 := by simpa using hj
  rw [addr_add, cell_of_row _ _ _ _ _ _ (heap_alloc_new W _)]
  simpa using hu
theorem one_cells (p : Int) : ∀ u ∈ ([.int .i64 p] : List Value), u.oneCell' = true := by
  intro u hu
  rw [List.mem_singleton.1 hu]
  rfl
set_option maxHeartbeats 4000000 in
set_option maxRecDepth 100000 in
theorem lPrices_c (b : Option Addr) (m : Option Nat) (s1 s2 : Sd) (sd : Int) (hsd : (Lit.int .i64 sd).wf = true) (w : World) (H : Bk w b m s1 s2) (hR1 : s1.rs.length ≤ 1000) (hR2 : s2.rs.length ≤ 1000) :
    Calls Try.prog 54 #[.pointer b, .int .i64 sd] w fun e w' => ∃ v, e = .returned v ∧ Hid (w'.ownsRow w.heap.size 2 1 v (rsOf s1 s2 sd).length (prV (rsOf s1 s2 sd)) ∧ Below w.heap.size w w') := by
  obtain ⟨i0, hi0, hz0, hz1, hz2⟩ := info_parts info_i64
  refine (callsIn_wide (n := 5)).1 ?_
  refine callsIn_of_wp_marks Try.func54 rfl trivial ?_ rfl
  simp only [Try.ntmps54, List.size_toArray, List.length_cons, List.length_nil, Nat.reduceAdd, Nat.reduceSub, Array.replicate_succ, Array.replicate_zero, List.push_toArray, List.append_toArray, List.nil_append, List.cons_append]
  gi_wp2_with (refine ⟨trivial, ?_⟩; refine ((callsIn_wide (n := 5 - 1)).2 (over_c _ _ _ _ _)).mono ?_; rintro e w' ⟨rfl, rfl⟩)
  have e1 : w.heap.size + 1 + 1 + 1 = w.heap.size + 3 := rfl
  obtain ⟨W1, hW1⟩ : ∃ W1, w.alloc (.cells #[.slice none 0 0] 40) = W1 := ⟨_, rfl⟩
  have hz1 : W1.heap.size = w.heap.size + 1 := by rw [← hW1]; simp
  have hB1 : Below w.heap.size w W1 := by rw [← hW1]; exact (Below.refl _ _).alloc (Nat.le_refl _) _
  have hM := ov_one (fun k => k = w.heap.size ∨ w.heap.size + 4 ≤ k) W1 sd hsd b m s1 s2 (H.below hB1) (fun k hk hS => by have := H.lt hk; omega) (by omega) (by omega) (by omega)
  obtain ⟨W0, hW0⟩ : ∃ W0, (((W1.alloc (.cells #[.int .i64 sd] 3)).alloc (.cells #[.pointer b] 65)).alloc (.cells #[.slice (some ⟨W1.heap.size, 0, none⟩) 1 1] 82)) = W0 := ⟨_, rfl⟩
  have hc0 : Cl 40 W0 w.heap.size #[.slice none 0 0] := by
    rw [← hW0, ← hW1]
    exact hd_prev (by simp; omega) (hd_prev (by simp; omega) (hd_prev (by simp) (hd_last rfl)))
  have hB0 : Below w.heap.size w W0 := by rw [← hW0, ← hW1]; exact ((((Below.refl _ _).alloc (Nat.le_refl _) _).alloc (by simp) _).alloc (by simp; omega) _).alloc (by simp; omega) _
  have hsz : W0.heap.size = w.heap.size + 4 := by rw [← hW0]; simp; omega
  rw [hW0] at hM
  rw [hz1] at hM hW0
  have hWW : (((w.alloc (.cells #[.slice none 0 0] 40)).alloc (.cells #[.int .i64 sd] 3)).alloc (.cells #[.pointer b] 65)).alloc (.cells #[.slice (some ⟨w.heap.size + 1, 0, none⟩) 1 1] 82) = W0 := by rw [hW1]; exact hW0
  rw [hWW]
  clear hWW hW0 hW1 hz1 hB1
  refine wpIn_rangeFunc_ownH rfl (by omega) (gf := 93) (lb := #[.pointer (some ⟨w.heap.size + 3, 0, none⟩), .pointer (some ⟨w.heap.size + 2, 0, none⟩)]) rfl trivial (enters_of Try.func93 (by kernel_rfl) rfl)
    (over_stops (5 - 1) (by omega) (fun k => k = w.heap.size ∨ w.heap.size + 4 ≤ k) (w.heap.size + 3) (w.heap.size + 2) (w.heap.size + 1) [sd] b m s1 s2 (by simp) hR1 hR2 W0 (rsOf s1 s2 sd).length (by rw [one_side]; exact Nat.le_refl _) hM) Fr.t (fun W l o o' hl ho _ _ => fr_b W l o o' (.inr (by omega)) ho) (Below.refl _ _) (fun _ => rfl)
    (fun pre W => (∃ v, Cl 40 W w.heap.size #[v] ∧ W.ownsRow (w.heap.size + 4) 2 1 v (vals pre).length (prV (vals pre)) ∧ w.heap.size + 4 ≤ W.heap.size) ∧ Below w.heap.size w W)
    (fun _ _ _ => False)
    (OwnFrom.and (Own.from (fun s A B row hs hg hr => by obtain ⟨v, h1, h2, h3⟩ := hs; exact ⟨v, h1.own hg hr, own_kept h2 hg hr, Nat.le_trans h3 hg.size⟩) _) (ownFrom_below (Nat.le_refl _) (by omega)))
    (fun _ _ _ _ _ hs _ _ => hs)
    ⟨⟨_, hc0, ⟨rfl, .inl ⟨rfl, rfl⟩⟩, by omega⟩, hB0⟩
    (AxR (w.heap.size + 1) #[.pointer b, .int .i64 sd, undef, undef, .slice none 0 0, .pointer (some ⟨w.heap.size, 0, none⟩), undef, .pointer b, .int .i64 sd, .slice (some ⟨w.heap.size + 1, 0, none⟩) 1 1, .func (.func 93) #[] #[.pointer (some ⟨w.heap.size + 3, 0, none⟩), .pointer (some ⟨w.heap.size + 2, 0, none⟩)], undef, undef, undef, undef, undef, undef, undef] 6 11)
    (fun x a' _ X Y row hs hg hr => by obtain ⟨B, A, c, h1, h2, h3⟩ := hs; exact ⟨B, A, c, h1, h2.own hg (fun r e => (hr r e).2), h3⟩)
    ?assign ?body ?done ?stop
  case assign =>
    rintro l0 pre x W K ⟨⟨v, hc, ho, h4⟩, hB⟩ hK
    obtain ⟨A, c, hv, _⟩ := own_que (H.q x.1 x.2)
    have hval : Rw.val x.1 = .agg #[.int .i64 x.1.pr, .slice A x.1.q.length c] := by unfold Rw.val; rw [hv]
    unfold AxR at hK
    simp only [hval] at hK ⊢
    gi_wp2
    refine hK _ _ ((KeepsOthers.alloc _ _).from _) ((Fr.refl _ W).alloc _) ⟨⟨v, hd_prev (blk_lt hc) hc, ho.alloc _, by rw [World.size_alloc]; omega⟩, hB.alloc hB.size _⟩ ⟨W.heap.size, A, c, ?_, hd_last rfl, hv, rfl⟩
    have := blk_lt hc
    omega
  case body =>
    rintro l0 pre x a' W hl ⟨r, hr⟩ ⟨⟨v, hc, ho, h4⟩, hB⟩ ⟨Bx, A, c, hBx, bX, hv, rfl⟩ hlt
    obtain ⟨A0, c0, rfl, _⟩ := own_que2 ho
    have p0 : W.cell? ⟨w.heap.size, 0, none⟩ = some (.slice A0 (vals pre).length c0) := (hc.c 0).trans rfl
    have p1 : W.cell? ⟨Bx, 0, none⟩ = some (.int .i64 x.1.pr) := (bX.c 0).trans rfl
    have hval : Rw.val x.1 = .agg #[.int .i64 x.1.pr, .slice A x.1.q.length c] := by unfold Rw.val; rw [hv]
    simp only [hval]
    have hbd : (vals pre).length + 1 ≤ 2001 := by rw [vals_len]; have := rs_len sd hR1 hR2; omega
    have ho2 := ho.alloc (.cells #[.int .i64 x.1.pr] 2)
    have hca : Cl 40 (W.alloc (.cells #[.int .i64 x.1.pr] 2)) w.heap.size #[.slice A0 (vals pre).length c0] := hd_prev (blk_lt hc) hc
    have h4a : w.heap.size + 4 ≤ (W.alloc (.cells #[.int .i64 x.1.pr] 2)).heap.size := by rw [World.size_alloc]; omega
    have HW := Lib.hid (And.intro hca (And.intro ho2 (And.intro h4a (And.intro h4 (hB.alloc hB.size (.cells #[.int .i64 x.1.pr] 2))))))
    clear hc h4 hB hl hval bX hca h4a
    gi_wp2_with (gi_at_builtin; refine wpListIn_append_own_at _ rfl _ _ _ rfl (w.heap.size + 4) _ i0 (.int .i64 0) 1 8 Try.underlying40 hi0 hz0 hz1 hz2 rfl (by decide) _ _ _ rfl ho2 ⟨W.heap.size, 0, none⟩ 1 1 [.int .i64 x.1.pr] rfl rfl (one_news W x.1.pr) (one_cells x.1.pr) (by unfold maxLen; omega) (by omega) HW.out.2.2.1 ?_; intro v' w1 hown' hgrow hnil hloc; obtain ⟨A1, c1, rfl, _⟩ := own_que2 hown'; have hc1 : Cl 40 w1 w.heap.size #[.slice A0 (vals pre).length c0] := own_far HW.out.1 ho2 hgrow (Nat.lt_of_lt_of_le (Nat.lt_succ_self _) (Nat.le_add_right (w.heap.size + 1) 3)); have p2 : w1.cell? ⟨w.heap.size, 0, none⟩ = some (.slice A0 (vals pre).length c0) := (hc1.c 0).trans rfl; have f2 := hc1.f (k := 0); clear p0 p1)
    have hfa : Fr (fun k => k = w.heap.size ∨ w.heap.size + 4 ≤ k) W (W.alloc (.cells #[.int .i64 x.1.pr] 2)) := (Fr.refl _ W).alloc _
    have hfr : Fr (fun k => k = w.heap.size ∨ w.heap.size + 4 ≤ k) (W.alloc (.cells #[.int .i64 x.1.pr] 2)) w1 := (Fr.refl _ _).grown hgrow (fun j e => .inl (.inr (own_lt ho2 j e).1))
    refine ⟨(((KeepsOthers.alloc _ _).from _).trans (keeps_own _ ho2 hgrow)).trans ((KeepsOthers.setCell _ _ _).from _), (hfa.t hfr).set (.inl (.inl rfl)) _, ⟨.slice A1 ((vals pre).length + 1) c1, (heap_set hc1).trans rfl, ?_, (by rw [show (w1.setCell ⟨w.heap.size, 0, none⟩ _).heap.size = w1.heap.size by simp [World.setCell]]; exact Nat.le_trans HW.out.2.2.1 hgrow.size)⟩, (HW.out.2.2.2.2.trans (hfr.below (fun k hk => by rcases hk with h | h <;> omega) HW.out.2.2.2.2.size)).setCell (p := ⟨w.heap.size, 0, none⟩) (Nat.le_refl _) _⟩
    rw [vals_snoc, List.length_append, prV_snoc]
    refine own_fr (S := fun k => k = w.heap.size) hown' ((Fr.refl (fun k => k = w.heap.size) w1).set (p := ⟨w.heap.size, 0, none⟩) (.inl rfl) _) (fun k hk e => ?_)
    have := (own_lt hown' k hk).1
    omega
  case done =>
    rintro D ys W hD hys ⟨⟨v, hc, ho, h4⟩, hB⟩ hK
    rw [one_side] at hys
    rw [hys] at ho
    obtain ⟨A0, c0, rfl, _⟩ := own_que2 ho
    have p0 : W.cell? ⟨w.heap.size, 0, none⟩ = some (.slice A0 (rsOf s1 s2 sd).length c0) := (hc.c 0).trans rfl
    clear hys hM hc0
    gi_wp2_with fail
    refine ⟨by simp, .inl ⟨_, _, rfl, run_takeDeferred hK, ?_⟩⟩
    exact ⟨_, results_tmp rfl _ _ _, _, rfl, Lib.hid ⟨own_base (own_put ho D hK rfl) (by omega), hB.trans (belowK_b (w := w) (Nat.le_refl _) W D _ _ (by omega) hK rfl rfl)⟩⟩
  case stop =>
    rintro D c pre W _ _ h _
    exact h.elim
end Go.Proofs.Ytailiaobbgikfaa
