/- acks: the reference's Drop. (By mkacv.py.) -/
import Derived.Test.YthbocddkomhpoaaAcU
namespace Go.Proofs.Ythbocddkomhpoaa
open Go.RowKit Go.Lib

theorem keep_big {a b : World} {B : Nat} (h : Below (B + 1) a b) (_ : B + 1 ≤ a.heap.size) : Fr (fun k => B ≤ k) a b :=
  ⟨h.os, h.tape, h.output, h.size, fun k _ hn => h.block k (by omega)⟩
theorem fr_setc {a b : World} {B g : Nat} {j : Nat} (h : Fr (fun k => B ≤ k) a b) (hg : B ≤ g) (v : Value) : Fr (fun k => B ≤ k) a (b.setCell ⟨g, j, none⟩ v) := h.set (p := ⟨g, j, none⟩) (.inl hg) v
theorem rdrop_next {w wr Y : World} {n : Nat} {N c c2 m1 c1 : Nat} {A A1 A2 : Option Addr} {M : Al} {m : Nat} (hm : m = M.length) (hA : Y.ownsRow (w.heap.size + 3) 69 2 (.slice A2 m c2) m (akl M)) (hz : Y.heap[w.heap.size + 2]? = some (.cells (T2 n A1 m1 c1) 35 (0, 0))) (hb : Below (w.heap.size + 3) wr Y) (hs : w.heap.size + 3 ≤ wr.heap.size)
    (h1 : wr.heap[w.heap.size]? = some (.cells (T2 n A N c) 35 (0, 0))) (h2 : wr.heap[w.heap.size + 1]? = some (.cells (T2 0 none 0 0) 35 (0, 0))) (hB : Below w.heap.size w wr) :
    (Y.setCell ⟨w.heap.size + 2, 1, none⟩ (.slice A2 m c2)).heap[w.heap.size]? = some (.cells (T2 n A N c) 35 (0, 0)) ∧
    (Y.setCell ⟨w.heap.size + 2, 1, none⟩ (.slice A2 m c2)).heap[w.heap.size + 1]? = some (.cells (T2 0 none 0 0) 35 (0, 0)) ∧
    (Y.setCell ⟨w.heap.size + 2, 1, none⟩ (.slice A2 m c2)).heap[w.heap.size + 2]? = some (.cells (T2 n A2 m c2) 35 (0, 0)) ∧
    RL (Y.setCell ⟨w.heap.size + 2, 1, none⟩ (.slice A2 m c2)) (w.heap.size + 3) A2 c2 M ∧
    Below w.heap.size w (Y.setCell ⟨w.heap.size + 2, 1, none⟩ (.slice A2 m c2)) ∧ w.heap.size + 3 ≤ (Y.setCell ⟨w.heap.size + 2, 1, none⟩ (.slice A2 m c2)).heap.size := by
  subst hm
  have q1 : Y.heap[w.heap.size]? = _ := (hb.block _ (by omega)).trans h1
  have q2 : Y.heap[w.heap.size + 1]? = _ := (hb.block _ (by omega)).trans h2
  have hRL : RL Y (w.heap.size + 3) A2 c2 M := hA
  refine ⟨sign_other (by simp) q1, sign_other (by simp) q2, (heap_set hz).trans rfl, ?_, ?_, ?_⟩
  · exact hRL.fr ((Fr.refl (fun k => k = w.heap.size + 2) Y).set (p := ⟨w.heap.size + 2, 1, none⟩) (.inl rfl) _) (fun k hk => by omega)
  · exact (hB.trans (hb.mono (by omega))).setCell (by simp) _
  · have := hb.size
    simp [World.setCell]; omega
theorem drop_more {L : Al} {k : Nat} {y : Int × Int} (v : Int) (h : L[k]? = some y) : dropL (L.take (k + 1)) v = dropL (L.take k) v ++ (if y.2 ≠ v then [y] else []) := by
  unfold dropL
  rw [List.take_add_one, h, List.filter_append]
  congr 1
  simp only [Option.toList_some, List.filter_cons, List.filter_nil, decide_eq_true_eq]
theorem drop_len (L : Al) (v : Int) : (dropL L v).length ≤ L.length := by unfold dropL; exact List.length_filter_le _ _
set_option maxHeartbeats 4000000 in
set_option maxRecDepth 100000 in
theorem rDrop_c (n : Nat) (B : Nat) (A : Option Addr) (c : Nat) (L : Al) (v : Int) (w : World) (H : RL w B A c L) (hB : B ≤ w.heap.size) (hl : L.length ≤ 1000) :
    Calls Try.prog 11 #[.agg (T2 n A L.length c), .int .i64 v] w fun e w' => ∃ A' c', e = .returned (.agg (T2 n A' (dropL L v).length c')) ∧ Hid (RL w' B A' c' (dropL L v) ∧ Below w.heap.size w w') := by
  obtain ⟨N, hN⟩ : ∃ N, N = L.length := ⟨_, rfl⟩
  have HN := Lib.hid hN
  have HB0 := Lib.hid hB
  have HH := Lib.hid H
  have HL := Lib.hid hl
  rw [← hN]
  clear hN H hB hl
  go_enter Try.func11, Try.ntmps11
  go_wp2_with fail
  go_loopw [6] (fun i wr => ∃ (k : Nat) (M : Al) (A1 : Option Addr) (c1 : Nat), k ≤ N ∧ i = .int .i64 (k : Int) ∧ Hid (M = dropL (L.take k) v) ∧ Hid (wr.heap[w.heap.size]? = some (.cells (T2 n A N c) 35 (0, 0))) ∧ Hid (wr.heap[w.heap.size + 1]? = some (.cells (T2 0 none 0 0) 35 (0, 0))) ∧ Hid (wr.heap[w.heap.size + 2]? = some (.cells (T2 n A1 M.length c1) 35 (0, 0))) ∧ Hid (RL wr (w.heap.size + 3) A1 c1 M) ∧ Hid (Below w.heap.size w wr) ∧ w.heap.size + 3 ≤ wr.heap.size) (fun i _ => N - (intOf i).toNat)
  case atStart => exact ⟨0, [], none, 0, by omega, rfl, Lib.hid (by simp [dropL]), by show _ = _; (focus ((repeat' (first | (with_reducible assumption) | ((with_reducible refine heap_last ?_); (focus (first | (simp; done) | omega | (simp; omega)))) | ((with_reducible refine heap_prev ?_ ?_); (focus (first | (simp; done) | omega | (simp; omega)))) | (with_reducible apply row_heap) | ((with_reducible apply tab_set); (focus (first | (simp; done) | omega | (simp; omega)))) | ((with_reducible refine sign_other ?_ ?_); (focus (first | (simp; done) | omega | (simp; omega)))) | ((with_reducible refine row_other ?_ ?_); (focus (first | (simp; done) | omega | (simp; omega)))) | (with_reducible refine drew_heap ?_) | (with_reducible refine drewN_heap ?_))); done)), by show _ = _; (focus ((repeat' (first | (with_reducible assumption) | ((with_reducible refine heap_last ?_); (focus (first | (simp; done) | omega | (simp; omega)))) | ((with_reducible refine heap_prev ?_ ?_); (focus (first | (simp; done) | omega | (simp; omega)))) | (with_reducible apply row_heap) | ((with_reducible apply tab_set); (focus (first | (simp; done) | omega | (simp; omega)))) | ((with_reducible refine sign_other ?_ ?_); (focus (first | (simp; done) | omega | (simp; omega)))) | ((with_reducible refine row_other ?_ ?_); (focus (first | (simp; done) | omega | (simp; omega)))) | (with_reducible refine drew_heap ?_) | (with_reducible refine drewN_heap ?_))); done)), by show _ = some (Obj.cells (T2 n none 0 0) 35 (0, 0)); (focus ((repeat' (first | (with_reducible assumption) | ((with_reducible refine heap_last ?_); (focus (first | (simp; done) | omega | (simp; omega)))) | ((with_reducible refine heap_prev ?_ ?_); (focus (first | (simp; done) | omega | (simp; omega)))) | (with_reducible apply row_heap) | ((with_reducible apply tab_set); (focus (first | (simp; done) | omega | (simp; omega)))) | ((with_reducible refine sign_other ?_ ?_); (focus (first | (simp; done) | omega | (simp; omega)))) | ((with_reducible refine row_other ?_ ?_); (focus (first | (simp; done) | omega | (simp; omega)))) | (with_reducible refine drew_heap ?_) | (with_reducible refine drewN_heap ?_))); done)), Lib.hid (RL.nil _ _), Lib.hid (by (focus ((repeat' (first | (with_reducible exact Below.refl _ _) | (with_reducible assumption) | (with_reducible refine Below.alloc ?_ ?_ _) | (with_reducible refine Below.setCell ?_ ?_ _) | (with_reducible refine Below.row ?_ ?_ _) | (with_reducible refine Below.drew ?_) | (with_reducible refine below_drewN ?_ _) | (focus (first | (simp; done) | omega | (simp; omega))))); done))), by (focus (first | (simp; done) | omega | (simp; omega)))⟩
  case round =>
    obtain ⟨k, M, A1, c1, hk, rfl, hM, h1, h2, h3, hR, hB, hsz⟩ := hrel
    have HS3 := Lib.hid hsz
    have z1 : wr.cell? ⟨w.heap.size, 1, none⟩ = some (.slice A N c) := cell_of_row _ _ _ _ _ _ h1.out
    by_cases hlt : k < N
    · have hltI : (k : Int) < (N : Int) := by omega
      have hk0 : (0 : Int) ≤ (k : Int) := by omega
      have hk9 : (k : Int) ≤ 1000 := by have := HL.out; have := HN.out; omega
      obtain ⟨b, y1, y2, hA, _, hbl, hy, _, _⟩ := HH.out.cells (i := k) (by rw [← HN.out]; exact hlt)
      obtain ⟨b', y1', y2', hA', _, _, hy', d0, d1⟩ := (HH.out.below hB.out).cells (i := k) (by rw [← HN.out]; exact hlt)
      rw [hA] at hA'
      injection hA' with hA'
      injection hA' with hA' _ _
      subst hA'
      rw [hy] at hy'
      injection hy' with hy'
      obtain ⟨e1, e2⟩ := Prod.mk.inj hy'
      subst e1
      subst e2
      subst hA
      have hdm := drop_more v hy
      clear hy hy'
      by_cases e2 : y2 = v
      · have HMx : Hid (M = dropL (L.take (k + 1)) v) := Lib.hid (by rw [hdm, if_neg (by simpa using e2), List.append_nil]; exact hM.out)
        clear hdm
        subst e2
        go_wp2_with fail
        exact ⟨⟨k + 1, M, A1, c1, by omega, by go_num, HMx, h1, h2, h3, hR, hB, hsz⟩, by simp [intOf]; omega⟩
      · have HMx : Hid (M ++ [(y1, y2)] = dropL (L.take (k + 1)) v) := Lib.hid (by rw [hdm, if_pos (by simpa using e2), hM.out])
        have HM : Hid (M.length ≤ 1000) := Lib.hid (by have := drop_len (L.take k) v; rw [← hM.out] at this; have h4 := List.length_take_le k L; have := HL.out; rw [List.length_take] at *; omega)
        clear hdm
        have HX1 : Hid (∀ W, Fr (fun k => w.heap.size + 2 ≤ k) wr W → W.cell? ⟨b, k * 2, none⟩ = some (.int .i64 y1)) := Lib.hid (fun W hW => (World.cell?_of_block (w := wr) (hW.block b (by omega) (by omega))).trans d0)
        have HX2 : Hid (∀ W, Fr (fun k => w.heap.size + 2 ≤ k) wr W → W.cell? ⟨b, k * 2 + 1, none⟩ = some (.int .i64 y2)) := Lib.hid (fun W hW => (World.cell?_of_block (w := wr) (hW.block b (by omega) (by omega))).trans d1)
        have HC1 : Hid (∀ W, Fr (fun k => w.heap.size + 2 ≤ k) wr W → W.cell? ⟨w.heap.size, 1, none⟩ = some (.slice (some ⟨b, 0, none⟩) N c)) := Lib.hid (fun W hW => cell_of_row _ _ _ _ _ _ (hW.blk h1.out (by omega)))
        have HZ : Hid (∀ W, Below (w.heap.size + 3) wr W → W.heap[w.heap.size + 2]? = some (.cells (T2 n A1 M.length c1) 35 (0, 0))) := Lib.hid (fun W hW => (hW.block _ (by omega)).trans h3.out)
        have HZc : Hid (∀ W, Below (w.heap.size + 3) wr W → W.cell? ⟨w.heap.size + 2, 1, none⟩ = some (.slice A1 M.length c1)) := Lib.hid (fun W hW => cell_of_row _ _ _ _ _ _ (HZ.out W hW))
        have HZf : Hid (∀ W, Below (w.heap.size + 3) wr W → W.frozen? ⟨w.heap.size + 2, 1, none⟩ = false) := Lib.hid (fun W hW => by simp [World.frozen?, HZ.out W hW])
        go_wp2_with fail
        clear d0 d1 z1
        have hb0 : Below (w.heap.size + 3) wr wr.drew := (Below.refl _ _).drew
        have hE : wr.drew.ownsRow (w.heap.size + 3) 69 2 (.slice A1 M.length c1) M.length (akl M) := hR.out
        refine wp_region_held_drew (S := fun W => Fr (fun k => w.heap.size + 2 ≤ k) wr W) (by kernel_rfl) (keep_big hb0 HS3.out) (fun hHeld => ?_)
        generalize wr.drew = wd at hb0 hHeld hE ⊢
        refine wpAnyH_take (i := 0) (oi := ⟨some 25, _, _, _, _, _⟩) (v := ?_) rfl (by kernel_rfl) (by kernel_rfl) (by kernel_rfl) (fun _ _ _ h => h) (Or.inl ⟨by kernel_rfl, ?_⟩) (by assumption) ?_
        rotate_left
        · (intro w hSw; have z1 := HC1.out _ hSw; have x1 := HX1.out _ hSw; have x2 := HX2.out _ hSw; clear hSw; go_simp; try with_reducible rfl)
        (repeat (first | simp only [Act.put] | simp only [List.setIfInBounds_toArray] | simp only [List.set_cons_succ] | simp only [List.set_cons_zero]))
        refine wpAnyH_take (i := 2) (oi := ⟨some 27, _, _, _, _, _⟩) (v := ?_) rfl (by kernel_rfl) (by kernel_rfl) (by kernel_rfl) (fun _ _ _ h => h) (Or.inl ⟨by kernel_rfl, ?_⟩) (by assumption) ?_
        rotate_left
        · (intro w hSw; have z1 := HC1.out _ hSw; have x1 := HX1.out _ hSw; have x2 := HX2.out _ hSw; clear hSw; go_simp; try with_reducible rfl)
        (repeat (first | simp only [Act.put] | simp only [List.setIfInBounds_toArray] | simp only [List.set_cons_succ] | simp only [List.set_cons_zero]))
        refine wpAnyH_take (i := 3) (oi := ⟨some 28, _, _, _, _, _⟩) (v := ?_) rfl (by kernel_rfl) (by kernel_rfl) (by kernel_rfl) (fun _ _ _ h => h) (Or.inl ⟨by kernel_rfl, ?_⟩) (by assumption) ?_
        rotate_left
        · (intro w hSw; have z1 := HC1.out _ hSw; have x1 := HX1.out _ hSw; have x2 := HX2.out _ hSw; clear hSw; go_simp; try with_reducible rfl)
        (repeat (first | simp only [Act.put] | simp only [List.setIfInBounds_toArray] | simp only [List.set_cons_succ] | simp only [List.set_cons_zero]))
        refine wpAnyH_take (i := 4) (oi := ⟨some 29, _, _, _, _, _⟩) (v := ?_) rfl (by kernel_rfl) (by kernel_rfl) (by kernel_rfl) (fun _ _ _ h => h) (Or.inl ⟨by kernel_rfl, ?_⟩) (by assumption) ?_
        rotate_left
        · (intro w hSw; have z1 := HC1.out _ hSw; have x1 := HX1.out _ hSw; have x2 := HX2.out _ hSw; clear hSw; go_simp; try with_reducible rfl)
        (repeat (first | simp only [Act.put] | simp only [List.setIfInBounds_toArray] | simp only [List.set_cons_succ] | simp only [List.set_cons_zero]))
        refine wpAnyH_take (i := 5) (oi := ⟨some 30, _, _, _, _, _⟩) (v := ?_) rfl (by kernel_rfl) (by kernel_rfl) (by kernel_rfl) (fun _ _ _ h => h) (Or.inl ⟨by kernel_rfl, ?_⟩) (by assumption) ?_
        rotate_left
        · (intro w hSw; have z1 := HC1.out _ hSw; have x1 := HX1.out _ hSw; have x2 := HX2.out _ hSw; clear hSw; go_simp; try with_reducible rfl)
        (repeat (first | simp only [Act.put] | simp only [List.setIfInBounds_toArray] | simp only [List.set_cons_succ] | simp only [List.set_cons_zero]))
        refine wpAnyH_take (i := 6) (oi := ⟨some 31, _, _, _, _, _⟩) (v := ?_) rfl (by kernel_rfl) (by kernel_rfl) (by kernel_rfl) (fun _ _ _ h => h) (Or.inl ⟨by kernel_rfl, ?_⟩) (by assumption) ?_
        rotate_left
        · (intro w hSw; have z1 := HC1.out _ hSw; have x1 := HX1.out _ hSw; have x2 := HX2.out _ hSw; clear hSw; go_simp; try with_reducible rfl)
        (repeat (first | simp only [Act.put] | simp only [List.setIfInBounds_toArray] | simp only [List.set_cons_succ] | simp only [List.set_cons_zero]))
        refine wpAnyH_ready (rs := [1, 7]) (by kernel_rfl) (by simp) ?_
        refine AllReadyH.cons (o := ⟨some 26, _, _, _, _, _⟩) rfl (fun K hK => ?_) (AllReadyH.cons (o := ⟨some 32, _, _, _, _, _⟩) rfl (fun K hK => ?_) AllReadyH.nil)
        · have zc := HZc.out _ hb0
          go_simp
          (try go_wp2_with fail)
          clear zc
          have hb1 := hb0
          refine hK.out _ _ (by exact keep_big hb1 HS3.out) (fun hHeld => ?_)
          clear hK K
          (repeat (first | simp only [Act.put] | simp only [List.setIfInBounds_toArray] | simp only [List.set_cons_succ] | simp only [List.set_cons_zero]))
          refine wpAnyH_ready (rs := [7]) (by kernel_rfl) (by simp) ?_
          refine AllReadyH.cons (o := ⟨some 32, _, _, _, _, _⟩) rfl (fun K hK => ?_) AllReadyH.nil
          go_simp
          (try go_wp2_with fail)
          have hb2 : Below (w.heap.size + 3) wr (wd.alloc (.cells #[.int .i64 y1, .int .i64 y2] 69)) := (hb1).alloc (by have := Below.size hb1; have := HS3.out; omega) _
          have hV : (wd.alloc (.cells #[.int .i64 y1, .int .i64 y2] 69)).heap[wd.heap.size]? = some (.cells #[.int .i64 y1, .int .i64 y2] 69 (0, 0)) := heap_last (by simp)
          replace hE := hE.alloc (.cells #[.int .i64 y1, .int .i64 y2] 69)
          refine hK.out _ _ (by exact keep_big hb2 HS3.out) (fun hHeld => ?_)
          clear hK K
          (repeat (first | simp only [Act.put] | simp only [List.setIfInBounds_toArray] | simp only [List.set_cons_succ] | simp only [List.set_cons_zero]))
          refine wpAnyH_ready (rs := [8]) (by kernel_rfl) (by simp) ?_
          refine AllReadyH.cons (o := ⟨some 33, _, _, _, _, _⟩) rfl (fun K hK => ?_) AllReadyH.nil
          obtain ⟨v2, Y, hr2, hA2, hg2, _⟩ := run_app (wd.alloc (.cells #[.int .i64 y1, .int .i64 y2] 69)) (w.heap.size + 3) 33 _ M.length (akl M) hE (some ⟨wd.heap.size, 0, none⟩) 1 [(y1, y2)] (one_rl hV) (by have := HM.out; simp; omega) (by have := Below.size hb2; have := HS3.out; omega)
          refine step_append rfl _ _ 33 rfl (.slice A1 M.length c1) (.slice (some ⟨wd.heap.size, 0, none⟩) 1 1) rfl rfl hr2 ?_
          have hb3 : Below (w.heap.size + 3) wr Y := below_own hb2 HS3.out hE hg2
          obtain ⟨A2, c2, rfl⟩ := own_slice hA2
          rw [← akl_app] at hA2
          obtain ⟨m9, hm9⟩ : ∃ m9, m9 = (M ++ [(y1, y2)]).length := ⟨_, rfl⟩
          have hlen : M.length + [(y1, y2)].length = m9 := (by rw [hm9]; simp)
          rw [hlen] at hA2 ⊢
          have HM9 := Lib.hid hm9
          clear hlen hm9
          refine hK.out _ _ (by exact keep_big hb3 HS3.out) (fun hHeld => ?_)
          clear hK K
          (repeat (first | simp only [Act.put] | simp only [List.setIfInBounds_toArray] | simp only [List.set_cons_succ] | simp only [List.set_cons_zero]))
          refine wpAnyH_take (i := 9) (oi := ⟨some 34, _, _, _, _, _⟩) (v := ?_) rfl (by kernel_rfl) (by kernel_rfl) (by kernel_rfl) (fun _ _ _ h => h) (Or.inl ⟨by kernel_rfl, ?_⟩) (by assumption) ?_
          rotate_left
          · (intro w hSw; clear hSw; go_simp; try with_reducible rfl)
          (repeat (first | simp only [Act.put] | simp only [List.setIfInBounds_toArray] | simp only [List.set_cons_succ] | simp only [List.set_cons_zero]))
          refine wpAnyH_ready (rs := [10]) (by kernel_rfl) (by simp) ?_
          refine AllReadyH.cons (o := ⟨none, _, _, _, _, _⟩) rfl (fun K hK => ?_) AllReadyH.nil
          have zc := HZc.out _ hb3
          have zf := HZf.out _ hb3
          go_simp
          (try go_wp2_with fail)
          refine hK.out _ _ (by exact fr_setc (keep_big hb3 HS3.out) (Nat.le_refl _) _) (fun hHeld => ?_)
          clear hK K
          (repeat (first | simp only [Act.put] | simp only [List.setIfInBounds_toArray] | simp only [List.set_cons_succ] | simp only [List.set_cons_zero]))
          refine wpAnyH_done (by kernel_rfl) ?_ _
          have hF := Lib.hid (rdrop_next HM9.out hA2 (HZ.out _ hb3) hb3 HS3.out h1.out h2.out hB.out)
          clear hA2 hHeld zc zf hV hE
          go_wp2_with fail
          have hm9 := HM9.out
          subst hm9
          exact ⟨⟨k + 1, M ++ [(y1, y2)], A2, c2, by omega, by go_num, HMx, Lib.hid hF.out.1, Lib.hid hF.out.2.1, Lib.hid hF.out.2.2.1, Lib.hid hF.out.2.2.2.1, Lib.hid hF.out.2.2.2.2.1, hF.out.2.2.2.2.2⟩, by simp [intOf]; omega⟩
        · go_simp
          (try go_wp2_with fail)
          have hb1 : Below (w.heap.size + 3) wr (wd.alloc (.cells #[.int .i64 y1, .int .i64 y2] 69)) := (hb0).alloc (by have := Below.size hb0; have := HS3.out; omega) _
          have hV : (wd.alloc (.cells #[.int .i64 y1, .int .i64 y2] 69)).heap[wd.heap.size]? = some (.cells #[.int .i64 y1, .int .i64 y2] 69 (0, 0)) := heap_last (by simp)
          replace hE := hE.alloc (.cells #[.int .i64 y1, .int .i64 y2] 69)
          refine hK.out _ _ (by exact keep_big hb1 HS3.out) (fun hHeld => ?_)
          clear hK K
          (repeat (first | simp only [Act.put] | simp only [List.setIfInBounds_toArray] | simp only [List.set_cons_succ] | simp only [List.set_cons_zero]))
          refine wpAnyH_ready (rs := [1]) (by kernel_rfl) (by simp) ?_
          refine AllReadyH.cons (o := ⟨some 26, _, _, _, _, _⟩) rfl (fun K hK => ?_) AllReadyH.nil
          have zc := HZc.out _ hb1
          go_simp
          (try go_wp2_with fail)
          clear zc
          have hb2 := hb1
          refine hK.out _ _ (by exact keep_big hb2 HS3.out) (fun hHeld => ?_)
          clear hK K
          (repeat (first | simp only [Act.put] | simp only [List.setIfInBounds_toArray] | simp only [List.set_cons_succ] | simp only [List.set_cons_zero]))
          refine wpAnyH_ready (rs := [8]) (by kernel_rfl) (by simp) ?_
          refine AllReadyH.cons (o := ⟨some 33, _, _, _, _, _⟩) rfl (fun K hK => ?_) AllReadyH.nil
          obtain ⟨v2, Y, hr2, hA2, hg2, _⟩ := run_app (wd.alloc (.cells #[.int .i64 y1, .int .i64 y2] 69)) (w.heap.size + 3) 33 _ M.length (akl M) hE (some ⟨wd.heap.size, 0, none⟩) 1 [(y1, y2)] (one_rl hV) (by have := HM.out; simp; omega) (by have := Below.size hb2; have := HS3.out; omega)
          refine step_append rfl _ _ 33 rfl (.slice A1 M.length c1) (.slice (some ⟨wd.heap.size, 0, none⟩) 1 1) rfl rfl hr2 ?_
          have hb3 : Below (w.heap.size + 3) wr Y := below_own hb2 HS3.out hE hg2
          obtain ⟨A2, c2, rfl⟩ := own_slice hA2
          rw [← akl_app] at hA2
          obtain ⟨m9, hm9⟩ : ∃ m9, m9 = (M ++ [(y1, y2)]).length := ⟨_, rfl⟩
          have hlen : M.length + [(y1, y2)].length = m9 := (by rw [hm9]; simp)
          rw [hlen] at hA2 ⊢
          have HM9 := Lib.hid hm9
          clear hlen hm9
          refine hK.out _ _ (by exact keep_big hb3 HS3.out) (fun hHeld => ?_)
          clear hK K
          (repeat (first | simp only [Act.put] | simp only [List.setIfInBounds_toArray] | simp only [List.set_cons_succ] | simp only [List.set_cons_zero]))
          refine wpAnyH_take (i := 9) (oi := ⟨some 34, _, _, _, _, _⟩) (v := ?_) rfl (by kernel_rfl) (by kernel_rfl) (by kernel_rfl) (fun _ _ _ h => h) (Or.inl ⟨by kernel_rfl, ?_⟩) (by assumption) ?_
          rotate_left
          · (intro w hSw; clear hSw; go_simp; try with_reducible rfl)
          (repeat (first | simp only [Act.put] | simp only [List.setIfInBounds_toArray] | simp only [List.set_cons_succ] | simp only [List.set_cons_zero]))
          refine wpAnyH_ready (rs := [10]) (by kernel_rfl) (by simp) ?_
          refine AllReadyH.cons (o := ⟨none, _, _, _, _, _⟩) rfl (fun K hK => ?_) AllReadyH.nil
          have zc := HZc.out _ hb3
          have zf := HZf.out _ hb3
          go_simp
          (try go_wp2_with fail)
          refine hK.out _ _ (by exact fr_setc (keep_big hb3 HS3.out) (Nat.le_refl _) _) (fun hHeld => ?_)
          clear hK K
          (repeat (first | simp only [Act.put] | simp only [List.setIfInBounds_toArray] | simp only [List.set_cons_succ] | simp only [List.set_cons_zero]))
          refine wpAnyH_done (by kernel_rfl) ?_ _
          have hF := Lib.hid (rdrop_next HM9.out hA2 (HZ.out _ hb3) hb3 HS3.out h1.out h2.out hB.out)
          clear hA2 hHeld zc zf hV hE
          go_wp2_with fail
          have hm9 := HM9.out
          subst hm9
          exact ⟨⟨k + 1, M ++ [(y1, y2)], A2, c2, by omega, by go_num, HMx, Lib.hid hF.out.1, Lib.hid hF.out.2.1, Lib.hid hF.out.2.2.1, Lib.hid hF.out.2.2.2.1, Lib.hid hF.out.2.2.2.2.1, hF.out.2.2.2.2.2⟩, by simp [intOf]; omega⟩
    · obtain rfl : k = N := by omega
      have hltI : ¬ (k : Int) < (k : Int) := by omega
      have hMM : M = dropL L v := by rw [hM.out, List.take_of_length_le (by rw [← HN.out]; exact Nat.le_refl _)]
      subst hMM
      have g2 := h2.out
      have g3 := h3.out
      go_wp2_with (first | ((with_reducible apply loadT); rfl; rfl; rfl; (focus ((repeat' (first | (with_reducible assumption) | ((with_reducible refine heap_last ?_); (focus (first | (simp; done) | omega | (simp; omega)))) | ((with_reducible refine heap_prev ?_ ?_); (focus (first | (simp; done) | omega | (simp; omega)))) | (with_reducible apply row_heap) | ((with_reducible apply tab_set); (focus (first | (simp; done) | omega | (simp; omega)))) | ((with_reducible refine sign_other ?_ ?_); (focus (first | (simp; done) | omega | (simp; omega)))) | ((with_reducible refine row_other ?_ ?_); (focus (first | (simp; done) | omega | (simp; omega)))) | (with_reducible refine drew_heap ?_) | (with_reducible refine drewN_heap ?_))); done)); skip) | ((with_reducible apply storeT); rfl; rfl; rfl; rfl; (focus ((repeat' (first | (with_reducible assumption) | ((with_reducible refine heap_last ?_); (focus (first | (simp; done) | omega | (simp; omega)))) | ((with_reducible refine heap_prev ?_ ?_); (focus (first | (simp; done) | omega | (simp; omega)))) | (with_reducible apply row_heap) | ((with_reducible apply tab_set); (focus (first | (simp; done) | omega | (simp; omega)))) | ((with_reducible refine sign_other ?_ ?_); (focus (first | (simp; done) | omega | (simp; omega)))) | ((with_reducible refine row_other ?_ ?_); (focus (first | (simp; done) | omega | (simp; omega)))) | (with_reducible refine drew_heap ?_) | (with_reducible refine drewN_heap ?_))); done)); skip))
      refine bodyPost_ret (retT rfl _ _ (w.heap.size + 1) rfl n A1 (dropL L v).length c1 35 (by (focus ((repeat' (first | (with_reducible assumption) | ((with_reducible refine heap_last ?_); (focus (first | (simp; done) | omega | (simp; omega)))) | ((with_reducible refine heap_prev ?_ ?_); (focus (first | (simp; done) | omega | (simp; omega)))) | (with_reducible apply row_heap) | ((with_reducible apply tab_set); (focus (first | (simp; done) | omega | (simp; omega)))) | ((with_reducible refine sign_other ?_ ?_); (focus (first | (simp; done) | omega | (simp; omega)))) | ((with_reducible refine row_other ?_ ?_); (focus (first | (simp; done) | omega | (simp; omega)))) | (with_reducible refine drew_heap ?_) | (with_reducible refine drewN_heap ?_))); done)))) rfl ?_
      refine ⟨A1, c1, rfl, Lib.hid ⟨(hR.out.fr (fr_row (S := fun k => k = w.heap.size + 1) (Fr.refl _ wr) rfl _) (fun k hk => by omega)).low (by have := HB0.out; omega), Below.row hB.out (by omega) _⟩⟩
end Go.Proofs.Ythbocddkomhpoaa
