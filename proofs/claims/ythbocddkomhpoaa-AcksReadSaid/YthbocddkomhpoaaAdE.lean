/- AcksRead, walked. (By mkade.py.) -/
import Derived.Test.YthbocddkomhpoaaAdC
namespace Go.Proofs.Ythbocddkomhpoaa
open Go.RowKit Go.Lib
set_option linter.unusedVariables false

theorem two_readers (w : World) (A : Option Addr) (n c : Nat) (l : List UInt8) (hs : SlB w A n l) (hc : n ≤ c) (hm : c ≤ maxLen) (hA : ∀ a, A = some a → 0 < c → a.block < w.heap.size) :
    ∀ W, W = (w.alloc (.cells #[Str l, .bool false] 73)).alloc (.cells #[.slice A n c, .bool false] 61) →
      Below w.heap.size w W ∧ Co.RB W w.heap.size l false ∧ Co.RR W w.heap.size (w.heap.size + 1) l false ∧ W.heap.size = w.heap.size + 2 := by
  rintro W rfl
  have b : Below w.heap.size w ((w.alloc (.cells #[Str l, .bool false] 73)).alloc (.cells #[.slice A n c, .bool false] 61)) := ((Below.refl _ _).alloc (Nat.le_refl _) _).alloc (by simp) _
  refine ⟨b, heap_prev (by simp) (heap_alloc_new w _), ⟨A, n, c, heap_last (by simp), ?_, hc, hm, by omega, hA⟩, by simp⟩
  exact hs.fr0 (S := fun _ => False) (Fr.of_below b) (fun _ _ _ h => h)
set_option maxHeartbeats 16000000 in
set_option maxRecDepth 100000 in
theorem reads25_w (a0 : Option Addr) (len0 cap0 : Nat) (l : List UInt8) (w : World) (hs : SlB w a0 len0 l) (hc : len0 ≤ cap0) (hm : cap0 ≤ maxLen) (hA : ∀ a, a0 = some a → 0 < cap0 → a.block < w.heap.size) :
    Calls Try.prog 5 #[.slice a0 len0 cap0] w fun e w' => e = .returned (.bool true) ∧ Below w.heap.size w w' := by
  have hzr := zeroA
  have HV := Lib.hid lives25_c
  have HS := Lib.hid hs
  by_cases hlen : 200 < len0
  · have hl' : (200 : Int) < (len0 : Int) := by omega
    clear hlen hs hA
    go_enter Try.func5, Try.ntmps5
    go_wp2_with (first | ((with_reducible refine (HV.out _).mono ?_); rintro e w9 ⟨rfl, b9⟩))
    go_ret
    exact ⟨rfl, b9⟩
  have hl' : (len0 : Int) ≤ 200 := by omega
  have HO := Lib.hid (Co.Open_c a0 len0 cap0 l w HS.out)
  have HT := Lib.hid (two_readers w a0 len0 cap0 l HS.out hc hm hA)
  obtain ⟨ok, z, t, b, hr⟩ : ∃ ok z t b, rdA l false = (ok, z, t, b) := ⟨_, _, _, _, rfl⟩
  have HRD := Lib.hid hr
  have HC := Lib.hid hc
  have HR1 := Lib.hid (fun W (h : Co.RB W w.heap.size l false) => aRead_c w.heap.size l false W h ok z t b HRD.out)
  have HR2 := Lib.hid (fun W (h : Co.RR W w.heap.size (w.heap.size + 1) l false) => rRead_c w.heap.size (w.heap.size + 1) l false W h ok z t b HRD.out)
  clear hs hc hm hA hlen hr
  go_enter Try.func5, Try.ntmps5
  go_wp2_with fail
  refine HO.out.mono ?_
  rintro e u0 ⟨rfl, rfl⟩
  clear HO
  go_wp2_with fail
  generalize hU : (w.alloc (Obj.cells #[Str l, .bool false] 73)).alloc (Obj.cells #[.slice a0 len0 cap0, .bool false] 61) = u1
  have K1 := Lib.hid (HT.out u1 hU.symm)
  clear hU HT
  refine (HR1.out u1 K1.out.2.1).mono ?_
  rintro e u2 ⟨rfl, h2⟩
  have s1 : u1.heap.size = w.heap.size + 2 := K1.out.2.2.2
  have s2 : u1.heap.size ≤ u2.heap.size := h2.out.1.size
  have RR2 : Co.RR u2 w.heap.size (w.heap.size + 1) l false := rr_keep K1.out.2.2.1 s2 (fun k hk hq => World.grownBy.block h2.out.1 k hk (fun e => by injection e; omega))
  have B2 : Below w.heap.size w u2 := K1.out.1.trans ((Fr.tch h2.out.1).below (fun j hj => by omega) (by omega))
  have bz : Below u2.heap.size u2 ((u2.alloc (.cells (AC zA) 27)).setRow u2.heap.size (AC z)) := Below.row ((Below.refl _ _).alloc (Nat.le_refl _) _) (Nat.le_refl _) _
  have RB3 : Co.RB ((u2.alloc (.cells (AC zA) 27)).setRow u2.heap.size (AC z)) w.heap.size t b := (bz.block _ (by omega)).trans h2.out.2
  have RR3 := rr_below RR2 bz (by omega)
  have t5 : ((u2.alloc (.cells (AC zA) 27)).setRow u2.heap.size (AC z)).heap[u2.heap.size]? = some (.cells (AC z) 27 (0, 0)) := row_heap (heap_alloc_new u2 _)
  have B3 := B2.trans (bz.mono B2.size)
  have HR2' := Lib.hid (HR2.out _ RR3)
  clear RR3 RR2 h2 K1 bz HR1 HR2 B2
  go_wp2_with (first | ((with_reducible apply loadA); rfl; rfl; rfl; (focus ((repeat' (first | (with_reducible assumption) | ((with_reducible refine heap_last ?_); (focus (first | (simp; done) | omega | (simp; omega)))) | ((with_reducible refine heap_prev ?_ ?_); (focus (first | (simp; done) | omega | (simp; omega)))) | (with_reducible apply row_heap) | ((with_reducible apply tab_set); (focus (first | (simp; done) | omega | (simp; omega)))) | ((with_reducible refine sign_other ?_ ?_); (focus (first | (simp; done) | omega | (simp; omega)))) | ((with_reducible refine row_other ?_ ?_); (focus (first | (simp; done) | omega | (simp; omega)))) | (with_reducible refine drew_heap ?_) | (with_reducible refine drewN_heap ?_))); done)); skip) | ((with_reducible apply storeA); rfl; rfl; rfl; rfl; (focus ((repeat' (first | (with_reducible assumption) | ((with_reducible refine heap_last ?_); (focus (first | (simp; done) | omega | (simp; omega)))) | ((with_reducible refine heap_prev ?_ ?_); (focus (first | (simp; done) | omega | (simp; omega)))) | (with_reducible apply row_heap) | ((with_reducible apply tab_set); (focus (first | (simp; done) | omega | (simp; omega)))) | ((with_reducible refine sign_other ?_ ?_); (focus (first | (simp; done) | omega | (simp; omega)))) | ((with_reducible refine row_other ?_ ?_); (focus (first | (simp; done) | omega | (simp; omega)))) | (with_reducible refine drew_heap ?_) | (with_reducible refine drewN_heap ?_))); done)); skip) | ((with_reducible apply loadT); rfl; rfl; rfl; (focus ((repeat' (first | (with_reducible assumption) | ((with_reducible refine heap_last ?_); (focus (first | (simp; done) | omega | (simp; omega)))) | ((with_reducible refine heap_prev ?_ ?_); (focus (first | (simp; done) | omega | (simp; omega)))) | (with_reducible apply row_heap) | ((with_reducible apply tab_set); (focus (first | (simp; done) | omega | (simp; omega)))) | ((with_reducible refine sign_other ?_ ?_); (focus (first | (simp; done) | omega | (simp; omega)))) | ((with_reducible refine row_other ?_ ?_); (focus (first | (simp; done) | omega | (simp; omega)))) | (with_reducible refine drew_heap ?_) | (with_reducible refine drewN_heap ?_))); done)); skip) | ((with_reducible apply storeT); rfl; rfl; rfl; rfl; (focus ((repeat' (first | (with_reducible assumption) | ((with_reducible refine heap_last ?_); (focus (first | (simp; done) | omega | (simp; omega)))) | ((with_reducible refine heap_prev ?_ ?_); (focus (first | (simp; done) | omega | (simp; omega)))) | (with_reducible apply row_heap) | ((with_reducible apply tab_set); (focus (first | (simp; done) | omega | (simp; omega)))) | ((with_reducible refine sign_other ?_ ?_); (focus (first | (simp; done) | omega | (simp; omega)))) | ((with_reducible refine row_other ?_ ?_); (focus (first | (simp; done) | omega | (simp; omega)))) | (with_reducible refine drew_heap ?_) | (with_reducible refine drewN_heap ?_))); done)); skip))
  generalize ((u2.alloc (Obj.cells (AC zA) 27)).setRow u2.heap.size (AC z)) = u3 at *
  refine HR2'.out.mono ?_
  rintro e v3 ⟨A, c, L, rfl, h3⟩
  have s3 : u3.heap.size ≤ v3.heap.size := h3.out.2.2.2.1.size
  have s5 := blk_lt t5
  have B4 : Below w.heap.size w v3 := B3.trans ((Fr.tch h3.out.2.2.2.1).below (fun j hj => by omega) B3.size)
  have RB4 : Co.RB v3 w.heap.size t b := Co.Tch.blk h3.out.2.2.2.1 RB3 (by omega)
  have t5' : v3.heap[u2.heap.size]? = some (.cells (AC z) 27 (0, 0)) := Co.Tch.blk h3.out.2.2.2.1 t5 (by omega)
  have bq : Below v3.heap.size v3 ((v3.alloc (.cells #[.int .i64 0, .slice none 0 0] 35)).setRow v3.heap.size (T2 (z 0) A L.length c)) := Below.row ((Below.refl _ _).alloc (Nat.le_refl _) _) (Nat.le_refl _) _
  have HSm := Lib.hid h3.out.1
  have HLn := Lib.hid h3.out.2.1
  have rl5 := h3.out.2.2.1.below bq
  obtain ⟨Aq, nq, cq, hq0, hq1, _⟩ := rr_below h3.out.2.2.2.2 bq (by omega)
  have hnq : nq = t.length := hq1.1.symm
  have t7 : ((v3.alloc (.cells #[.int .i64 0, .slice none 0 0] 35)).setRow v3.heap.size (T2 (z 0) A L.length c)).heap[v3.heap.size]? = some (.cells (T2 (z 0) A L.length c) 35 (0, 0)) := row_heap (heap_alloc_new v3 _)
  have t5q := (bq.block _ (blk_lt t5')).trans t5'
  have RB5 : Co.RB ((v3.alloc (.cells #[.int .i64 0, .slice none 0 0] 35)).setRow v3.heap.size (T2 (z 0) A L.length c)) w.heap.size t b := (bq.block _ (blk_lt RB4)).trans RB4
  have B5 := B4.trans (bq.mono B4.size)
  clear h3 bq RB4 t5' t5 RB3 HR2' hq1
  go_wp2_with (first | ((with_reducible apply loadA); rfl; rfl; rfl; (focus ((repeat' (first | (with_reducible assumption) | ((with_reducible refine heap_last ?_); (focus (first | (simp; done) | omega | (simp; omega)))) | ((with_reducible refine heap_prev ?_ ?_); (focus (first | (simp; done) | omega | (simp; omega)))) | (with_reducible apply row_heap) | ((with_reducible apply tab_set); (focus (first | (simp; done) | omega | (simp; omega)))) | ((with_reducible refine sign_other ?_ ?_); (focus (first | (simp; done) | omega | (simp; omega)))) | ((with_reducible refine row_other ?_ ?_); (focus (first | (simp; done) | omega | (simp; omega)))) | (with_reducible refine drew_heap ?_) | (with_reducible refine drewN_heap ?_))); done)); skip) | ((with_reducible apply storeA); rfl; rfl; rfl; rfl; (focus ((repeat' (first | (with_reducible assumption) | ((with_reducible refine heap_last ?_); (focus (first | (simp; done) | omega | (simp; omega)))) | ((with_reducible refine heap_prev ?_ ?_); (focus (first | (simp; done) | omega | (simp; omega)))) | (with_reducible apply row_heap) | ((with_reducible apply tab_set); (focus (first | (simp; done) | omega | (simp; omega)))) | ((with_reducible refine sign_other ?_ ?_); (focus (first | (simp; done) | omega | (simp; omega)))) | ((with_reducible refine row_other ?_ ?_); (focus (first | (simp; done) | omega | (simp; omega)))) | (with_reducible refine drew_heap ?_) | (with_reducible refine drewN_heap ?_))); done)); skip) | ((with_reducible apply loadT); rfl; rfl; rfl; (focus ((repeat' (first | (with_reducible assumption) | ((with_reducible refine heap_last ?_); (focus (first | (simp; done) | omega | (simp; omega)))) | ((with_reducible refine heap_prev ?_ ?_); (focus (first | (simp; done) | omega | (simp; omega)))) | (with_reducible apply row_heap) | ((with_reducible apply tab_set); (focus (first | (simp; done) | omega | (simp; omega)))) | ((with_reducible refine sign_other ?_ ?_); (focus (first | (simp; done) | omega | (simp; omega)))) | ((with_reducible refine row_other ?_ ?_); (focus (first | (simp; done) | omega | (simp; omega)))) | (with_reducible refine drew_heap ?_) | (with_reducible refine drewN_heap ?_))); done)); skip) | ((with_reducible apply storeT); rfl; rfl; rfl; rfl; (focus ((repeat' (first | (with_reducible assumption) | ((with_reducible refine heap_last ?_); (focus (first | (simp; done) | omega | (simp; omega)))) | ((with_reducible refine heap_prev ?_ ?_); (focus (first | (simp; done) | omega | (simp; omega)))) | (with_reducible apply row_heap) | ((with_reducible apply tab_set); (focus (first | (simp; done) | omega | (simp; omega)))) | ((with_reducible refine sign_other ?_ ?_); (focus (first | (simp; done) | omega | (simp; omega)))) | ((with_reducible refine row_other ?_ ?_); (focus (first | (simp; done) | omega | (simp; omega)))) | (with_reducible refine drew_heap ?_) | (with_reducible refine drewN_heap ?_))); done)); skip))
  generalize v3.heap.size = e7 at *
  generalize ((v3.alloc (Obj.cells #[.int .i64 0, .slice none 0 0] 35)).setRow e7 (T2 (z 0) A L.length c)) = u4 at *
  have HB5 := Lib.hid B5
  have HT5 : Hid (∀ W, Below u4.heap.size u4 W → W.heap[u2.heap.size]? = some (.cells (AC z) 27 (0, 0))) := Lib.hid (fun W hW => (hW.block _ (blk_lt t5q)).trans t5q)
  have HT7 : Hid (∀ W, Below u4.heap.size u4 W → W.heap[e7]? = some (.cells (T2 (z 0) A L.length c) 35 (0, 0))) := Lib.hid (fun W hW => (hW.block _ (blk_lt t7)).trans t7)
  have HQ0 : Hid (∀ W, Below u4.heap.size u4 W → W.cell? ⟨w.heap.size + 1, 0, none⟩ = some (.slice Aq nq cq)) := Lib.hid (fun W hW => cell_of_row _ _ _ _ _ _ ((hW.block _ (blk_lt hq0)).trans hq0))
  have HQ1 : Hid (∀ W, Below u4.heap.size u4 W → W.cell? ⟨w.heap.size + 1, 1, none⟩ = some (.bool b)) := Lib.hid (fun W hW => cell_of_row _ _ _ _ _ _ ((hW.block _ (blk_lt hq0)).trans hq0))
  have HLf : Hid (∀ W, Below u4.heap.size u4 W → Calls Try.prog 24 #[.pointer (some ⟨w.heap.size, 0, none⟩)] W fun e w' => e = .returned (.int .i64 (nq : Int)) ∧ W = w') := Lib.hid (fun W hW => by
    have := Co.Left_c w.heap.size t b W ((hW.block _ (blk_lt RB5)).trans RB5)
    rw [← hnq] at this
    exact this)
  have HBd : Hid (∀ W, Below u4.heap.size u4 W → Calls Try.prog 25 #[.pointer (some ⟨w.heap.size, 0, none⟩)] W fun e w' => e = .returned (.bool b) ∧ W = w') := Lib.hid (fun W hW => Co.Bad_c w.heap.size t b W ((hW.block _ (blk_lt RB5)).trans RB5))
  have HLk : Hid (∀ W, Below u4.heap.size u4 W → Calls Try.prog 14 #[.agg (AC z), .agg (T2 (z 0) A L.length c), .int .i64 0, .int .i64 1] W fun e w' => e = .returned (.bool true) ∧ Below W.heap.size W w') := Lib.hid (fun W hW => like_c z _ A c L HSm.out 0 1 W (rl5.below hW) (by have := HLn.out; omega))
  have HNQ := Lib.hid hnq
  have HRB := Lib.hid RB5
  clear t5q t7 hq0 hnq B4 B5 B3 RB5 rl5
  have d0 : Below u4.heap.size u4 u4.drew := (Below.refl _ _).drew
  refine wp_region_held_drew (S := fun W => Below u4.heap.size u4 W) (by kernel_rfl) d0 (fun hHeld => ?_)
  generalize u4.drew = wd at *
  refine wpAnyH_take (i := 0) (oi := ⟨some 29, _, _, _, _, _⟩) (v := ?_) rfl (by kernel_rfl) (by kernel_rfl) (by kernel_rfl) (fun _ _ _ h => h) (Or.inl ⟨by kernel_rfl, ?_⟩) (by assumption) ?_
  rotate_left
  · (intro w hSw; clear hSw; (try dsimp only at hSw); go_simp; try with_reducible rfl)
  (repeat (first | simp only [Act.put] | simp only [List.setIfInBounds_toArray] | simp only [List.set_cons_succ] | simp only [List.set_cons_zero]))
  refine wpAnyH_take (i := 1) (oi := ⟨some 30, _, _, _, _, _⟩) (v := ?_) rfl (by kernel_rfl) (by kernel_rfl) (by kernel_rfl) (fun _ _ _ h => h) (Or.inl ⟨by kernel_rfl, ?_⟩) (by assumption) ?_
  rotate_left
  · (intro w hSw; clear hSw; (try dsimp only at hSw); go_simp; try with_reducible rfl)
  (repeat (first | simp only [Act.put] | simp only [List.setIfInBounds_toArray] | simp only [List.set_cons_succ] | simp only [List.set_cons_zero]))
  refine wpAnyH_take (i := 2) (oi := ⟨some 31, _, _, _, _, _⟩) (v := ?_) rfl (by kernel_rfl) (by kernel_rfl) (by kernel_rfl) (fun _ _ _ h => h) (Or.inl ⟨by kernel_rfl, ?_⟩) (by assumption) ?_
  rotate_left
  · (intro w hSw; clear hSw; (try dsimp only at hSw); go_simp; try with_reducible rfl)
  (repeat (first | simp only [Act.put] | simp only [List.setIfInBounds_toArray] | simp only [List.set_cons_succ] | simp only [List.set_cons_zero]))
  refine wpAnyH_take (i := 3) (oi := ⟨some 32, _, _, _, _, _⟩) (v := ?_) rfl (by kernel_rfl) (by kernel_rfl) (by kernel_rfl) (fun _ _ _ h => h) (Or.inl ⟨by kernel_rfl, ?_⟩) (by assumption) ?_
  rotate_left
  · (intro w hSw; clear hSw; (try dsimp only at hSw); go_simp; try with_reducible rfl)
  (repeat (first | simp only [Act.put] | simp only [List.setIfInBounds_toArray] | simp only [List.set_cons_succ] | simp only [List.set_cons_zero]))
  refine wpAnyH_take (i := 4) (oi := ⟨some 33, _, _, _, _, _⟩) (v := ?_) rfl (by kernel_rfl) (by kernel_rfl) (by kernel_rfl) (fun _ _ _ h => h) (Or.inl ⟨by kernel_rfl, ?_⟩) (by assumption) ?_
  rotate_left
  · (intro w hSw; clear hSw; (try dsimp only at hSw); go_simp; try with_reducible rfl)
  (repeat (first | simp only [Act.put] | simp only [List.setIfInBounds_toArray] | simp only [List.set_cons_succ] | simp only [List.set_cons_zero]))
  refine wpAnyH_take (i := 6) (oi := ⟨some 35, _, _, _, _, _⟩) (v := ?_) rfl (by kernel_rfl) (by kernel_rfl) (by kernel_rfl) (fun _ _ _ h => h) (Or.inl ⟨by kernel_rfl, ?_⟩) (by assumption) ?_
  rotate_left
  · (intro w hSw; clear hSw; (try dsimp only at hSw); go_simp; try with_reducible rfl)
  (repeat (first | simp only [Act.put] | simp only [List.setIfInBounds_toArray] | simp only [List.set_cons_succ] | simp only [List.set_cons_zero]))
  refine wpAnyH_take (i := 7) (oi := ⟨some 36, _, _, _, _, _⟩) (v := ?_) rfl (by kernel_rfl) (by kernel_rfl) (by kernel_rfl) (fun _ _ _ h => h) (Or.inl ⟨by kernel_rfl, ?_⟩) (by assumption) ?_
  rotate_left
  · (intro w hSw; clear hSw; (try dsimp only at hSw); go_simp; try with_reducible rfl)
  (repeat (first | simp only [Act.put] | simp only [List.setIfInBounds_toArray] | simp only [List.set_cons_succ] | simp only [List.set_cons_zero]))
  refine wpAnyH_take (i := 8) (oi := ⟨some 37, _, _, _, _, _⟩) (v := ?_) rfl (by kernel_rfl) (by kernel_rfl) (by kernel_rfl) (fun _ _ _ h => h) (Or.inl ⟨by kernel_rfl, ?_⟩) (by assumption) ?_
  rotate_left
  · (intro w hSw; clear hSw; (try dsimp only at hSw); go_simp; try with_reducible rfl)
  (repeat (first | simp only [Act.put] | simp only [List.setIfInBounds_toArray] | simp only [List.set_cons_succ] | simp only [List.set_cons_zero]))
  refine wpAnyH_take (i := 9) (oi := ⟨some 38, _, _, _, _, _⟩) (v := ?_) rfl (by kernel_rfl) (by kernel_rfl) (by kernel_rfl) (fun _ _ _ h => h) (Or.inl ⟨by kernel_rfl, ?_⟩) (by assumption) ?_
  rotate_left
  · (intro w hSw; have hcc := HQ0.out _ hSw; clear hSw; (try dsimp only at hSw); go_simp; try with_reducible rfl)
  (repeat (first | simp only [Act.put] | simp only [List.setIfInBounds_toArray] | simp only [List.set_cons_succ] | simp only [List.set_cons_zero]))
  refine wpAnyH_take (i := 10) (oi := ⟨some 39, _, _, _, _, _⟩) (v := ?_) rfl (by kernel_rfl) (by kernel_rfl) (by kernel_rfl) (fun _ _ _ h => h) (Or.inl ⟨by kernel_rfl, ?_⟩) (by assumption) ?_
  rotate_left
  · (intro w hSw; clear hSw; (try dsimp only at hSw); go_simp; try with_reducible rfl)
  (repeat (first | simp only [Act.put] | simp only [List.setIfInBounds_toArray] | simp only [List.set_cons_succ] | simp only [List.set_cons_zero]))
  refine wpAnyH_ready (rs := [5]) (by kernel_rfl) (by simp) ?_
  refine AllReadyH.cons (o := ⟨some 34, _, _, _, _, _⟩) rfl (fun K hK => ?_) AllReadyH.nil
  go_simp
  refine (HLf.out _ d0).mono ?_
  rintro e x5 ⟨rfl, rfl⟩
  (try go_wp2_with fail)
  refine hK.out _ _ (by exact d0) (fun hHeld => ?_)
  clear hK K
  (repeat (first | simp only [Act.put] | simp only [List.setIfInBounds_toArray] | simp only [List.set_cons_succ] | simp only [List.set_cons_zero]))
  refine wpAnyH_take (i := 11) (oi := ⟨some 40, _, _, _, _, _⟩) (v := ?_) rfl (by kernel_rfl) (by kernel_rfl) (by kernel_rfl) (fun _ _ _ h => h) (Or.inl ⟨by kernel_rfl, ?_⟩) (by assumption) ?_
  rotate_left
  · (intro w hSw; clear hSw; (try dsimp only at hSw); go_simp; try with_reducible rfl)
  (repeat (first | simp only [Act.put] | simp only [List.setIfInBounds_toArray] | simp only [List.set_cons_succ] | simp only [List.set_cons_zero]))
  refine wpAnyH_take (i := 12) (oi := ⟨some 41, _, _, _, _, _⟩) (v := ?_) rfl (by kernel_rfl) (by kernel_rfl) (by kernel_rfl) (fun _ _ _ h => h) (Or.inl ⟨by kernel_rfl, ?_⟩) (by assumption) ?_
  rotate_left
  · (intro w hSw; clear hSw; (try dsimp only at hSw); go_simp; try with_reducible rfl)
  (repeat (first | simp only [Act.put] | simp only [List.setIfInBounds_toArray] | simp only [List.set_cons_succ] | simp only [List.set_cons_zero]))
  refine wpAnyH_take (i := 13) (oi := ⟨some 42, _, _, _, _, _⟩) (v := ?_) rfl (by kernel_rfl) (by kernel_rfl) (by kernel_rfl) (fun _ _ _ h => h) (Or.inl ⟨by kernel_rfl, ?_⟩) (by assumption) ?_
  rotate_left
  · (intro w hSw; clear hSw; (try dsimp only at hSw); go_simp; try with_reducible rfl)
  (repeat (first | simp only [Act.put] | simp only [List.setIfInBounds_toArray] | simp only [List.set_cons_succ] | simp only [List.set_cons_zero]))
  refine wpAnyH_take (i := 14) (oi := ⟨some 43, _, _, _, _, _⟩) (v := ?_) rfl (by kernel_rfl) (by kernel_rfl) (by kernel_rfl) (fun _ _ _ h => h) (Or.inl ⟨by kernel_rfl, ?_⟩) (by assumption) ?_
  rotate_left
  · (intro w hSw; clear hSw; (try dsimp only at hSw); go_simp; try with_reducible rfl)
  (repeat (first | simp only [Act.put] | simp only [List.setIfInBounds_toArray] | simp only [List.set_cons_succ] | simp only [List.set_cons_zero]))
  refine wpAnyH_take (i := 16) (oi := ⟨some 45, _, _, _, _, _⟩) (v := ?_) rfl (by kernel_rfl) (by kernel_rfl) (by kernel_rfl) (fun _ _ _ h => h) (Or.inl ⟨by kernel_rfl, ?_⟩) (by assumption) ?_
  rotate_left
  · (intro w hSw; clear hSw; (try dsimp only at hSw); go_simp; try with_reducible rfl)
  (repeat (first | simp only [Act.put] | simp only [List.setIfInBounds_toArray] | simp only [List.set_cons_succ] | simp only [List.set_cons_zero]))
  refine wpAnyH_take (i := 17) (oi := ⟨some 46, _, _, _, _, _⟩) (v := ?_) rfl (by kernel_rfl) (by kernel_rfl) (by kernel_rfl) (fun _ _ _ h => h) (Or.inl ⟨by kernel_rfl, ?_⟩) (by assumption) ?_
  rotate_left
  · (intro w hSw; clear hSw; (try dsimp only at hSw); go_simp; try with_reducible rfl)
  (repeat (first | simp only [Act.put] | simp only [List.setIfInBounds_toArray] | simp only [List.set_cons_succ] | simp only [List.set_cons_zero]))
  refine wpAnyH_take (i := 18) (oi := ⟨some 47, _, _, _, _, _⟩) (v := ?_) rfl (by kernel_rfl) (by kernel_rfl) (by kernel_rfl) (fun _ _ _ h => h) (Or.inl ⟨by kernel_rfl, ?_⟩) (by assumption) ?_
  rotate_left
  · (intro w hSw; clear hSw; (try dsimp only at hSw); go_simp; try with_reducible rfl)
  (repeat (first | simp only [Act.put] | simp only [List.setIfInBounds_toArray] | simp only [List.set_cons_succ] | simp only [List.set_cons_zero]))
  refine wpAnyH_take (i := 19) (oi := ⟨some 48, _, _, _, _, _⟩) (v := ?_) rfl (by kernel_rfl) (by kernel_rfl) (by kernel_rfl) (fun _ _ _ h => h) (Or.inl ⟨by kernel_rfl, ?_⟩) (by assumption) ?_
  rotate_left
  · (intro w hSw; have hcc := HQ1.out _ hSw; clear hSw; (try dsimp only at hSw); go_simp; try with_reducible rfl)
  (repeat (first | simp only [Act.put] | simp only [List.setIfInBounds_toArray] | simp only [List.set_cons_succ] | simp only [List.set_cons_zero]))
  refine wpAnyH_ready (rs := [15]) (by kernel_rfl) (by simp) ?_
  refine AllReadyH.cons (o := ⟨some 44, _, _, _, _, _⟩) rfl (fun K hK => ?_) AllReadyH.nil
  go_simp
  refine (HBd.out _ d0).mono ?_
  rintro e x15 ⟨rfl, rfl⟩
  (try go_wp2_with fail)
  refine hK.out _ _ (by exact d0) (fun hHeld => ?_)
  clear hK K
  (repeat (first | simp only [Act.put] | simp only [List.setIfInBounds_toArray] | simp only [List.set_cons_succ] | simp only [List.set_cons_zero]))
  refine wpAnyH_take (i := 20) (oi := ⟨some 49, _, _, _, _, _⟩) (v := ?_) rfl (by kernel_rfl) (by kernel_rfl) (by kernel_rfl) (fun _ _ _ h => h) (Or.inl ⟨by kernel_rfl, ?_⟩) (by assumption) ?_
  rotate_left
  · (intro w hSw; clear hSw; (try dsimp only at hSw); go_simp; try with_reducible rfl)
  (repeat (first | simp only [Act.put] | simp only [List.setIfInBounds_toArray] | simp only [List.set_cons_succ] | simp only [List.set_cons_zero]))
  refine wpAnyH_take (i := 21) (oi := ⟨some 50, _, _, _, _, _⟩) (v := ?_) rfl (by kernel_rfl) (by kernel_rfl) (by kernel_rfl) (fun _ _ _ h => h) (Or.inl ⟨by kernel_rfl, ?_⟩) (by assumption) ?_
  rotate_left
  · (intro w hSw; clear hSw; (try dsimp only at hSw); go_simp; try with_reducible rfl)
  (repeat (first | simp only [Act.put] | simp only [List.setIfInBounds_toArray] | simp only [List.set_cons_succ] | simp only [List.set_cons_zero]))
  refine wpAnyH_take (i := 22) (oi := ⟨some 51, _, _, _, _, _⟩) (v := ?_) rfl (by kernel_rfl) (by kernel_rfl) (by kernel_rfl) (fun _ _ _ h => h) (Or.inl ⟨by kernel_rfl, ?_⟩) (by assumption) ?_
  rotate_left
  · (intro w hSw; clear hSw; (try dsimp only at hSw); go_simp; try with_reducible rfl)
  (repeat (first | simp only [Act.put] | simp only [List.setIfInBounds_toArray] | simp only [List.set_cons_succ] | simp only [List.set_cons_zero]))
  refine wpAnyH_take (i := 23) (oi := ⟨some 52, _, _, _, _, _⟩) (v := (.agg (AC z))) rfl (by kernel_rfl) (by kernel_rfl) (by kernel_rfl) (fun _ _ _ h => h) ?_ (by assumption) ?_
  · (apply yieldA; (focus kernel_rfl); rfl; rfl; intro w hS; exact HT5.out _ hS)
  (repeat (first | simp only [Act.put] | simp only [List.setIfInBounds_toArray] | simp only [List.set_cons_succ] | simp only [List.set_cons_zero]))
  refine wpAnyH_take (i := 24) (oi := ⟨some 53, _, _, _, _, _⟩) (v := (.agg (T2 (z 0) A L.length c))) rfl (by kernel_rfl) (by kernel_rfl) (by kernel_rfl) (fun _ _ _ h => h) ?_ (by assumption) ?_
  · (apply yieldT; (focus kernel_rfl); rfl; rfl; intro w hS; exact HT7.out _ hS)
  (repeat (first | simp only [Act.put] | simp only [List.setIfInBounds_toArray] | simp only [List.set_cons_succ] | simp only [List.set_cons_zero]))
  refine wpAnyH_ready (rs := [25]) (by kernel_rfl) (by simp) ?_
  refine AllReadyH.cons (o := ⟨some 54, _, _, _, _, _⟩) rfl (fun K hK => ?_) AllReadyH.nil
  go_simp
  refine (HLk.out _ d0).mono ?_
  rintro e v5 ⟨rfl, k9⟩
  have dv5 : Below u4.heap.size u4 v5 := (d0).trans (k9.mono (Below.size d0))
  clear k9
  (try go_wp2_with fail)
  refine hK.out _ _ (by exact dv5) (fun hHeld => ?_)
  clear hK K
  (repeat (first | simp only [Act.put] | simp only [List.setIfInBounds_toArray] | simp only [List.set_cons_succ] | simp only [List.set_cons_zero]))
  refine wpAnyH_take (i := 26) (oi := ⟨some 55, _, _, _, _, _⟩) (v := ?_) rfl (by kernel_rfl) (by kernel_rfl) (by kernel_rfl) (fun _ _ _ h => h) (Or.inl ⟨by kernel_rfl, ?_⟩) (by assumption) ?_
  rotate_left
  · (intro w hSw; clear hSw; (try dsimp only at hSw); go_simp; try with_reducible rfl)
  (repeat (first | simp only [Act.put] | simp only [List.setIfInBounds_toArray] | simp only [List.set_cons_succ] | simp only [List.set_cons_zero]))
  refine wpAnyH_take (i := 27) (oi := ⟨some 56, _, _, _, _, _⟩) (v := ?_) rfl (by kernel_rfl) (by kernel_rfl) (by kernel_rfl) (fun _ _ _ h => h) (Or.inl ⟨by kernel_rfl, ?_⟩) (by assumption) ?_
  rotate_left
  · (intro w hSw; clear hSw; (try dsimp only at hSw); go_simp; try with_reducible rfl)
  (repeat (first | simp only [Act.put] | simp only [List.setIfInBounds_toArray] | simp only [List.set_cons_succ] | simp only [List.set_cons_zero]))
  refine wpAnyH_done (by kernel_rfl) ?_ _
  have HB7 : Hid (Below w.heap.size w v5) := Lib.hid (HB5.out.trans (dv5.mono HB5.out.size))
  cases ok
  · go_wp2_with (first | ((with_reducible refine (HV.out _).mono ?_); rintro e w9 ⟨rfl, b9⟩))
    go_ret
    exact ⟨rfl, HB7.out.trans (b9.mono HB7.out.size)⟩
  have hfw := rdA_fwd l z t b HRD.out
  have HTb := Lib.hid hfw.1
  have HLe := Lib.hid hfw.2.2.1
  have hbf := hfw.2.2.2
  subst hbf
  clear hfw
  have HPut : Hid (Calls Try.prog 17 #[.pointer (some ⟨v5.heap.size, 0, none⟩), .agg (AC z)] (v5.alloc (.cells #[.pointer none, .int .i64 0] 48)) fun e w' => e = .returned (.tuple #[]) ∧ Hid (Wk v5.heap.size v5 w' v5.heap.size (tabB z))) := Lib.hid (aPut_c v5.heap.size z HTb.out v5 _ v5.heap.size ⟨(Below.refl _ _).alloc (Nat.le_refl _) _, by simp, _, Co.WS.new v5, fun k hk => by omega⟩)
  have HBL : Hid ((tabB z).length ≤ 80) := Lib.hid (tabB_len z HTb.out)
  have p5 : v5.heap[u2.heap.size]? = some (.cells (AC z) 27 (0, 0)) := HT5.out _ dv5
  have s55 := blk_lt p5
  generalize hbs : tabB z = bs at *
  go_wp2_with (first | ((with_reducible apply loadA); rfl; rfl; rfl; (focus ((repeat' (first | (with_reducible assumption) | ((with_reducible refine heap_last ?_); (focus (first | (simp; done) | omega | (simp; omega)))) | ((with_reducible refine heap_prev ?_ ?_); (focus (first | (simp; done) | omega | (simp; omega)))) | (with_reducible apply row_heap) | ((with_reducible apply tab_set); (focus (first | (simp; done) | omega | (simp; omega)))) | ((with_reducible refine sign_other ?_ ?_); (focus (first | (simp; done) | omega | (simp; omega)))) | ((with_reducible refine row_other ?_ ?_); (focus (first | (simp; done) | omega | (simp; omega)))) | (with_reducible refine drew_heap ?_) | (with_reducible refine drewN_heap ?_))); done)); skip) | ((with_reducible apply storeA); rfl; rfl; rfl; rfl; (focus ((repeat' (first | (with_reducible assumption) | ((with_reducible refine heap_last ?_); (focus (first | (simp; done) | omega | (simp; omega)))) | ((with_reducible refine heap_prev ?_ ?_); (focus (first | (simp; done) | omega | (simp; omega)))) | (with_reducible apply row_heap) | ((with_reducible apply tab_set); (focus (first | (simp; done) | omega | (simp; omega)))) | ((with_reducible refine sign_other ?_ ?_); (focus (first | (simp; done) | omega | (simp; omega)))) | ((with_reducible refine row_other ?_ ?_); (focus (first | (simp; done) | omega | (simp; omega)))) | (with_reducible refine drew_heap ?_) | (with_reducible refine drewN_heap ?_))); done)); skip) | ((with_reducible apply loadT); rfl; rfl; rfl; (focus ((repeat' (first | (with_reducible assumption) | ((with_reducible refine heap_last ?_); (focus (first | (simp; done) | omega | (simp; omega)))) | ((with_reducible refine heap_prev ?_ ?_); (focus (first | (simp; done) | omega | (simp; omega)))) | (with_reducible apply row_heap) | ((with_reducible apply tab_set); (focus (first | (simp; done) | omega | (simp; omega)))) | ((with_reducible refine sign_other ?_ ?_); (focus (first | (simp; done) | omega | (simp; omega)))) | ((with_reducible refine row_other ?_ ?_); (focus (first | (simp; done) | omega | (simp; omega)))) | (with_reducible refine drew_heap ?_) | (with_reducible refine drewN_heap ?_))); done)); skip) | ((with_reducible apply storeT); rfl; rfl; rfl; rfl; (focus ((repeat' (first | (with_reducible assumption) | ((with_reducible refine heap_last ?_); (focus (first | (simp; done) | omega | (simp; omega)))) | ((with_reducible refine heap_prev ?_ ?_); (focus (first | (simp; done) | omega | (simp; omega)))) | (with_reducible apply row_heap) | ((with_reducible apply tab_set); (focus (first | (simp; done) | omega | (simp; omega)))) | ((with_reducible refine sign_other ?_ ?_); (focus (first | (simp; done) | omega | (simp; omega)))) | ((with_reducible refine row_other ?_ ?_); (focus (first | (simp; done) | omega | (simp; omega)))) | (with_reducible refine drew_heap ?_) | (with_reducible refine drewN_heap ?_))); done)); skip))
  refine HPut.out.mono ?_
  rintro e w6 ⟨rfl, hwk⟩
  obtain ⟨hb6, hsz6, S, hws6, hS6⟩ := hwk.out
  have HB6 : Hid (Below w.heap.size w w6) := Lib.hid (HB7.out.trans (hb6.mono HB7.out.size))
  have D6 : Below u4.heap.size u4 w6 := dv5.trans (hb6.mono dv5.size)
  have HBy : Hid (∀ W, Below w6.heap.size w6 W → Calls Try.prog 19 #[.pointer (some ⟨v5.heap.size, 0, none⟩)] W fun e w' => ∃ A c, e = .returned (.slice A bs.length c) ∧ Hid (SlB w' A bs.length bs ∧ Below W.heap.size W w')) := Lib.hid (fun W hW => (Co.Bytes_c v5.heap.size S bs W (hws6.below hW) (by have := HBL.out; omega)).mono fun e w' h => by
    obtain ⟨A, c, he, hh⟩ := h
    exact ⟨A, c, he, Lib.hid ⟨own_slb0 hh.out.1, hh.out.2⟩⟩)
  have HLf6 : Hid (∀ W, Below w6.heap.size w6 W → Calls Try.prog 24 #[.pointer (some ⟨w.heap.size, 0, none⟩)] W fun e w' => e = .returned (.int .i64 (nq : Int)) ∧ W = w') := Lib.hid (fun W hW => HLf.out W (D6.trans (hW.mono D6.size)))
  have hll : len0 = bs.length + nq := by
    have h1 := HS.out.1
    have h2 := congrArg List.length HLe.out
    rw [List.length_append] at h2
    rw [HNQ.out]
    omega
  have HSt : Hid (∀ W, Below w6.heap.size w6 W → (convert 53 9 (.slice a0 bs.length cap0)).run Try.prog W = .ok (Str bs) W) := Lib.hid (fun W hW => by
    have h1 := (HS.out.fr0 (S := fun _ => False) (Fr.of_below (HB6.out.trans (hW.mono HB6.out.size))) (fun _ _ _ h => h)).take bs.length (by omega)
    have h2 : l.take bs.length = bs := by rw [HLe.out, List.take_left]
    rw [h2] at h1
    exact conv_str h1)
  have hcapI : (bs.length : Int) ≤ (cap0 : Int) := by have := HC.out; omega
  have hlq : (len0 : Int) = (bs.length : Int) + (nq : Int) := by omega
  have hsub : IntKind.i64.wrap ((len0 : Int) - (nq : Int)) = (bs.length : Int) := by
    rw [IntWalk.i64_in _ (by omega)]; omega
  have hwm : IntKind.i64.wrap (bs.length : Int) = (bs.length : Int) := IntWalk.i64_in _ (by omega)
  have hsub2 : (len0 : Int) - (nq : Int) = (bs.length : Int) := by omega
  clear hlq hll hwk hb6 hws6 hS6 HPut p5 hbs
  generalize bs.length = M at *
  go_wp2_with fail
  have e0 : Below w6.heap.size w6 w6.drew := (Below.refl _ _).drew
  refine wp_region_held_drew (S := fun W => Below w6.heap.size w6 W) (by kernel_rfl) e0 (fun hHeld => ?_)
  generalize w6.drew = wd6 at *
  refine wpAnyH_take (i := 2) (oi := ⟨some 64, _, _, _, _, _⟩) (v := ?_) rfl (by kernel_rfl) (by kernel_rfl) (by kernel_rfl) (fun _ _ _ h => h) (Or.inl ⟨by kernel_rfl, ?_⟩) (by assumption) ?_
  rotate_left
  · (intro w hSw; clear hSw; (try dsimp only at hSw); go_simp; try with_reducible rfl)
  (repeat (first | simp only [Act.put] | simp only [List.setIfInBounds_toArray] | simp only [List.set_cons_succ] | simp only [List.set_cons_zero]))
  refine wpAnyH_take (i := 3) (oi := ⟨some 65, _, _, _, _, _⟩) (v := ?_) rfl (by kernel_rfl) (by kernel_rfl) (by kernel_rfl) (fun _ _ _ h => h) (Or.inl ⟨by kernel_rfl, ?_⟩) (by assumption) ?_
  rotate_left
  · (intro w hSw; clear hSw; (try dsimp only at hSw); go_simp; try with_reducible rfl)
  (repeat (first | simp only [Act.put] | simp only [List.setIfInBounds_toArray] | simp only [List.set_cons_succ] | simp only [List.set_cons_zero]))
  refine wpAnyH_take (i := 4) (oi := ⟨some 66, _, _, _, _, _⟩) (v := ?_) rfl (by kernel_rfl) (by kernel_rfl) (by kernel_rfl) (fun _ _ _ h => h) (Or.inl ⟨by kernel_rfl, ?_⟩) (by assumption) ?_
  rotate_left
  · (intro w hSw; clear hSw; (try dsimp only at hSw); go_simp; try with_reducible rfl)
  (repeat (first | simp only [Act.put] | simp only [List.setIfInBounds_toArray] | simp only [List.set_cons_succ] | simp only [List.set_cons_zero]))
  refine wpAnyH_take (i := 5) (oi := ⟨some 67, _, _, _, _, _⟩) (v := ?_) rfl (by kernel_rfl) (by kernel_rfl) (by kernel_rfl) (fun _ _ _ h => h) (Or.inl ⟨by kernel_rfl, ?_⟩) (by assumption) ?_
  rotate_left
  · (intro w hSw; clear hSw; (try dsimp only at hSw); go_simp; try with_reducible rfl)
  (repeat (first | simp only [Act.put] | simp only [List.setIfInBounds_toArray] | simp only [List.set_cons_succ] | simp only [List.set_cons_zero]))
  refine wpAnyH_ready (rs := [0]) (by kernel_rfl) (by simp) ?_
  refine AllReadyH.cons (o := ⟨some 62, _, _, _, _, _⟩) rfl (fun K hK => ?_) AllReadyH.nil
  go_simp
  refine (HBy.out _ e0).mono ?_
  rintro e u1' ⟨A8, c8, rfl, hy⟩
  have e1 : Below w6.heap.size w6 u1' := e0.trans (hy.out.2.mono (Below.size e0))
  have sl1 : Hid (SlB u1' A8 M bs) := Lib.hid hy.out.1
  clear hy
  (try go_wp2_with fail)
  refine hK.out _ _ (by exact e1) (fun hHeld => ?_)
  clear hK K
  (repeat (first | simp only [Act.put] | simp only [List.setIfInBounds_toArray] | simp only [List.set_cons_succ] | simp only [List.set_cons_zero]))
  refine wpAnyH_ready (rs := [1, 6]) (by kernel_rfl) (by simp) ?_
  refine AllReadyH.cons (o := ⟨some 63, _, _, _, _, _⟩) rfl (fun K hK => ?_) (AllReadyH.cons (o := ⟨some 68, _, _, _, _, _⟩) rfl (fun K hK => ?_) AllReadyH.nil)
  · have zs := conv_str (c := c8) sl1.out
    go_simp
    (try go_wp2_with fail)
    clear zs
    refine hK.out _ _ (by exact e1) (fun hHeld => ?_)
    clear hK K
    (repeat (first | simp only [Act.put] | simp only [List.setIfInBounds_toArray] | simp only [List.set_cons_succ] | simp only [List.set_cons_zero]))
    refine wpAnyH_ready (rs := [6]) (by kernel_rfl) (by simp) ?_
    refine AllReadyH.cons (o := ⟨some 68, _, _, _, _, _⟩) rfl (fun K hK => ?_) AllReadyH.nil
    go_simp
    refine (HLf6.out _ e1).mono ?_
    rintro e x6 ⟨rfl, rfl⟩
    (try go_wp2_with fail)
    refine hK.out _ _ (by exact e1) (fun hHeld => ?_)
    clear hK K
    (repeat (first | simp only [Act.put] | simp only [List.setIfInBounds_toArray] | simp only [List.set_cons_succ] | simp only [List.set_cons_zero]))
    refine wpAnyH_take (i := 7) (oi := ⟨some 69, _, _, _, _, _⟩) (v := ?_) rfl (by kernel_rfl) (by kernel_rfl) (by kernel_rfl) (fun _ _ _ h => h) (Or.inl ⟨by kernel_rfl, ?_⟩) (by assumption) ?_
    rotate_left
    · (intro w hSw; clear hSw; (try dsimp only at hSw); go_simp; try with_reducible rfl)
    (repeat (first | simp only [Act.put] | simp only [List.setIfInBounds_toArray] | simp only [List.set_cons_succ] | simp only [List.set_cons_zero]))
    refine wpAnyH_take (i := 8) (oi := ⟨some 70, _, _, _, _, _⟩) (v := ?_) rfl (by kernel_rfl) (by kernel_rfl) (by kernel_rfl) (fun _ _ _ h => h) (Or.inl ⟨by kernel_rfl, ?_⟩) (by assumption) ?_
    rotate_left
    · (intro w hSw; clear hSw; (try dsimp only at hSw); go_simp; try with_reducible rfl)
    (repeat (first | simp only [Act.put] | simp only [List.setIfInBounds_toArray] | simp only [List.set_cons_succ] | simp only [List.set_cons_zero]))
    refine wpAnyH_take (i := 9) (oi := ⟨some 71, _, _, _, _, _⟩) (v := ?_) rfl (by kernel_rfl) (by kernel_rfl) (by kernel_rfl) (fun _ _ _ h => h) (Or.inl ⟨by kernel_rfl, ?_⟩) (by assumption) ?_
    rotate_left
    · (intro w hSw; have zs := HSt.out _ hSw; clear hSw; (try dsimp only at hSw); go_simp; try with_reducible rfl)
    (repeat (first | simp only [Act.put] | simp only [List.setIfInBounds_toArray] | simp only [List.set_cons_succ] | simp only [List.set_cons_zero]))
    refine wpAnyH_take (i := 10) (oi := ⟨some 72, _, _, _, _, _⟩) (v := ?_) rfl (by kernel_rfl) (by kernel_rfl) (by kernel_rfl) (fun _ _ _ h => h) (Or.inl ⟨by kernel_rfl, ?_⟩) (by assumption) ?_
    rotate_left
    · (intro w hSw; clear hSw; (try dsimp only at hSw); go_simp; try with_reducible rfl)
    (repeat (first | simp only [Act.put] | simp only [List.setIfInBounds_toArray] | simp only [List.set_cons_succ] | simp only [List.set_cons_zero]))
    refine wpAnyH_take (i := 11) (oi := ⟨some 73, _, _, _, _, _⟩) (v := ?_) rfl (by kernel_rfl) (by kernel_rfl) (by kernel_rfl) (fun _ _ _ h => h) (Or.inl ⟨by kernel_rfl, ?_⟩) (by assumption) ?_
    rotate_left
    · (intro w hSw; clear hSw; (try dsimp only at hSw); go_simp; try with_reducible rfl)
    (repeat (first | simp only [Act.put] | simp only [List.setIfInBounds_toArray] | simp only [List.set_cons_succ] | simp only [List.set_cons_zero]))
    refine wpAnyH_ready (rs := [12]) (by kernel_rfl) (by simp) ?_
    refine AllReadyH.cons (o := ⟨some 74, _, _, _, _, _⟩) rfl (fun K hK => ?_) AllReadyH.nil
    go_simp
    ((with_reducible refine (HV.out _).mono ?_); rintro e u9 ⟨rfl, b9⟩)
    have d9 : Below w6.heap.size w6 u9 := (e1).trans (b9.mono (Below.size e1))
    clear b9
    (try go_wp2_with fail)
    refine hK.out _ _ (by exact d9) (fun hHeld => ?_)
    clear hK K
    (repeat (first | simp only [Act.put] | simp only [List.setIfInBounds_toArray] | simp only [List.set_cons_succ] | simp only [List.set_cons_zero]))
    refine wpAnyH_take (i := 13) (oi := ⟨some 75, _, _, _, _, _⟩) (v := ?_) rfl (by kernel_rfl) (by kernel_rfl) (by kernel_rfl) (fun _ _ _ h => h) (Or.inl ⟨by kernel_rfl, ?_⟩) (by assumption) ?_
    rotate_left
    · (intro w hSw; clear hSw; (try dsimp only at hSw); go_simp; try with_reducible rfl)
    (repeat (first | simp only [Act.put] | simp only [List.setIfInBounds_toArray] | simp only [List.set_cons_succ] | simp only [List.set_cons_zero]))
    refine wpAnyH_take (i := 14) (oi := ⟨some 2, _, _, _, _, _⟩) (v := ?_) rfl (by kernel_rfl) (by kernel_rfl) (by kernel_rfl) (fun _ _ _ h => h) (Or.inl ⟨by kernel_rfl, ?_⟩) (by assumption) ?_
    rotate_left
    · (intro w hSw; clear hSw; (try dsimp only at hSw); go_simp; try with_reducible rfl)
    (repeat (first | simp only [Act.put] | simp only [List.setIfInBounds_toArray] | simp only [List.set_cons_succ] | simp only [List.set_cons_zero]))
    refine wpAnyH_done (by kernel_rfl) ?_ _
    have hF := Lib.hid (HB6.out.trans (d9.mono HB6.out.size))
    clear hHeld
    go_wp2_with fail
    go_ret
    exact ⟨rfl, hF.out⟩
  · go_simp
    refine (HLf6.out _ e1).mono ?_
    rintro e x6 ⟨rfl, rfl⟩
    (try go_wp2_with fail)
    refine hK.out _ _ (by exact e1) (fun hHeld => ?_)
    clear hK K
    (repeat (first | simp only [Act.put] | simp only [List.setIfInBounds_toArray] | simp only [List.set_cons_succ] | simp only [List.set_cons_zero]))
    refine wpAnyH_take (i := 7) (oi := ⟨some 69, _, _, _, _, _⟩) (v := ?_) rfl (by kernel_rfl) (by kernel_rfl) (by kernel_rfl) (fun _ _ _ h => h) (Or.inl ⟨by kernel_rfl, ?_⟩) (by assumption) ?_
    rotate_left
    · (intro w hSw; clear hSw; (try dsimp only at hSw); go_simp; try with_reducible rfl)
    (repeat (first | simp only [Act.put] | simp only [List.setIfInBounds_toArray] | simp only [List.set_cons_succ] | simp only [List.set_cons_zero]))
    refine wpAnyH_take (i := 8) (oi := ⟨some 70, _, _, _, _, _⟩) (v := ?_) rfl (by kernel_rfl) (by kernel_rfl) (by kernel_rfl) (fun _ _ _ h => h) (Or.inl ⟨by kernel_rfl, ?_⟩) (by assumption) ?_
    rotate_left
    · (intro w hSw; clear hSw; (try dsimp only at hSw); go_simp; try with_reducible rfl)
    (repeat (first | simp only [Act.put] | simp only [List.setIfInBounds_toArray] | simp only [List.set_cons_succ] | simp only [List.set_cons_zero]))
    refine wpAnyH_take (i := 9) (oi := ⟨some 71, _, _, _, _, _⟩) (v := ?_) rfl (by kernel_rfl) (by kernel_rfl) (by kernel_rfl) (fun _ _ _ h => h) (Or.inl ⟨by kernel_rfl, ?_⟩) (by assumption) ?_
    rotate_left
    · (intro w hSw; have zs := HSt.out _ hSw; clear hSw; (try dsimp only at hSw); go_simp; try with_reducible rfl)
    (repeat (first | simp only [Act.put] | simp only [List.setIfInBounds_toArray] | simp only [List.set_cons_succ] | simp only [List.set_cons_zero]))
    refine wpAnyH_ready (rs := [1]) (by kernel_rfl) (by simp) ?_
    refine AllReadyH.cons (o := ⟨some 63, _, _, _, _, _⟩) rfl (fun K hK => ?_) AllReadyH.nil
    have zs := conv_str (c := c8) sl1.out
    go_simp
    (try go_wp2_with fail)
    clear zs
    refine hK.out _ _ (by exact e1) (fun hHeld => ?_)
    clear hK K
    (repeat (first | simp only [Act.put] | simp only [List.setIfInBounds_toArray] | simp only [List.set_cons_succ] | simp only [List.set_cons_zero]))
    refine wpAnyH_take (i := 10) (oi := ⟨some 72, _, _, _, _, _⟩) (v := ?_) rfl (by kernel_rfl) (by kernel_rfl) (by kernel_rfl) (fun _ _ _ h => h) (Or.inl ⟨by kernel_rfl, ?_⟩) (by assumption) ?_
    rotate_left
    · (intro w hSw; clear hSw; (try dsimp only at hSw); go_simp; try with_reducible rfl)
    (repeat (first | simp only [Act.put] | simp only [List.setIfInBounds_toArray] | simp only [List.set_cons_succ] | simp only [List.set_cons_zero]))
    refine wpAnyH_take (i := 11) (oi := ⟨some 73, _, _, _, _, _⟩) (v := ?_) rfl (by kernel_rfl) (by kernel_rfl) (by kernel_rfl) (fun _ _ _ h => h) (Or.inl ⟨by kernel_rfl, ?_⟩) (by assumption) ?_
    rotate_left
    · (intro w hSw; clear hSw; (try dsimp only at hSw); go_simp; try with_reducible rfl)
    (repeat (first | simp only [Act.put] | simp only [List.setIfInBounds_toArray] | simp only [List.set_cons_succ] | simp only [List.set_cons_zero]))
    refine wpAnyH_ready (rs := [12]) (by kernel_rfl) (by simp) ?_
    refine AllReadyH.cons (o := ⟨some 74, _, _, _, _, _⟩) rfl (fun K hK => ?_) AllReadyH.nil
    go_simp
    ((with_reducible refine (HV.out _).mono ?_); rintro e u9 ⟨rfl, b9⟩)
    have d9 : Below w6.heap.size w6 u9 := (e1).trans (b9.mono (Below.size e1))
    clear b9
    (try go_wp2_with fail)
    refine hK.out _ _ (by exact d9) (fun hHeld => ?_)
    clear hK K
    (repeat (first | simp only [Act.put] | simp only [List.setIfInBounds_toArray] | simp only [List.set_cons_succ] | simp only [List.set_cons_zero]))
    refine wpAnyH_take (i := 13) (oi := ⟨some 75, _, _, _, _, _⟩) (v := ?_) rfl (by kernel_rfl) (by kernel_rfl) (by kernel_rfl) (fun _ _ _ h => h) (Or.inl ⟨by kernel_rfl, ?_⟩) (by assumption) ?_
    rotate_left
    · (intro w hSw; clear hSw; (try dsimp only at hSw); go_simp; try with_reducible rfl)
    (repeat (first | simp only [Act.put] | simp only [List.setIfInBounds_toArray] | simp only [List.set_cons_succ] | simp only [List.set_cons_zero]))
    refine wpAnyH_take (i := 14) (oi := ⟨some 2, _, _, _, _, _⟩) (v := ?_) rfl (by kernel_rfl) (by kernel_rfl) (by kernel_rfl) (fun _ _ _ h => h) (Or.inl ⟨by kernel_rfl, ?_⟩) (by assumption) ?_
    rotate_left
    · (intro w hSw; clear hSw; (try dsimp only at hSw); go_simp; try with_reducible rfl)
    (repeat (first | simp only [Act.put] | simp only [List.setIfInBounds_toArray] | simp only [List.set_cons_succ] | simp only [List.set_cons_zero]))
    refine wpAnyH_done (by kernel_rfl) ?_ _
    have hF := Lib.hid (HB6.out.trans (d9.mono HB6.out.size))
    clear hHeld
    go_wp2_with fail
    go_ret
    exact ⟨rfl, hF.out⟩
end Go.Proofs.Ythbocddkomhpoaa
