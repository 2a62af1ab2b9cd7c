/- ladder: find, place. -/
import Derived.Test.YtailiaobbgikfaaLdP
import Derived.Test.YtailiaobbgikfaaOrD
namespace Go.Proofs.Ytailiaobbgikfaa
open Go.RowKit Go.Sort Go.Shelf

/-- A queue in a slice. -/
def QueAt (w : World) (a : Option Addr) (n : Nat) (q : List Od) : Prop :=
  q.length = n ∧ (n = 0 ∨ ∃ g, a = some ⟨g, 0, none⟩ ∧ g < w.heap.size ∧ ∀ i, i < n → (q[i]!).at w g (i * 6))
theorem own_que {w : World} {base n : Nat} {T : TypeId} {v : Value} {L : List Od} (h : w.ownsRow base T 6 v n (ol L)) : ∃ A c, v = .slice A n c ∧ QueAt w A n L := by
  obtain ⟨h1, h2⟩ := h
  rw [ol_len] at h1
  have hl : L.length = n := by omega
  rcases h2 with ⟨hv, h0⟩ | ⟨k, cap, cur, hv, _, hk, hc, hm, hs, ht⟩
  · subst h0; exact ⟨none, 0, hv, hl, .inl rfl⟩
  · refine ⟨_, _, hv, hl, .inr ⟨k, rfl, blk_lt hk, fun i hi => ?_⟩⟩
    have hcell : ∀ j v, (ol L)[j]? = some v → w.cell? ⟨k, j, none⟩ = some v := by
      intro j v hj
      rw [← ht, List.getElem?_take] at hj
      split at hj
      · rw [Array.getElem?_toList] at hj
        rw [cell_of_row _ _ _ _ _ _ hk, hj]
      · cases hj
    have g : ∀ c v, c < 6 → (encO L[i]!)[c]? = some v → w.cell? ⟨k, i * 6 + c, none⟩ = some v := fun c v hc hv =>
      hcell (i * 6 + c) v ((ol_get L i c (by omega) hc).trans hv)
    exact ⟨g 0 _ (by omega) rfl, g 1 _ (by omega) rfl, g 2 _ (by omega) rfl, g 3 _ (by omega) rfl, g 4 _ (by omega) rfl, g 5 _ (by omega) rfl⟩
theorem cell_fr {S : Nat → Prop} {w w' : World} (hf : Fr S w w') {b : Nat} (hl : b < w.heap.size) (hn : ¬ S b) (o : Nat) : w'.cell? ⟨b, o, none⟩ = w.cell? ⟨b, o, none⟩ := World.cell?_of_block (w := w) (hf.block b hl hn)
theorem Od.at_fr {S : Nat → Prop} {w w' : World} {x : Od} {b o : Nat} (h : x.at w b o) (hl : b < w.heap.size) (hf : Fr S w w') (hn : ¬ S b) : x.at w' b o := by
  unfold Od.at at h ⊢
  simpa only [cell_fr hf hl hn] using h
theorem QueAt.fr {S : Nat → Prop} {w w' : World} {A : Option Addr} {n : Nat} {q : List Od} (h : QueAt w A n q) (hf : Fr S w w') (hn : ∀ g, A = some ⟨g, 0, none⟩ → ¬ S g) : QueAt w' A n q := by
  refine ⟨h.1, ?_⟩
  rcases h.2 with h0 | ⟨g, rfl, hg, hc⟩
  · exact .inl h0
  · exact .inr ⟨g, rfl, Nat.lt_of_lt_of_le hg hf.size, fun i hi => Od.at_fr (hc i hi) hg hf (hn g rfl)⟩
theorem QueAt.gw {w w' : World} {A : Option Addr} {n : Nat} {q : List Od} (h : QueAt w A n q) (hf : Gw w w') : QueAt w' A n q :=
  h.fr (S := fun _ => False) (Fr.of_below hf.b) (fun _ _ h => h)
theorem RowsAt.fr {S : Nat → Prop} {w w' : World} {A : Option Addr} {n : Nat} {R : List Rw} (h : RowsAt w A n R) (hf : Fr S w w') (hn : ∀ g, A = some ⟨g, 0, none⟩ → ¬ S g) : RowsAt w' A n R := by
  refine ⟨h.1, ?_⟩
  rcases h.2 with h0 | ⟨g, rfl, hg, hc⟩
  · exact .inl h0
  · exact .inr ⟨g, rfl, Nat.lt_of_lt_of_le hg hf.size, fun i hi => by
      rw [cell_fr hf hg (hn g rfl), cell_fr hf hg (hn g rfl)]
      exact hc i hi⟩
theorem RowsAt.gw {w w' : World} {A : Option Addr} {n : Nat} {R : List Rw} (h : RowsAt w A n R) (hf : Gw w w') : RowsAt w' A n R :=
  h.fr (S := fun _ => False) (Fr.of_below hf.b) (fun _ _ h => h)
theorem Gw.of_grow (w : World) (m : Nat) (os : Array Obj) : Gw w (Go.Sort.grow (w.drewN m) os) := ⟨below_grown_sl _ _ _ _ (Nat.le_refl _), Nat.le_add_right _ _⟩
theorem hmf_any : ∀ (fn : Fn) (first cap : Array Value) (w : World), (Instr.makeFunc fn first cap).run Try.prog w = .ok (.func fn first cap) w := fun _ _ _ _ => rfl
/-- In a strict order of places, 'not yet' holds below, and no more from some place on. -/
theorem mono_not {α : Type} [Inhabited α] {l : List α} {f : α → Bool} (h : l.Pairwise (fun a b => f b = true → f a = true)) : ∀ a b, a ≤ b → b < l.length → (!f l[a]!) = true → (!f l[b]!) = true := by
  intro a b hab hb ha
  rcases Nat.eq_or_lt_of_le hab with rfl | hlt
  · exact ha
  · rw [List.pairwise_iff_getElem] at h
    rw [getElem!_pos l a (by omega)] at ha
    rw [getElem!_pos l b hb]
    have := h a b (by omega) hb hlt
    cases hf : f l[b] with
    | false => rfl
    | true => rw [this hf] at ha; cases ha
theorem count_not {α : Type} [Inhabited α] (l : List α) (f : α → Bool) : (List.range l.length).countP (fun i => !!f l[i]!) = l.countP f := by
  rw [← countP_places l default f]
  congr 1
  funext i
  rw [Bool.not_not, List.getElem!_eq_getElem?_getD, List.getD_eq_getElem?_getD]
set_option maxHeartbeats 4000000 in
set_option maxRecDepth 100000 in
theorem place_c (A : Option Addr) (n c : Nat) (q : List Od) (o : Od) (w : World) (H : QueAt w A n q) (hs : q.Pairwise (fun x y => ahdO x y = true)) (hn : n ≤ 1000) :
    Calls Try.prog 58 #[.slice A n c, .agg #[.int .u64 o.id, .int .i64 o.acc, .int .i64 o.side, .int .i64 o.price, .int .i64 o.qty, .int .u64 o.seq]] w fun e w' => e = .returned (.int .i64 (plN o q : Nat)) ∧ Gw w w' := by
  have hmf := hmf_any
  have hl := H.1
  obtain ⟨W, hW⟩ : ∃ W, ((w.alloc (.cells #[.slice A n c] 37)).alloc (.cells (encO o).toArray 24)) = W := ⟨_, rfl⟩
  have B1 : Gw w W := by rw [← hW]; exact ((Gw.refl w).alloc _).alloc _
  have hq : W.heap[w.heap.size]? = some (.cells #[.slice A n c] 37 (0, 0)) := by rw [← hW]; exact hd_prev (by simp) (hd_last rfl)
  have ho : W.heap[w.heap.size + 1]? = some (.cells (encO o).toArray 24 (0, 0)) := by rw [← hW]; exact hd_last (by simp)
  have HS := Any.sort_Search Try.searchL 83 #[.pointer (some ⟨w.heap.size, 0, none⟩), .pointer (some ⟨w.heap.size + 1, 0, none⟩)] n (fun i => !ahdO q[i]! o) W (enters_of Try.func83 (by kernel_rfl) rfl) (by omega)
    (fun m os i hi => by
      have hG := Gw.of_grow W m os
      rcases H.2 with h0 | ⟨g, rfl, hg, hc⟩
      · omega
      have hgw := (H.gw B1).gw hG
      rcases hgw.2 with h0 | ⟨g', e', hg', hc'⟩
      · omega
      injection e' with e'
      injection e' with e'
      subst e'
      exact (plc_c _ _ _ g n c i o q[i]! hi (by rw [hG.b.block _ (blk_lt hq)]; exact hq) (by rw [hG.b.block _ (blk_lt ho)]; exact ho) hg' (hc' i hi)).mono fun e w' ⟨h1, h2⟩ => ⟨h1, h2.grow⟩)
    (by rw [← hl]; exact mono_not (que_mono hs))
  rw [← hl, count_not q (fun x => ahdO x o), hl] at HS
  have HS' : Hid _ := Lib.hid HS
  go_enter Try.func58, Try.ntmps58
  go_wp2_with fail
  rw [show ((w.alloc (.cells #[.slice A n c] 37)).alloc (.cells #[.int .u64 o.id, .int .i64 o.acc, .int .i64 o.side, .int .i64 o.price, .int .i64 o.qty, .int .u64 o.seq] 24)) = W from hW]
  have c0 : W.cell? ⟨w.heap.size, 0, none⟩ = some (.slice A n c) := by rw [cell_of_row _ _ _ _ _ _ hq]; rfl
  go_wp2_with fail
  refine (HS'.out).mono ?_
  rintro e w' ⟨rfl, nq, osq, rfl⟩
  go_wp2_with fail
  go_ret
  exact ⟨rfl, B1.trans (Gw.of_grow _ _ _)⟩
set_option maxHeartbeats 4000000 in
set_option maxRecDepth 100000 in
theorem find_c (A : Option Addr) (n c : Nat) (R : List Rw) (s p : Int) (w : World) (H : RowsAt w A n R) (hs : R.Pairwise (fun a b => betN s a.pr b.pr = true)) (hn : n ≤ 1000) :
    Calls Try.prog 57 #[.slice A n c, .int .i64 s, .int .i64 p] w fun e w' => e = .returned (.tuple #[.int .i64 (atN s p R : Nat), .bool (decide (atN s p R < n) && (R[atN s p R]!).pr == p)]) ∧ Gw w w' := by
  have mixed : Try.prog.follows .mixedOrders = true := by kernel_rfl
  have hmf := hmf_any
  have hl := H.1
  obtain ⟨W, hW⟩ : ∃ W, (((w.alloc (.cells #[.slice A n c] 95)).alloc (.cells #[.int .i64 s] 3)).alloc (.cells #[.int .i64 p] 2)) = W := ⟨_, rfl⟩
  have B1 : Gw w W := by rw [← hW]; exact (((Gw.refl w).alloc _).alloc _).alloc _
  have hr : W.heap[w.heap.size]? = some (.cells #[.slice A n c] 95 (0, 0)) := by rw [← hW]; exact hd_prev (by simp; omega) (hd_prev (by simp) (hd_last rfl))
  have hsb : W.heap[w.heap.size + 1]? = some (.cells #[.int .i64 s] 3 (0, 0)) := by rw [← hW]; exact hd_prev (by simp) (hd_last (by simp))
  have hpb : W.heap[w.heap.size + 2]? = some (.cells #[.int .i64 p] 2 (0, 0)) := by rw [← hW]; exact hd_last (by simp)
  have HS := Any.sort_Search Try.searchL 82 #[.pointer (some ⟨w.heap.size + 1, 0, none⟩), .pointer (some ⟨w.heap.size, 0, none⟩), .pointer (some ⟨w.heap.size + 2, 0, none⟩)] n (fun i => !betN s (R[i]!).pr p) W (enters_of Try.func82 (by kernel_rfl) rfl) (by omega)
    (fun m os i hi => by
      have hG := Gw.of_grow W m os
      rcases H.2 with h0 | ⟨g, rfl, hg, hc⟩
      · omega
      have hgw := (H.gw B1).gw hG
      rcases hgw.2 with h0 | ⟨g', e', hg', hc'⟩
      · omega
      injection e' with e'
      injection e' with e'
      subst e'
      exact (fnd_c _ _ _ _ g n c i s p (R[i]!).pr hi (by rw [cell_of_row _ _ _ _ _ _ ((hG.b.block _ (blk_lt hsb)).trans hsb)]; rfl) (by rw [cell_of_row _ _ _ _ _ _ ((hG.b.block _ (blk_lt hr)).trans hr)]; rfl) (by rw [cell_of_row _ _ _ _ _ _ ((hG.b.block _ (blk_lt hpb)).trans hpb)]; rfl) (hc' i hi).1).mono fun e w' ⟨h1, h2⟩ => ⟨h1, h2.grow⟩)
    (by rw [← hl]; exact mono_not (f := fun r : Rw => betN s r.pr p) (rows_mono hs))
  rw [← hl, count_not R (fun r => betN s r.pr p), hl] at HS
  have HS' : Hid _ := Lib.hid HS
  have HA : Aside (RowsAt W A n R) := H.gw B1
  obtain ⟨k, hk⟩ : ∃ k, atN s p R = k := ⟨_, rfl⟩
  rw [show R.countP (fun r => betN s r.pr p) = k from hk] at HS'
  rw [hk]
  have hkl : k ≤ n := by rw [← hk, ← hl]; exact at_le s p R
  obtain ⟨bb, hbb⟩ : ∃ bb, (decide (k < n) && (R[k]!).pr == p) = bb := ⟨_, rfl⟩
  rw [hbb]
  clear hk HS hs
  have c0 : W.cell? ⟨w.heap.size, 0, none⟩ = some (.slice A n c) := by rw [cell_of_row _ _ _ _ _ _ hr]; rfl
  go_enter Try.func57, Try.ntmps57
  go_wp2_with fail
  refine (HS'.out).mono ?_
  rintro e w' ⟨rfl, nq, osq, rfl⟩
  have G2 := Gw.of_grow W nq osq
  have HA2 : Aside (RowsAt (grow (W.drewN nq) osq) A n R) := HA.out.gw G2
  have B2 := Lib.hid (B1.trans G2)
  have e0 : (grow (W.drewN nq) osq).heap[w.heap.size]? = some (.cells #[.slice A n c] 95 (0, 0)) := by rw [G2.b.block _ (blk_lt hr)]; exact hr
  have e1 : (grow (W.drewN nq) osq).heap[w.heap.size + 2]? = some (.cells #[.int .i64 p] 2 (0, 0)) := by rw [G2.b.block _ (blk_lt hpb)]; exact hpb
  generalize grow (W.drewN nq) osq = W2 at *
  have d0 : W2.cell? ⟨w.heap.size, 0, none⟩ = some (.slice A n c) := by rw [cell_of_row _ _ _ _ _ _ e0]; rfl
  have d1 : W2.cell? ⟨w.heap.size + 2, 0, none⟩ = some (.int .i64 p) := by rw [cell_of_row _ _ _ _ _ _ e1]; rfl
  clear e0 e1 c0 hr hsb hpb hW HS' G2 HA
  by_cases hkn : k < n
  · have hd : decide ((k : Int) < (n : Int)) = true := by simp; omega
    have hd' : decide (k < n) = true := by simp [hkn]
    rw [hd', Bool.true_and] at hbb
    obtain ⟨_, h2⟩ := HA2
    rcases h2 with h0 | ⟨g, rfl, hg, hc⟩
    · omega
    have hck := (hc k hkn).1
    have hkz : (k : Int) < (n : Int) := by omega
    obtain ⟨pr, hpr⟩ : ∃ pr, (R[k]!).pr = pr := ⟨_, rfl⟩
    rw [hpr] at hck hbb
    subst hbb
    clear hpr hc hkn hd'
    go_wp2_with fail
    go_quiet (fail)
    go_wp2_with fail
    go_ret2
    exact ⟨rfl, B2.out.trans ⟨below_drewN (Below.refl _ _) _, Nat.le_add_right _ _⟩⟩
  · have hd : decide ((k : Int) < (n : Int)) = false := by simp; omega
    have hd' : decide (k < n) = false := by simp [hkn]
    rw [hd', Bool.false_and] at hbb
    subst hbb
    clear HA2 hkn hd
    go_wp2_with fail
    go_quiet (fail)
    go_wp2_with fail
    go_ret2
    exact ⟨rfl, B2.out.trans ⟨below_drewN (Below.refl _ _) _, Nat.le_add_right _ _⟩⟩
end Go.Proofs.Ytailiaobbgikfaa
