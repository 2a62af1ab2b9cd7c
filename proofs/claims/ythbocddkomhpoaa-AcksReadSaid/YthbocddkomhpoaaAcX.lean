/- AcksPlay, walked. (By mkacx.py.) -/
import Derived.Test.YthbocddkomhpoaaAcL
import Derived.Test.YthbocddkomhpoaaAoO
namespace Go.Proofs.Ythbocddkomhpoaa
open Go.RowKit Go.Lib
set_option linter.unusedVariables false

/-- The law's two tables: the program's in block p, the document's in block p + 1. -/
structure St (w W : World) (p : Nat) (z : Ta) (n : Nat) (A : Option Addr) (c : Nat) (L : Al) : Prop where
  t : W.heap[p]? = some (.cells (AC z) 27 (0, 0))
  u : W.heap[p + 1]? = some (.cells (T2 n A L.length c) 35 (0, 0))
  r : RL W (p + 2) A c L
  b : Below w.heap.size w W
  s : p + 2 ≤ W.heap.size
  l : w.heap.size ≤ p
theorem St.below {w W W' : World} {p : Nat} {z : Ta} {n : Nat} {A : Option Addr} {c : Nat} {L : Al} (h : St w W p z n A c L) (hb : Below W.heap.size W W') : St w W' p z n A c L :=
  ⟨(hb.block _ (by have := h.s; omega)).trans h.t, (hb.block _ (by have := h.s; omega)).trans h.u, h.r.below hb, h.b.trans (hb.mono h.b.size), Nat.le_trans h.s hb.size, h.l⟩
theorem St.put {w W : World} {p : Nat} {z z2 : Ta} {n : Nat} {A A2 : Option Addr} {c c2 : Nat} {L L2 : Al} (h : St w W p z n A c L) (hr : RL W (p + 2) A2 c2 L2) (_ : z2 0 = z 0) : St w ((W.setRow p (AC z2)).setRow (p + 1) (T2 n A2 L2.length c2)) p z2 n A2 c2 L2 := by
  have u3 := row_other (g := p) (c' := AC z2) (show p + 1 ≠ p by omega) h.u
  refine ⟨row_other (by omega) (row_heap h.t), row_heap u3, ?_, Below.row (Below.row h.b h.l _) (by have := h.l; omega) _, ?_, h.l⟩
  · have f1 := fr_row (S := fun k => k = p ∨ k = p + 1) (Fr.refl _ W) (.inl rfl) (AC z2)
    exact hr.fr (fr_row f1 (.inr rfl) _) (fun k hk => by omega)
  · have := h.s
    simpa [World.setRow] using this
theorem op_row {W : World} {g : Nat} {y1 y2 y3 : Int} {t : TypeId} (h : W.heap[g]? = some (.cells #[.int .i64 y1, .int .i64 y2, .int .i64 y3] t (0, 0))) : W.cell? ⟨g, 0, none⟩ = some (.int .i64 y1) ∧ W.cell? ⟨g, 1, none⟩ = some (.int .i64 y2) ∧ W.cell? ⟨g, 2, none⟩ = some (.int .i64 y3) :=
  ⟨cell_of_row _ _ _ _ _ _ h, cell_of_row _ _ _ _ _ _ h, cell_of_row _ _ _ _ _ _ h⟩
set_option maxHeartbeats 16000000 in
set_option maxRecDepth 100000 in
theorem plays25_w (n : Int) (a : Option Addr) (len cap : Nat) (its : List Opa) (r v : Int) (w : World) (H : Opas w a len its) :
    Calls Try.prog 3 #[.int .i64 n, .slice a len cap, .int .i64 r, .int .i64 v] w fun e w' => e = .returned (.bool true) ∧ Below w.heap.size w w' := by
  have hzr := zeroA
  have HV := Lib.hid lives25_c
  by_cases hlen : 60 < len
  · have hI : (60 : Int) < (len : Int) := by omega
    go_enter Try.func3, Try.ntmps3
    go_wp2_with (first | ((with_reducible refine (HV.out _).mono ?_); rintro e w9 ⟨rfl, b9⟩))
    go_ret
    exact ⟨rfl, b9⟩
  have hI : ¬ (60 : Int) < (len : Int) := by omega
  have HNw := Lib.hid (new_c n)
  by_cases hn : 1 ≤ n ∧ n ≤ 7
  rotate_left
  · rw [if_neg hn, if_neg hn] at HNw
    have HRp : Hid (∀ W, Calls Try.prog 8 #[.agg (AC zA)] W fun e w' => e = .returned (.int .i64 0) ∧ Below W.heap.size W w') := Lib.hid (fun W => repl_c zA W)
    have HAl : Hid (∀ W, Calls Try.prog 9 #[.agg (AC zA), .int .i64 v] W fun e w' => e = .returned (.bool false) ∧ Below W.heap.size W w') := Lib.hid (fun W => by
      have h0 : allA zA v = false := by unfold allA; rw [decide_eq_false_iff_not]; exact fun h => Nat.lt_irrefl _ h.1
      rw [← h0]; exact all_c zA Tb.zero v W)
    have h1 : n < 1 ∨ (¬ n < 1 ∧ 7 < n) := by omega
    clear hn H
    rcases h1 with h1 | ⟨h1, h2⟩
    all_goals
      go_enter Try.func3, Try.ntmps3
      go_wp2_with (first | ((with_reducible apply loadA); rfl; rfl; rfl; (focus ((repeat' (first | (with_reducible assumption) | ((with_reducible refine heap_last ?_); (focus (first | (simp; done) | omega | (simp; omega)))) | ((with_reducible refine heap_prev ?_ ?_); (focus (first | (simp; done) | omega | (simp; omega)))) | (with_reducible apply row_heap) | ((with_reducible apply tab_set); (focus (first | (simp; done) | omega | (simp; omega)))) | ((with_reducible refine sign_other ?_ ?_); (focus (first | (simp; done) | omega | (simp; omega)))) | ((with_reducible refine row_other ?_ ?_); (focus (first | (simp; done) | omega | (simp; omega)))) | (with_reducible refine drew_heap ?_) | (with_reducible refine drewN_heap ?_))); done)); skip) | ((with_reducible apply storeA); rfl; rfl; rfl; rfl; (focus ((repeat' (first | (with_reducible assumption) | ((with_reducible refine heap_last ?_); (focus (first | (simp; done) | omega | (simp; omega)))) | ((with_reducible refine heap_prev ?_ ?_); (focus (first | (simp; done) | omega | (simp; omega)))) | (with_reducible apply row_heap) | ((with_reducible apply tab_set); (focus (first | (simp; done) | omega | (simp; omega)))) | ((with_reducible refine sign_other ?_ ?_); (focus (first | (simp; done) | omega | (simp; omega)))) | ((with_reducible refine row_other ?_ ?_); (focus (first | (simp; done) | omega | (simp; omega)))) | (with_reducible refine drew_heap ?_) | (with_reducible refine drewN_heap ?_))); done)); skip) | ((with_reducible apply loadT); rfl; rfl; rfl; (focus ((repeat' (first | (with_reducible assumption) | ((with_reducible refine heap_last ?_); (focus (first | (simp; done) | omega | (simp; omega)))) | ((with_reducible refine heap_prev ?_ ?_); (focus (first | (simp; done) | omega | (simp; omega)))) | (with_reducible apply row_heap) | ((with_reducible apply tab_set); (focus (first | (simp; done) | omega | (simp; omega)))) | ((with_reducible refine sign_other ?_ ?_); (focus (first | (simp; done) | omega | (simp; omega)))) | ((with_reducible refine row_other ?_ ?_); (focus (first | (simp; done) | omega | (simp; omega)))) | (with_reducible refine drew_heap ?_) | (with_reducible refine drewN_heap ?_))); done)); skip) | ((with_reducible apply storeT); rfl; rfl; rfl; rfl; (focus ((repeat' (first | (with_reducible assumption) | ((with_reducible refine heap_last ?_); (focus (first | (simp; done) | omega | (simp; omega)))) | ((with_reducible refine heap_prev ?_ ?_); (focus (first | (simp; done) | omega | (simp; omega)))) | (with_reducible apply row_heap) | ((with_reducible apply tab_set); (focus (first | (simp; done) | omega | (simp; omega)))) | ((with_reducible refine sign_other ?_ ?_); (focus (first | (simp; done) | omega | (simp; omega)))) | ((with_reducible refine row_other ?_ ?_); (focus (first | (simp; done) | omega | (simp; omega)))) | (with_reducible refine drew_heap ?_) | (with_reducible refine drewN_heap ?_))); done)); skip) | ((with_reducible refine (HNw.out _).mono ?_); rintro e w1 ⟨rfl, b1⟩))
      have s0 : w.heap.size ≤ w1.heap.size := b1.size
      go_wp2_with (first | ((with_reducible apply loadA); rfl; rfl; rfl; (focus ((repeat' (first | (with_reducible assumption) | ((with_reducible refine heap_last ?_); (focus (first | (simp; done) | omega | (simp; omega)))) | ((with_reducible refine heap_prev ?_ ?_); (focus (first | (simp; done) | omega | (simp; omega)))) | (with_reducible apply row_heap) | ((with_reducible apply tab_set); (focus (first | (simp; done) | omega | (simp; omega)))) | ((with_reducible refine sign_other ?_ ?_); (focus (first | (simp; done) | omega | (simp; omega)))) | ((with_reducible refine row_other ?_ ?_); (focus (first | (simp; done) | omega | (simp; omega)))) | (with_reducible refine drew_heap ?_) | (with_reducible refine drewN_heap ?_))); done)); skip) | ((with_reducible apply storeA); rfl; rfl; rfl; rfl; (focus ((repeat' (first | (with_reducible assumption) | ((with_reducible refine heap_last ?_); (focus (first | (simp; done) | omega | (simp; omega)))) | ((with_reducible refine heap_prev ?_ ?_); (focus (first | (simp; done) | omega | (simp; omega)))) | (with_reducible apply row_heap) | ((with_reducible apply tab_set); (focus (first | (simp; done) | omega | (simp; omega)))) | ((with_reducible refine sign_other ?_ ?_); (focus (first | (simp; done) | omega | (simp; omega)))) | ((with_reducible refine row_other ?_ ?_); (focus (first | (simp; done) | omega | (simp; omega)))) | (with_reducible refine drew_heap ?_) | (with_reducible refine drewN_heap ?_))); done)); skip) | ((with_reducible apply loadT); rfl; rfl; rfl; (focus ((repeat' (first | (with_reducible assumption) | ((with_reducible refine heap_last ?_); (focus (first | (simp; done) | omega | (simp; omega)))) | ((with_reducible refine heap_prev ?_ ?_); (focus (first | (simp; done) | omega | (simp; omega)))) | (with_reducible apply row_heap) | ((with_reducible apply tab_set); (focus (first | (simp; done) | omega | (simp; omega)))) | ((with_reducible refine sign_other ?_ ?_); (focus (first | (simp; done) | omega | (simp; omega)))) | ((with_reducible refine row_other ?_ ?_); (focus (first | (simp; done) | omega | (simp; omega)))) | (with_reducible refine drew_heap ?_) | (with_reducible refine drewN_heap ?_))); done)); skip) | ((with_reducible apply storeT); rfl; rfl; rfl; rfl; (focus ((repeat' (first | (with_reducible assumption) | ((with_reducible refine heap_last ?_); (focus (first | (simp; done) | omega | (simp; omega)))) | ((with_reducible refine heap_prev ?_ ?_); (focus (first | (simp; done) | omega | (simp; omega)))) | (with_reducible apply row_heap) | ((with_reducible apply tab_set); (focus (first | (simp; done) | omega | (simp; omega)))) | ((with_reducible refine sign_other ?_ ?_); (focus (first | (simp; done) | omega | (simp; omega)))) | ((with_reducible refine row_other ?_ ?_); (focus (first | (simp; done) | omega | (simp; omega)))) | (with_reducible refine drew_heap ?_) | (with_reducible refine drewN_heap ?_))); done)); skip) | ((with_reducible refine (HRp.out _).mono ?_); rintro e w2 ⟨rfl, b2⟩; have p2 : w2.heap[w1.heap.size]? = some (.cells (AC zA) 27 (0, 0)) := (by rw [b2.block _ (by (focus (first | (simp; done) | omega | (simp; omega))))]; (focus ((repeat' (first | (with_reducible assumption) | ((with_reducible refine heap_last ?_); (focus (first | (simp; done) | omega | (simp; omega)))) | ((with_reducible refine heap_prev ?_ ?_); (focus (first | (simp; done) | omega | (simp; omega)))) | (with_reducible apply row_heap) | ((with_reducible apply tab_set); (focus (first | (simp; done) | omega | (simp; omega)))) | ((with_reducible refine sign_other ?_ ?_); (focus (first | (simp; done) | omega | (simp; omega)))) | ((with_reducible refine row_other ?_ ?_); (focus (first | (simp; done) | omega | (simp; omega)))) | (with_reducible refine drew_heap ?_) | (with_reducible refine drewN_heap ?_))); done)))))
      have s2 : w1.heap.size + 1 ≤ w2.heap.size := by have := b2.size; (try simp at this); omega
      have B2 : Below w.heap.size w w2 := Below.trans (by (focus ((repeat' (first | (with_reducible exact Below.refl _ _) | (with_reducible assumption) | (with_reducible refine Below.alloc ?_ ?_ _) | (with_reducible refine Below.setCell ?_ ?_ _) | (with_reducible refine Below.row ?_ ?_ _) | (with_reducible refine Below.drew ?_) | (with_reducible refine below_drewN ?_ _) | (focus (first | (simp; done) | omega | (simp; omega))))); done))) (b2.mono (by (focus (first | (simp; done) | omega | (simp; omega)))))
      clear b2 b1
      go_wp2_with (first | ((with_reducible apply loadA); rfl; rfl; rfl; (focus ((repeat' (first | (with_reducible assumption) | ((with_reducible refine heap_last ?_); (focus (first | (simp; done) | omega | (simp; omega)))) | ((with_reducible refine heap_prev ?_ ?_); (focus (first | (simp; done) | omega | (simp; omega)))) | (with_reducible apply row_heap) | ((with_reducible apply tab_set); (focus (first | (simp; done) | omega | (simp; omega)))) | ((with_reducible refine sign_other ?_ ?_); (focus (first | (simp; done) | omega | (simp; omega)))) | ((with_reducible refine row_other ?_ ?_); (focus (first | (simp; done) | omega | (simp; omega)))) | (with_reducible refine drew_heap ?_) | (with_reducible refine drewN_heap ?_))); done)); skip) | ((with_reducible apply storeA); rfl; rfl; rfl; rfl; (focus ((repeat' (first | (with_reducible assumption) | ((with_reducible refine heap_last ?_); (focus (first | (simp; done) | omega | (simp; omega)))) | ((with_reducible refine heap_prev ?_ ?_); (focus (first | (simp; done) | omega | (simp; omega)))) | (with_reducible apply row_heap) | ((with_reducible apply tab_set); (focus (first | (simp; done) | omega | (simp; omega)))) | ((with_reducible refine sign_other ?_ ?_); (focus (first | (simp; done) | omega | (simp; omega)))) | ((with_reducible refine row_other ?_ ?_); (focus (first | (simp; done) | omega | (simp; omega)))) | (with_reducible refine drew_heap ?_) | (with_reducible refine drewN_heap ?_))); done)); skip) | ((with_reducible apply loadT); rfl; rfl; rfl; (focus ((repeat' (first | (with_reducible assumption) | ((with_reducible refine heap_last ?_); (focus (first | (simp; done) | omega | (simp; omega)))) | ((with_reducible refine heap_prev ?_ ?_); (focus (first | (simp; done) | omega | (simp; omega)))) | (with_reducible apply row_heap) | ((with_reducible apply tab_set); (focus (first | (simp; done) | omega | (simp; omega)))) | ((with_reducible refine sign_other ?_ ?_); (focus (first | (simp; done) | omega | (simp; omega)))) | ((with_reducible refine row_other ?_ ?_); (focus (first | (simp; done) | omega | (simp; omega)))) | (with_reducible refine drew_heap ?_) | (with_reducible refine drewN_heap ?_))); done)); skip) | ((with_reducible apply storeT); rfl; rfl; rfl; rfl; (focus ((repeat' (first | (with_reducible assumption) | ((with_reducible refine heap_last ?_); (focus (first | (simp; done) | omega | (simp; omega)))) | ((with_reducible refine heap_prev ?_ ?_); (focus (first | (simp; done) | omega | (simp; omega)))) | (with_reducible apply row_heap) | ((with_reducible apply tab_set); (focus (first | (simp; done) | omega | (simp; omega)))) | ((with_reducible refine sign_other ?_ ?_); (focus (first | (simp; done) | omega | (simp; omega)))) | ((with_reducible refine row_other ?_ ?_); (focus (first | (simp; done) | omega | (simp; omega)))) | (with_reducible refine drew_heap ?_) | (with_reducible refine drewN_heap ?_))); done)); skip) | ((with_reducible refine (HAl.out _).mono ?_); rintro e w3 ⟨rfl, b3⟩))
      have B3 : Below w.heap.size w w3 := B2.trans (b3.mono B2.size)
      clear b3 p2
      go_wp2_with (first | ((with_reducible refine (HV.out _).mono ?_); rintro e w9 ⟨rfl, b9⟩))
      go_ret
      exact ⟨rfl, B3.trans (b9.mono B3.size)⟩
  rw [if_pos hn, if_pos hn] at HNw
  obtain ⟨N, hN7, rfl⟩ : ∃ N : Nat, N ≤ 7 ∧ n = (N : Int) := ⟨n.toNat, by omega, by omega⟩
  have hN1 : ¬ (N : Int) < 1 := by omega
  have hN2 : ¬ (7 : Int) < (N : Int) := by omega
  rw [show ((N : Int).toNat) = N by omega] at HNw
  have HLen := Lib.hid hlen
  have HH := Lib.hid H
  have HSm0 : Hid (Sm (newA N) []) := Lib.hid (Sm.made hN7)
  have hz00 : newA N 0 = N := by unfold newA; exact updA_same _ _ _
  clear H hn hN7 hlen
  go_enter Try.func3, Try.ntmps3
  go_wp2_with (first | ((with_reducible apply loadA); rfl; rfl; rfl; (focus ((repeat' (first | (with_reducible assumption) | ((with_reducible refine heap_last ?_); (focus (first | (simp; done) | omega | (simp; omega)))) | ((with_reducible refine heap_prev ?_ ?_); (focus (first | (simp; done) | omega | (simp; omega)))) | (with_reducible apply row_heap) | ((with_reducible apply tab_set); (focus (first | (simp; done) | omega | (simp; omega)))) | ((with_reducible refine sign_other ?_ ?_); (focus (first | (simp; done) | omega | (simp; omega)))) | ((with_reducible refine row_other ?_ ?_); (focus (first | (simp; done) | omega | (simp; omega)))) | (with_reducible refine drew_heap ?_) | (with_reducible refine drewN_heap ?_))); done)); skip) | ((with_reducible apply storeA); rfl; rfl; rfl; rfl; (focus ((repeat' (first | (with_reducible assumption) | ((with_reducible refine heap_last ?_); (focus (first | (simp; done) | omega | (simp; omega)))) | ((with_reducible refine heap_prev ?_ ?_); (focus (first | (simp; done) | omega | (simp; omega)))) | (with_reducible apply row_heap) | ((with_reducible apply tab_set); (focus (first | (simp; done) | omega | (simp; omega)))) | ((with_reducible refine sign_other ?_ ?_); (focus (first | (simp; done) | omega | (simp; omega)))) | ((with_reducible refine row_other ?_ ?_); (focus (first | (simp; done) | omega | (simp; omega)))) | (with_reducible refine drew_heap ?_) | (with_reducible refine drewN_heap ?_))); done)); skip) | ((with_reducible apply loadT); rfl; rfl; rfl; (focus ((repeat' (first | (with_reducible assumption) | ((with_reducible refine heap_last ?_); (focus (first | (simp; done) | omega | (simp; omega)))) | ((with_reducible refine heap_prev ?_ ?_); (focus (first | (simp; done) | omega | (simp; omega)))) | (with_reducible apply row_heap) | ((with_reducible apply tab_set); (focus (first | (simp; done) | omega | (simp; omega)))) | ((with_reducible refine sign_other ?_ ?_); (focus (first | (simp; done) | omega | (simp; omega)))) | ((with_reducible refine row_other ?_ ?_); (focus (first | (simp; done) | omega | (simp; omega)))) | (with_reducible refine drew_heap ?_) | (with_reducible refine drewN_heap ?_))); done)); skip) | ((with_reducible apply storeT); rfl; rfl; rfl; rfl; (focus ((repeat' (first | (with_reducible assumption) | ((with_reducible refine heap_last ?_); (focus (first | (simp; done) | omega | (simp; omega)))) | ((with_reducible refine heap_prev ?_ ?_); (focus (first | (simp; done) | omega | (simp; omega)))) | (with_reducible apply row_heap) | ((with_reducible apply tab_set); (focus (first | (simp; done) | omega | (simp; omega)))) | ((with_reducible refine sign_other ?_ ?_); (focus (first | (simp; done) | omega | (simp; omega)))) | ((with_reducible refine row_other ?_ ?_); (focus (first | (simp; done) | omega | (simp; omega)))) | (with_reducible refine drew_heap ?_) | (with_reducible refine drewN_heap ?_))); done)); skip) | ((with_reducible refine (HNw.out _).mono ?_); rintro e w1 ⟨rfl, b1⟩))
  have s0 : w.heap.size ≤ w1.heap.size := b1.size
  go_wp2_with (first | ((with_reducible apply loadA); rfl; rfl; rfl; (focus ((repeat' (first | (with_reducible assumption) | ((with_reducible refine heap_last ?_); (focus (first | (simp; done) | omega | (simp; omega)))) | ((with_reducible refine heap_prev ?_ ?_); (focus (first | (simp; done) | omega | (simp; omega)))) | (with_reducible apply row_heap) | ((with_reducible apply tab_set); (focus (first | (simp; done) | omega | (simp; omega)))) | ((with_reducible refine sign_other ?_ ?_); (focus (first | (simp; done) | omega | (simp; omega)))) | ((with_reducible refine row_other ?_ ?_); (focus (first | (simp; done) | omega | (simp; omega)))) | (with_reducible refine drew_heap ?_) | (with_reducible refine drewN_heap ?_))); done)); skip) | ((with_reducible apply storeA); rfl; rfl; rfl; rfl; (focus ((repeat' (first | (with_reducible assumption) | ((with_reducible refine heap_last ?_); (focus (first | (simp; done) | omega | (simp; omega)))) | ((with_reducible refine heap_prev ?_ ?_); (focus (first | (simp; done) | omega | (simp; omega)))) | (with_reducible apply row_heap) | ((with_reducible apply tab_set); (focus (first | (simp; done) | omega | (simp; omega)))) | ((with_reducible refine sign_other ?_ ?_); (focus (first | (simp; done) | omega | (simp; omega)))) | ((with_reducible refine row_other ?_ ?_); (focus (first | (simp; done) | omega | (simp; omega)))) | (with_reducible refine drew_heap ?_) | (with_reducible refine drewN_heap ?_))); done)); skip) | ((with_reducible apply loadT); rfl; rfl; rfl; (focus ((repeat' (first | (with_reducible assumption) | ((with_reducible refine heap_last ?_); (focus (first | (simp; done) | omega | (simp; omega)))) | ((with_reducible refine heap_prev ?_ ?_); (focus (first | (simp; done) | omega | (simp; omega)))) | (with_reducible apply row_heap) | ((with_reducible apply tab_set); (focus (first | (simp; done) | omega | (simp; omega)))) | ((with_reducible refine sign_other ?_ ?_); (focus (first | (simp; done) | omega | (simp; omega)))) | ((with_reducible refine row_other ?_ ?_); (focus (first | (simp; done) | omega | (simp; omega)))) | (with_reducible refine drew_heap ?_) | (with_reducible refine drewN_heap ?_))); done)); skip) | ((with_reducible apply storeT); rfl; rfl; rfl; rfl; (focus ((repeat' (first | (with_reducible assumption) | ((with_reducible refine heap_last ?_); (focus (first | (simp; done) | omega | (simp; omega)))) | ((with_reducible refine heap_prev ?_ ?_); (focus (first | (simp; done) | omega | (simp; omega)))) | (with_reducible apply row_heap) | ((with_reducible apply tab_set); (focus (first | (simp; done) | omega | (simp; omega)))) | ((with_reducible refine sign_other ?_ ?_); (focus (first | (simp; done) | omega | (simp; omega)))) | ((with_reducible refine row_other ?_ ?_); (focus (first | (simp; done) | omega | (simp; omega)))) | (with_reducible refine drew_heap ?_) | (with_reducible refine drewN_heap ?_))); done)); skip))
  generalize hp : w1.heap.size = p at *
  go_loopw [53] (fun i wr => ∃ (k : Nat) (z : Ta) (A : Option Addr) (c : Nat) (L : Al), k ≤ len ∧ i = .int .i64 (k : Int) ∧ Hid (Sm z L) ∧ Hid (L.length ≤ k) ∧ Hid (St w wr p z (z 0) A c L)) (fun i _ => len - (intOf i).toNat)
  case atStart =>
    refine ⟨0, newA N, none, 0, [], by omega, rfl, HSm0, Lib.hid (Nat.le_refl _), Lib.hid ?_⟩
    rw [hz00]
    exact ⟨by (focus ((repeat' (first | (with_reducible assumption) | ((with_reducible refine heap_last ?_); (focus (first | (simp; done) | omega | (simp; omega)))) | ((with_reducible refine heap_prev ?_ ?_); (focus (first | (simp; done) | omega | (simp; omega)))) | (with_reducible apply row_heap) | ((with_reducible apply tab_set); (focus (first | (simp; done) | omega | (simp; omega)))) | ((with_reducible refine sign_other ?_ ?_); (focus (first | (simp; done) | omega | (simp; omega)))) | ((with_reducible refine row_other ?_ ?_); (focus (first | (simp; done) | omega | (simp; omega)))) | (with_reducible refine drew_heap ?_) | (with_reducible refine drewN_heap ?_))); done)), by show _ = some (Obj.cells (T2 N none 0 0) 35 (0, 0)); (focus ((repeat' (first | (with_reducible assumption) | ((with_reducible refine heap_last ?_); (focus (first | (simp; done) | omega | (simp; omega)))) | ((with_reducible refine heap_prev ?_ ?_); (focus (first | (simp; done) | omega | (simp; omega)))) | (with_reducible apply row_heap) | ((with_reducible apply tab_set); (focus (first | (simp; done) | omega | (simp; omega)))) | ((with_reducible refine sign_other ?_ ?_); (focus (first | (simp; done) | omega | (simp; omega)))) | ((with_reducible refine row_other ?_ ?_); (focus (first | (simp; done) | omega | (simp; omega)))) | (with_reducible refine drew_heap ?_) | (with_reducible refine drewN_heap ?_))); done)), RL.nil _ _, by (focus ((repeat' (first | (with_reducible exact Below.refl _ _) | (with_reducible assumption) | (with_reducible refine Below.alloc ?_ ?_ _) | (with_reducible refine Below.setCell ?_ ?_ _) | (with_reducible refine Below.row ?_ ?_ _) | (with_reducible refine Below.drew ?_) | (with_reducible refine below_drewN ?_ _) | (focus (first | (simp; done) | omega | (simp; omega))))); done)), by (focus (first | (simp; done) | omega | (simp; omega))), s0⟩
  case round =>
    obtain ⟨k, z, A, c, L, hk, rfl, hSm, hL, hst⟩ := hrel
    have HLn : Hid (L.length ≤ 60) := Lib.hid (by have := hL.out; have := HLen.out; omega)
    have hzt := hst.out.t
    have hut := hst.out.u
    by_cases hlt : k < len
    rotate_left
    · obtain rfl : k = len := by omega
      have hltI : ¬ (k : Int) < (k : Int) := by omega
      have HK : Hid (∀ W, St w W p z (z 0) A c L → Calls Try.prog 14 #[.agg (AC z), .agg (T2 (z 0) A L.length c), .int .i64 r, .int .i64 v] W fun e w' => e = .returned (.bool true) ∧ Below W.heap.size W w') := Lib.hid (fun W h => like_c z (p + 2) A c L hSm.out r v W h.r (by have := HLn.out; omega))
      have HB1 := Lib.hid (aBit_c v)
      have HB2 := Lib.hid (rBit_c v)
      go_wp2_with (first | ((with_reducible apply loadA); rfl; rfl; rfl; (focus ((repeat' (first | (with_reducible assumption) | ((with_reducible refine heap_last ?_); (focus (first | (simp; done) | omega | (simp; omega)))) | ((with_reducible refine heap_prev ?_ ?_); (focus (first | (simp; done) | omega | (simp; omega)))) | (with_reducible apply row_heap) | ((with_reducible apply tab_set); (focus (first | (simp; done) | omega | (simp; omega)))) | ((with_reducible refine sign_other ?_ ?_); (focus (first | (simp; done) | omega | (simp; omega)))) | ((with_reducible refine row_other ?_ ?_); (focus (first | (simp; done) | omega | (simp; omega)))) | (with_reducible refine drew_heap ?_) | (with_reducible refine drewN_heap ?_))); done)); skip) | ((with_reducible apply storeA); rfl; rfl; rfl; rfl; (focus ((repeat' (first | (with_reducible assumption) | ((with_reducible refine heap_last ?_); (focus (first | (simp; done) | omega | (simp; omega)))) | ((with_reducible refine heap_prev ?_ ?_); (focus (first | (simp; done) | omega | (simp; omega)))) | (with_reducible apply row_heap) | ((with_reducible apply tab_set); (focus (first | (simp; done) | omega | (simp; omega)))) | ((with_reducible refine sign_other ?_ ?_); (focus (first | (simp; done) | omega | (simp; omega)))) | ((with_reducible refine row_other ?_ ?_); (focus (first | (simp; done) | omega | (simp; omega)))) | (with_reducible refine drew_heap ?_) | (with_reducible refine drewN_heap ?_))); done)); skip) | ((with_reducible apply loadT); rfl; rfl; rfl; (focus ((repeat' (first | (with_reducible assumption) | ((with_reducible refine heap_last ?_); (focus (first | (simp; done) | omega | (simp; omega)))) | ((with_reducible refine heap_prev ?_ ?_); (focus (first | (simp; done) | omega | (simp; omega)))) | (with_reducible apply row_heap) | ((with_reducible apply tab_set); (focus (first | (simp; done) | omega | (simp; omega)))) | ((with_reducible refine sign_other ?_ ?_); (focus (first | (simp; done) | omega | (simp; omega)))) | ((with_reducible refine row_other ?_ ?_); (focus (first | (simp; done) | omega | (simp; omega)))) | (with_reducible refine drew_heap ?_) | (with_reducible refine drewN_heap ?_))); done)); skip) | ((with_reducible apply storeT); rfl; rfl; rfl; rfl; (focus ((repeat' (first | (with_reducible assumption) | ((with_reducible refine heap_last ?_); (focus (first | (simp; done) | omega | (simp; omega)))) | ((with_reducible refine heap_prev ?_ ?_); (focus (first | (simp; done) | omega | (simp; omega)))) | (with_reducible apply row_heap) | ((with_reducible apply tab_set); (focus (first | (simp; done) | omega | (simp; omega)))) | ((with_reducible refine sign_other ?_ ?_); (focus (first | (simp; done) | omega | (simp; omega)))) | ((with_reducible refine row_other ?_ ?_); (focus (first | (simp; done) | omega | (simp; omega)))) | (with_reducible refine drew_heap ?_) | (with_reducible refine drewN_heap ?_))); done)); skip) | ((with_reducible refine (HK.out _ hst.out).mono ?_); rintro e v3 ⟨rfl, b3⟩) | ((with_reducible refine (HB1.out _).mono ?_); rintro e v4 ⟨rfl, rfl⟩) | ((with_reducible refine (HB2.out _).mono ?_); rintro e v5 ⟨rfl, rfl⟩) | ((with_reducible refine (HV.out _).mono ?_); rintro e w9 ⟨rfl, b9⟩))
      go_ret
      exact ⟨rfl, (hst.out.b.trans (b3.mono hst.out.b.size)).trans (b9.mono (hst.out.b.trans (b3.mono hst.out.b.size)).size)⟩
    have hltI : (k : Int) < (len : Int) := by omega
    have hk0 : (0 : Int) ≤ (k : Int) := by omega
    have hk9 : (k : Int) ≤ 60 := by omega
    have HS9 : Hid (p + 2 ≤ wr.heap.size) := Lib.hid hst.out.s
    obtain ⟨b, off, hA, hbl, hx⟩ : ∃ b off, a = some ⟨b, off, none⟩ ∧ b < w.heap.size ∧ (its[k]!).at wr b (off + k * 3) := by
      have h9 := HH.out.below hst.out.b
      rcases HH.out.2.2.2 with h0 | ⟨b, off, e, hb, _⟩
      · omega
      · rcases h9.2.2.2 with h0 | ⟨b', off', e', _, hc⟩
        · omega
        · rw [e] at e'; injection e' with e'; injection e' with e1 e2; subst e1; subst e2
          exact ⟨b, off, e, hb, hc k hlt⟩
    generalize its[k]! = y at *
    obtain ⟨y1, y2, y3⟩ := y
    unfold Opa.at at hx
    obtain ⟨d0, d1, d2⟩ := hx
    subst hA
    have HDr : Hid (∀ W, Calls Try.prog 10 #[.agg (AC z), .int .i64 y3] W fun e w' => e = .returned (.agg (AC (dropA z y3))) ∧ Below W.heap.size W w') := Lib.hid (fun W => drop_c z hSm.out.tb y3 W)
    have HRd : Hid (∀ W, St w W p z (z 0) A c L → Calls Try.prog 11 #[.agg (T2 (z 0) A L.length c), .int .i64 y3] W fun e w' => ∃ A' c', e = .returned (.agg (T2 (z 0) A' (dropL L y3).length c')) ∧ Hid (RL w' (p + 2) A' c' (dropL L y3) ∧ Below W.heap.size W w')) := Lib.hid (fun W h => rDrop_c (z 0) (p + 2) A c L y3 W h.r h.s (by have := HLn.out; omega))
    by_cases hy1 : y1 = 1
    · subst hy1
      dsimp only at d0 d1 d2
      go_wp2_with fail
      have st0 := Lib.hid (hst.out.below (((Below.refl _ _).alloc (Nat.le_refl _) (.cells #[.int .i64 1, .int .i64 y2, .int .i64 y3] 37)).drew))
      have o0 : (wr.alloc (.cells #[.int .i64 1, .int .i64 y2, .int .i64 y3] 37)).drew.heap[wr.heap.size]? = some (.cells #[.int .i64 1, .int .i64 y2, .int .i64 y3] 37 (0, 0)) := heap_alloc_new wr _
      refine wp_region_held_drew (S := fun W => W.heap[wr.heap.size]? = some (.cells #[.int .i64 1, .int .i64 y2, .int .i64 y3] 37 (0, 0))) (by kernel_rfl) (heap_alloc_new wr _) (fun hHeld => ?_)
      refine wpAnyH_take (i := 1) (oi := ⟨some 61, _, _, _, _, _⟩) (v := ?_) rfl (by kernel_rfl) (by kernel_rfl) (by kernel_rfl) (fun _ _ _ h => h) (Or.inl ⟨by kernel_rfl, ?_⟩) (by assumption) ?_
      rotate_left
      · (intro w hSw; obtain ⟨z1, z2, z3⟩ := op_row hSw; clear hSw; go_simp; try with_reducible rfl)
      (repeat (first | simp only [Act.put] | simp only [List.setIfInBounds_toArray] | simp only [List.set_cons_succ] | simp only [List.set_cons_zero]))
      refine wpAnyH_take (i := 2) (oi := ⟨some 62, _, _, _, _, _⟩) (v := ?_) rfl (by kernel_rfl) (by kernel_rfl) (by kernel_rfl) (fun _ _ _ h => h) (Or.inl ⟨by kernel_rfl, ?_⟩) (by assumption) ?_
      rotate_left
      · (intro w hSw; obtain ⟨z1, z2, z3⟩ := op_row hSw; clear hSw; go_simp; try with_reducible rfl)
      (repeat (first | simp only [Act.put] | simp only [List.setIfInBounds_toArray] | simp only [List.set_cons_succ] | simp only [List.set_cons_zero]))
      refine wpAnyH_take (i := 5) (oi := ⟨some 65, _, _, _, _, _⟩) (v := ?_) rfl (by kernel_rfl) (by kernel_rfl) (by kernel_rfl) (fun _ _ _ h => h) (Or.inl ⟨by kernel_rfl, ?_⟩) (by assumption) ?_
      rotate_left
      · (intro w hSw; obtain ⟨z1, z2, z3⟩ := op_row hSw; clear hSw; go_simp; try with_reducible rfl)
      (repeat (first | simp only [Act.put] | simp only [List.setIfInBounds_toArray] | simp only [List.set_cons_succ] | simp only [List.set_cons_zero]))
      refine wpAnyH_take (i := 6) (oi := ⟨some 66, _, _, _, _, _⟩) (v := ?_) rfl (by kernel_rfl) (by kernel_rfl) (by kernel_rfl) (fun _ _ _ h => h) (Or.inl ⟨by kernel_rfl, ?_⟩) (by assumption) ?_
      rotate_left
      · (intro w hSw; obtain ⟨z1, z2, z3⟩ := op_row hSw; clear hSw; go_simp; try with_reducible rfl)
      (repeat (first | simp only [Act.put] | simp only [List.setIfInBounds_toArray] | simp only [List.set_cons_succ] | simp only [List.set_cons_zero]))
      refine wpAnyH_ready (rs := [0, 4]) (by kernel_rfl) (by simp) ?_
      refine AllReadyH.cons (o := ⟨some 60, _, _, _, _, _⟩) rfl (fun K hK => ?_) (AllReadyH.cons (o := ⟨some 64, _, _, _, _, _⟩) rfl (fun K hK => ?_) AllReadyH.nil)
      · rw [if_pos (by kernel_rfl)]
        refine wp_load_row _ _ rfl p rfl _ _ (0, 0) _ st0.out.t Try.underlying27 rfl (infoA z) ?_
        refine hK.out _ _ (by exact o0) (fun hHeld => ?_)
        clear hK K
        (repeat (first | simp only [Act.put] | simp only [List.setIfInBounds_toArray] | simp only [List.set_cons_succ] | simp only [List.set_cons_zero]))
        refine wpAnyH_ready (rs := [3, 4]) (by kernel_rfl) (by simp) ?_
        refine AllReadyH.cons (o := ⟨some 63, _, _, _, _, _⟩) rfl (fun K hK => ?_) (AllReadyH.cons (o := ⟨some 64, _, _, _, _, _⟩) rfl (fun K hK => ?_) AllReadyH.nil)
        · go_simp
          ((with_reducible refine (HDr.out _).mono ?_); rintro e v1 ⟨rfl, b1⟩)
          have st1 := Lib.hid (st0.out.below b1)
          have o1 : v1.heap[wr.heap.size]? = some (.cells #[.int .i64 1, .int .i64 y2, .int .i64 y3] 37 (0, 0)) := (b1.block _ (blk_lt o0)).trans o0
          (try go_wp2_with fail)
          refine hK.out _ _ (by exact o1) (fun hHeld => ?_)
          clear hK K
          (repeat (first | simp only [Act.put] | simp only [List.setIfInBounds_toArray] | simp only [List.set_cons_succ] | simp only [List.set_cons_zero]))
          refine wpAnyH_ready (rs := [4]) (by kernel_rfl) (by simp) ?_
          refine AllReadyH.cons (o := ⟨some 64, _, _, _, _, _⟩) rfl (fun K hK => ?_) AllReadyH.nil
          rw [if_pos (by kernel_rfl)]
          refine wp_load_row _ _ rfl (p + 1) rfl _ _ (0, 0) _ st1.out.u Try.underlying35 rfl (infoT (z 0) A L.length c) ?_
          refine hK.out _ _ (by exact o1) (fun hHeld => ?_)
          clear hK K
          (repeat (first | simp only [Act.put] | simp only [List.setIfInBounds_toArray] | simp only [List.set_cons_succ] | simp only [List.set_cons_zero]))
          refine wpAnyH_ready (rs := [7]) (by kernel_rfl) (by simp) ?_
          refine AllReadyH.cons (o := ⟨some 67, _, _, _, _, _⟩) rfl (fun K hK => ?_) AllReadyH.nil
          go_simp
          refine (HRd.out _ st1.out).mono ?_
          rintro e v2 ⟨A2, c2, rfl, b2⟩
          have st2 := Lib.hid (st1.out.below b2.out.2)
          have o2 : v2.heap[wr.heap.size]? = some (.cells #[.int .i64 1, .int .i64 y2, .int .i64 y3] 37 (0, 0)) := (b2.out.2.block _ (blk_lt o1)).trans o1
          (try go_wp2_with fail)
          refine hK.out _ _ (by exact o2) (fun hHeld => ?_)
          clear hK K
          (repeat (first | simp only [Act.put] | simp only [List.setIfInBounds_toArray] | simp only [List.set_cons_succ] | simp only [List.set_cons_zero]))
          refine wpAnyH_ready (rs := [8]) (by kernel_rfl) (by simp) ?_
          refine AllReadyH.cons (o := ⟨none, _, _, _, _, _⟩) rfl (fun K hK => ?_) AllReadyH.nil
          rw [if_pos (by kernel_rfl)]
          refine wp_store_row _ _ _ rfl p (AC (dropA z y3)) rfl rfl _ _ st2.out.t (infoA _) (by rw [AC_size, AC_size]) (AC_one _) ?_
          have o3 := row_other (g := p) (c' := AC (dropA z y3)) (show wr.heap.size ≠ p by have := HS9.out; omega) o2
          refine hK.out _ _ (by exact o3) (fun hHeld => ?_)
          clear hK K
          (repeat (first | simp only [Act.put] | simp only [List.setIfInBounds_toArray] | simp only [List.set_cons_succ] | simp only [List.set_cons_zero]))
          refine wpAnyH_ready (rs := [9]) (by kernel_rfl) (by simp) ?_
          refine AllReadyH.cons (o := ⟨none, _, _, _, _, _⟩) rfl (fun K hK => ?_) AllReadyH.nil
          rw [if_pos (by kernel_rfl)]
          have u3 := row_other (g := p) (c' := AC (dropA z y3)) (show p + 1 ≠ p by omega) st2.out.u
          refine wp_store_row _ _ _ rfl (p + 1) (T2 (z 0) A2 (dropL L y3).length c2) rfl rfl _ _ u3 (infoT _ _ _ _) rfl (one_T _ _ _ _) ?_
          have o4 := row_other (g := p + 1) (c' := T2 (z 0) A2 (dropL L y3).length c2) (show wr.heap.size ≠ p + 1 by have := HS9.out; omega) o3
          refine hK.out _ _ (by exact o4) (fun hHeld => ?_)
          clear hK K
          (repeat (first | simp only [Act.put] | simp only [List.setIfInBounds_toArray] | simp only [List.set_cons_succ] | simp only [List.set_cons_zero]))
          refine wpAnyH_done (by kernel_rfl) ?_ _
          have stF := Lib.hid (st2.out.put (z2 := dropA z y3) b2.out.1 rfl)
          have oF := (row_other (g := p + 1) (c' := T2 (z 0) A2 (dropL L y3).length c2) (show wr.heap.size ≠ p + 1 by have := HS9.out; omega) o3)
          clear hHeld
          have SM2 := Lib.hid ((hSm.out.drop y3))
          have LN2 : Hid ((dropL L y3).length ≤ k + 1) := Lib.hid (by have := drop_len L y3; have := hL.out; omega)
          have hz0 : (dropA z y3) 0 = z 0 := rfl
          generalize hzz : (dropA z y3) = z2 at *
          generalize hll : (dropL L y3) = L2 at *
          clear hzz hll
          have HZ0 := Lib.hid hz0
          have HK : Hid (∀ q u W, St w W p z2 (z 0) A2 c2 L2 → Calls Try.prog 14 #[.agg (AC z2), .agg (T2 (z 0) A2 L2.length c2), .int .i64 q, .int .i64 u] W fun e w' => e = .returned (.bool true) ∧ Below W.heap.size W w') := Lib.hid (fun q u W h => by rw [← HZ0.out]; exact like_c z2 (p + 2) A2 c2 L2 SM2.out q u W h.r (by have := LN2.out; omega))
          have HK1 := Lib.hid (HK.out r v)
          have HK2 := Lib.hid (HK.out y2 y3)
          clear HK hz0
          generalize ((v2.setRow p (AC z2)).setRow (p + 1) (T2 (z 0) A2 L2.length c2)) = WF at *
          have t5 := stF.out.t
          have u5 := stF.out.u
          go_wp2_with (first | ((with_reducible apply loadA); rfl; rfl; rfl; (focus ((repeat' (first | (with_reducible assumption) | ((with_reducible refine heap_last ?_); (focus (first | (simp; done) | omega | (simp; omega)))) | ((with_reducible refine heap_prev ?_ ?_); (focus (first | (simp; done) | omega | (simp; omega)))) | (with_reducible apply row_heap) | ((with_reducible apply tab_set); (focus (first | (simp; done) | omega | (simp; omega)))) | ((with_reducible refine sign_other ?_ ?_); (focus (first | (simp; done) | omega | (simp; omega)))) | ((with_reducible refine row_other ?_ ?_); (focus (first | (simp; done) | omega | (simp; omega)))) | (with_reducible refine drew_heap ?_) | (with_reducible refine drewN_heap ?_))); done)); skip) | ((with_reducible apply storeA); rfl; rfl; rfl; rfl; (focus ((repeat' (first | (with_reducible assumption) | ((with_reducible refine heap_last ?_); (focus (first | (simp; done) | omega | (simp; omega)))) | ((with_reducible refine heap_prev ?_ ?_); (focus (first | (simp; done) | omega | (simp; omega)))) | (with_reducible apply row_heap) | ((with_reducible apply tab_set); (focus (first | (simp; done) | omega | (simp; omega)))) | ((with_reducible refine sign_other ?_ ?_); (focus (first | (simp; done) | omega | (simp; omega)))) | ((with_reducible refine row_other ?_ ?_); (focus (first | (simp; done) | omega | (simp; omega)))) | (with_reducible refine drew_heap ?_) | (with_reducible refine drewN_heap ?_))); done)); skip) | ((with_reducible apply loadT); rfl; rfl; rfl; (focus ((repeat' (first | (with_reducible assumption) | ((with_reducible refine heap_last ?_); (focus (first | (simp; done) | omega | (simp; omega)))) | ((with_reducible refine heap_prev ?_ ?_); (focus (first | (simp; done) | omega | (simp; omega)))) | (with_reducible apply row_heap) | ((with_reducible apply tab_set); (focus (first | (simp; done) | omega | (simp; omega)))) | ((with_reducible refine sign_other ?_ ?_); (focus (first | (simp; done) | omega | (simp; omega)))) | ((with_reducible refine row_other ?_ ?_); (focus (first | (simp; done) | omega | (simp; omega)))) | (with_reducible refine drew_heap ?_) | (with_reducible refine drewN_heap ?_))); done)); skip) | ((with_reducible apply storeT); rfl; rfl; rfl; rfl; (focus ((repeat' (first | (with_reducible assumption) | ((with_reducible refine heap_last ?_); (focus (first | (simp; done) | omega | (simp; omega)))) | ((with_reducible refine heap_prev ?_ ?_); (focus (first | (simp; done) | omega | (simp; omega)))) | (with_reducible apply row_heap) | ((with_reducible apply tab_set); (focus (first | (simp; done) | omega | (simp; omega)))) | ((with_reducible refine sign_other ?_ ?_); (focus (first | (simp; done) | omega | (simp; omega)))) | ((with_reducible refine row_other ?_ ?_); (focus (first | (simp; done) | omega | (simp; omega)))) | (with_reducible refine drew_heap ?_) | (with_reducible refine drewN_heap ?_))); done)); skip) | ((with_reducible refine (HK1.out _ stF.out).mono ?_); rintro e v3 ⟨rfl, b3⟩; have st3 := Lib.hid (stF.out.below b3); have t3 := st3.out.t; have u3 := st3.out.u; have o5 := (b3.block _ (blk_lt oF)).trans oF; obtain ⟨x1, x2, x3⟩ := op_row o5) | ((with_reducible refine (HK2.out _ st3.out).mono ?_); rintro e v4 ⟨rfl, b4⟩))
          exact ⟨⟨k + 1, z2, A2, c2, L2, by omega, by go_num, SM2, LN2, Lib.hid (by rw [HZ0.out]; exact st3.out.below b4)⟩, by simp [intOf]; omega⟩
        · rw [if_pos (by kernel_rfl)]
          refine wp_load_row _ _ rfl (p + 1) rfl _ _ (0, 0) _ st0.out.u Try.underlying35 rfl (infoT (z 0) A L.length c) ?_
          refine hK.out _ _ (by exact o0) (fun hHeld => ?_)
          clear hK K
          (repeat (first | simp only [Act.put] | simp only [List.setIfInBounds_toArray] | simp only [List.set_cons_succ] | simp only [List.set_cons_zero]))
          refine wpAnyH_ready (rs := [3]) (by kernel_rfl) (by simp) ?_
          refine AllReadyH.cons (o := ⟨some 63, _, _, _, _, _⟩) rfl (fun K hK => ?_) AllReadyH.nil
          go_simp
          ((with_reducible refine (HDr.out _).mono ?_); rintro e v1 ⟨rfl, b1⟩)
          have st1 := Lib.hid (st0.out.below b1)
          have o1 : v1.heap[wr.heap.size]? = some (.cells #[.int .i64 1, .int .i64 y2, .int .i64 y3] 37 (0, 0)) := (b1.block _ (blk_lt o0)).trans o0
          (try go_wp2_with fail)
          refine hK.out _ _ (by exact o1) (fun hHeld => ?_)
          clear hK K
          (repeat (first | simp only [Act.put] | simp only [List.setIfInBounds_toArray] | simp only [List.set_cons_succ] | simp only [List.set_cons_zero]))
          refine wpAnyH_ready (rs := [7]) (by kernel_rfl) (by simp) ?_
          refine AllReadyH.cons (o := ⟨some 67, _, _, _, _, _⟩) rfl (fun K hK => ?_) AllReadyH.nil
          go_simp
          refine (HRd.out _ st1.out).mono ?_
          rintro e v2 ⟨A2, c2, rfl, b2⟩
          have st2 := Lib.hid (st1.out.below b2.out.2)
          have o2 : v2.heap[wr.heap.size]? = some (.cells #[.int .i64 1, .int .i64 y2, .int .i64 y3] 37 (0, 0)) := (b2.out.2.block _ (blk_lt o1)).trans o1
          (try go_wp2_with fail)
          refine hK.out _ _ (by exact o2) (fun hHeld => ?_)
          clear hK K
          (repeat (first | simp only [Act.put] | simp only [List.setIfInBounds_toArray] | simp only [List.set_cons_succ] | simp only [List.set_cons_zero]))
          refine wpAnyH_ready (rs := [8]) (by kernel_rfl) (by simp) ?_
          refine AllReadyH.cons (o := ⟨none, _, _, _, _, _⟩) rfl (fun K hK => ?_) AllReadyH.nil
          rw [if_pos (by kernel_rfl)]
          refine wp_store_row _ _ _ rfl p (AC (dropA z y3)) rfl rfl _ _ st2.out.t (infoA _) (by rw [AC_size, AC_size]) (AC_one _) ?_
          have o3 := row_other (g := p) (c' := AC (dropA z y3)) (show wr.heap.size ≠ p by have := HS9.out; omega) o2
          refine hK.out _ _ (by exact o3) (fun hHeld => ?_)
          clear hK K
          (repeat (first | simp only [Act.put] | simp only [List.setIfInBounds_toArray] | simp only [List.set_cons_succ] | simp only [List.set_cons_zero]))
          refine wpAnyH_ready (rs := [9]) (by kernel_rfl) (by simp) ?_
          refine AllReadyH.cons (o := ⟨none, _, _, _, _, _⟩) rfl (fun K hK => ?_) AllReadyH.nil
          rw [if_pos (by kernel_rfl)]
          have u3 := row_other (g := p) (c' := AC (dropA z y3)) (show p + 1 ≠ p by omega) st2.out.u
          refine wp_store_row _ _ _ rfl (p + 1) (T2 (z 0) A2 (dropL L y3).length c2) rfl rfl _ _ u3 (infoT _ _ _ _) rfl (one_T _ _ _ _) ?_
          have o4 := row_other (g := p + 1) (c' := T2 (z 0) A2 (dropL L y3).length c2) (show wr.heap.size ≠ p + 1 by have := HS9.out; omega) o3
          refine hK.out _ _ (by exact o4) (fun hHeld => ?_)
          clear hK K
          (repeat (first | simp only [Act.put] | simp only [List.setIfInBounds_toArray] | simp only [List.set_cons_succ] | simp only [List.set_cons_zero]))
          refine wpAnyH_done (by kernel_rfl) ?_ _
          have stF := Lib.hid (st2.out.put (z2 := dropA z y3) b2.out.1 rfl)
          have oF := (row_other (g := p + 1) (c' := T2 (z 0) A2 (dropL L y3).length c2) (show wr.heap.size ≠ p + 1 by have := HS9.out; omega) o3)
          clear hHeld
          have SM2 := Lib.hid ((hSm.out.drop y3))
          have LN2 : Hid ((dropL L y3).length ≤ k + 1) := Lib.hid (by have := drop_len L y3; have := hL.out; omega)
          have hz0 : (dropA z y3) 0 = z 0 := rfl
          generalize hzz : (dropA z y3) = z2 at *
          generalize hll : (dropL L y3) = L2 at *
          clear hzz hll
          have HZ0 := Lib.hid hz0
          have HK : Hid (∀ q u W, St w W p z2 (z 0) A2 c2 L2 → Calls Try.prog 14 #[.agg (AC z2), .agg (T2 (z 0) A2 L2.length c2), .int .i64 q, .int .i64 u] W fun e w' => e = .returned (.bool true) ∧ Below W.heap.size W w') := Lib.hid (fun q u W h => by rw [← HZ0.out]; exact like_c z2 (p + 2) A2 c2 L2 SM2.out q u W h.r (by have := LN2.out; omega))
          have HK1 := Lib.hid (HK.out r v)
          have HK2 := Lib.hid (HK.out y2 y3)
          clear HK hz0
          generalize ((v2.setRow p (AC z2)).setRow (p + 1) (T2 (z 0) A2 L2.length c2)) = WF at *
          have t5 := stF.out.t
          have u5 := stF.out.u
          go_wp2_with (first | ((with_reducible apply loadA); rfl; rfl; rfl; (focus ((repeat' (first | (with_reducible assumption) | ((with_reducible refine heap_last ?_); (focus (first | (simp; done) | omega | (simp; omega)))) | ((with_reducible refine heap_prev ?_ ?_); (focus (first | (simp; done) | omega | (simp; omega)))) | (with_reducible apply row_heap) | ((with_reducible apply tab_set); (focus (first | (simp; done) | omega | (simp; omega)))) | ((with_reducible refine sign_other ?_ ?_); (focus (first | (simp; done) | omega | (simp; omega)))) | ((with_reducible refine row_other ?_ ?_); (focus (first | (simp; done) | omega | (simp; omega)))) | (with_reducible refine drew_heap ?_) | (with_reducible refine drewN_heap ?_))); done)); skip) | ((with_reducible apply storeA); rfl; rfl; rfl; rfl; (focus ((repeat' (first | (with_reducible assumption) | ((with_reducible refine heap_last ?_); (focus (first | (simp; done) | omega | (simp; omega)))) | ((with_reducible refine heap_prev ?_ ?_); (focus (first | (simp; done) | omega | (simp; omega)))) | (with_reducible apply row_heap) | ((with_reducible apply tab_set); (focus (first | (simp; done) | omega | (simp; omega)))) | ((with_reducible refine sign_other ?_ ?_); (focus (first | (simp; done) | omega | (simp; omega)))) | ((with_reducible refine row_other ?_ ?_); (focus (first | (simp; done) | omega | (simp; omega)))) | (with_reducible refine drew_heap ?_) | (with_reducible refine drewN_heap ?_))); done)); skip) | ((with_reducible apply loadT); rfl; rfl; rfl; (focus ((repeat' (first | (with_reducible assumption) | ((with_reducible refine heap_last ?_); (focus (first | (simp; done) | omega | (simp; omega)))) | ((with_reducible refine heap_prev ?_ ?_); (focus (first | (simp; done) | omega | (simp; omega)))) | (with_reducible apply row_heap) | ((with_reducible apply tab_set); (focus (first | (simp; done) | omega | (simp; omega)))) | ((with_reducible refine sign_other ?_ ?_); (focus (first | (simp; done) | omega | (simp; omega)))) | ((with_reducible refine row_other ?_ ?_); (focus (first | (simp; done) | omega | (simp; omega)))) | (with_reducible refine drew_heap ?_) | (with_reducible refine drewN_heap ?_))); done)); skip) | ((with_reducible apply storeT); rfl; rfl; rfl; rfl; (focus ((repeat' (first | (with_reducible assumption) | ((with_reducible refine heap_last ?_); (focus (first | (simp; done) | omega | (simp; omega)))) | ((with_reducible refine heap_prev ?_ ?_); (focus (first | (simp; done) | omega | (simp; omega)))) | (with_reducible apply row_heap) | ((with_reducible apply tab_set); (focus (first | (simp; done) | omega | (simp; omega)))) | ((with_reducible refine sign_other ?_ ?_); (focus (first | (simp; done) | omega | (simp; omega)))) | ((with_reducible refine row_other ?_ ?_); (focus (first | (simp; done) | omega | (simp; omega)))) | (with_reducible refine drew_heap ?_) | (with_reducible refine drewN_heap ?_))); done)); skip) | ((with_reducible refine (HK1.out _ stF.out).mono ?_); rintro e v3 ⟨rfl, b3⟩; have st3 := Lib.hid (stF.out.below b3); have t3 := st3.out.t; have u3 := st3.out.u; have o5 := (b3.block _ (blk_lt oF)).trans oF; obtain ⟨x1, x2, x3⟩ := op_row o5) | ((with_reducible refine (HK2.out _ st3.out).mono ?_); rintro e v4 ⟨rfl, b4⟩))
          exact ⟨⟨k + 1, z2, A2, c2, L2, by omega, by go_num, SM2, LN2, Lib.hid (by rw [HZ0.out]; exact st3.out.below b4)⟩, by simp [intOf]; omega⟩
      · rw [if_pos (by kernel_rfl)]
        refine wp_load_row _ _ rfl (p + 1) rfl _ _ (0, 0) _ st0.out.u Try.underlying35 rfl (infoT (z 0) A L.length c) ?_
        refine hK.out _ _ (by exact o0) (fun hHeld => ?_)
        clear hK K
        (repeat (first | simp only [Act.put] | simp only [List.setIfInBounds_toArray] | simp only [List.set_cons_succ] | simp only [List.set_cons_zero]))
        refine wpAnyH_ready (rs := [0]) (by kernel_rfl) (by simp) ?_
        refine AllReadyH.cons (o := ⟨some 60, _, _, _, _, _⟩) rfl (fun K hK => ?_) AllReadyH.nil
        rw [if_pos (by kernel_rfl)]
        refine wp_load_row _ _ rfl p rfl _ _ (0, 0) _ st0.out.t Try.underlying27 rfl (infoA z) ?_
        refine hK.out _ _ (by exact o0) (fun hHeld => ?_)
        clear hK K
        (repeat (first | simp only [Act.put] | simp only [List.setIfInBounds_toArray] | simp only [List.set_cons_succ] | simp only [List.set_cons_zero]))
        refine wpAnyH_ready (rs := [3]) (by kernel_rfl) (by simp) ?_
        refine AllReadyH.cons (o := ⟨some 63, _, _, _, _, _⟩) rfl (fun K hK => ?_) AllReadyH.nil
        go_simp
        ((with_reducible refine (HDr.out _).mono ?_); rintro e v1 ⟨rfl, b1⟩)
        have st1 := Lib.hid (st0.out.below b1)
        have o1 : v1.heap[wr.heap.size]? = some (.cells #[.int .i64 1, .int .i64 y2, .int .i64 y3] 37 (0, 0)) := (b1.block _ (blk_lt o0)).trans o0
        (try go_wp2_with fail)
        refine hK.out _ _ (by exact o1) (fun hHeld => ?_)
        clear hK K
        (repeat (first | simp only [Act.put] | simp only [List.setIfInBounds_toArray] | simp only [List.set_cons_succ] | simp only [List.set_cons_zero]))
        refine wpAnyH_ready (rs := [7]) (by kernel_rfl) (by simp) ?_
        refine AllReadyH.cons (o := ⟨some 67, _, _, _, _, _⟩) rfl (fun K hK => ?_) AllReadyH.nil
        go_simp
        refine (HRd.out _ st1.out).mono ?_
        rintro e v2 ⟨A2, c2, rfl, b2⟩
        have st2 := Lib.hid (st1.out.below b2.out.2)
        have o2 : v2.heap[wr.heap.size]? = some (.cells #[.int .i64 1, .int .i64 y2, .int .i64 y3] 37 (0, 0)) := (b2.out.2.block _ (blk_lt o1)).trans o1
        (try go_wp2_with fail)
        refine hK.out _ _ (by exact o2) (fun hHeld => ?_)
        clear hK K
        (repeat (first | simp only [Act.put] | simp only [List.setIfInBounds_toArray] | simp only [List.set_cons_succ] | simp only [List.set_cons_zero]))
        refine wpAnyH_ready (rs := [8]) (by kernel_rfl) (by simp) ?_
        refine AllReadyH.cons (o := ⟨none, _, _, _, _, _⟩) rfl (fun K hK => ?_) AllReadyH.nil
        rw [if_pos (by kernel_rfl)]
        refine wp_store_row _ _ _ rfl p (AC (dropA z y3)) rfl rfl _ _ st2.out.t (infoA _) (by rw [AC_size, AC_size]) (AC_one _) ?_
        have o3 := row_other (g := p) (c' := AC (dropA z y3)) (show wr.heap.size ≠ p by have := HS9.out; omega) o2
        refine hK.out _ _ (by exact o3) (fun hHeld => ?_)
        clear hK K
        (repeat (first | simp only [Act.put] | simp only [List.setIfInBounds_toArray] | simp only [List.set_cons_succ] | simp only [List.set_cons_zero]))
        refine wpAnyH_ready (rs := [9]) (by kernel_rfl) (by simp) ?_
        refine AllReadyH.cons (o := ⟨none, _, _, _, _, _⟩) rfl (fun K hK => ?_) AllReadyH.nil
        rw [if_pos (by kernel_rfl)]
        have u3 := row_other (g := p) (c' := AC (dropA z y3)) (show p + 1 ≠ p by omega) st2.out.u
        refine wp_store_row _ _ _ rfl (p + 1) (T2 (z 0) A2 (dropL L y3).length c2) rfl rfl _ _ u3 (infoT _ _ _ _) rfl (one_T _ _ _ _) ?_
        have o4 := row_other (g := p + 1) (c' := T2 (z 0) A2 (dropL L y3).length c2) (show wr.heap.size ≠ p + 1 by have := HS9.out; omega) o3
        refine hK.out _ _ (by exact o4) (fun hHeld => ?_)
        clear hK K
        (repeat (first | simp only [Act.put] | simp only [List.setIfInBounds_toArray] | simp only [List.set_cons_succ] | simp only [List.set_cons_zero]))
        refine wpAnyH_done (by kernel_rfl) ?_ _
        have stF := Lib.hid (st2.out.put (z2 := dropA z y3) b2.out.1 rfl)
        have oF := (row_other (g := p + 1) (c' := T2 (z 0) A2 (dropL L y3).length c2) (show wr.heap.size ≠ p + 1 by have := HS9.out; omega) o3)
        clear hHeld
        have SM2 := Lib.hid ((hSm.out.drop y3))
        have LN2 : Hid ((dropL L y3).length ≤ k + 1) := Lib.hid (by have := drop_len L y3; have := hL.out; omega)
        have hz0 : (dropA z y3) 0 = z 0 := rfl
        generalize hzz : (dropA z y3) = z2 at *
        generalize hll : (dropL L y3) = L2 at *
        clear hzz hll
        have HZ0 := Lib.hid hz0
        have HK : Hid (∀ q u W, St w W p z2 (z 0) A2 c2 L2 → Calls Try.prog 14 #[.agg (AC z2), .agg (T2 (z 0) A2 L2.length c2), .int .i64 q, .int .i64 u] W fun e w' => e = .returned (.bool true) ∧ Below W.heap.size W w') := Lib.hid (fun q u W h => by rw [← HZ0.out]; exact like_c z2 (p + 2) A2 c2 L2 SM2.out q u W h.r (by have := LN2.out; omega))
        have HK1 := Lib.hid (HK.out r v)
        have HK2 := Lib.hid (HK.out y2 y3)
        clear HK hz0
        generalize ((v2.setRow p (AC z2)).setRow (p + 1) (T2 (z 0) A2 L2.length c2)) = WF at *
        have t5 := stF.out.t
        have u5 := stF.out.u
        go_wp2_with (first | ((with_reducible apply loadA); rfl; rfl; rfl; (focus ((repeat' (first | (with_reducible assumption) | ((with_reducible refine heap_last ?_); (focus (first | (simp; done) | omega | (simp; omega)))) | ((with_reducible refine heap_prev ?_ ?_); (focus (first | (simp; done) | omega | (simp; omega)))) | (with_reducible apply row_heap) | ((with_reducible apply tab_set); (focus (first | (simp; done) | omega | (simp; omega)))) | ((with_reducible refine sign_other ?_ ?_); (focus (first | (simp; done) | omega | (simp; omega)))) | ((with_reducible refine row_other ?_ ?_); (focus (first | (simp; done) | omega | (simp; omega)))) | (with_reducible refine drew_heap ?_) | (with_reducible refine drewN_heap ?_))); done)); skip) | ((with_reducible apply storeA); rfl; rfl; rfl; rfl; (focus ((repeat' (first | (with_reducible assumption) | ((with_reducible refine heap_last ?_); (focus (first | (simp; done) | omega | (simp; omega)))) | ((with_reducible refine heap_prev ?_ ?_); (focus (first | (simp; done) | omega | (simp; omega)))) | (with_reducible apply row_heap) | ((with_reducible apply tab_set); (focus (first | (simp; done) | omega | (simp; omega)))) | ((with_reducible refine sign_other ?_ ?_); (focus (first | (simp; done) | omega | (simp; omega)))) | ((with_reducible refine row_other ?_ ?_); (focus (first | (simp; done) | omega | (simp; omega)))) | (with_reducible refine drew_heap ?_) | (with_reducible refine drewN_heap ?_))); done)); skip) | ((with_reducible apply loadT); rfl; rfl; rfl; (focus ((repeat' (first | (with_reducible assumption) | ((with_reducible refine heap_last ?_); (focus (first | (simp; done) | omega | (simp; omega)))) | ((with_reducible refine heap_prev ?_ ?_); (focus (first | (simp; done) | omega | (simp; omega)))) | (with_reducible apply row_heap) | ((with_reducible apply tab_set); (focus (first | (simp; done) | omega | (simp; omega)))) | ((with_reducible refine sign_other ?_ ?_); (focus (first | (simp; done) | omega | (simp; omega)))) | ((with_reducible refine row_other ?_ ?_); (focus (first | (simp; done) | omega | (simp; omega)))) | (with_reducible refine drew_heap ?_) | (with_reducible refine drewN_heap ?_))); done)); skip) | ((with_reducible apply storeT); rfl; rfl; rfl; rfl; (focus ((repeat' (first | (with_reducible assumption) | ((with_reducible refine heap_last ?_); (focus (first | (simp; done) | omega | (simp; omega)))) | ((with_reducible refine heap_prev ?_ ?_); (focus (first | (simp; done) | omega | (simp; omega)))) | (with_reducible apply row_heap) | ((with_reducible apply tab_set); (focus (first | (simp; done) | omega | (simp; omega)))) | ((with_reducible refine sign_other ?_ ?_); (focus (first | (simp; done) | omega | (simp; omega)))) | ((with_reducible refine row_other ?_ ?_); (focus (first | (simp; done) | omega | (simp; omega)))) | (with_reducible refine drew_heap ?_) | (with_reducible refine drewN_heap ?_))); done)); skip) | ((with_reducible refine (HK1.out _ stF.out).mono ?_); rintro e v3 ⟨rfl, b3⟩; have st3 := Lib.hid (stF.out.below b3); have t3 := st3.out.t; have u3 := st3.out.u; have o5 := (b3.block _ (blk_lt oF)).trans oF; obtain ⟨x1, x2, x3⟩ := op_row o5) | ((with_reducible refine (HK2.out _ st3.out).mono ?_); rintro e v4 ⟨rfl, b4⟩))
        exact ⟨⟨k + 1, z2, A2, c2, L2, by omega, by go_num, SM2, LN2, Lib.hid (by rw [HZ0.out]; exact st3.out.below b4)⟩, by simp [intOf]; omega⟩
    obtain ⟨z2, L2, cd, HAd, HRa, SM2, LN2, hz0⟩ : ∃ (z2 : Ta) (L2 : Al) (cd : Int), Hid (∀ W, Calls Try.prog 12 #[.agg (AC z), .int .i64 y2, .int .i64 y3] W fun e w' => e = .returned (.tuple #[.agg (AC z2), .int .i64 cd]) ∧ Below W.heap.size W w')
        ∧ Hid (∀ W, St w W p z (z 0) A c L → Calls Try.prog 13 #[.agg (T2 (z 0) A L.length c), .int .i64 y2, .int .i64 y3] W fun e w' => ∃ A' c', e = .returned (.tuple #[.agg (T2 (z 0) A' L2.length c'), .int .i64 cd]) ∧ Hid (RL w' (p + 2) A' c' L2 ∧ Below W.heap.size W w'))
        ∧ Hid (Sm z2 L2) ∧ Hid (L2.length ≤ k + 1) ∧ z2 0 = z 0 := by
      by_cases hg : (0 ≤ y2 ∧ y2 < (z 0 : Int)) ∧ 1 ≤ y3 ∧ y3 ≤ 32
      · refine ⟨addA z y2 y3, addL L y2 y3, 0, Lib.hid (fun W => ?_), Lib.hid (fun W h => ?_), Lib.hid (hSm.out.add hg.1 hg.2), Lib.hid ?_, ?_⟩
        · have h9 := add_c z hSm.out.tb y2 y3 W
          rwa [if_pos hg, if_pos hg] at h9
        · exact rAdd_put (z 0) (p + 2) A c L y2 y3 W h.r h.s (by have := HLn.out; omega) hg.1 hg.2
        · have := hL.out; unfold addL; simp; omega
        · unfold addA; exact updA_other _ _ _ _ (by omega)
      · refine ⟨z, L, 2, Lib.hid (fun W => ?_), Lib.hid (fun W h => ?_), hSm, Lib.hid ?_, rfl⟩
        · have h9 := add_c z hSm.out.tb y2 y3 W
          rwa [if_neg hg, if_neg hg] at h9
        · refine (rAdd_no (z 0) A L.length c y2 y3 W hg).mono ?_
          rintro e w' ⟨he, hb⟩
          exact ⟨A, c, he, Lib.hid ⟨h.r.below hb, hb⟩⟩
        · have := hL.out; omega
    dsimp only at d0 d1 d2
    have HZ0 := Lib.hid hz0
    have hs9 : p + 2 ≤ wr.heap.size := hst.out.s
    have o0 : (wr.alloc (.cells #[.int .i64 y1, .int .i64 y2, .int .i64 y3] 37)).heap[wr.heap.size]? = some (.cells #[.int .i64 y1, .int .i64 y2, .int .i64 y3] 37 (0, 0)) := heap_alloc_new wr _
    have st0 := Lib.hid (hst.out.below ((Below.refl _ _).alloc (Nat.le_refl _) (.cells #[.int .i64 y1, .int .i64 y2, .int .i64 y3] 37)))
    clear hz0 HDr HRd
    go_wp2_with (first | ((with_reducible apply loadA); rfl; rfl; rfl; (focus ((repeat' (first | (with_reducible assumption) | ((with_reducible refine heap_last ?_); (focus (first | (simp; done) | omega | (simp; omega)))) | ((with_reducible refine heap_prev ?_ ?_); (focus (first | (simp; done) | omega | (simp; omega)))) | (with_reducible apply row_heap) | ((with_reducible apply tab_set); (focus (first | (simp; done) | omega | (simp; omega)))) | ((with_reducible refine sign_other ?_ ?_); (focus (first | (simp; done) | omega | (simp; omega)))) | ((with_reducible refine row_other ?_ ?_); (focus (first | (simp; done) | omega | (simp; omega)))) | (with_reducible refine drew_heap ?_) | (with_reducible refine drewN_heap ?_))); done)); skip) | ((with_reducible apply storeA); rfl; rfl; rfl; rfl; (focus ((repeat' (first | (with_reducible assumption) | ((with_reducible refine heap_last ?_); (focus (first | (simp; done) | omega | (simp; omega)))) | ((with_reducible refine heap_prev ?_ ?_); (focus (first | (simp; done) | omega | (simp; omega)))) | (with_reducible apply row_heap) | ((with_reducible apply tab_set); (focus (first | (simp; done) | omega | (simp; omega)))) | ((with_reducible refine sign_other ?_ ?_); (focus (first | (simp; done) | omega | (simp; omega)))) | ((with_reducible refine row_other ?_ ?_); (focus (first | (simp; done) | omega | (simp; omega)))) | (with_reducible refine drew_heap ?_) | (with_reducible refine drewN_heap ?_))); done)); skip) | ((with_reducible apply loadT); rfl; rfl; rfl; (focus ((repeat' (first | (with_reducible assumption) | ((with_reducible refine heap_last ?_); (focus (first | (simp; done) | omega | (simp; omega)))) | ((with_reducible refine heap_prev ?_ ?_); (focus (first | (simp; done) | omega | (simp; omega)))) | (with_reducible apply row_heap) | ((with_reducible apply tab_set); (focus (first | (simp; done) | omega | (simp; omega)))) | ((with_reducible refine sign_other ?_ ?_); (focus (first | (simp; done) | omega | (simp; omega)))) | ((with_reducible refine row_other ?_ ?_); (focus (first | (simp; done) | omega | (simp; omega)))) | (with_reducible refine drew_heap ?_) | (with_reducible refine drewN_heap ?_))); done)); skip) | ((with_reducible apply storeT); rfl; rfl; rfl; rfl; (focus ((repeat' (first | (with_reducible assumption) | ((with_reducible refine heap_last ?_); (focus (first | (simp; done) | omega | (simp; omega)))) | ((with_reducible refine heap_prev ?_ ?_); (focus (first | (simp; done) | omega | (simp; omega)))) | (with_reducible apply row_heap) | ((with_reducible apply tab_set); (focus (first | (simp; done) | omega | (simp; omega)))) | ((with_reducible refine sign_other ?_ ?_); (focus (first | (simp; done) | omega | (simp; omega)))) | ((with_reducible refine row_other ?_ ?_); (focus (first | (simp; done) | omega | (simp; omega)))) | (with_reducible refine drew_heap ?_) | (with_reducible refine drewN_heap ?_))); done)); skip) | ((with_reducible refine (HAd.out _).mono ?_); rintro e v1 ⟨rfl, b1⟩; have st1 := Lib.hid (st0.out.below b1); have o1 := (b1.block _ (blk_lt o0)).trans o0; have u1 := st1.out.u; have s1 := st1.out.s; have so := blk_lt o1; have o2 : ((v1.alloc (Obj.cells (AC zA) 27)).setRow v1.heap.size (AC z2)).heap[wr.heap.size]? = some (.cells #[.int .i64 y1, .int .i64 y2, .int .i64 y3] 37 (0, 0)) := (by rw [setRow_other _ _ _ _ (by omega)]; exact heap_prev so o1); obtain ⟨x1, x2, x3⟩ := op_row o2))
    have stX := Lib.hid (st1.out.below (Below.row ((Below.refl _ _).alloc (Nat.le_refl _) (.cells (AC zA) 27)) (Nat.le_refl _) (AC z2)))
    have t14 : ((v1.alloc (Obj.cells (AC zA) 27)).setRow v1.heap.size (AC z2)).heap[v1.heap.size]? = some (.cells (AC z2) 27 (0, 0)) := row_heap (heap_alloc_new v1 _)
    generalize ((v1.alloc (Obj.cells (AC zA) 27)).setRow v1.heap.size (AC z2)) = X1 at *
    refine (HRa.out _ stX.out).mono ?_
    rintro e v2 ⟨A2, c2, rfl, b2⟩
    have st2 := Lib.hid (stX.out.below b2.out.2)
    have p14 : v2.heap[v1.heap.size]? = some (.cells (AC z2) 27 (0, 0)) := (b2.out.2.block _ (blk_lt t14)).trans t14
    have o3 : v2.heap[wr.heap.size]? = some (.cells #[.int .i64 y1, .int .i64 y2, .int .i64 y3] 37 (0, 0)) := (b2.out.2.block _ (blk_lt o2)).trans o2
    have s14 := blk_lt p14
    have so3 := blk_lt o3
    clear o0 o1 o2 x1 x2 x3 u1 st0 st1 b1 t14 so
    go_wp2_with (first | ((with_reducible apply loadA); rfl; rfl; rfl; (focus ((repeat' (first | (with_reducible assumption) | ((with_reducible refine heap_last ?_); (focus (first | (simp; done) | omega | (simp; omega)))) | ((with_reducible refine heap_prev ?_ ?_); (focus (first | (simp; done) | omega | (simp; omega)))) | (with_reducible apply row_heap) | ((with_reducible apply tab_set); (focus (first | (simp; done) | omega | (simp; omega)))) | ((with_reducible refine sign_other ?_ ?_); (focus (first | (simp; done) | omega | (simp; omega)))) | ((with_reducible refine row_other ?_ ?_); (focus (first | (simp; done) | omega | (simp; omega)))) | (with_reducible refine drew_heap ?_) | (with_reducible refine drewN_heap ?_))); done)); skip) | ((with_reducible apply storeA); rfl; rfl; rfl; rfl; (focus ((repeat' (first | (with_reducible assumption) | ((with_reducible refine heap_last ?_); (focus (first | (simp; done) | omega | (simp; omega)))) | ((with_reducible refine heap_prev ?_ ?_); (focus (first | (simp; done) | omega | (simp; omega)))) | (with_reducible apply row_heap) | ((with_reducible apply tab_set); (focus (first | (simp; done) | omega | (simp; omega)))) | ((with_reducible refine sign_other ?_ ?_); (focus (first | (simp; done) | omega | (simp; omega)))) | ((with_reducible refine row_other ?_ ?_); (focus (first | (simp; done) | omega | (simp; omega)))) | (with_reducible refine drew_heap ?_) | (with_reducible refine drewN_heap ?_))); done)); skip) | ((with_reducible apply loadT); rfl; rfl; rfl; (focus ((repeat' (first | (with_reducible assumption) | ((with_reducible refine heap_last ?_); (focus (first | (simp; done) | omega | (simp; omega)))) | ((with_reducible refine heap_prev ?_ ?_); (focus (first | (simp; done) | omega | (simp; omega)))) | (with_reducible apply row_heap) | ((with_reducible apply tab_set); (focus (first | (simp; done) | omega | (simp; omega)))) | ((with_reducible refine sign_other ?_ ?_); (focus (first | (simp; done) | omega | (simp; omega)))) | ((with_reducible refine row_other ?_ ?_); (focus (first | (simp; done) | omega | (simp; omega)))) | (with_reducible refine drew_heap ?_) | (with_reducible refine drewN_heap ?_))); done)); skip) | ((with_reducible apply storeT); rfl; rfl; rfl; rfl; (focus ((repeat' (first | (with_reducible assumption) | ((with_reducible refine heap_last ?_); (focus (first | (simp; done) | omega | (simp; omega)))) | ((with_reducible refine heap_prev ?_ ?_); (focus (first | (simp; done) | omega | (simp; omega)))) | (with_reducible apply row_heap) | ((with_reducible apply tab_set); (focus (first | (simp; done) | omega | (simp; omega)))) | ((with_reducible refine sign_other ?_ ?_); (focus (first | (simp; done) | omega | (simp; omega)))) | ((with_reducible refine row_other ?_ ?_); (focus (first | (simp; done) | omega | (simp; omega)))) | (with_reducible refine drew_heap ?_) | (with_reducible refine drewN_heap ?_))); done)); skip))
    have stY := Lib.hid (st2.out.below (Below.row ((Below.refl _ _).alloc (Nat.le_refl _) (.cells #[.int .i64 0, .slice none 0 0] 35)) (Nat.le_refl _) (T2 (z 0) A2 L2.length c2)))
    have rY : Hid (RL ((v2.alloc (.cells #[.int .i64 0, .slice none 0 0] 35)).setRow v2.heap.size (T2 (z 0) A2 L2.length c2)) (p + 2) A2 c2 L2) := Lib.hid (b2.out.1.below (Below.row ((Below.refl _ _).alloc (Nat.le_refl _) (.cells #[.int .i64 0, .slice none 0 0] 35)) (Nat.le_refl _) (T2 (z 0) A2 L2.length c2)))
    have q14 : ((v2.alloc (.cells #[.int .i64 0, .slice none 0 0] 35)).setRow v2.heap.size (T2 (z 0) A2 L2.length c2)).heap[v1.heap.size]? = some (.cells (AC z2) 27 (0, 0)) := row_other (by omega) (heap_prev s14 p14)
    have q16 : ((v2.alloc (.cells #[.int .i64 0, .slice none 0 0] 35)).setRow v2.heap.size (T2 (z 0) A2 L2.length c2)).heap[v2.heap.size]? = some (.cells (T2 (z 0) A2 L2.length c2) 35 (0, 0)) := row_heap (heap_alloc_new v2 _)
    have oY : ((v2.alloc (.cells #[.int .i64 0, .slice none 0 0] 35)).setRow v2.heap.size (T2 (z 0) A2 L2.length c2)).heap[wr.heap.size]? = some (.cells #[.int .i64 y1, .int .i64 y2, .int .i64 y3] 37 (0, 0)) := row_other (by omega) (heap_prev so3 o3)
    have n14 : p + 2 ≤ v1.heap.size := s1
    have n16 : v1.heap.size < v2.heap.size := s14
    generalize ((v2.alloc (.cells #[.int .i64 0, .slice none 0 0] 35)).setRow v2.heap.size (T2 (z 0) A2 L2.length c2)) = Y at *
    have stD := Lib.hid (stY.out.below ((Below.refl _ Y).drew))
    have rD : Hid (RL Y.drew (p + 2) A2 c2 L2) := rY
    clear stY rY st2 b2 p14 o3 stX
    refine wp_region_held_drew (S := fun W => W.heap[v1.heap.size]? = some (.cells (AC z2) 27 (0, 0)) ∧ W.heap[v2.heap.size]? = some (.cells (T2 (z 0) A2 L2.length c2) 35 (0, 0))) (by kernel_rfl) ⟨q14, q16⟩ (fun hHeld => ?_)
    replace q14 : Y.drew.heap[v1.heap.size]? = some (.cells (AC z2) 27 (0, 0)) := q14
    replace q16 : Y.drew.heap[v2.heap.size]? = some (.cells (T2 (z 0) A2 L2.length c2) 35 (0, 0)) := q16
    replace oY : Y.drew.heap[wr.heap.size]? = some (.cells #[.int .i64 y1, .int .i64 y2, .int .i64 y3] 37 (0, 0)) := oY
    generalize Y.drew = Z at *
    refine wpAnyH_take (i := 0) (oi := ⟨some 89, _, _, _, _, _⟩) (v := (.agg (AC z2))) rfl (by kernel_rfl) (by kernel_rfl) (by kernel_rfl) (fun _ _ _ h => h) ?_ (by assumption) ?_
    · (apply yieldA; (focus kernel_rfl); rfl; rfl; intro w hS; exact hS.1)
    (repeat (first | simp only [Act.put] | simp only [List.setIfInBounds_toArray] | simp only [List.set_cons_succ] | simp only [List.set_cons_zero]))
    refine wpAnyH_take (i := 1) (oi := ⟨some 90, _, _, _, _, _⟩) (v := (.agg (T2 (z 0) A2 L2.length c2))) rfl (by kernel_rfl) (by kernel_rfl) (by kernel_rfl) (fun _ _ _ h => h) ?_ (by assumption) ?_
    · (apply yieldT; (focus kernel_rfl); rfl; rfl; intro w hS; exact hS.2)
    (repeat (first | simp only [Act.put] | simp only [List.setIfInBounds_toArray] | simp only [List.set_cons_succ] | simp only [List.set_cons_zero]))
    refine wpAnyH_ready (rs := [2]) (by kernel_rfl) (by simp) ?_
    refine AllReadyH.cons (o := ⟨none, _, _, _, _, _⟩) rfl (fun K hK => ?_) AllReadyH.nil
    rw [if_pos (by kernel_rfl)]
    refine wp_store_row _ _ _ rfl p (AC z2) rfl rfl _ _ stD.out.t (infoA _) (by rw [AC_size, AC_size]) (AC_one _) ?_
    refine hK.out _ _ (by exact ⟨row_other (by omega) q14, row_other (by omega) q16⟩) (fun hHeld => ?_)
    clear hK K
    (repeat (first | simp only [Act.put] | simp only [List.setIfInBounds_toArray] | simp only [List.set_cons_succ] | simp only [List.set_cons_zero]))
    refine wpAnyH_ready (rs := [3]) (by kernel_rfl) (by simp) ?_
    refine AllReadyH.cons (o := ⟨none, _, _, _, _, _⟩) rfl (fun K hK => ?_) AllReadyH.nil
    rw [if_pos (by kernel_rfl)]
    have u3 := row_other (g := p) (c' := AC z2) (show p + 1 ≠ p by omega) stD.out.u
    refine wp_store_row _ _ _ rfl (p + 1) (T2 (z 0) A2 L2.length c2) rfl rfl _ _ u3 (infoT _ _ _ _) rfl (one_T _ _ _ _) ?_
    refine hK.out _ _ (by exact ⟨row_other (by omega) (row_other (by omega) q14), row_other (by omega) (row_other (by omega) q16)⟩) (fun hHeld => ?_)
    clear hK K
    (repeat (first | simp only [Act.put] | simp only [List.setIfInBounds_toArray] | simp only [List.set_cons_succ] | simp only [List.set_cons_zero]))
    refine wpAnyH_done (by kernel_rfl) ?_ _
    have stF := Lib.hid (stD.out.put rD.out HZ0.out)
    have oF := row_other (g := p + 1) (c' := T2 (z 0) A2 L2.length c2) (show wr.heap.size ≠ p + 1 by omega) (row_other (g := p) (c' := AC z2) (show wr.heap.size ≠ p by omega) oY)
    clear hHeld q14 q16 oY
    have HK : Hid (∀ q u W, St w W p z2 (z 0) A2 c2 L2 → Calls Try.prog 14 #[.agg (AC z2), .agg (T2 (z 0) A2 L2.length c2), .int .i64 q, .int .i64 u] W fun e w' => e = .returned (.bool true) ∧ Below W.heap.size W w') := Lib.hid (fun q u W h => by rw [← HZ0.out]; exact like_c z2 (p + 2) A2 c2 L2 SM2.out q u W h.r (by have := LN2.out; omega))
    have HK1 := Lib.hid (HK.out r v)
    have HK2 := Lib.hid (HK.out y2 y3)
    clear HK
    generalize ((Z.setRow p (AC z2)).setRow (p + 1) (T2 (z 0) A2 L2.length c2)) = WF at *
    have t5 := stF.out.t
    have u5 := stF.out.u
    go_wp2_with (first | ((with_reducible apply loadA); rfl; rfl; rfl; (focus ((repeat' (first | (with_reducible assumption) | ((with_reducible refine heap_last ?_); (focus (first | (simp; done) | omega | (simp; omega)))) | ((with_reducible refine heap_prev ?_ ?_); (focus (first | (simp; done) | omega | (simp; omega)))) | (with_reducible apply row_heap) | ((with_reducible apply tab_set); (focus (first | (simp; done) | omega | (simp; omega)))) | ((with_reducible refine sign_other ?_ ?_); (focus (first | (simp; done) | omega | (simp; omega)))) | ((with_reducible refine row_other ?_ ?_); (focus (first | (simp; done) | omega | (simp; omega)))) | (with_reducible refine drew_heap ?_) | (with_reducible refine drewN_heap ?_))); done)); skip) | ((with_reducible apply storeA); rfl; rfl; rfl; rfl; (focus ((repeat' (first | (with_reducible assumption) | ((with_reducible refine heap_last ?_); (focus (first | (simp; done) | omega | (simp; omega)))) | ((with_reducible refine heap_prev ?_ ?_); (focus (first | (simp; done) | omega | (simp; omega)))) | (with_reducible apply row_heap) | ((with_reducible apply tab_set); (focus (first | (simp; done) | omega | (simp; omega)))) | ((with_reducible refine sign_other ?_ ?_); (focus (first | (simp; done) | omega | (simp; omega)))) | ((with_reducible refine row_other ?_ ?_); (focus (first | (simp; done) | omega | (simp; omega)))) | (with_reducible refine drew_heap ?_) | (with_reducible refine drewN_heap ?_))); done)); skip) | ((with_reducible apply loadT); rfl; rfl; rfl; (focus ((repeat' (first | (with_reducible assumption) | ((with_reducible refine heap_last ?_); (focus (first | (simp; done) | omega | (simp; omega)))) | ((with_reducible refine heap_prev ?_ ?_); (focus (first | (simp; done) | omega | (simp; omega)))) | (with_reducible apply row_heap) | ((with_reducible apply tab_set); (focus (first | (simp; done) | omega | (simp; omega)))) | ((with_reducible refine sign_other ?_ ?_); (focus (first | (simp; done) | omega | (simp; omega)))) | ((with_reducible refine row_other ?_ ?_); (focus (first | (simp; done) | omega | (simp; omega)))) | (with_reducible refine drew_heap ?_) | (with_reducible refine drewN_heap ?_))); done)); skip) | ((with_reducible apply storeT); rfl; rfl; rfl; rfl; (focus ((repeat' (first | (with_reducible assumption) | ((with_reducible refine heap_last ?_); (focus (first | (simp; done) | omega | (simp; omega)))) | ((with_reducible refine heap_prev ?_ ?_); (focus (first | (simp; done) | omega | (simp; omega)))) | (with_reducible apply row_heap) | ((with_reducible apply tab_set); (focus (first | (simp; done) | omega | (simp; omega)))) | ((with_reducible refine sign_other ?_ ?_); (focus (first | (simp; done) | omega | (simp; omega)))) | ((with_reducible refine row_other ?_ ?_); (focus (first | (simp; done) | omega | (simp; omega)))) | (with_reducible refine drew_heap ?_) | (with_reducible refine drewN_heap ?_))); done)); skip) | ((with_reducible refine (HK1.out _ stF.out).mono ?_); rintro e v3 ⟨rfl, b3⟩; have st3 := Lib.hid (stF.out.below b3); have t3 := st3.out.t; have u3 := st3.out.u; have o5 := (b3.block _ (blk_lt oF)).trans oF; obtain ⟨x1, x2, x3⟩ := op_row o5) | ((with_reducible refine (HK2.out _ st3.out).mono ?_); rintro e v4 ⟨rfl, b4⟩))
    exact ⟨⟨k + 1, z2, A2, c2, L2, by omega, by go_num, SM2, LN2, Lib.hid (by rw [HZ0.out]; exact st3.out.below b4)⟩, by simp [intOf]; omega⟩
end Go.Proofs.Ythbocddkomhpoaa
