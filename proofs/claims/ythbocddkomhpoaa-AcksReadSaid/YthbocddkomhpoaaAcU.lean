/- acks: the reference's Add: append behind append, in all orders. (By mkacu.py.) -/
import Derived.Test.YthbocddkomhpoaaAcS
namespace Go.Proofs.Ythbocddkomhpoaa
open Go.RowKit Go.Lib

section
variable {ops : Array Oper} {rest : List Oper} {o : Oper} {a : Act} {w : World} {Q : Exit → Act → World → Prop}
abbrev T2 (n : Int) (A : Option Addr) (k c : Nat) : Array Value := #[.int .i64 n, .slice A k c]
theorem infoT (n : Int) (A : Option Addr) (k c : Nat) : (Try.prog.info? 35).map (·.size) = some (T2 n A k c).size := by kernel_rfl
theorem one_T (n : Int) (A : Option Addr) (k c : Nat) : (T2 n A k c).all (·.oneCell') = true := by simp [T2, Value.oneCell']
theorem loadT (hgd : Region.wanted o (yielded ops a.tmps) = true) (x : Operand) (ho : o.op = .load 35 x) (g : Nat) (hx : a.eval x = .pointer (some ⟨g, 0, none⟩)) (n : Int) (A : Option Addr) (k c : Nat) (t : TypeId)
    (hg : w.heap[g]? = some (.cells (T2 n A k c) t (0, 0))) (h : wpList Try.prog ops Q rest (a.put o.dst (.agg (T2 n A k c))) w) : wpList Try.prog ops Q (o :: rest) a w :=
  BigFrame.wpList_want hgd fun _ hK => wp_load_row _ x ho g hx _ _ (0, 0) _ hg Try.underlying35 rfl (infoT n A k c) (hK _ _ h)
theorem storeT (hgd : Region.wanted o (yielded ops a.tmps) = true) (x y : Operand) (ho : o.op = .store 35 x y) (g : Nat) (n : Int) (A : Option Addr) (k c : Nat) (hx : a.eval x = .pointer (some ⟨g, 0, none⟩)) (hy : a.eval y = .agg (T2 n A k c)) (n' : Int) (A' : Option Addr) (k' c' : Nat) (t : TypeId)
    (hg : w.heap[g]? = some (.cells (T2 n' A' k' c') t (0, 0))) (h : wpList Try.prog ops Q rest (a.put o.dst undef) (w.setRow g (T2 n A k c))) : wpList Try.prog ops Q (o :: rest) a w :=
  BigFrame.wpList_want hgd fun _ hK => wp_store_row _ x y ho g _ hx hy _ _ hg (infoT n A k c) rfl (one_T n A k c) (hK _ _ h)
theorem retT {fn : Func} {p : Tmp} (h : fn.results = #[.cell p 35]) (tmps : Array Value) (w : World) (g : Nat) (hp : tmps.getD p undef = .pointer (some ⟨g, 0, none⟩)) (n : Int) (A : Option Addr) (k c : Nat) (t : TypeId)
    (hg : w.heap[g]? = some (.cells (T2 n A k c) t (0, 0))) : (results fn tmps).run Try.prog w = .ok (.agg (T2 n A k c)) w :=
  results_cell_row h tmps w g _ _ (0, 0) _ hp hg Try.underlying35 rfl (infoT n A k c)
theorem retT2 {fn : Func} {p q : Tmp} (h : fn.results = #[.cell p 35, .tmp q]) (tmps : Array Value) (w : World) (g : Nat) (hp : tmps.getD p undef = .pointer (some ⟨g, 0, none⟩)) (n : Int) (A : Option Addr) (k c : Nat) (t : TypeId)
    (hg : w.heap[g]? = some (.cells (T2 n A k c) t (0, 0))) (v : Value) (hq : tmps.getD q undef = v) : (results fn tmps).run Try.prog w = .ok (.tuple #[.agg (T2 n A k c), v]) w := by
  have hp' : tmps[p]?.getD undef = .pointer (some ⟨g, 0, none⟩) := by simpa using hp
  have hq' : tmps[q]?.getD undef = v := by simpa using hq
  simp [results, h, hp', hq', asAddr, run_loadVar_row w g _ _ _ (0, 0) _ hg Try.underlying35 rfl (infoT n A k c)]
end
theorem step_append {P : Program} {ops : Array Oper} {o : Oper} {a : Act} {w : World} {K : Act → World → Prop} {Q : Exit → Act → World → Prop} {E : Prop}
    (hg : o.guard = none) (s x : Operand) (t : TypeId) (hop : o.op = Op.call { callee := Callee.builtin Builtin.append, args := #[s, x], argTypes := #[t, t] })
    (v u : Value) (hs : a.eval s = v) (hx : a.eval x = u) {v' : Value} {w' : World} (hr : (Builtin.append_ #[t, t] o.type #[v, u]).run P w = .ok v' w') (hK : K (a.put o.dst v') w') :
    if Region.wanted o (yielded ops a.tmps) = true then Oper.wp P o a w K Q else E := by
  have hw : Region.wanted o (yielded ops a.tmps) = true := by simp [Region.wanted, hg]
  rw [if_pos hw]
  unfold Oper.wp
  simp [execOp, hop, resolve, invoke, builtin, hs, hx, hr, Result.andThen]
  exact hK
/-- append of a row of acks, nil or not. -/
theorem run_app (W : World) (base : Nat) (ty : TypeId) (v : Value) (n : Nat) (xs : List Value) (hown : W.ownsRow base 69 2 v n xs) (A : Option Addr) (c : Nat) (L : Al) (hs : RL W 0 A c L) (hb : n + L.length ≤ 3000) (hbase : base ≤ W.heap.size) :
    ∃ v' w', (Builtin.append_ #[33, 33] ty #[v, .slice A L.length c]).run Try.prog W = .ok v' w' ∧ w'.ownsRow base 69 2 v' (n + L.length) (xs ++ akl L) ∧ W.grownBy w' v.ownBlock ∧ (v'.ownBlock = v.ownBlock ∨ v'.ownBlock = some W.heap.size) := by
  obtain ⟨i0, hi0, hz0, hz1, hz2⟩ := info_parts info_ak
  rcases hs.2 with ⟨hv, h0⟩ | ⟨k, cap, cur, hv, _, hk, _, _, _, ht⟩
  · have hL : L = [] := List.length_eq_zero_iff.1 h0
    subst hL
    rw [hv]
    have hrun := run_append_owned_none (P := Try.prog) (w := W) base 33 ty _ i0 2 Try.underlying33 hi0 v n xs hown
    exact ⟨v, W, hrun, by simpa [akl] using hown, World.grownBy.refl _ _, .inl rfl⟩
  · injection hv with e1 e2 e3
    subst e1
    obtain ⟨v', w', h1, h2, h3, _, h5⟩ := run_append_own_at (P := Try.prog) W base 33 ty _ i0 (.agg #[.int .i64 0, .int .i64 0]) 2 16 Try.underlying33 hi0 hz0 hz1 hz2 rfl (by decide) v n xs hown ⟨k, 0, none⟩ L.length c (akl L) hs.1 (fun j u hj => by
      rw [addr_add, Nat.zero_add, cell_of_row _ _ _ _ _ _ hk]
      rw [← ht, List.getElem?_take] at hj
      split at hj
      · rw [Array.getElem?_toList] at hj; exact hj
      · cases hj) (akl_one _) (by unfold maxLen; omega) (by omega) hbase
    exact ⟨v', w', h1, h2, h3, h5⟩
/-- One ack, built as a slice. -/
theorem one_rl {W : World} {vb : Nat} {r v : Int} (h : W.heap[vb]? = some (.cells #[.int .i64 r, .int .i64 v] 69 (0, 0))) : RL W 0 (some ⟨vb, 0, none⟩) 1 [(r, v)] :=
  ⟨rfl, .inr ⟨vb, 1, #[.int .i64 r, .int .i64 v], rfl, Nat.zero_le _, h, Nat.le_refl _, by unfold maxLen; omega, rfl, rfl⟩⟩
theorem empty_rl {W : World} {vb B : Nat} (hB : B ≤ vb) (h : W.heap[vb]? = some (.cells #[] 69 (0, 0))) : W.ownsRow B 69 2 (.slice (some ⟨vb, 0, none⟩) 0 0) 0 (akl []) :=
  ⟨rfl, .inr ⟨vb, 0, #[], rfl, hB, h, Nat.le_refl _, Nat.zero_le _, rfl, rfl⟩⟩
theorem below_own {b : Nat} {w W w' : World} {T : TypeId} {v : Value} {n size : Nat} {xs : List Value} (hb : Below b w W) (hw : b ≤ w.heap.size) (ho : W.ownsRow b T size v n xs) (hg : W.grownBy w' v.ownBlock) : Below b w w' :=
  hb.trans (Below.grown ((Below.refl _ _).mono (Nat.le_trans hw hb.size)) hg (Nat.le_trans hw hb.size) (fun k hk => (ho.lt k hk).1))
theorem own_slice {w : World} {B : Nat} {T : TypeId} {s : Nat} {v : Value} {n : Nat} {xs : List Value} (h : w.ownsRow B T s v n xs) : ∃ A c, v = .slice A n c := by
  rcases h.2 with ⟨e, h0⟩ | ⟨k, cap, cur, e, _⟩
  · exact ⟨none, 0, by rw [e, h0]⟩
  · exact ⟨_, _, e⟩
theorem rAdd_no (n : Nat) (A : Option Addr) (k c : Nat) (r v : Int) (w : World) (hno : ¬ ((0 ≤ r ∧ r < (n : Int)) ∧ 1 ≤ v ∧ v ≤ 32)) :
    Calls Try.prog 13 #[.agg (T2 n A k c), .int .i64 r, .int .i64 v] w fun e w' => e = .returned (.tuple #[.agg (T2 n A k c), .int .i64 2]) ∧ Below w.heap.size w w' := by
  have HF := Lib.hid (rFine_c v)
  by_cases h1 : r < 0
  · clear hno
    go_enter Try.func13, Try.ntmps13
    go_wp2_with (first | ((with_reducible apply loadT); rfl; rfl; rfl; (focus ((repeat' (first | (with_reducible assumption) | ((with_reducible refine heap_last ?_); (focus (first | (simp; done) | omega | (simp; omega)))) | ((with_reducible refine heap_prev ?_ ?_); (focus (first | (simp; done) | omega | (simp; omega)))) | (with_reducible apply row_heap) | ((with_reducible apply tab_set); (focus (first | (simp; done) | omega | (simp; omega)))) | ((with_reducible refine sign_other ?_ ?_); (focus (first | (simp; done) | omega | (simp; omega)))) | ((with_reducible refine row_other ?_ ?_); (focus (first | (simp; done) | omega | (simp; omega)))) | (with_reducible refine drew_heap ?_) | (with_reducible refine drewN_heap ?_))); done)); skip) | ((with_reducible apply storeT); rfl; rfl; rfl; rfl; (focus ((repeat' (first | (with_reducible assumption) | ((with_reducible refine heap_last ?_); (focus (first | (simp; done) | omega | (simp; omega)))) | ((with_reducible refine heap_prev ?_ ?_); (focus (first | (simp; done) | omega | (simp; omega)))) | (with_reducible apply row_heap) | ((with_reducible apply tab_set); (focus (first | (simp; done) | omega | (simp; omega)))) | ((with_reducible refine sign_other ?_ ?_); (focus (first | (simp; done) | omega | (simp; omega)))) | ((with_reducible refine row_other ?_ ?_); (focus (first | (simp; done) | omega | (simp; omega)))) | (with_reducible refine drew_heap ?_) | (with_reducible refine drewN_heap ?_))); done)); skip) | ((with_reducible refine (HF.out _).mono ?_); rintro e w1 ⟨rfl, rfl⟩))
    refine bodyPost_ret (retT2 rfl _ _ (w.heap.size + 1) rfl n A k c 35 (by (focus ((repeat' (first | (with_reducible assumption) | ((with_reducible refine heap_last ?_); (focus (first | (simp; done) | omega | (simp; omega)))) | ((with_reducible refine heap_prev ?_ ?_); (focus (first | (simp; done) | omega | (simp; omega)))) | (with_reducible apply row_heap) | ((with_reducible apply tab_set); (focus (first | (simp; done) | omega | (simp; omega)))) | ((with_reducible refine sign_other ?_ ?_); (focus (first | (simp; done) | omega | (simp; omega)))) | ((with_reducible refine row_other ?_ ?_); (focus (first | (simp; done) | omega | (simp; omega)))) | (with_reducible refine drew_heap ?_) | (with_reducible refine drewN_heap ?_))); done))) _ rfl) rfl ?_
    exact ⟨rfl, by (focus ((repeat' (first | (with_reducible exact Below.refl _ _) | (with_reducible assumption) | (with_reducible refine Below.alloc ?_ ?_ _) | (with_reducible refine Below.setCell ?_ ?_ _) | (with_reducible refine Below.row ?_ ?_ _) | (with_reducible refine Below.drew ?_) | (with_reducible refine below_drewN ?_ _) | (focus (first | (simp; done) | omega | (simp; omega))))); done))⟩
  by_cases h2 : (n : Int) ≤ r
  · clear hno
    go_enter Try.func13, Try.ntmps13
    go_wp2_with (first | ((with_reducible apply loadT); rfl; rfl; rfl; (focus ((repeat' (first | (with_reducible assumption) | ((with_reducible refine heap_last ?_); (focus (first | (simp; done) | omega | (simp; omega)))) | ((with_reducible refine heap_prev ?_ ?_); (focus (first | (simp; done) | omega | (simp; omega)))) | (with_reducible apply row_heap) | ((with_reducible apply tab_set); (focus (first | (simp; done) | omega | (simp; omega)))) | ((with_reducible refine sign_other ?_ ?_); (focus (first | (simp; done) | omega | (simp; omega)))) | ((with_reducible refine row_other ?_ ?_); (focus (first | (simp; done) | omega | (simp; omega)))) | (with_reducible refine drew_heap ?_) | (with_reducible refine drewN_heap ?_))); done)); skip) | ((with_reducible apply storeT); rfl; rfl; rfl; rfl; (focus ((repeat' (first | (with_reducible assumption) | ((with_reducible refine heap_last ?_); (focus (first | (simp; done) | omega | (simp; omega)))) | ((with_reducible refine heap_prev ?_ ?_); (focus (first | (simp; done) | omega | (simp; omega)))) | (with_reducible apply row_heap) | ((with_reducible apply tab_set); (focus (first | (simp; done) | omega | (simp; omega)))) | ((with_reducible refine sign_other ?_ ?_); (focus (first | (simp; done) | omega | (simp; omega)))) | ((with_reducible refine row_other ?_ ?_); (focus (first | (simp; done) | omega | (simp; omega)))) | (with_reducible refine drew_heap ?_) | (with_reducible refine drewN_heap ?_))); done)); skip) | ((with_reducible refine (HF.out _).mono ?_); rintro e w1 ⟨rfl, rfl⟩))
    refine bodyPost_ret (retT2 rfl _ _ (w.heap.size + 1) rfl n A k c 35 (by (focus ((repeat' (first | (with_reducible assumption) | ((with_reducible refine heap_last ?_); (focus (first | (simp; done) | omega | (simp; omega)))) | ((with_reducible refine heap_prev ?_ ?_); (focus (first | (simp; done) | omega | (simp; omega)))) | (with_reducible apply row_heap) | ((with_reducible apply tab_set); (focus (first | (simp; done) | omega | (simp; omega)))) | ((with_reducible refine sign_other ?_ ?_); (focus (first | (simp; done) | omega | (simp; omega)))) | ((with_reducible refine row_other ?_ ?_); (focus (first | (simp; done) | omega | (simp; omega)))) | (with_reducible refine drew_heap ?_) | (with_reducible refine drewN_heap ?_))); done))) _ rfl) rfl ?_
    exact ⟨rfl, by (focus ((repeat' (first | (with_reducible exact Below.refl _ _) | (with_reducible assumption) | (with_reducible refine Below.alloc ?_ ?_ _) | (with_reducible refine Below.setCell ?_ ?_ _) | (with_reducible refine Below.row ?_ ?_ _) | (with_reducible refine Below.drew ?_) | (with_reducible refine below_drewN ?_ _) | (focus (first | (simp; done) | omega | (simp; omega))))); done))⟩
  · have hv : ¬ (1 ≤ v ∧ v ≤ 32) := fun h => hno ⟨by omega, h⟩
    rw [decide_eq_false hv] at HF
    clear hno hv
    go_enter Try.func13, Try.ntmps13
    go_wp2_with (first | ((with_reducible apply loadT); rfl; rfl; rfl; (focus ((repeat' (first | (with_reducible assumption) | ((with_reducible refine heap_last ?_); (focus (first | (simp; done) | omega | (simp; omega)))) | ((with_reducible refine heap_prev ?_ ?_); (focus (first | (simp; done) | omega | (simp; omega)))) | (with_reducible apply row_heap) | ((with_reducible apply tab_set); (focus (first | (simp; done) | omega | (simp; omega)))) | ((with_reducible refine sign_other ?_ ?_); (focus (first | (simp; done) | omega | (simp; omega)))) | ((with_reducible refine row_other ?_ ?_); (focus (first | (simp; done) | omega | (simp; omega)))) | (with_reducible refine drew_heap ?_) | (with_reducible refine drewN_heap ?_))); done)); skip) | ((with_reducible apply storeT); rfl; rfl; rfl; rfl; (focus ((repeat' (first | (with_reducible assumption) | ((with_reducible refine heap_last ?_); (focus (first | (simp; done) | omega | (simp; omega)))) | ((with_reducible refine heap_prev ?_ ?_); (focus (first | (simp; done) | omega | (simp; omega)))) | (with_reducible apply row_heap) | ((with_reducible apply tab_set); (focus (first | (simp; done) | omega | (simp; omega)))) | ((with_reducible refine sign_other ?_ ?_); (focus (first | (simp; done) | omega | (simp; omega)))) | ((with_reducible refine row_other ?_ ?_); (focus (first | (simp; done) | omega | (simp; omega)))) | (with_reducible refine drew_heap ?_) | (with_reducible refine drewN_heap ?_))); done)); skip) | ((with_reducible refine (HF.out _).mono ?_); rintro e w1 ⟨rfl, rfl⟩))
    refine bodyPost_ret (retT2 rfl _ _ (w.heap.size + 1) rfl n A k c 35 (by (focus ((repeat' (first | (with_reducible assumption) | ((with_reducible refine heap_last ?_); (focus (first | (simp; done) | omega | (simp; omega)))) | ((with_reducible refine heap_prev ?_ ?_); (focus (first | (simp; done) | omega | (simp; omega)))) | (with_reducible apply row_heap) | ((with_reducible apply tab_set); (focus (first | (simp; done) | omega | (simp; omega)))) | ((with_reducible refine sign_other ?_ ?_); (focus (first | (simp; done) | omega | (simp; omega)))) | ((with_reducible refine row_other ?_ ?_); (focus (first | (simp; done) | omega | (simp; omega)))) | (with_reducible refine drew_heap ?_) | (with_reducible refine drewN_heap ?_))); done))) _ rfl) rfl ?_
    exact ⟨rfl, by (focus ((repeat' (first | (with_reducible exact Below.refl _ _) | (with_reducible assumption) | (with_reducible refine Below.alloc ?_ ?_ _) | (with_reducible refine Below.setCell ?_ ?_ _) | (with_reducible refine Below.row ?_ ?_ _) | (with_reducible refine Below.drew ?_) | (with_reducible refine below_drewN ?_ _) | (focus (first | (simp; done) | omega | (simp; omega))))); done))⟩
theorem fr_row {S : Nat → Prop} {a b : World} {g : Nat} (h : Fr S a b) (hg : S g) (c : Array Value) : Fr S a (b.setRow g c) :=
  ⟨h.os, h.tape, h.output, by simpa [World.setRow] using h.size, fun k hk hn => (setRow_other b g k c (fun e => hn (by rw [e]; exact hg))).trans (h.block k hk hn)⟩
theorem radd_end {w w1 y : World} {n : Int} {B c2 : Nat} {A2 : Option Addr} {M : Al} (hA : y.ownsRow w1.heap.size 69 2 (.slice A2 M.length c2) M.length (akl M)) (hz : y.heap[w.heap.size + 1]? = some (.cells (T2 0 none 0 0) 35 (0, 0))) (hb : Below w1.heap.size w1 y) (h1 : Below w.heap.size w w1) (hs : w.heap.size + 2 ≤ w1.heap.size) (hB : B ≤ w.heap.size) :
    (y.setRow (w.heap.size + 1) (T2 n A2 M.length c2)).heap[w.heap.size + 1]? = some (.cells (T2 n A2 M.length c2) 35 (0, 0)) ∧ RL (y.setRow (w.heap.size + 1) (T2 n A2 M.length c2)) B A2 c2 M ∧ Below w.heap.size w (y.setRow (w.heap.size + 1) (T2 n A2 M.length c2)) := by
  refine ⟨row_heap hz, ?_, ?_⟩
  · have h : RL y w1.heap.size A2 c2 M := hA
    exact (h.fr (fr_row (S := fun k => k = w.heap.size + 1) (Fr.refl _ y) rfl _) (fun k hk => by omega)).low (by omega)
  · exact Below.row (h1.trans (hb.mono h1.size)) (by omega) _
set_option maxHeartbeats 4000000 in
set_option maxRecDepth 100000 in
theorem rAdd_put (n : Nat) (B : Nat) (A : Option Addr) (c : Nat) (L : Al) (r v : Int) (w : World) (H : RL w B A c L) (hB : B ≤ w.heap.size) (hl : L.length ≤ 1000) (hr : 0 ≤ r ∧ r < (n : Int)) (hv : 1 ≤ v ∧ v ≤ 32) :
    Calls Try.prog 13 #[.agg (T2 n A L.length c), .int .i64 r, .int .i64 v] w fun e w' => ∃ A' c', e = .returned (.tuple #[.agg (T2 n A' (addL L r v).length c'), .int .i64 0]) ∧ Hid (RL w' B A' c' (addL L r v) ∧ Below w.heap.size w w') := by
  have HF := Lib.hid (rFine_c v)
  rw [decide_eq_true hv] at HF
  have h1 : ¬ r < 0 := by omega
  have h2 : ¬ (n : Int) ≤ r := by omega
  have HN := Lib.hid hl
  have HB := Lib.hid hB
  have HH := Lib.hid H
  clear hr hv hl hB H
  go_enter Try.func13, Try.ntmps13
  go_wp2_with (first | ((with_reducible apply loadT); rfl; rfl; rfl; (focus ((repeat' (first | (with_reducible assumption) | ((with_reducible refine heap_last ?_); (focus (first | (simp; done) | omega | (simp; omega)))) | ((with_reducible refine heap_prev ?_ ?_); (focus (first | (simp; done) | omega | (simp; omega)))) | (with_reducible apply row_heap) | ((with_reducible apply tab_set); (focus (first | (simp; done) | omega | (simp; omega)))) | ((with_reducible refine sign_other ?_ ?_); (focus (first | (simp; done) | omega | (simp; omega)))) | ((with_reducible refine row_other ?_ ?_); (focus (first | (simp; done) | omega | (simp; omega)))) | (with_reducible refine drew_heap ?_) | (with_reducible refine drewN_heap ?_))); done)); skip) | ((with_reducible apply storeT); rfl; rfl; rfl; rfl; (focus ((repeat' (first | (with_reducible assumption) | ((with_reducible refine heap_last ?_); (focus (first | (simp; done) | omega | (simp; omega)))) | ((with_reducible refine heap_prev ?_ ?_); (focus (first | (simp; done) | omega | (simp; omega)))) | (with_reducible apply row_heap) | ((with_reducible apply tab_set); (focus (first | (simp; done) | omega | (simp; omega)))) | ((with_reducible refine sign_other ?_ ?_); (focus (first | (simp; done) | omega | (simp; omega)))) | ((with_reducible refine row_other ?_ ?_); (focus (first | (simp; done) | omega | (simp; omega)))) | (with_reducible refine drew_heap ?_) | (with_reducible refine drewN_heap ?_))); done)); skip) | ((with_reducible refine (HF.out _).mono ?_); rintro e w1 ⟨rfl, rfl⟩))
  have HB1 : Hid (Below w.heap.size w ((w.alloc (Obj.cells (T2 (n : Int) A L.length c) 35)).alloc (Obj.cells #[Value.int IntKind.i64 0, Value.slice none 0 0] 35))) := Lib.hid (by (focus ((repeat' (first | (with_reducible exact Below.refl _ _) | (with_reducible assumption) | (with_reducible refine Below.alloc ?_ ?_ _) | (with_reducible refine Below.setCell ?_ ?_ _) | (with_reducible refine Below.row ?_ ?_ _) | (with_reducible refine Below.drew ?_) | (with_reducible refine below_drewN ?_ _) | (focus (first | (simp; done) | omega | (simp; omega))))); done)))
  have HW : Hid (w.heap.size + 2 ≤ ((w.alloc (Obj.cells (T2 (n : Int) A L.length c) 35)).alloc (Obj.cells #[Value.int IntKind.i64 0, Value.slice none 0 0] 35)).heap.size) := Lib.hid (by (focus (first | (simp; done) | omega | (simp; omega))))
  have p0 : ((w.alloc (Obj.cells (T2 (n : Int) A L.length c) 35)).alloc (Obj.cells #[Value.int IntKind.i64 0, Value.slice none 0 0] 35)).heap[w.heap.size]? = some (.cells (T2 n A L.length c) 35 (0, 0)) := by (focus ((repeat' (first | (with_reducible assumption) | ((with_reducible refine heap_last ?_); (focus (first | (simp; done) | omega | (simp; omega)))) | ((with_reducible refine heap_prev ?_ ?_); (focus (first | (simp; done) | omega | (simp; omega)))) | (with_reducible apply row_heap) | ((with_reducible apply tab_set); (focus (first | (simp; done) | omega | (simp; omega)))) | ((with_reducible refine sign_other ?_ ?_); (focus (first | (simp; done) | omega | (simp; omega)))) | ((with_reducible refine row_other ?_ ?_); (focus (first | (simp; done) | omega | (simp; omega)))) | (with_reducible refine drew_heap ?_) | (with_reducible refine drewN_heap ?_))); done))
  have p1 : ((w.alloc (Obj.cells (T2 (n : Int) A L.length c) 35)).alloc (Obj.cells #[Value.int IntKind.i64 0, Value.slice none 0 0] 35)).heap[w.heap.size + 1]? = some (.cells (T2 0 none 0 0) 35 (0, 0)) := by (focus ((repeat' (first | (with_reducible assumption) | ((with_reducible refine heap_last ?_); (focus (first | (simp; done) | omega | (simp; omega)))) | ((with_reducible refine heap_prev ?_ ?_); (focus (first | (simp; done) | omega | (simp; omega)))) | (with_reducible apply row_heap) | ((with_reducible apply tab_set); (focus (first | (simp; done) | omega | (simp; omega)))) | ((with_reducible refine sign_other ?_ ?_); (focus (first | (simp; done) | omega | (simp; omega)))) | ((with_reducible refine row_other ?_ ?_); (focus (first | (simp; done) | omega | (simp; omega)))) | (with_reducible refine drew_heap ?_) | (with_reducible refine drewN_heap ?_))); done))
  generalize ((w.alloc (Obj.cells (T2 (n : Int) A L.length c) 35)).alloc (Obj.cells #[Value.int IntKind.i64 0, Value.slice none 0 0] 35)) = w1 at *
  have HC0 : Hid (∀ W, Fr (fun k => k = w.heap.size + 1) w1 W → W.cell? ⟨w.heap.size, 0, none⟩ = some (.int .i64 (n : Int))) := Lib.hid (fun W hW => cell_of_row _ _ _ _ _ _ (hW.blk p0 (by omega)))
  have HC1 : Hid (∀ W, Fr (fun k => k = w.heap.size + 1) w1 W → W.cell? ⟨w.heap.size, 1, none⟩ = some (.slice A L.length c)) := Lib.hid (fun W hW => cell_of_row _ _ _ _ _ _ (hW.blk p0 (by omega)))
  have HZ : Hid (∀ W, Below w1.heap.size w1 W → W.heap[w.heap.size + 1]? = some (.cells (T2 0 none 0 0) 35 (0, 0))) := Lib.hid (fun W hW => (hW.block _ (blk_lt p1)).trans p1)
  have HR : Hid (∀ W, Below w1.heap.size w1 W → RL W 0 A c L) := Lib.hid (fun W hW => (HH.out.below (HB1.out.trans (hW.mono HB1.out.size))).low (Nat.zero_le _))
  clear p0 p1 HH
  have hb0 : Below w1.heap.size w1 w1.drew := (Below.refl _ _).drew
  refine wp_region_held_drew (S := fun W => Fr (fun k => k = w.heap.size + 1) w1 W) (by kernel_rfl) (Fr.of_below hb0) (fun hHeld => ?_)
  generalize w1.drew = wd at hb0 hHeld ⊢
  refine wpAnyH_take (i := 0) (oi := ⟨some 22, _, _, _, _, _⟩) (v := ?_) rfl (by kernel_rfl) (by kernel_rfl) (by kernel_rfl) (fun _ _ _ h => h) (Or.inl ⟨by kernel_rfl, ?_⟩) (by assumption) ?_
  rotate_left
  · (intro w hSw; have z0 := HC0.out _ hSw; have z1 := HC1.out _ hSw; clear hSw; go_simp; try with_reducible rfl)
  (repeat (first | simp only [Act.put] | simp only [List.setIfInBounds_toArray] | simp only [List.set_cons_succ] | simp only [List.set_cons_zero]))
  refine wpAnyH_take (i := 1) (oi := ⟨some 23, _, _, _, _, _⟩) (v := ?_) rfl (by kernel_rfl) (by kernel_rfl) (by kernel_rfl) (fun _ _ _ h => h) (Or.inl ⟨by kernel_rfl, ?_⟩) (by assumption) ?_
  rotate_left
  · (intro w hSw; have z0 := HC0.out _ hSw; have z1 := HC1.out _ hSw; clear hSw; go_simp; try with_reducible rfl)
  (repeat (first | simp only [Act.put] | simp only [List.setIfInBounds_toArray] | simp only [List.set_cons_succ] | simp only [List.set_cons_zero]))
  refine wpAnyH_take (i := 3) (oi := ⟨some 25, _, _, _, _, _⟩) (v := ?_) rfl (by kernel_rfl) (by kernel_rfl) (by kernel_rfl) (fun _ _ _ h => h) (Or.inl ⟨by kernel_rfl, ?_⟩) (by assumption) ?_
  rotate_left
  · (intro w hSw; have z0 := HC0.out _ hSw; have z1 := HC1.out _ hSw; clear hSw; go_simp; try with_reducible rfl)
  (repeat (first | simp only [Act.put] | simp only [List.setIfInBounds_toArray] | simp only [List.set_cons_succ] | simp only [List.set_cons_zero]))
  refine wpAnyH_take (i := 4) (oi := ⟨some 26, _, _, _, _, _⟩) (v := ?_) rfl (by kernel_rfl) (by kernel_rfl) (by kernel_rfl) (fun _ _ _ h => h) (Or.inl ⟨by kernel_rfl, ?_⟩) (by assumption) ?_
  rotate_left
  · (intro w hSw; have z0 := HC0.out _ hSw; have z1 := HC1.out _ hSw; clear hSw; go_simp; try with_reducible rfl)
  (repeat (first | simp only [Act.put] | simp only [List.setIfInBounds_toArray] | simp only [List.set_cons_succ] | simp only [List.set_cons_zero]))
  refine wpAnyH_take (i := 6) (oi := ⟨some 28, _, _, _, _, _⟩) (v := ?_) rfl (by kernel_rfl) (by kernel_rfl) (by kernel_rfl) (fun _ _ _ h => h) (Or.inl ⟨by kernel_rfl, ?_⟩) (by assumption) ?_
  rotate_left
  · (intro w hSw; have z0 := HC0.out _ hSw; have z1 := HC1.out _ hSw; clear hSw; go_simp; try with_reducible rfl)
  (repeat (first | simp only [Act.put] | simp only [List.setIfInBounds_toArray] | simp only [List.set_cons_succ] | simp only [List.set_cons_zero]))
  refine wpAnyH_take (i := 7) (oi := ⟨some 29, _, _, _, _, _⟩) (v := ?_) rfl (by kernel_rfl) (by kernel_rfl) (by kernel_rfl) (fun _ _ _ h => h) (Or.inl ⟨by kernel_rfl, ?_⟩) (by assumption) ?_
  rotate_left
  · (intro w hSw; have z0 := HC0.out _ hSw; have z1 := HC1.out _ hSw; clear hSw; go_simp; try with_reducible rfl)
  (repeat (first | simp only [Act.put] | simp only [List.setIfInBounds_toArray] | simp only [List.set_cons_succ] | simp only [List.set_cons_zero]))
  refine wpAnyH_take (i := 8) (oi := ⟨some 30, _, _, _, _, _⟩) (v := ?_) rfl (by kernel_rfl) (by kernel_rfl) (by kernel_rfl) (fun _ _ _ h => h) (Or.inl ⟨by kernel_rfl, ?_⟩) (by assumption) ?_
  rotate_left
  · (intro w hSw; have z0 := HC0.out _ hSw; have z1 := HC1.out _ hSw; clear hSw; go_simp; try with_reducible rfl)
  (repeat (first | simp only [Act.put] | simp only [List.setIfInBounds_toArray] | simp only [List.set_cons_succ] | simp only [List.set_cons_zero]))
  refine wpAnyH_ready (rs := [2, 9]) (by kernel_rfl) (by simp) ?_
  refine AllReadyH.cons (o := ⟨some 24, _, _, _, _, _⟩) rfl (fun K hK => ?_) (AllReadyH.cons (o := ⟨some 31, _, _, _, _, _⟩) rfl (fun K hK => ?_) AllReadyH.nil)
  · go_simp
    (try go_wp2_with fail)
    have hb1 : Below w1.heap.size w1 (wd.alloc (.cells #[] 69)) := (hb0).alloc (Below.size hb0) _
    have hE : (wd.alloc (.cells #[] 69)).ownsRow w1.heap.size 69 2 (.slice (some ⟨wd.heap.size, 0, none⟩) 0 0) 0 (akl []) := empty_rl (by have := Below.size hb0; omega) (heap_last (by simp))
    refine hK.out _ _ (by exact Fr.of_below hb1) (fun hHeld => ?_)
    clear hK K
    (repeat (first | simp only [Act.put] | simp only [List.setIfInBounds_toArray] | simp only [List.set_cons_succ] | simp only [List.set_cons_zero]))
    refine wpAnyH_ready (rs := [5, 9]) (by kernel_rfl) (by simp) ?_
    refine AllReadyH.cons (o := ⟨some 27, _, _, _, _, _⟩) rfl (fun K hK => ?_) (AllReadyH.cons (o := ⟨some 31, _, _, _, _, _⟩) rfl (fun K hK => ?_) AllReadyH.nil)
    · obtain ⟨v1, y1, hr1, hA, hg1, _⟩ := run_app (wd.alloc (.cells #[] 69)) w1.heap.size 33 _ 0 (akl []) hE A c L (HR.out _ hb1) (by have := HN.out; omega) (Below.size hb1)
      rw [Nat.zero_add, show akl [] ++ akl L = akl L from rfl] at hA
      refine step_append rfl _ _ 33 rfl (.slice (some ⟨wd.heap.size, 0, none⟩) 0 0) (.slice A L.length c) rfl rfl hr1 ?_
      have hb2 : Below w1.heap.size w1 y1 := below_own hb1 (Nat.le_refl _) hE hg1
      refine hK.out _ _ (by exact Fr.of_below hb2) (fun hHeld => ?_)
      clear hK K
      (repeat (first | simp only [Act.put] | simp only [List.setIfInBounds_toArray] | simp only [List.set_cons_succ] | simp only [List.set_cons_zero]))
      refine wpAnyH_ready (rs := [9]) (by kernel_rfl) (by simp) ?_
      refine AllReadyH.cons (o := ⟨some 31, _, _, _, _, _⟩) rfl (fun K hK => ?_) AllReadyH.nil
      go_simp
      (try go_wp2_with fail)
      have hb3 : Below w1.heap.size w1 (y1.alloc (.cells #[.int .i64 r, .int .i64 v] 69)) := (hb2).alloc (Below.size hb2) _
      have hV : (y1.alloc (.cells #[.int .i64 r, .int .i64 v] 69)).heap[y1.heap.size]? = some (.cells #[.int .i64 r, .int .i64 v] 69 (0, 0)) := heap_last (by simp)
      replace hA := hA.alloc (.cells #[.int .i64 r, .int .i64 v] 69)
      refine hK.out _ _ (by exact Fr.of_below hb3) (fun hHeld => ?_)
      clear hK K
      (repeat (first | simp only [Act.put] | simp only [List.setIfInBounds_toArray] | simp only [List.set_cons_succ] | simp only [List.set_cons_zero]))
      refine wpAnyH_ready (rs := [10]) (by kernel_rfl) (by simp) ?_
      refine AllReadyH.cons (o := ⟨some 32, _, _, _, _, _⟩) rfl (fun K hK => ?_) AllReadyH.nil
      obtain ⟨v2, y2, hr2, hA2, hg2, _⟩ := run_app (y1.alloc (.cells #[.int .i64 r, .int .i64 v] 69)) w1.heap.size 33 v1 L.length (akl L) hA (some ⟨y1.heap.size, 0, none⟩) 1 [(r, v)] (one_rl hV) (by have := HN.out; simp; omega) (Below.size hb3)
      refine step_append rfl _ _ 33 rfl v1 (.slice (some ⟨y1.heap.size, 0, none⟩) 1 1) rfl rfl hr2 ?_
      have hbb : Below w1.heap.size w1 y2 := below_own hb3 (Nat.le_refl _) hA hg2
      obtain ⟨A2, c2, rfl⟩ := own_slice hA2
      rw [← akl_app] at hA2
      have hlen : L.length + [(r, v)].length = (addL L r v).length := (by simp [addL])
      rw [hlen] at hA2 ⊢
      change y2.ownsRow _ _ _ _ _ (akl (addL L r v)) at hA2
      refine hK.out _ _ (by exact Fr.of_below hbb) (fun hHeld => ?_)
      clear hK K
      (repeat (first | simp only [Act.put] | simp only [List.setIfInBounds_toArray] | simp only [List.set_cons_succ] | simp only [List.set_cons_zero]))
      refine wpAnyH_take (i := 11) (oi := ⟨some 33, _, _, _, _, _⟩) (v := ?_) rfl (by kernel_rfl) (by kernel_rfl) (by kernel_rfl) (fun _ _ _ h => h) (Or.inl ⟨by kernel_rfl, ?_⟩) (by assumption) ?_
      rotate_left
      · (intro w hSw; clear hSw; go_simp; try with_reducible rfl)
      (repeat (first | simp only [Act.put] | simp only [List.setIfInBounds_toArray] | simp only [List.set_cons_succ] | simp only [List.set_cons_zero]))
      refine wpAnyH_ready (rs := [12]) (by kernel_rfl) (by simp) ?_
      refine AllReadyH.cons (o := ⟨none, _, _, _, _, _⟩) rfl (fun K hK => ?_) AllReadyH.nil
      rw [if_pos (by kernel_rfl)]
      have hz := HZ.out _ hbb
      refine wp_store_row _ _ _ rfl (w.heap.size + 1) (T2 n A2 (addL L r v).length c2) rfl rfl _ _ hz (infoT n A2 (addL L r v).length c2) rfl (one_T _ _ _ _) ?_
      refine hK.out _ _ (by exact fr_row (S := fun k => k = w.heap.size + 1) (Fr.of_below hbb) rfl _) (fun hHeld => ?_)
      clear hK K
      (repeat (first | simp only [Act.put] | simp only [List.setIfInBounds_toArray] | simp only [List.set_cons_succ] | simp only [List.set_cons_zero]))
      refine wpAnyH_take (i := 13) (oi := ⟨some 7, _, _, _, _, _⟩) (v := ?_) rfl (by kernel_rfl) (by kernel_rfl) (by kernel_rfl) (fun _ _ _ h => h) (Or.inl ⟨by kernel_rfl, ?_⟩) (by assumption) ?_
      rotate_left
      · (intro w hSw; clear hSw; go_simp; try with_reducible rfl)
      (repeat (first | simp only [Act.put] | simp only [List.setIfInBounds_toArray] | simp only [List.set_cons_succ] | simp only [List.set_cons_zero]))
      refine wpAnyH_done (by kernel_rfl) ?_ _
      have hF := Lib.hid (radd_end (n := (n : Int)) hA2 hz hbb HB1.out HW.out HB.out)
      clear hA2 hHeld hz hbb
      go_wp2_with fail
      refine bodyPost_ret (retT2 rfl _ _ (w.heap.size + 1) rfl n A2 (addL L r v).length c2 35 hF.out.1 _ rfl) rfl ?_
      exact ⟨_, _, rfl, Lib.hid hF.out.2⟩
    · go_simp
      (try go_wp2_with fail)
      have hb2 : Below w1.heap.size w1 ((wd.alloc (.cells #[] 69)).alloc (.cells #[.int .i64 r, .int .i64 v] 69)) := (hb1).alloc (Below.size hb1) _
      have hV : ((wd.alloc (.cells #[] 69)).alloc (.cells #[.int .i64 r, .int .i64 v] 69)).heap[wd.heap.size + 1]? = some (.cells #[.int .i64 r, .int .i64 v] 69 (0, 0)) := heap_last (by simp)
      have hve : wd.heap.size + 1 ≠ wd.heap.size := (by have h := (hE.lt _ rfl).2; simp only [World.size_alloc] at h; omega)
      replace hE := hE.alloc (.cells #[.int .i64 r, .int .i64 v] 69)
      refine hK.out _ _ (by exact Fr.of_below hb2) (fun hHeld => ?_)
      clear hK K
      (repeat (first | simp only [Act.put] | simp only [List.setIfInBounds_toArray] | simp only [List.set_cons_succ] | simp only [List.set_cons_zero]))
      refine wpAnyH_ready (rs := [5]) (by kernel_rfl) (by simp) ?_
      refine AllReadyH.cons (o := ⟨some 27, _, _, _, _, _⟩) rfl (fun K hK => ?_) AllReadyH.nil
      obtain ⟨v1, y1, hr1, hA, hg1, _⟩ := run_app ((wd.alloc (.cells #[] 69)).alloc (.cells #[.int .i64 r, .int .i64 v] 69)) w1.heap.size 33 _ 0 (akl []) hE A c L (HR.out _ hb2) (by have := HN.out; omega) (Below.size hb2)
      rw [Nat.zero_add, show akl [] ++ akl L = akl L from rfl] at hA
      refine step_append rfl _ _ 33 rfl (.slice (some ⟨wd.heap.size, 0, none⟩) 0 0) (.slice A L.length c) rfl rfl hr1 ?_
      have hb3 : Below w1.heap.size w1 y1 := below_own hb2 (Nat.le_refl _) hE hg1
      replace hV : y1.heap[wd.heap.size + 1]? = some (.cells #[.int .i64 r, .int .i64 v] 69 (0, 0)) := (hg1.block _ (blk_lt hV) (fun e => hve (Option.some.inj e))).trans hV
      refine hK.out _ _ (by exact Fr.of_below hb3) (fun hHeld => ?_)
      clear hK K
      (repeat (first | simp only [Act.put] | simp only [List.setIfInBounds_toArray] | simp only [List.set_cons_succ] | simp only [List.set_cons_zero]))
      refine wpAnyH_ready (rs := [10]) (by kernel_rfl) (by simp) ?_
      refine AllReadyH.cons (o := ⟨some 32, _, _, _, _, _⟩) rfl (fun K hK => ?_) AllReadyH.nil
      obtain ⟨v2, y2, hr2, hA2, hg2, _⟩ := run_app y1 w1.heap.size 33 v1 L.length (akl L) hA (some ⟨wd.heap.size + 1, 0, none⟩) 1 [(r, v)] (one_rl hV) (by have := HN.out; simp; omega) (Below.size hb3)
      refine step_append rfl _ _ 33 rfl v1 (.slice (some ⟨wd.heap.size + 1, 0, none⟩) 1 1) rfl rfl hr2 ?_
      have hbb : Below w1.heap.size w1 y2 := below_own hb3 (Nat.le_refl _) hA hg2
      obtain ⟨A2, c2, rfl⟩ := own_slice hA2
      rw [← akl_app] at hA2
      have hlen : L.length + [(r, v)].length = (addL L r v).length := (by simp [addL])
      rw [hlen] at hA2 ⊢
      change y2.ownsRow _ _ _ _ _ (akl (addL L r v)) at hA2
      refine hK.out _ _ (by exact Fr.of_below hbb) (fun hHeld => ?_)
      clear hK K
      (repeat (first | simp only [Act.put] | simp only [List.setIfInBounds_toArray] | simp only [List.set_cons_succ] | simp only [List.set_cons_zero]))
      refine wpAnyH_take (i := 11) (oi := ⟨some 33, _, _, _, _, _⟩) (v := ?_) rfl (by kernel_rfl) (by kernel_rfl) (by kernel_rfl) (fun _ _ _ h => h) (Or.inl ⟨by kernel_rfl, ?_⟩) (by assumption) ?_
      rotate_left
      · (intro w hSw; clear hSw; go_simp; try with_reducible rfl)
      (repeat (first | simp only [Act.put] | simp only [List.setIfInBounds_toArray] | simp only [List.set_cons_succ] | simp only [List.set_cons_zero]))
      refine wpAnyH_ready (rs := [12]) (by kernel_rfl) (by simp) ?_
      refine AllReadyH.cons (o := ⟨none, _, _, _, _, _⟩) rfl (fun K hK => ?_) AllReadyH.nil
      rw [if_pos (by kernel_rfl)]
      have hz := HZ.out _ hbb
      refine wp_store_row _ _ _ rfl (w.heap.size + 1) (T2 n A2 (addL L r v).length c2) rfl rfl _ _ hz (infoT n A2 (addL L r v).length c2) rfl (one_T _ _ _ _) ?_
      refine hK.out _ _ (by exact fr_row (S := fun k => k = w.heap.size + 1) (Fr.of_below hbb) rfl _) (fun hHeld => ?_)
      clear hK K
      (repeat (first | simp only [Act.put] | simp only [List.setIfInBounds_toArray] | simp only [List.set_cons_succ] | simp only [List.set_cons_zero]))
      refine wpAnyH_take (i := 13) (oi := ⟨some 7, _, _, _, _, _⟩) (v := ?_) rfl (by kernel_rfl) (by kernel_rfl) (by kernel_rfl) (fun _ _ _ h => h) (Or.inl ⟨by kernel_rfl, ?_⟩) (by assumption) ?_
      rotate_left
      · (intro w hSw; clear hSw; go_simp; try with_reducible rfl)
      (repeat (first | simp only [Act.put] | simp only [List.setIfInBounds_toArray] | simp only [List.set_cons_succ] | simp only [List.set_cons_zero]))
      refine wpAnyH_done (by kernel_rfl) ?_ _
      have hF := Lib.hid (radd_end (n := (n : Int)) hA2 hz hbb HB1.out HW.out HB.out)
      clear hA2 hHeld hz hbb
      go_wp2_with fail
      refine bodyPost_ret (retT2 rfl _ _ (w.heap.size + 1) rfl n A2 (addL L r v).length c2 35 hF.out.1 _ rfl) rfl ?_
      exact ⟨_, _, rfl, Lib.hid hF.out.2⟩
  · go_simp
    (try go_wp2_with fail)
    have hb1 : Below w1.heap.size w1 (wd.alloc (.cells #[.int .i64 r, .int .i64 v] 69)) := (hb0).alloc (Below.size hb0) _
    have hV : (wd.alloc (.cells #[.int .i64 r, .int .i64 v] 69)).heap[wd.heap.size]? = some (.cells #[.int .i64 r, .int .i64 v] 69 (0, 0)) := heap_last (by simp)
    refine hK.out _ _ (by exact Fr.of_below hb1) (fun hHeld => ?_)
    clear hK K
    (repeat (first | simp only [Act.put] | simp only [List.setIfInBounds_toArray] | simp only [List.set_cons_succ] | simp only [List.set_cons_zero]))
    refine wpAnyH_ready (rs := [2]) (by kernel_rfl) (by simp) ?_
    refine AllReadyH.cons (o := ⟨some 24, _, _, _, _, _⟩) rfl (fun K hK => ?_) AllReadyH.nil
    go_simp
    (try go_wp2_with fail)
    have hb2 : Below w1.heap.size w1 ((wd.alloc (.cells #[.int .i64 r, .int .i64 v] 69)).alloc (.cells #[] 69)) := (hb1).alloc (Below.size hb1) _
    have hE : ((wd.alloc (.cells #[.int .i64 r, .int .i64 v] 69)).alloc (.cells #[] 69)).ownsRow w1.heap.size 69 2 (.slice (some ⟨wd.heap.size + 1, 0, none⟩) 0 0) 0 (akl []) := empty_rl (by have := Below.size hb0; omega) (heap_last (by simp))
    have hve : wd.heap.size ≠ wd.heap.size + 1 := (by have h := blk_lt hV; simp only [World.size_alloc] at h; omega)
    replace hV : ((wd.alloc (.cells #[.int .i64 r, .int .i64 v] 69)).alloc (.cells #[] 69)).heap[wd.heap.size]? = some (.cells #[.int .i64 r, .int .i64 v] 69 (0, 0)) := heap_prev (blk_lt hV) hV
    refine hK.out _ _ (by exact Fr.of_below hb2) (fun hHeld => ?_)
    clear hK K
    (repeat (first | simp only [Act.put] | simp only [List.setIfInBounds_toArray] | simp only [List.set_cons_succ] | simp only [List.set_cons_zero]))
    refine wpAnyH_ready (rs := [5]) (by kernel_rfl) (by simp) ?_
    refine AllReadyH.cons (o := ⟨some 27, _, _, _, _, _⟩) rfl (fun K hK => ?_) AllReadyH.nil
    obtain ⟨v1, y1, hr1, hA, hg1, _⟩ := run_app ((wd.alloc (.cells #[.int .i64 r, .int .i64 v] 69)).alloc (.cells #[] 69)) w1.heap.size 33 _ 0 (akl []) hE A c L (HR.out _ hb2) (by have := HN.out; omega) (Below.size hb2)
    rw [Nat.zero_add, show akl [] ++ akl L = akl L from rfl] at hA
    refine step_append rfl _ _ 33 rfl (.slice (some ⟨wd.heap.size + 1, 0, none⟩) 0 0) (.slice A L.length c) rfl rfl hr1 ?_
    have hb3 : Below w1.heap.size w1 y1 := below_own hb2 (Nat.le_refl _) hE hg1
    replace hV : y1.heap[wd.heap.size]? = some (.cells #[.int .i64 r, .int .i64 v] 69 (0, 0)) := (hg1.block _ (blk_lt hV) (fun e => hve (Option.some.inj e))).trans hV
    refine hK.out _ _ (by exact Fr.of_below hb3) (fun hHeld => ?_)
    clear hK K
    (repeat (first | simp only [Act.put] | simp only [List.setIfInBounds_toArray] | simp only [List.set_cons_succ] | simp only [List.set_cons_zero]))
    refine wpAnyH_ready (rs := [10]) (by kernel_rfl) (by simp) ?_
    refine AllReadyH.cons (o := ⟨some 32, _, _, _, _, _⟩) rfl (fun K hK => ?_) AllReadyH.nil
    obtain ⟨v2, y2, hr2, hA2, hg2, _⟩ := run_app y1 w1.heap.size 33 v1 L.length (akl L) hA (some ⟨wd.heap.size, 0, none⟩) 1 [(r, v)] (one_rl hV) (by have := HN.out; simp; omega) (Below.size hb3)
    refine step_append rfl _ _ 33 rfl v1 (.slice (some ⟨wd.heap.size, 0, none⟩) 1 1) rfl rfl hr2 ?_
    have hbb : Below w1.heap.size w1 y2 := below_own hb3 (Nat.le_refl _) hA hg2
    obtain ⟨A2, c2, rfl⟩ := own_slice hA2
    rw [← akl_app] at hA2
    have hlen : L.length + [(r, v)].length = (addL L r v).length := (by simp [addL])
    rw [hlen] at hA2 ⊢
    change y2.ownsRow _ _ _ _ _ (akl (addL L r v)) at hA2
    refine hK.out _ _ (by exact Fr.of_below hbb) (fun hHeld => ?_)
    clear hK K
    (repeat (first | simp only [Act.put] | simp only [List.setIfInBounds_toArray] | simp only [List.set_cons_succ] | simp only [List.set_cons_zero]))
    refine wpAnyH_take (i := 11) (oi := ⟨some 33, _, _, _, _, _⟩) (v := ?_) rfl (by kernel_rfl) (by kernel_rfl) (by kernel_rfl) (fun _ _ _ h => h) (Or.inl ⟨by kernel_rfl, ?_⟩) (by assumption) ?_
    rotate_left
    · (intro w hSw; clear hSw; go_simp; try with_reducible rfl)
    (repeat (first | simp only [Act.put] | simp only [List.setIfInBounds_toArray] | simp only [List.set_cons_succ] | simp only [List.set_cons_zero]))
    refine wpAnyH_ready (rs := [12]) (by kernel_rfl) (by simp) ?_
    refine AllReadyH.cons (o := ⟨none, _, _, _, _, _⟩) rfl (fun K hK => ?_) AllReadyH.nil
    rw [if_pos (by kernel_rfl)]
    have hz := HZ.out _ hbb
    refine wp_store_row _ _ _ rfl (w.heap.size + 1) (T2 n A2 (addL L r v).length c2) rfl rfl _ _ hz (infoT n A2 (addL L r v).length c2) rfl (one_T _ _ _ _) ?_
    refine hK.out _ _ (by exact fr_row (S := fun k => k = w.heap.size + 1) (Fr.of_below hbb) rfl _) (fun hHeld => ?_)
    clear hK K
    (repeat (first | simp only [Act.put] | simp only [List.setIfInBounds_toArray] | simp only [List.set_cons_succ] | simp only [List.set_cons_zero]))
    refine wpAnyH_take (i := 13) (oi := ⟨some 7, _, _, _, _, _⟩) (v := ?_) rfl (by kernel_rfl) (by kernel_rfl) (by kernel_rfl) (fun _ _ _ h => h) (Or.inl ⟨by kernel_rfl, ?_⟩) (by assumption) ?_
    rotate_left
    · (intro w hSw; clear hSw; go_simp; try with_reducible rfl)
    (repeat (first | simp only [Act.put] | simp only [List.setIfInBounds_toArray] | simp only [List.set_cons_succ] | simp only [List.set_cons_zero]))
    refine wpAnyH_done (by kernel_rfl) ?_ _
    have hF := Lib.hid (radd_end (n := (n : Int)) hA2 hz hbb HB1.out HW.out HB.out)
    clear hA2 hHeld hz hbb
    go_wp2_with fail
    refine bodyPost_ret (retT2 rfl _ _ (w.heap.size + 1) rfl n A2 (addL L r v).length c2 35 hF.out.1 _ rfl) rfl ?_
    exact ⟨_, _, rfl, Lib.hid hF.out.2⟩
end Go.Proofs.Ythbocddkomhpoaa
