/- order: what the sort compares by (order.Sorted's function). -/
import Derived.Test.YtemmbgbmkihbaaaOrB
import Derived.Test.YtemmbgbmkihbaaaSrM
import Derived.Deep.RegionLaw
namespace Go.Proofs.Ytemmbgbmkihbaaa
open Go.RowKit

/-- Is the first order ahead of the second one? -/
def ahdO (x y : Od) : Bool := ahdN x.id x.side x.price x.seq y.id y.side y.price y.seq
def cmpO (x y : Od) : Int := if rkN x.side ≠ rkN y.side then rkN x.side - rkN y.side else if ahdO x y = true then -1 else if ahdO y x = true then 1 else 0
theorem rk_r (s : Int) : 0 ≤ rkN s ∧ rkN s ≤ 2 := by unfold rkN; (repeat' split) <;> omega
theorem ahead_o (x y : Od) (w : World) : Calls Try.prog 62 #[x.val, y.val] w fun e w' => e = .returned (.bool (ahdO x y)) ∧ Gw w w' := ahead_c _ _ _ _ _ _ _ _ _ _ _ _ w
section
variable {ops : Array Oper} {rest : List Oper} {o : Oper} {a : Act} {w : World} {Q : Exit → Act → World → Prop}
theorem loadO (hgd : Region.wanted o (yielded ops a.tmps) = true) (x : Operand) (ho : o.op = .load 32 x) (g : Nat) (hx : a.eval x = .pointer (some ⟨g, 0, none⟩)) (z : Od) (t : TypeId)
    (hg : w.heap[g]? = some (.cells (encO z).toArray t (0, 0))) (h : wpList Try.prog ops Q rest (a.put o.dst z.val) w) : wpList Try.prog ops Q (o :: rest) a w :=
  BigFrame.wpList_want hgd fun _ hK => wp_load_row _ x ho g hx _ _ (0, 0) _ hg Try.underlying32 rfl infoO (hK _ _ h)
end
theorem two_box (w : World) (o1 o2 : Obj) (n : Nat) : (((w.alloc o1).alloc o2).drewN n).heap[w.heap.size]? = some o1 ∧ (((w.alloc o1).alloc o2).drewN n).heap[w.heap.size + 1]? = some o2 ∧ Gw w (((w.alloc o1).alloc o2).drewN n) ∧ (((w.alloc o1).alloc o2).drewN n).heap.size = w.heap.size + 2 := by
  refine ⟨?_, ?_, ⟨?_, ?_⟩, ?_⟩
  · show ((w.alloc o1).alloc o2).heap[w.heap.size]? = some o1
    exact hd_prev (by simp) (hd_last rfl)
  · show ((w.alloc o1).alloc o2).heap[w.heap.size + 1]? = some o2
    exact hd_last (by simp)
  · exact below_drewN (((Below.refl _ _).alloc (Nat.le_refl _) _).alloc (by simp) _) n
  · exact Nat.le_add_right _ _
  · show ((w.alloc o1).alloc o2).heap.size = _
    simp
theorem rank_q (s : Int) (W : World) : Calls Try.prog 61 #[.int .i64 s] W fun e w' => e = .returned (.int .i64 (rkN s)) ∧ w' = W := (rank_c s W).mono fun _ _ ⟨h1, h2⟩ => ⟨h1, h2.symm⟩
set_option maxHeartbeats 4000000 in
set_option maxRecDepth 100000 in
theorem clo_rank (x y : Od) (w : World) (h1 : rkN x.side ≠ rkN y.side) :
    Calls Try.prog 60 #[.agg #[.int .u64 x.id, .int .i64 x.acc, .int .i64 x.side, .int .i64 x.price, .int .i64 x.qty, .int .u64 x.seq], .agg #[.int .u64 y.id, .int .i64 y.acc, .int .i64 y.side, .int .i64 y.price, .int .i64 y.qty, .int .u64 y.seq]] w fun e w' => e = .returned (.int .i64 (rkN x.side - rkN y.side)) ∧ Gw w w' := by
  have mixed : Try.prog.follows .mixedOrders = true := by kernel_rfl
  have HR := Lib.hid rank_q
  have r1 := rk_r x.side
  have r2 := rk_r y.side
  have e1 : (rkN x.side != rkN y.side) = true := by simp [h1]
  have ew : IntKind.i64.wrap (rkN x.side - rkN y.side) = rkN x.side - rkN y.side := by rw [IntKind.wrap_i64]; omega
  clear h1 r1 r2
  go_enter Try.func60, Try.ntmps60
  go_wp2_with fail
  go_quiet ((go_at_call 61; with_reducible exact Calls.quiet_of_same (HR.out _ _)))
  have TB := two_box w (Obj.cells #[.int .u64 x.id, .int .i64 x.acc, .int .i64 x.side, .int .i64 x.price, .int .i64 x.qty, .int .u64 x.seq] 32) (Obj.cells #[.int .u64 y.id, .int .i64 y.acc, .int .i64 y.side, .int .i64 y.price, .int .i64 y.qty, .int .u64 y.seq] 32) nq
  generalize ((w.alloc (Obj.cells #[.int .u64 x.id, .int .i64 x.acc, .int .i64 x.side, .int .i64 x.price, .int .i64 x.qty, .int .u64 x.seq] 32)).alloc (Obj.cells #[.int .u64 y.id, .int .i64 y.acc, .int .i64 y.side, .int .i64 y.price, .int .i64 y.qty, .int .u64 y.seq] 32)).drewN nq = w1 at TB ⊢
  obtain ⟨f1, f2, G1, z1⟩ := TB
  have c1 : w1.cell? ⟨w.heap.size, 2, none⟩ = some (.int .i64 x.side) := by rw [cell_of_row _ _ _ _ _ _ f1]; rfl
  have c2 : w1.cell? ⟨w.heap.size + 1, 2, none⟩ = some (.int .i64 y.side) := by rw [cell_of_row _ _ _ _ _ _ f2]; rfl
  clear f1 f2
  go_wp2_with fail
  go_quiet ((go_at_call 61; with_reducible exact Calls.quiet_of_same (HR.out _ _)))
  go_wp2_with fail
  go_ret
  exact ⟨rfl, G1.trans ⟨below_drewN (Below.refl _ _) _, Nat.le_add_right _ _⟩⟩
set_option maxHeartbeats 4000000 in
set_option maxRecDepth 100000 in
theorem clo_ahead (x y : Od) (w : World) (h1 : rkN x.side = rkN y.side) (h2 : ahdO x y = true) :
    Calls Try.prog 60 #[.agg #[.int .u64 x.id, .int .i64 x.acc, .int .i64 x.side, .int .i64 x.price, .int .i64 x.qty, .int .u64 x.seq], .agg #[.int .u64 y.id, .int .i64 y.acc, .int .i64 y.side, .int .i64 y.price, .int .i64 y.qty, .int .u64 y.seq]] w fun e w' => e = .returned (.int .i64 (-1)) ∧ Gw w w' := by
  have mixed : Try.prog.follows .mixedOrders = true := by kernel_rfl
  have HR := Lib.hid rank_q
  have e1 : (rkN x.side != rkN y.side) = false := by simp [h1]
  have HA : ∀ w, Calls Try.prog 62 #[x.val, y.val] w fun e w' => e = .returned (.bool true) ∧ Gw w w' := fun w => by rw [← h2]; exact ahead_o x y w
  have HA' := Lib.hid HA
  clear h1 HA h2
  go_enter Try.func60, Try.ntmps60
  go_wp2_with fail
  go_quiet ((go_at_call 61; with_reducible exact Calls.quiet_of_same (HR.out _ _)))
  have TB := two_box w (Obj.cells #[.int .u64 x.id, .int .i64 x.acc, .int .i64 x.side, .int .i64 x.price, .int .i64 x.qty, .int .u64 x.seq] 32) (Obj.cells #[.int .u64 y.id, .int .i64 y.acc, .int .i64 y.side, .int .i64 y.price, .int .i64 y.qty, .int .u64 y.seq] 32) nq
  generalize ((w.alloc (Obj.cells #[.int .u64 x.id, .int .i64 x.acc, .int .i64 x.side, .int .i64 x.price, .int .i64 x.qty, .int .u64 x.seq] 32)).alloc (Obj.cells #[.int .u64 y.id, .int .i64 y.acc, .int .i64 y.side, .int .i64 y.price, .int .i64 y.qty, .int .u64 y.seq] 32)).drewN nq = w1 at TB ⊢
  obtain ⟨f1, f2, G1, z1⟩ := TB
  go_wp2_with (first | ((with_reducible apply loadO (z := x)); rfl; rfl; rfl; exact f1; skip) | ((with_reducible apply loadO (z := y)); rfl; rfl; rfl; exact f2; skip))
  ((with_reducible refine (HA'.out _).mono ?_); rintro e w2 ⟨rfl, k2⟩)
  have F2 : w2.heap[w.heap.size]? = some (.cells (encO x).toArray 32 (0, 0)) := by rw [k2.b.block _ (by omega)]; exact f1
  have F2' : w2.heap[w.heap.size + 1]? = some (.cells (encO y).toArray 32 (0, 0)) := by rw [k2.b.block _ (by omega)]; exact f2
  have G2 := G1.trans k2
  have z2 : w.heap.size + 2 ≤ w2.heap.size := by have := k2.b.size; omega
  clear k2 f1 f2 G1 z1
  go_wp2_with fail
  go_ret
  exact ⟨rfl, G2⟩
set_option maxHeartbeats 4000000 in
set_option maxRecDepth 100000 in
theorem clo_behind (x y : Od) (w : World) (h1 : rkN x.side = rkN y.side) (h2 : ahdO x y = false) (h3 : ahdO y x = true) :
    Calls Try.prog 60 #[.agg #[.int .u64 x.id, .int .i64 x.acc, .int .i64 x.side, .int .i64 x.price, .int .i64 x.qty, .int .u64 x.seq], .agg #[.int .u64 y.id, .int .i64 y.acc, .int .i64 y.side, .int .i64 y.price, .int .i64 y.qty, .int .u64 y.seq]] w fun e w' => e = .returned (.int .i64 1) ∧ Gw w w' := by
  have mixed : Try.prog.follows .mixedOrders = true := by kernel_rfl
  have HR := Lib.hid rank_q
  have e1 : (rkN x.side != rkN y.side) = false := by simp [h1]
  have HA : ∀ w, Calls Try.prog 62 #[x.val, y.val] w fun e w' => e = .returned (.bool false) ∧ Gw w w' := fun w => by rw [← h2]; exact ahead_o x y w
  have HA' := Lib.hid HA
  have HB : ∀ w, Calls Try.prog 62 #[y.val, x.val] w fun e w' => e = .returned (.bool true) ∧ Gw w w' := fun w => by rw [← h3]; exact ahead_o y x w
  have HB' := Lib.hid HB
  clear HB h3
  clear h1 HA h2
  go_enter Try.func60, Try.ntmps60
  go_wp2_with fail
  go_quiet ((go_at_call 61; with_reducible exact Calls.quiet_of_same (HR.out _ _)))
  have TB := two_box w (Obj.cells #[.int .u64 x.id, .int .i64 x.acc, .int .i64 x.side, .int .i64 x.price, .int .i64 x.qty, .int .u64 x.seq] 32) (Obj.cells #[.int .u64 y.id, .int .i64 y.acc, .int .i64 y.side, .int .i64 y.price, .int .i64 y.qty, .int .u64 y.seq] 32) nq
  generalize ((w.alloc (Obj.cells #[.int .u64 x.id, .int .i64 x.acc, .int .i64 x.side, .int .i64 x.price, .int .i64 x.qty, .int .u64 x.seq] 32)).alloc (Obj.cells #[.int .u64 y.id, .int .i64 y.acc, .int .i64 y.side, .int .i64 y.price, .int .i64 y.qty, .int .u64 y.seq] 32)).drewN nq = w1 at TB ⊢
  obtain ⟨f1, f2, G1, z1⟩ := TB
  go_wp2_with (first | ((with_reducible apply loadO (z := x)); rfl; rfl; rfl; exact f1; skip) | ((with_reducible apply loadO (z := y)); rfl; rfl; rfl; exact f2; skip))
  ((with_reducible refine (HA'.out _).mono ?_); rintro e w2 ⟨rfl, k2⟩)
  have F2 : w2.heap[w.heap.size]? = some (.cells (encO x).toArray 32 (0, 0)) := by rw [k2.b.block _ (by omega)]; exact f1
  have F2' : w2.heap[w.heap.size + 1]? = some (.cells (encO y).toArray 32 (0, 0)) := by rw [k2.b.block _ (by omega)]; exact f2
  have G2 := G1.trans k2
  have z2 : w.heap.size + 2 ≤ w2.heap.size := by have := k2.b.size; omega
  clear k2 f1 f2 G1 z1
  go_wp2_with (first | ((with_reducible apply loadO (z := x)); rfl; rfl; rfl; exact F2; skip) | ((with_reducible apply loadO (z := y)); rfl; rfl; rfl; exact F2'; skip))
  ((with_reducible refine (HB'.out _).mono ?_); rintro e w3 ⟨rfl, k3⟩)
  have G3 := G2.trans k3
  clear k3
  go_wp2_with fail
  go_ret
  exact ⟨rfl, G3⟩
set_option maxHeartbeats 4000000 in
set_option maxRecDepth 100000 in
theorem clo_none (x y : Od) (w : World) (h1 : rkN x.side = rkN y.side) (h2 : ahdO x y = false) (h3 : ahdO y x = false) :
    Calls Try.prog 60 #[.agg #[.int .u64 x.id, .int .i64 x.acc, .int .i64 x.side, .int .i64 x.price, .int .i64 x.qty, .int .u64 x.seq], .agg #[.int .u64 y.id, .int .i64 y.acc, .int .i64 y.side, .int .i64 y.price, .int .i64 y.qty, .int .u64 y.seq]] w fun e w' => e = .returned (.int .i64 0) ∧ Gw w w' := by
  have mixed : Try.prog.follows .mixedOrders = true := by kernel_rfl
  have HR := Lib.hid rank_q
  have e1 : (rkN x.side != rkN y.side) = false := by simp [h1]
  have HA : ∀ w, Calls Try.prog 62 #[x.val, y.val] w fun e w' => e = .returned (.bool false) ∧ Gw w w' := fun w => by rw [← h2]; exact ahead_o x y w
  have HA' := Lib.hid HA
  have HB : ∀ w, Calls Try.prog 62 #[y.val, x.val] w fun e w' => e = .returned (.bool false) ∧ Gw w w' := fun w => by rw [← h3]; exact ahead_o y x w
  have HB' := Lib.hid HB
  clear HB h3
  clear h1 HA h2
  go_enter Try.func60, Try.ntmps60
  go_wp2_with fail
  go_quiet ((go_at_call 61; with_reducible exact Calls.quiet_of_same (HR.out _ _)))
  have TB := two_box w (Obj.cells #[.int .u64 x.id, .int .i64 x.acc, .int .i64 x.side, .int .i64 x.price, .int .i64 x.qty, .int .u64 x.seq] 32) (Obj.cells #[.int .u64 y.id, .int .i64 y.acc, .int .i64 y.side, .int .i64 y.price, .int .i64 y.qty, .int .u64 y.seq] 32) nq
  generalize ((w.alloc (Obj.cells #[.int .u64 x.id, .int .i64 x.acc, .int .i64 x.side, .int .i64 x.price, .int .i64 x.qty, .int .u64 x.seq] 32)).alloc (Obj.cells #[.int .u64 y.id, .int .i64 y.acc, .int .i64 y.side, .int .i64 y.price, .int .i64 y.qty, .int .u64 y.seq] 32)).drewN nq = w1 at TB ⊢
  obtain ⟨f1, f2, G1, z1⟩ := TB
  go_wp2_with (first | ((with_reducible apply loadO (z := x)); rfl; rfl; rfl; exact f1; skip) | ((with_reducible apply loadO (z := y)); rfl; rfl; rfl; exact f2; skip))
  ((with_reducible refine (HA'.out _).mono ?_); rintro e w2 ⟨rfl, k2⟩)
  have F2 : w2.heap[w.heap.size]? = some (.cells (encO x).toArray 32 (0, 0)) := by rw [k2.b.block _ (by omega)]; exact f1
  have F2' : w2.heap[w.heap.size + 1]? = some (.cells (encO y).toArray 32 (0, 0)) := by rw [k2.b.block _ (by omega)]; exact f2
  have G2 := G1.trans k2
  have z2 : w.heap.size + 2 ≤ w2.heap.size := by have := k2.b.size; omega
  clear k2 f1 f2 G1 z1
  go_wp2_with (first | ((with_reducible apply loadO (z := x)); rfl; rfl; rfl; exact F2; skip) | ((with_reducible apply loadO (z := y)); rfl; rfl; rfl; exact F2'; skip))
  ((with_reducible refine (HB'.out _).mono ?_); rintro e w3 ⟨rfl, k3⟩)
  have G3 := G2.trans k3
  clear k3
  go_wp2_with fail
  go_ret
  exact ⟨rfl, G3⟩

theorem closure_c (x y : Od) (w : World) : Calls Try.prog 60 #[x.val, y.val] w fun e w' => e = .returned (.int .i64 (cmpO x y)) ∧ Gw w w' := by
  unfold cmpO
  by_cases h1 : rkN x.side = rkN y.side
  · rw [if_neg (by simp [h1])]
    cases h2 : ahdO x y with
    | true => rw [if_pos rfl]; exact clo_ahead x y w h1 h2
    | false =>
      rw [if_neg (by simp)]
      cases h3 : ahdO y x with
      | true => rw [if_pos rfl]; exact clo_behind x y w h1 h2 h3
      | false => rw [if_neg (by simp)]; exact clo_none x y w h1 h2 h3
  · rw [if_pos h1]; exact clo_rank x y w h1
end Go.Proofs.Ytemmbgbmkihbaaa
