/- purse: all of an asset. -/
import Derived.Test.YtpegkojcemggaabPuB
import Derived.OwnWalk
namespace Go.Proofs.Ytpegkojcemggaab
open Go.RowKit

theorem pu_index (z : Ti) (k : Nat) (hk : k < 8) (w : World) : (Instr.index 24 (.agg (PL z).toArray) (.int .i64 (k : Int))).run Try.prog w = .ok (.agg (UC z k)) w := by
  rcases acc8 hk with rfl | rfl | rfl | rfl | rfl | rfl | rfl | rfl <;> kernel_rfl
theorem pu_info_n : (Try.prog.info? 2).map (fun i => (i.zero, i.size, i.bytes)) = some (some (.int .i64 0), 1, 8) := by kernel_rfl
theorem pu_info_parts {ty : TypeId} {z : Value} {n s : Nat} (h : (Try.prog.info? ty).map (fun i => (i.zero, i.size, i.bytes)) = some (some z, n, s)) : ∃ i, Try.prog.info? ty = some i ∧ i.zero = some z ∧ i.size = n ∧ i.bytes = s := by
  obtain ⟨i, hi, he⟩ := Option.map_eq_some_iff.1 h
  injection he with h1 h2
  injection h2 with h2 h3
  exact ⟨i, hi, h1, h2, h3⟩
theorem pu_cell_new (w : World) (v : Value) (t : TypeId) : ∀ (j : Nat) (u : Value), [v][j]? = some u → (w.alloc (.cells #[v] t)).cell? ((⟨w.heap.size, 0, none⟩ : Addr).add j) = some u := by
  intro j u hu
  rcases j with _ | j
  · injection hu with hu; subst hu
    have hr : (w.alloc (.cells #[v] t)).heap[w.heap.size]? = some (.cells #[v] t (0, 0)) := heap_alloc_new w _
    rw [Addr.add_mid, cell_of_row _ _ _ _ _ _ hr]; rfl
  · simp at hu
theorem pu_own_keep {w w' : World} {base n : Nat} {v : Value} {xs : List Value} {e : TypeId} {size : Nat} (h : w.ownsRow base e size v n xs) (hb : Below w.heap.size w w') : w'.ownsRow base e size v n xs := by
  obtain ⟨h1, h2⟩ := h
  refine ⟨h1, ?_⟩
  rcases h2 with hn | ⟨k, cap, cur, rfl, hb', hk, rest⟩
  · exact .inl hn
  · have hlt : k < w.heap.size := by
      rcases Nat.lt_or_ge k w.heap.size with h' | h'
      · exact h'
      · rw [Array.getElem?_eq_none h'] at hk; cases hk
    exact .inr ⟨k, cap, cur, rfl, hb', (hb.block k hlt).trans hk, rest⟩
theorem pu_grown {w w' : World} {g k : Nat} {o : Obj} (h : w.grownBy w' (some g)) (ho : w.heap[k]? = some o) (hne : k ≠ g) : w'.heap[k]? = some o := by
  have hlt : k < w.heap.size := by
    rcases Nat.lt_or_ge k w.heap.size with h' | h'
    · exact h'
    · rw [Array.getElem?_eq_none h'] at ho; cases ho
  exact (World.grownBy.block h k hlt (fun e => hne (by injection e))).trans ho
theorem pu_grown_below {w w' : World} {g B : Nat} (h : w.grownBy w' (some g)) (hB : B ≤ g) (hs : B ≤ w.heap.size) : Below B w w' :=
  ⟨World.grownBy.os h, World.grownBy.tape h, World.grownBy.output h, World.grownBy.size h, fun k hk => World.grownBy.block h k (by omega) (fun e => by injection e; omega)⟩
def asI (z : Ti) (o k : Nat) : List Int := (List.range k).map fun i => z (6 * i + o)
def asV (l : List Int) : List Value := l.map fun n => Value.int .i64 n
theorem asI_len (z : Ti) (o k : Nat) : (asI z o k).length = k := by simp [asI]
theorem asI_succ (z : Ti) (o k : Nat) : asV (asI z o (k + 1)) = asV (asI z o k) ++ [Value.int .i64 (z (6 * k + o))] := by simp [asI, asV, List.range_succ]
theorem asI_8 (z : Ti) (o : Nat) : asI z o 8 = [z (0 + o), z (6 + o), z (12 + o), z (18 + o), z (24 + o), z (30 + o), z (36 + o), z (42 + o)] := rfl
theorem cash_list (z : Ti) : (asI z 0 8 ++ [z 48]).sum = cashS z := by simp [asI_8, cashS]; omega
theorem stock_list (z : Ti) : (asI z 1 8).sum = stockS z := by simp [asI_8, stockS]; omega
/-- A slice of one's own, as it is read. -/
theorem own_sli {w : World} {base g n cap : Nat} {zs : List Int} {e : TypeId} (h : w.ownsRow base e 1 (.slice (some ⟨g, 0, none⟩) n cap) n (asV zs)) (hin : ∀ x ∈ zs, InR x) : SlI w (some ⟨g, 0, none⟩) n zs := by
  have hl : zs.length = n := by have := h.1; simpa [asV] using this
  refine ⟨hl, hin, .inr ⟨g, 0, rfl, fun i hi => ?_⟩⟩
  rw [Nat.zero_add, h.cellAt i (by omega)]
  simp [asV, List.getD_eq_getElem?_getD, List.getElem?_eq_getElem (show i < zs.length by omega)]
theorem asI_in {z : Ti} (hz : ∀ k, k < 49 → InR (z k)) {o k : Nat} (ho : o < 6) (hk : k ≤ 8) : ∀ x ∈ asI z o k, InR x := by
  intro x hx
  simp only [asI, List.mem_map, List.mem_range] at hx
  obtain ⟨i, hi, rfl⟩ := hx
  exact hz _ (by omega)

set_option maxHeartbeats 4000000 in
set_option maxRecDepth 100000 in
theorem all_cash (z : Ti) (hin : ∀ k, k < 49 → InR (z k)) (w : World) :
    Calls Try.prog 16 #[.agg (TC z), .int .i64 1] w fun e w' => e = .returned (.tuple #[.int .i64 (tv (cashS z)), .int .i64 (te (cashS z))]) ∧ Below w.heap.size w w' := by
  obtain ⟨i0, hi0, hz0, hz1, hz2⟩ := pu_info_parts pu_info_n
  have Hin := Lib.hid hin; clear hin
  have hmk : ∀ w : World, (Instr.makeSlice 69 (.int .i64 0) (.int .i64 9)).run Try.prog w = .ok (.slice (some ⟨w.heap.size, 0, none⟩) 0 9) (w.alloc (.cells #[.int .i64 0, .int .i64 0, .int .i64 0, .int .i64 0, .int .i64 0, .int .i64 0, .int .i64 0, .int .i64 0, .int .i64 0] 2)) := fun _ => by kernel_rfl
  go_enter Try.func16, Try.ntmps16
  go_wp2_with ((with_reducible apply loadPs); rfl; rfl; rfl; (focus ((repeat' (first | (with_reducible assumption) | ((with_reducible refine heap_last ?_); (focus (first | (simp; done) | omega | (simp; omega)))) | ((with_reducible refine heap_prev ?_ ?_); (focus (first | (simp; done) | omega | (simp; omega)))) | (with_reducible apply row_heap) | ((with_reducible apply till_set); (focus (first | (simp; done) | omega | (simp; omega)))) | ((with_reducible refine sign_other ?_ ?_); (focus (first | (simp; done) | omega | (simp; omega)))) | ((with_reducible refine row_other ?_ ?_); (focus (first | (simp; done) | omega | (simp; omega)))) | (with_reducible refine drew_heap ?_) | (with_reducible refine drewN_heap ?_))); done)); skip)
  go_loopw [6, 14] (fun l i wr => ∃ k : Nat, k ≤ 8 ∧ i = .int .i64 k ∧ l = .slice (some ⟨w.heap.size + 1, 0, none⟩) k 9 ∧ Hid (wr.ownsRow w.heap.size 2 1 (.slice (some ⟨w.heap.size + 1, 0, none⟩) k 9) k (asV (asI z 0 k))) ∧ Hid (wr.heap[w.heap.size]? = some (.cells (TC z) 26 (0, 0))) ∧ Below w.heap.size w wr ∧ w.heap.size + 2 ≤ wr.heap.size) (fun _ i _ => 8 - (intOf i).toNat)
  case atStart =>
    refine ⟨0, by omega, rfl, rfl, ?_, ?_, by (focus ((repeat' (first | (with_reducible exact Below.refl _ _) | (with_reducible assumption) | (with_reducible refine Below.alloc ?_ ?_ _) | (with_reducible refine Below.setCell ?_ ?_ _) | (with_reducible refine Below.row ?_ ?_ _) | (with_reducible refine Below.drew ?_) | (with_reducible refine below_drewN ?_ _) | (focus (first | (simp; done) | omega | (simp; omega))))); done)), by simp⟩
    · show World.ownsRow _ _ _ _ _ _ _
      have := World.ownsRow_made (base := w.heap.size) (e := 2) (size := 1) (w.alloc (.cells (TC z) 26)) #[.int .i64 0, .int .i64 0, .int .i64 0, .int .i64 0, .int .i64 0, .int .i64 0, .int .i64 0, .int .i64 0, .int .i64 0] 9 (by simp) (by unfold maxLen; omega) rfl
      simpa [asV, asI] using this
    · show _ = _; (focus ((repeat' (first | (with_reducible assumption) | ((with_reducible refine heap_last ?_); (focus (first | (simp; done) | omega | (simp; omega)))) | ((with_reducible refine heap_prev ?_ ?_); (focus (first | (simp; done) | omega | (simp; omega)))) | (with_reducible apply row_heap) | ((with_reducible apply till_set); (focus (first | (simp; done) | omega | (simp; omega)))) | ((with_reducible refine sign_other ?_ ?_); (focus (first | (simp; done) | omega | (simp; omega)))) | ((with_reducible refine row_other ?_ ?_); (focus (first | (simp; done) | omega | (simp; omega)))) | (with_reducible refine drew_heap ?_) | (with_reducible refine drewN_heap ?_))); done))
  case round =>
    obtain ⟨k, hk, rfl, rfl, hown, ht, hB, hsz⟩ := hrel
    by_cases hlt : k < 8
    · have hltI : (k : Int) < 8 := by omega
      have hk0 : (0 : Int) ≤ (k : Int) := by omega
      have hidx := pu_index z k hlt
      have HC := Lib.hid (asI_succ z 0 k)
      simp only [Nat.add_zero] at HC
      have hO := Lib.hid hown.out
      go_wp2_with (first | ((with_reducible refine (of_cash _ _ _ _ _ _ _).mono ?_); rintro e w1 ⟨rfl, b1⟩) | (at_builtin; refine wpList_append_fits _ rfl _ _ 69 rfl w.heap.size 2 i0 1 Try.underlying69 hi0 hz1 (w.heap.size + 1) k 9 (asV (asI z 0 k)) rfl ?c0 ⟨w1.heap.size, 0, none⟩ 1 1 [.int .i64 (z (6 * k))] rfl rfl ?c1 ?c2 ?c3 ?_))
      case c0 => exact pu_own_keep hO.out (Below.alloc (Below.trans (by (focus ((repeat' (first | (with_reducible exact Below.refl _ _) | (with_reducible assumption) | (with_reducible refine Below.alloc ?_ ?_ _) | (with_reducible refine Below.setCell ?_ ?_ _) | (with_reducible refine Below.row ?_ ?_ _) | (with_reducible refine Below.drew ?_) | (with_reducible refine below_drewN ?_ _) | (focus (first | (simp; done) | omega | (simp; omega))))); done))) (b1.mono (by (focus (first | (simp; done) | omega | (simp; omega)))))) (by have := b1.size; simp at this; omega) _)
      case c1 => exact pu_cell_new _ _ _
      case c2 => intro u hu; rw [List.mem_singleton] at hu; subst hu; rfl
      case c3 => omega
      intro w2 hown2 hg2
      have B1 : Below wr.heap.size wr w1 := Below.trans (by (focus ((repeat' (first | (with_reducible exact Below.refl _ _) | (with_reducible assumption) | (with_reducible refine Below.alloc ?_ ?_ _) | (with_reducible refine Below.setCell ?_ ?_ _) | (with_reducible refine Below.row ?_ ?_ _) | (with_reducible refine Below.drew ?_) | (with_reducible refine below_drewN ?_ _) | (focus (first | (simp; done) | omega | (simp; omega))))); done))) (b1.mono (by (focus (first | (simp; done) | omega | (simp; omega)))))
      have B2 : Below w.heap.size w w1 := hB.trans (B1.mono (by omega))
      have B3 : Below w.heap.size w w2 := (B2.alloc B2.size (.cells #[.int .i64 (z (6 * k))] 2)).trans (pu_grown_below hg2 (by omega) (by have := B2.size; simp; omega))
      have z2 : w.heap.size + 2 ≤ w2.heap.size := by have := B1.size; have := World.grownBy.size hg2; simp at this; omega
      have t2 : w2.heap[w.heap.size]? = some (.cells (TC z) 26 (0, 0)) := pu_grown hg2 (heap_prev (by have := B1.size; omega) ((B1.block _ (by omega)).trans ht.out)) (by omega)
      have T2 := Lib.hid t2
      have O2 := Lib.hid hown2
      clear b1 B1 B2 hg2 hown2 t2 hown ht hO
      go_wp2_with fail
      exact ⟨⟨k + 1, by omega, by go_num, rfl, by show World.ownsRow _ _ _ _ _ _ _; rw [HC.out]; exact O2.out, T2, B3, z2⟩, by simp [intOf]; omega⟩
    · obtain rfl : k = 8 := by omega
      have hO := Lib.hid hown.out
      have HL := Lib.hid (cash_list z)
      have H48 : Hid (InR (z 48)) := Hin.out 48 (by omega)
      have HA : Hid (∀ x ∈ asI z 0 8, InR x) := asI_in Hin.out (by omega) (by omega)
      have f48 := till_cell ht.out (show 48 < 49 by omega)
      generalize z 48 = v at *
      generalize asI z 0 8 = l at *
      clear hown
      go_wp2_with (at_builtin; refine wpList_append_fits _ rfl _ _ 69 rfl w.heap.size 2 i0 1 Try.underlying69 hi0 hz1 (w.heap.size + 1) 8 9 (asV l) rfl ?d0 ⟨wr.heap.size, 0, none⟩ 1 1 [.int .i64 v] rfl rfl ?d1 ?d2 ?d3 ?_)
      case d0 => exact pu_own_keep hO.out (by (focus ((repeat' (first | (with_reducible exact Below.refl _ _) | (with_reducible assumption) | (with_reducible refine Below.alloc ?_ ?_ _) | (with_reducible refine Below.setCell ?_ ?_ _) | (with_reducible refine Below.row ?_ ?_ _) | (with_reducible refine Below.drew ?_) | (with_reducible refine below_drewN ?_ _) | (focus (first | (simp; done) | omega | (simp; omega))))); done)))
      case d1 => exact pu_cell_new _ _ _
      case d2 => intro u hu; rw [List.mem_singleton] at hu; subst hu; rfl
      case d3 => omega
      intro w2 hown2 hg2
      have B3 : Hid (Below w.heap.size w w2) := (hB.alloc hB.size (.cells #[.int .i64 v] 2)).trans (pu_grown_below hg2 (by omega) (by have := hB.size; simp; omega))
      have SL : SlI w2 (some ⟨w.heap.size + 1, 0, none⟩) 9 (l ++ [v]) := own_sli (by simpa [asV] using hown2) (by intro x hx; rcases List.mem_append.1 hx with h | h; exact HA.out x h; rw [List.mem_singleton] at h; subst h; exact H48.out)
      have SC := Sum_c _ 9 9 _ w2 SL (by omega)
      rw [HL.out] at SC
      have HS := Lib.hid SC
      clear hown2 hg2 SL SC hO ht f48
      go_wp2_with ((with_reducible refine HS.out.mono ?_); rintro e w3 ⟨rfl, b3⟩)
      go_ret2
      exact ⟨rfl, B3.out.trans (b3.mono B3.out.size)⟩
set_option maxHeartbeats 4000000 in
set_option maxRecDepth 100000 in
theorem all_stock (z : Ti) (hin : ∀ k, k < 49 → InR (z k)) (w : World) :
    Calls Try.prog 16 #[.agg (TC z), .int .i64 2] w fun e w' => e = .returned (.tuple #[.int .i64 (tv (stockS z)), .int .i64 (te (stockS z))]) ∧ Below w.heap.size w w' := by
  obtain ⟨i0, hi0, hz0, hz1, hz2⟩ := pu_info_parts pu_info_n
  have Hin := Lib.hid hin; clear hin
  have hmk : ∀ w : World, (Instr.makeSlice 69 (.int .i64 0) (.int .i64 9)).run Try.prog w = .ok (.slice (some ⟨w.heap.size, 0, none⟩) 0 9) (w.alloc (.cells #[.int .i64 0, .int .i64 0, .int .i64 0, .int .i64 0, .int .i64 0, .int .i64 0, .int .i64 0, .int .i64 0, .int .i64 0] 2)) := fun _ => by kernel_rfl
  go_enter Try.func16, Try.ntmps16
  go_wp2_with ((with_reducible apply loadPs); rfl; rfl; rfl; (focus ((repeat' (first | (with_reducible assumption) | ((with_reducible refine heap_last ?_); (focus (first | (simp; done) | omega | (simp; omega)))) | ((with_reducible refine heap_prev ?_ ?_); (focus (first | (simp; done) | omega | (simp; omega)))) | (with_reducible apply row_heap) | ((with_reducible apply till_set); (focus (first | (simp; done) | omega | (simp; omega)))) | ((with_reducible refine sign_other ?_ ?_); (focus (first | (simp; done) | omega | (simp; omega)))) | ((with_reducible refine row_other ?_ ?_); (focus (first | (simp; done) | omega | (simp; omega)))) | (with_reducible refine drew_heap ?_) | (with_reducible refine drewN_heap ?_))); done)); skip)
  go_loopw [6, 14] (fun l i wr => ∃ k : Nat, k ≤ 8 ∧ i = .int .i64 k ∧ l = .slice (some ⟨w.heap.size + 1, 0, none⟩) k 9 ∧ Hid (wr.ownsRow w.heap.size 2 1 (.slice (some ⟨w.heap.size + 1, 0, none⟩) k 9) k (asV (asI z 1 k))) ∧ Hid (wr.heap[w.heap.size]? = some (.cells (TC z) 26 (0, 0))) ∧ Below w.heap.size w wr ∧ w.heap.size + 2 ≤ wr.heap.size) (fun _ i _ => 8 - (intOf i).toNat)
  case atStart =>
    refine ⟨0, by omega, rfl, rfl, ?_, ?_, by (focus ((repeat' (first | (with_reducible exact Below.refl _ _) | (with_reducible assumption) | (with_reducible refine Below.alloc ?_ ?_ _) | (with_reducible refine Below.setCell ?_ ?_ _) | (with_reducible refine Below.row ?_ ?_ _) | (with_reducible refine Below.drew ?_) | (with_reducible refine below_drewN ?_ _) | (focus (first | (simp; done) | omega | (simp; omega))))); done)), by simp⟩
    · show World.ownsRow _ _ _ _ _ _ _
      have := World.ownsRow_made (base := w.heap.size) (e := 2) (size := 1) (w.alloc (.cells (TC z) 26)) #[.int .i64 0, .int .i64 0, .int .i64 0, .int .i64 0, .int .i64 0, .int .i64 0, .int .i64 0, .int .i64 0, .int .i64 0] 9 (by simp) (by unfold maxLen; omega) rfl
      simpa [asV, asI] using this
    · show _ = _; (focus ((repeat' (first | (with_reducible assumption) | ((with_reducible refine heap_last ?_); (focus (first | (simp; done) | omega | (simp; omega)))) | ((with_reducible refine heap_prev ?_ ?_); (focus (first | (simp; done) | omega | (simp; omega)))) | (with_reducible apply row_heap) | ((with_reducible apply till_set); (focus (first | (simp; done) | omega | (simp; omega)))) | ((with_reducible refine sign_other ?_ ?_); (focus (first | (simp; done) | omega | (simp; omega)))) | ((with_reducible refine row_other ?_ ?_); (focus (first | (simp; done) | omega | (simp; omega)))) | (with_reducible refine drew_heap ?_) | (with_reducible refine drewN_heap ?_))); done))
  case round =>
    obtain ⟨k, hk, rfl, rfl, hown, ht, hB, hsz⟩ := hrel
    by_cases hlt : k < 8
    · have hltI : (k : Int) < 8 := by omega
      have hk0 : (0 : Int) ≤ (k : Int) := by omega
      have hidx := pu_index z k hlt
      have HC := Lib.hid (asI_succ z 1 k)
      have hO := Lib.hid hown.out
      go_wp2_with (first | ((with_reducible refine (of_stock _ _ _ _ _ _ _).mono ?_); rintro e w1 ⟨rfl, b1⟩) | (at_builtin; refine wpList_append_fits _ rfl _ _ 69 rfl w.heap.size 2 i0 1 Try.underlying69 hi0 hz1 (w.heap.size + 1) k 9 (asV (asI z 1 k)) rfl ?c0 ⟨w1.heap.size, 0, none⟩ 1 1 [.int .i64 (z (6 * k + 1))] rfl rfl ?c1 ?c2 ?c3 ?_))
      case c0 => exact pu_own_keep hO.out (Below.alloc (Below.trans (by (focus ((repeat' (first | (with_reducible exact Below.refl _ _) | (with_reducible assumption) | (with_reducible refine Below.alloc ?_ ?_ _) | (with_reducible refine Below.setCell ?_ ?_ _) | (with_reducible refine Below.row ?_ ?_ _) | (with_reducible refine Below.drew ?_) | (with_reducible refine below_drewN ?_ _) | (focus (first | (simp; done) | omega | (simp; omega))))); done))) (b1.mono (by (focus (first | (simp; done) | omega | (simp; omega)))))) (by have := b1.size; simp at this; omega) _)
      case c1 => exact pu_cell_new _ _ _
      case c2 => intro u hu; rw [List.mem_singleton] at hu; subst hu; rfl
      case c3 => omega
      intro w2 hown2 hg2
      have B1 : Below wr.heap.size wr w1 := Below.trans (by (focus ((repeat' (first | (with_reducible exact Below.refl _ _) | (with_reducible assumption) | (with_reducible refine Below.alloc ?_ ?_ _) | (with_reducible refine Below.setCell ?_ ?_ _) | (with_reducible refine Below.row ?_ ?_ _) | (with_reducible refine Below.drew ?_) | (with_reducible refine below_drewN ?_ _) | (focus (first | (simp; done) | omega | (simp; omega))))); done))) (b1.mono (by (focus (first | (simp; done) | omega | (simp; omega)))))
      have B2 : Below w.heap.size w w1 := hB.trans (B1.mono (by omega))
      have B3 : Below w.heap.size w w2 := (B2.alloc B2.size (.cells #[.int .i64 (z (6 * k + 1))] 2)).trans (pu_grown_below hg2 (by omega) (by have := B2.size; simp; omega))
      have z2 : w.heap.size + 2 ≤ w2.heap.size := by have := B1.size; have := World.grownBy.size hg2; simp at this; omega
      have t2 : w2.heap[w.heap.size]? = some (.cells (TC z) 26 (0, 0)) := pu_grown hg2 (heap_prev (by have := B1.size; omega) ((B1.block _ (by omega)).trans ht.out)) (by omega)
      have T2 := Lib.hid t2
      have O2 := Lib.hid hown2
      clear b1 B1 B2 hg2 hown2 t2 hown ht hO
      go_wp2_with fail
      exact ⟨⟨k + 1, by omega, by go_num, rfl, by show World.ownsRow _ _ _ _ _ _ _; rw [HC.out]; exact O2.out, T2, B3, z2⟩, by simp [intOf]; omega⟩
    · obtain rfl : k = 8 := by omega
      have HL := Lib.hid (stock_list z)
      have HA : Hid (∀ x ∈ asI z 1 8, InR x) := asI_in Hin.out (by omega) (by omega)
      have SL : SlI wr (some ⟨w.heap.size + 1, 0, none⟩) 8 (asI z 1 8) := own_sli hown.out HA.out
      have SC := Sum_c _ 8 9 _ wr SL (by omega)
      rw [HL.out] at SC
      have HS := Lib.hid SC
      clear hown SL SC ht
      go_wp2_with ((with_reducible refine HS.out.mono ?_); rintro e w3 ⟨rfl, b3⟩)
      go_ret2
      exact ⟨rfl, hB.trans (b3.mono hB.size)⟩

end Go.Proofs.Ytpegkojcemggaab
