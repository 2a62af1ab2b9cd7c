/- The quotient and the rest. -/
import Derived.Test.YthpgbghcmfjjoaaRefG
namespace Go.Proofs.Ythpgbghcmfjjoaa
open Go.RowKit

/-- The bits of f from k on. -/
def atop (f : Nat → Bool) (k : Nat) : Nat → Bool := fun j => decide (k ≤ j) && f j
theorem atop_all (m : Nat) (s : Bool) : NCf (atop m.testBit 0) s = NC m s := by
  unfold NC; apply NCf_congr; intro j _; simp [atop]
theorem atop_none (m : Nat) (s : Bool) : NCf (atop m.testBit 136) s = NC 0 s := by
  unfold NC; apply NCf_congr; intro j hj; simp [atop]; omega
theorem atop_set (f : Nat → Bool) (s : Bool) (k : Nat) (hk : k < 136) (hv : f k = true) : (NCf (atop f (k + 1)) s).setIfInBounds k (.bool true) = NCf (atop f k) s := by
  rw [NCf_set _ _ _ _ hk]
  apply NCf_congr
  intro j _
  unfold atop
  by_cases e : j = k
  · subst e; simp [hv]
  · rw [if_neg e]
    by_cases h1 : k ≤ j
    · simp [h1, show k + 1 ≤ j by omega]
    · simp [h1, show ¬ k + 1 ≤ j by omega]
theorem atop_skip (f : Nat → Bool) (s : Bool) (k : Nat) (hv : f k = false) : NCf (atop f (k + 1)) s = NCf (atop f k) s := by
  apply NCf_congr
  intro j _
  unfold atop
  by_cases e : j = k
  · subst e; simp [hv]
  · by_cases h1 : k ≤ j
    · simp [h1, show k + 1 ≤ j by omega]
    · simp [h1, show ¬ k + 1 ≤ j by omega]
/-- One step of the division by hand. -/
theorem div_step (a b j : Nat) (hb : 0 < b) : (a / b).testBit j = decide (b ≤ 2 * (a / 2 ^ (j + 1) % b) + (if a.testBit j then 1 else 0)) ∧
    a / 2 ^ j % b = if b ≤ 2 * (a / 2 ^ (j + 1) % b) + (if a.testBit j then 1 else 0) then 2 * (a / 2 ^ (j + 1) % b) + (if a.testBit j then 1 else 0) - b else 2 * (a / 2 ^ (j + 1) % b) + (if a.testBit j then 1 else 0) := by
  have e1 : a / 2 ^ j = 2 * (a / 2 ^ (j + 1)) + (if a.testBit j then 1 else 0) := by
    rw [div_succ, bit_eq]
    have : a / 2 ^ j % 2 = 0 ∨ a / 2 ^ j % 2 = 1 := by omega
    rcases this with h | h <;> simp [h] <;> omega
  have e2 : a / b / 2 ^ j = a / 2 ^ j / b := by rw [Nat.div_div_eq_div_mul, Nat.div_div_eq_div_mul, Nat.mul_comm]
  rw [bit_eq (a / b), e2, e1]
  obtain ⟨c, hc, hc1⟩ : ∃ c : Nat, c = (if a.testBit j then 1 else 0) ∧ c ≤ 1 := ⟨_, rfl, by split <;> omega⟩
  rw [← hc]
  generalize a / 2 ^ (j + 1) = x
  have e3 : 2 * x + c = b * (2 * (x / b)) + (2 * (x % b) + c) := by
    have := Nat.div_add_mod x b
    grind
  have hl : x % b < b := Nat.mod_lt _ hb
  rw [e3, Nat.mul_add_div hb, Nat.mul_add_mod]
  generalize x % b = y at *
  generalize x / b = z at *
  by_cases h : b ≤ 2 * y + c
  · have h1 : (2 * y + c) / b = 1 := by
      rw [Nat.div_eq_iff hb]; omega
    have h2 : (2 * y + c) % b = 2 * y + c - b := by
      rw [Nat.mod_eq_sub_mod h, Nat.mod_eq_of_lt (by omega)]
    rw [h1, Nat.mul_add_mod, h2, if_pos h]
    exact ⟨by simp [h], rfl⟩
  · have h1 : (2 * y + c) / b = 0 := Nat.div_eq_of_lt (by omega)
    have h2 : (2 * y + c) % b = 2 * y + c := Nat.mod_eq_of_lt (by omega)
    rw [h1, Nat.mul_add_mod, h2, if_neg h]
    exact ⟨by simp [h], rfl⟩

theorem atop_get (f : Nat → Bool) (s : Bool) (k i : Nat) (h : i < 136) : (NCf (atop f k) s)[i]? = some (.bool (atop f k i)) := NCf_get _ _ _ h
theorem NCf_heap {w : World} {g k : Nat} {f : Nat → Bool} {s : Bool} {t : TypeId} (hk : k < 136) (hv : f k = true) (h : w.heap[g]? = some (.cells (NCf (atop f (k + 1)) s) t (0, 0))) :
    (w.setCell ⟨g, k, none⟩ (.bool true)).heap[g]? = some (.cells (NCf (atop f k) s) t (0, 0)) := by
  rw [heap_setCell_same _ _ _ _ _ _ h, atop_set f s k hk hv]

set_option maxHeartbeats 4000000 in
set_option maxRecDepth 100000 in
theorem parts_n (a b : Nat) (s t : Bool) (ha : a < 2 ^ 136) (hb0 : 0 < b) (hb : b < 2 ^ 134) (w : World) :
    Calls Try.prog 28 #[.agg (NC a s), .agg (NC b t)] w fun e w' => e = .returned (.tuple #[.agg (NC (a / b) false), .agg (NC (a % b) false)]) ∧ Below w.heap.size w w' := by
  have hz := zero83
  have Ha := Lib.hid ha; clear ha
  have Hb := Lib.hid hb; clear hb
  have Hb0 := Lib.hid hb0; clear hb0
  go_enter Try.func28, Try.ntmps28
  go_wp2
  go_loopw [8] (fun i wr => ∃ k : Nat, k ≤ 136 ∧ i = .int .i64 ((k : Int) - 1) ∧ Hid (wr.heap[w.heap.size]? = some (.cells (NC a s) 57 (0, 0))) ∧ Hid (wr.heap[w.heap.size + 1]? = some (.cells (NC b t) 57 (0, 0))) ∧ Hid (wr.heap[w.heap.size + 1 + 1]? = some (.cells (NC 0 false) 57 (0, 0))) ∧ Hid (wr.heap[w.heap.size + 1 + 1 + 1]? = some (.cells (NC 0 false) 57 (0, 0))) ∧ Hid (wr.heap[w.heap.size + 1 + 1 + 1 + 1]? = some (.cells (NCf (atop (a / b).testBit k) false) 57 (0, 0))) ∧ Hid (wr.heap[w.heap.size + 1 + 1 + 1 + 1 + 1]? = some (.cells (NC (a / 2 ^ k % b) false) 57 (0, 0))) ∧ w.heap.size + 6 ≤ wr.heap.size ∧ Below w.heap.size w wr) (fun i _ => (intOf i + 1).toNat)
  case atStart =>
    refine ⟨136, by omega, rfl, by show _ = _; (focus ((repeat' (first | (with_reducible assumption) | ((with_reducible refine heap_last ?_); (focus (first | (simp; done) | omega | (simp; omega)))) | ((with_reducible refine heap_prev ?_ ?_); (focus (first | (simp; done) | omega | (simp; omega)))) | (with_reducible apply sign_heap) | (with_reducible apply row_heap) | (with_reducible apply bit0_heap) | ((with_reducible refine sign_other ?_ ?_); (focus (first | (simp; done) | omega | (simp; omega)))) | ((with_reducible refine row_other ?_ ?_); (focus (first | (simp; done) | omega | (simp; omega)))) | (with_reducible refine drew_heap ?_))); done)), by show _ = _; (focus ((repeat' (first | (with_reducible assumption) | ((with_reducible refine heap_last ?_); (focus (first | (simp; done) | omega | (simp; omega)))) | ((with_reducible refine heap_prev ?_ ?_); (focus (first | (simp; done) | omega | (simp; omega)))) | (with_reducible apply sign_heap) | (with_reducible apply row_heap) | (with_reducible apply bit0_heap) | ((with_reducible refine sign_other ?_ ?_); (focus (first | (simp; done) | omega | (simp; omega)))) | ((with_reducible refine row_other ?_ ?_); (focus (first | (simp; done) | omega | (simp; omega)))) | (with_reducible refine drew_heap ?_))); done)), by show _ = _; (focus ((repeat' (first | (with_reducible assumption) | ((with_reducible refine heap_last ?_); (focus (first | (simp; done) | omega | (simp; omega)))) | ((with_reducible refine heap_prev ?_ ?_); (focus (first | (simp; done) | omega | (simp; omega)))) | (with_reducible apply sign_heap) | (with_reducible apply row_heap) | (with_reducible apply bit0_heap) | ((with_reducible refine sign_other ?_ ?_); (focus (first | (simp; done) | omega | (simp; omega)))) | ((with_reducible refine row_other ?_ ?_); (focus (first | (simp; done) | omega | (simp; omega)))) | (with_reducible refine drew_heap ?_))); done)), by show _ = _; (focus ((repeat' (first | (with_reducible assumption) | ((with_reducible refine heap_last ?_); (focus (first | (simp; done) | omega | (simp; omega)))) | ((with_reducible refine heap_prev ?_ ?_); (focus (first | (simp; done) | omega | (simp; omega)))) | (with_reducible apply sign_heap) | (with_reducible apply row_heap) | (with_reducible apply bit0_heap) | ((with_reducible refine sign_other ?_ ?_); (focus (first | (simp; done) | omega | (simp; omega)))) | ((with_reducible refine row_other ?_ ?_); (focus (first | (simp; done) | omega | (simp; omega)))) | (with_reducible refine drew_heap ?_))); done)), ?_, ?_, by simp, by (focus ((repeat' (first | (with_reducible exact Below.refl _ _) | (with_reducible assumption) | (with_reducible refine Below.alloc ?_ ?_ _) | (with_reducible refine Below.setCell ?_ ?_ _) | (with_reducible refine Below.row ?_ ?_ _) | (with_reducible refine Below.drew ?_) | (with_reducible refine below_drewN ?_ _) | (focus (first | (simp; done) | omega | (simp; omega))))); done))⟩
    · show _ = _
      rw [atop_none]; (focus ((repeat' (first | (with_reducible assumption) | ((with_reducible refine heap_last ?_); (focus (first | (simp; done) | omega | (simp; omega)))) | ((with_reducible refine heap_prev ?_ ?_); (focus (first | (simp; done) | omega | (simp; omega)))) | (with_reducible apply sign_heap) | (with_reducible apply row_heap) | (with_reducible apply bit0_heap) | ((with_reducible refine sign_other ?_ ?_); (focus (first | (simp; done) | omega | (simp; omega)))) | ((with_reducible refine row_other ?_ ?_); (focus (first | (simp; done) | omega | (simp; omega)))) | (with_reducible refine drew_heap ?_))); done))
    · show _ = _
      rw [show a / 2 ^ 136 % b = 0 by rw [Nat.div_eq_of_lt Ha.out]; simp]; (focus ((repeat' (first | (with_reducible assumption) | ((with_reducible refine heap_last ?_); (focus (first | (simp; done) | omega | (simp; omega)))) | ((with_reducible refine heap_prev ?_ ?_); (focus (first | (simp; done) | omega | (simp; omega)))) | (with_reducible apply sign_heap) | (with_reducible apply row_heap) | (with_reducible apply bit0_heap) | ((with_reducible refine sign_other ?_ ?_); (focus (first | (simp; done) | omega | (simp; omega)))) | ((with_reducible refine row_other ?_ ?_); (focus (first | (simp; done) | omega | (simp; omega)))) | (with_reducible refine drew_heap ?_))); done))
  case round =>
    obtain ⟨k, hk, rfl, h0, h1, h2, h3, h4, h5, z1, hB⟩ := hrel
    by_cases hlt : 0 < k
    · obtain ⟨j, rfl⟩ : ∃ j, k = j + 1 := ⟨k - 1, by omega⟩
      rw [show (((j + 1 : Nat) : Int) - 1) = (j : Int) by omega]
      have hj : j < 136 := by omega
      have ⟨d1, d2⟩ := div_step a b j Hb0.out
      obtain ⟨x, hx⟩ : ∃ x, x = a.testBit j := ⟨_, rfl⟩
      rw [← hx] at d1 d2
      have hyb : a / 2 ^ (j + 1) % b < b := Nat.mod_lt _ Hb0.out
      have hq1 : (a / b).testBit j = false → NCf (atop (a / b).testBit (j + 1)) false = NCf (atop (a / b).testBit j) false := fun h => atop_skip _ _ _ h
      obtain ⟨y, hy⟩ : ∃ y, y = a / 2 ^ (j + 1) % b := ⟨_, rfl⟩
      rw [← hy] at d1 d2 hyb h5
      obtain ⟨r, hr⟩ : ∃ r, r = 2 * y + (if x then 1 else 0) := ⟨_, rfl⟩
      rw [← hr] at d1 d2
      have hr136 : r < 2 ^ 136 := by rw [hr]; have := Hb.out; split <;> omega
      have hb136 : b < 2 ^ 136 := by have := Hb.out; omega
      have D1 := Lib.hid d1; clear d1
      have D2 := Lib.hid d2; clear d2
      have Hx := Lib.hid hx; clear hx
      have Hy := Lib.hid hy; clear hy
      have Hr := Lib.hid hr; clear hr
      have Hq1 := Lib.hid hq1; clear hq1
      have Hyb := Lib.hid hyb; clear hyb
      have Hr136 := Lib.hid hr136; clear hr136
      have Hb136 := Lib.hid hb136; clear hb136
      have q0 : (0 : Int) ≤ (j : Int) := by omega
      have q1 : (j : Int) < 136 := by omega
      have q5 := h5.out
      go_wp2_with (first | ((with_reducible apply load83); rfl; rfl; rfl; (focus ((repeat' (first | (with_reducible assumption) | ((with_reducible refine heap_last ?_); (focus (first | (simp; done) | omega | (simp; omega)))) | ((with_reducible refine heap_prev ?_ ?_); (focus (first | (simp; done) | omega | (simp; omega)))) | (with_reducible apply sign_heap) | (with_reducible apply row_heap) | (with_reducible apply bit0_heap) | ((with_reducible refine sign_other ?_ ?_); (focus (first | (simp; done) | omega | (simp; omega)))) | ((with_reducible refine row_other ?_ ?_); (focus (first | (simp; done) | omega | (simp; omega)))) | (with_reducible refine drew_heap ?_))); done)); skip))
      clear q5
      ((with_reducible refine (twice_c _ _ _).mono ?_); rintro e w1 ⟨rfl, hb1⟩)
      have y0 : Hid (w1.heap[w.heap.size]? = some (.cells (NC a s) 57 (0, 0))) := (hb1.block _ (by omega)).trans h0
      have y1 : Hid (w1.heap[w.heap.size + 1]? = some (.cells (NC b t) 57 (0, 0))) := (hb1.block _ (by omega)).trans h1
      have y2 : Hid (w1.heap[w.heap.size + 1 + 1]? = some (.cells (NC 0 false) 57 (0, 0))) := (hb1.block _ (by omega)).trans h2
      have y3 : Hid (w1.heap[w.heap.size + 1 + 1 + 1]? = some (.cells (NC 0 false) 57 (0, 0))) := (hb1.block _ (by omega)).trans h3
      have y4 : Hid (w1.heap[w.heap.size + 1 + 1 + 1 + 1]? = some (.cells (NCf (atop (a / b).testBit (j + 1)) false) 57 (0, 0))) := (hb1.block _ (by omega)).trans h4
      have y5 : w1.heap[w.heap.size + 1 + 1 + 1 + 1 + 1]? = some (.cells (NC y false) 57 (0, 0)) := (hb1.block _ (by omega)).trans h5
      have yz : w.heap.size + 6 ≤ w1.heap.size := by have := hb1.size; omega
      have yB : Below w.heap.size w w1 := hB.trans (hb1.mono (by omega))
      clear hb1 h0 h1 h2 h3 h4 h5 z1 hB
      have c0 : (w1.setRow (w.heap.size + 1 + 1 + 1 + 1 + 1) (NC (2 * y) false)).cell? ⟨w.heap.size, j, none⟩ = some (.bool x) := by rw [cell_of_row _ _ _ _ _ _ (row_other (by omega) y0.out), NC_get _ _ _ hj, ← Hx.out]
      have c5 : (w1.setRow (w.heap.size + 1 + 1 + 1 + 1 + 1) (NC (2 * y) false)).cell? ⟨w.heap.size + 1 + 1 + 1 + 1 + 1, 0, none⟩ = some (.bool ((2 * y).testBit 0)) := by rw [cell_of_row _ _ _ _ _ _ (row_heap y5), NC_get _ _ _ (by omega)]
      have f5 : (w1.setRow (w.heap.size + 1 + 1 + 1 + 1 + 1) (NC (2 * y) false)).frozen? ⟨w.heap.size + 1 + 1 + 1 + 1 + 1, 0, none⟩ = false := frozen_of_row _ _ _ _ _ (row_heap y5)
      have Y5 := Lib.hid y5; clear y5
      obtain ⟨wx, hwx⟩ : ∃ wx, wx = (w1.setRow (w.heap.size + 1 + 1 + 1 + 1 + 1) (NC (2 * y) false)).setCell ⟨w.heap.size + 1 + 1 + 1 + 1 + 1, 0, none⟩ (.bool x) := ⟨_, rfl⟩
      have x5 : wx.heap[w.heap.size + 1 + 1 + 1 + 1 + 1]? = some (.cells (NC r false) 57 (0, 0)) := by rw [hwx, Hr.out]; exact bit0_heap (row_heap Y5.out)
      have x1 : wx.heap[w.heap.size + 1]? = some (.cells (NC b t) 57 (0, 0)) := by rw [hwx]; exact sign_other (by (focus (first | (simp; done) | omega | (simp; omega)))) (row_other (by omega) y1.out)
      have x0 : Hid (wx.heap[w.heap.size]? = some (.cells (NC a s) 57 (0, 0))) := by show _ = _; rw [hwx]; exact sign_other (by (focus (first | (simp; done) | omega | (simp; omega)))) (row_other (by omega) y0.out)
      have x2 : Hid (wx.heap[w.heap.size + 1 + 1]? = some (.cells (NC 0 false) 57 (0, 0))) := by show _ = _; rw [hwx]; exact sign_other (by (focus (first | (simp; done) | omega | (simp; omega)))) (row_other (by omega) y2.out)
      have x3 : Hid (wx.heap[w.heap.size + 1 + 1 + 1]? = some (.cells (NC 0 false) 57 (0, 0))) := by show _ = _; rw [hwx]; exact sign_other (by (focus (first | (simp; done) | omega | (simp; omega)))) (row_other (by omega) y3.out)
      have x4 : Hid (wx.heap[w.heap.size + 1 + 1 + 1 + 1]? = some (.cells (NCf (atop (a / b).testBit (j + 1)) false) 57 (0, 0))) := by show _ = _; rw [hwx]; exact sign_other (by (focus (first | (simp; done) | omega | (simp; omega)))) (row_other (by omega) y4.out)
      have xz : w.heap.size + 6 ≤ wx.heap.size := by rw [hwx]; simp; omega
      have xB : Below w.heap.size w wx := by rw [hwx]; (focus ((repeat' (first | (with_reducible exact Below.refl _ _) | (with_reducible assumption) | (with_reducible refine Below.alloc ?_ ?_ _) | (with_reducible refine Below.setCell ?_ ?_ _) | (with_reducible refine Below.row ?_ ?_ _) | (with_reducible refine Below.drew ?_) | (with_reducible refine below_drewN ?_ _) | (focus (first | (simp; done) | omega | (simp; omega))))); done))
      have y5 := Y5.out
      subst hwx
      go_wp2_with (first | ((with_reducible apply store83); rfl; rfl; rfl; rfl; (focus ((repeat' (first | (with_reducible assumption) | ((with_reducible refine heap_last ?_); (focus (first | (simp; done) | omega | (simp; omega)))) | ((with_reducible refine heap_prev ?_ ?_); (focus (first | (simp; done) | omega | (simp; omega)))) | (with_reducible apply sign_heap) | (with_reducible apply row_heap) | (with_reducible apply bit0_heap) | ((with_reducible refine sign_other ?_ ?_); (focus (first | (simp; done) | omega | (simp; omega)))) | ((with_reducible refine row_other ?_ ?_); (focus (first | (simp; done) | omega | (simp; omega)))) | (with_reducible refine drew_heap ?_))); done)); skip) | ((with_reducible apply load83); rfl; rfl; rfl; (focus ((repeat' (first | (with_reducible assumption) | ((with_reducible refine heap_last ?_); (focus (first | (simp; done) | omega | (simp; omega)))) | ((with_reducible refine heap_prev ?_ ?_); (focus (first | (simp; done) | omega | (simp; omega)))) | (with_reducible apply sign_heap) | (with_reducible apply row_heap) | (with_reducible apply bit0_heap) | ((with_reducible refine sign_other ?_ ?_); (focus (first | (simp; done) | omega | (simp; omega)))) | ((with_reducible refine row_other ?_ ?_); (focus (first | (simp; done) | omega | (simp; omega)))) | (with_reducible refine drew_heap ?_))); done)); skip))
      by_cases hbr : b ≤ r
      · have Hd : Hid (false = decide (r < b)) := by show _ = _; rw [decide_eq_false]; omega
        have Hbr := Lib.hid hbr; clear hbr
        ((with_reducible refine (below_c r b _ _ false Hr136.out Hb136.out Hd.out _).mono ?_); rintro e w2 ⟨rfl, hb2⟩)
        have a0 : Hid (w2.heap[w.heap.size]? = some (.cells (NC a s) 57 (0, 0))) := (hb2.block _ (by (focus (first | (simp; done) | omega | (simp; omega))))).trans x0
        have a1 : w2.heap[w.heap.size + 1]? = some (.cells (NC b t) 57 (0, 0)) := (hb2.block _ (by (focus (first | (simp; done) | omega | (simp; omega))))).trans x1
        have a2 : Hid (w2.heap[w.heap.size + 1 + 1]? = some (.cells (NC 0 false) 57 (0, 0))) := (hb2.block _ (by (focus (first | (simp; done) | omega | (simp; omega))))).trans x2
        have a3 : Hid (w2.heap[w.heap.size + 1 + 1 + 1]? = some (.cells (NC 0 false) 57 (0, 0))) := (hb2.block _ (by (focus (first | (simp; done) | omega | (simp; omega))))).trans x3
        have a4 : Hid (w2.heap[w.heap.size + 1 + 1 + 1 + 1]? = some (.cells (NCf (atop (a / b).testBit (j + 1)) false) 57 (0, 0))) := (hb2.block _ (by (focus (first | (simp; done) | omega | (simp; omega))))).trans x4
        have a5 : w2.heap[w.heap.size + 1 + 1 + 1 + 1 + 1]? = some (.cells (NC r false) 57 (0, 0)) := (hb2.block _ (by (focus (first | (simp; done) | omega | (simp; omega))))).trans x5
        have az : w.heap.size + 6 ≤ w2.heap.size := by have := hb2.size; omega
        have aB : Below w.heap.size w w2 := xB.trans (hb2.mono (by omega))
        clear hb2 x0 x1 x2 x3 x4 x5 xz xB y0 y1 y2 y3 y4 y5 yz yB c0 c5 f5 Y5
        go_wp2_with (first | ((with_reducible apply load83); rfl; rfl; rfl; (focus ((repeat' (first | (with_reducible assumption) | ((with_reducible refine heap_last ?_); (focus (first | (simp; done) | omega | (simp; omega)))) | ((with_reducible refine heap_prev ?_ ?_); (focus (first | (simp; done) | omega | (simp; omega)))) | (with_reducible apply sign_heap) | (with_reducible apply row_heap) | (with_reducible apply bit0_heap) | ((with_reducible refine sign_other ?_ ?_); (focus (first | (simp; done) | omega | (simp; omega)))) | ((with_reducible refine row_other ?_ ?_); (focus (first | (simp; done) | omega | (simp; omega)))) | (with_reducible refine drew_heap ?_))); done)); skip))
        ((with_reducible refine (less_c r b _ _ Hbr.out _).mono ?_); rintro e w3 ⟨rfl, hb3⟩)
        have b0 : Hid (w3.heap[w.heap.size]? = some (.cells (NC a s) 57 (0, 0))) := (hb3.block _ (by (focus (first | (simp; done) | omega | (simp; omega))))).trans a0
        have b1 : Hid (w3.heap[w.heap.size + 1]? = some (.cells (NC b t) 57 (0, 0))) := (hb3.block _ (by (focus (first | (simp; done) | omega | (simp; omega))))).trans a1
        have b2 : Hid (w3.heap[w.heap.size + 1 + 1]? = some (.cells (NC 0 false) 57 (0, 0))) := (hb3.block _ (by (focus (first | (simp; done) | omega | (simp; omega))))).trans a2
        have b3 : Hid (w3.heap[w.heap.size + 1 + 1 + 1]? = some (.cells (NC 0 false) 57 (0, 0))) := (hb3.block _ (by (focus (first | (simp; done) | omega | (simp; omega))))).trans a3
        have b4 : Hid (w3.heap[w.heap.size + 1 + 1 + 1 + 1]? = some (.cells (NCf (atop (a / b).testBit (j + 1)) false) 57 (0, 0))) := (hb3.block _ (by (focus (first | (simp; done) | omega | (simp; omega))))).trans a4
        have b5 : w3.heap[w.heap.size + 1 + 1 + 1 + 1 + 1]? = some (.cells (NC r false) 57 (0, 0)) := (hb3.block _ (by (focus (first | (simp; done) | omega | (simp; omega))))).trans a5
        have bz : w.heap.size + 6 ≤ w3.heap.size := by have := hb3.size; omega
        have bB : Below w.heap.size w w3 := aB.trans (hb3.mono (by omega))
        clear hb3 a0 a1 a2 a3 a4 a5 az aB
        have c4 : (w3.setRow (w.heap.size + 1 + 1 + 1 + 1 + 1) (NC (r - b) false)).cell? ⟨w.heap.size + 1 + 1 + 1 + 1, j, none⟩ = some (.bool (atop (a / b).testBit (j + 1) j)) := by rw [cell_of_row _ _ _ _ _ _ (row_other (by omega) b4.out), atop_get _ _ _ _ hj]
        have f4 : (w3.setRow (w.heap.size + 1 + 1 + 1 + 1 + 1) (NC (r - b) false)).frozen? ⟨w.heap.size + 1 + 1 + 1 + 1, j, none⟩ = false := frozen_of_row _ _ _ _ _ (row_other (by omega) b4.out)
        go_wp2_with (first | ((with_reducible apply store83); rfl; rfl; rfl; rfl; (focus ((repeat' (first | (with_reducible assumption) | ((with_reducible refine heap_last ?_); (focus (first | (simp; done) | omega | (simp; omega)))) | ((with_reducible refine heap_prev ?_ ?_); (focus (first | (simp; done) | omega | (simp; omega)))) | (with_reducible apply sign_heap) | (with_reducible apply row_heap) | (with_reducible apply bit0_heap) | ((with_reducible refine sign_other ?_ ?_); (focus (first | (simp; done) | omega | (simp; omega)))) | ((with_reducible refine row_other ?_ ?_); (focus (first | (simp; done) | omega | (simp; omega)))) | (with_reducible refine drew_heap ?_))); done)); skip))
        refine ⟨⟨j, by omega, rfl, ?_, ?_, ?_, ?_, ?_, ?_, ?_, ?_⟩, by simp [intOf]⟩
        · exact sign_other (by (focus (first | (simp; done) | omega | (simp; omega)))) (row_other (by omega) b0.out)
        · exact sign_other (by (focus (first | (simp; done) | omega | (simp; omega)))) (row_other (by omega) b1.out)
        · exact sign_other (by (focus (first | (simp; done) | omega | (simp; omega)))) (row_other (by omega) b2.out)
        · exact sign_other (by (focus (first | (simp; done) | omega | (simp; omega)))) (row_other (by omega) b3.out)
        · exact NCf_heap hj (by rw [D1.out, decide_eq_true Hbr.out]) (row_other (by omega) b4.out)
        · show _ = _
          rw [D2.out, if_pos Hbr.out]
          exact sign_other (by (focus (first | (simp; done) | omega | (simp; omega)))) (row_heap b5)
        · simp; omega
        · (focus ((repeat' (first | (with_reducible exact Below.refl _ _) | (with_reducible assumption) | (with_reducible refine Below.alloc ?_ ?_ _) | (with_reducible refine Below.setCell ?_ ?_ _) | (with_reducible refine Below.row ?_ ?_ _) | (with_reducible refine Below.drew ?_) | (with_reducible refine below_drewN ?_ _) | (focus (first | (simp; done) | omega | (simp; omega))))); done))
      · have Hd : Hid (true = decide (r < b)) := by show _ = _; rw [decide_eq_true]; omega
        have Hbr := Lib.hid hbr; clear hbr
        ((with_reducible refine (below_c r b _ _ true Hr136.out Hb136.out Hd.out _).mono ?_); rintro e w2 ⟨rfl, hb2⟩)
        have a0 : Hid (w2.heap[w.heap.size]? = some (.cells (NC a s) 57 (0, 0))) := (hb2.block _ (by (focus (first | (simp; done) | omega | (simp; omega))))).trans x0
        have a1 : Hid (w2.heap[w.heap.size + 1]? = some (.cells (NC b t) 57 (0, 0))) := (hb2.block _ (by (focus (first | (simp; done) | omega | (simp; omega))))).trans x1
        have a2 : Hid (w2.heap[w.heap.size + 1 + 1]? = some (.cells (NC 0 false) 57 (0, 0))) := (hb2.block _ (by (focus (first | (simp; done) | omega | (simp; omega))))).trans x2
        have a3 : Hid (w2.heap[w.heap.size + 1 + 1 + 1]? = some (.cells (NC 0 false) 57 (0, 0))) := (hb2.block _ (by (focus (first | (simp; done) | omega | (simp; omega))))).trans x3
        have a4 : Hid (w2.heap[w.heap.size + 1 + 1 + 1 + 1]? = some (.cells (NCf (atop (a / b).testBit (j + 1)) false) 57 (0, 0))) := (hb2.block _ (by (focus (first | (simp; done) | omega | (simp; omega))))).trans x4
        have a5 : Hid (w2.heap[w.heap.size + 1 + 1 + 1 + 1 + 1]? = some (.cells (NC r false) 57 (0, 0))) := (hb2.block _ (by (focus (first | (simp; done) | omega | (simp; omega))))).trans x5
        have az : w.heap.size + 6 ≤ w2.heap.size := by have := hb2.size; omega
        have aB : Below w.heap.size w w2 := xB.trans (hb2.mono (by omega))
        clear hb2 x0 x1 x2 x3 x4 x5 xz xB y0 y1 y2 y3 y4 y5 yz yB c0 c5 f5 Y5
        go_wp2
        refine ⟨⟨j, by omega, rfl, a0, a1, a2, a3, ?_, ?_, az, aB⟩, by simp [intOf]⟩
        · show _ = _
          rw [← Hq1.out (by rw [D1.out, decide_eq_false Hbr.out])]
          exact a4
        · show _ = _
          rw [D2.out, if_neg Hbr.out]
          exact a5
    · obtain rfl : k = 0 := by omega
      rw [atop_all] at h4
      rw [show a / 2 ^ 0 % b = a % b by simp] at h5
      have q2 := h2.out
      have q3 := h3.out
      have q4 := h4.out
      have q5 := h5.out
      go_wp2
      refine wp_region_any (by kernel_rfl) ?_
      change wpAny _ _ _ _ _ _ _ (World.drew _)
      have FIN2 : ∀ (a' : Act) (w' : World), a'.tmps.getD 4 undef = .pointer (some ⟨w.heap.size + 1 + 1, 0, none⟩) → a'.tmps.getD 5 undef = .pointer (some ⟨w.heap.size + 1 + 1 + 1, 0, none⟩) → a'.defers = [] →
          w'.heap[w.heap.size + 1 + 1]? = some (.cells (NC (a / b) false) 57 (0, 0)) → w'.heap[w.heap.size + 1 + 1 + 1]? = some (.cells (NC (a % b) false) 57 (0, 0)) → Below w.heap.size w w' →
          bodyPost Try.prog Try.f28 (fun e w' => e = .returned (.tuple #[.agg (NC (a / b) false), .agg (NC (a % b) false)]) ∧ Below w.heap.size w w') Exit.ret a' w' := by
        intro a' w' p4 p5 hd e2 e3 hb
        exact bodyPost_ret (ret83_two rfl _ _ _ _ p4 p5 _ _ _ _ e2 e3) hd ⟨rfl, hb⟩
      (refine wpAny_ready (rs := [0, 1]) (by kernel_rfl) (by simp) (AllReady.cons rfl (fun K hK => ?_) (AllReady.cons rfl (fun K hK => ?_) AllReady.nil)))
      · ((with_reducible apply any_load83); rfl; rfl; rfl; (focus ((repeat' (first | (with_reducible assumption) | ((with_reducible refine heap_last ?_); (focus (first | (simp; done) | omega | (simp; omega)))) | ((with_reducible refine heap_prev ?_ ?_); (focus (first | (simp; done) | omega | (simp; omega)))) | (with_reducible apply sign_heap) | (with_reducible apply row_heap) | (with_reducible apply bit0_heap) | ((with_reducible refine sign_other ?_ ?_); (focus (first | (simp; done) | omega | (simp; omega)))) | ((with_reducible refine row_other ?_ ?_); (focus (first | (simp; done) | omega | (simp; omega)))) | (with_reducible refine drew_heap ?_))); done)); refine hK _ _ ?_; clear hK K)
        (refine wpAny_ready (rs := [1, 2]) (by kernel_rfl) (by simp) (AllReady.cons rfl (fun K hK => ?_) (AllReady.cons rfl (fun K hK => ?_) AllReady.nil)))
        · ((with_reducible apply any_load83); rfl; rfl; rfl; (focus ((repeat' (first | (with_reducible assumption) | ((with_reducible refine heap_last ?_); (focus (first | (simp; done) | omega | (simp; omega)))) | ((with_reducible refine heap_prev ?_ ?_); (focus (first | (simp; done) | omega | (simp; omega)))) | (with_reducible apply sign_heap) | (with_reducible apply row_heap) | (with_reducible apply bit0_heap) | ((with_reducible refine sign_other ?_ ?_); (focus (first | (simp; done) | omega | (simp; omega)))) | ((with_reducible refine row_other ?_ ?_); (focus (first | (simp; done) | omega | (simp; omega)))) | (with_reducible refine drew_heap ?_))); done)); refine hK _ _ ?_; clear hK K)
          (refine wpAny_ready (rs := [2]) (by kernel_rfl) (by simp) (AllReady.cons rfl (fun K hK => ?_) AllReady.nil))
          ((with_reducible apply any_store83); rfl; rfl; rfl; rfl; (focus ((repeat' (first | (with_reducible assumption) | ((with_reducible refine heap_last ?_); (focus (first | (simp; done) | omega | (simp; omega)))) | ((with_reducible refine heap_prev ?_ ?_); (focus (first | (simp; done) | omega | (simp; omega)))) | (with_reducible apply sign_heap) | (with_reducible apply row_heap) | (with_reducible apply bit0_heap) | ((with_reducible refine sign_other ?_ ?_); (focus (first | (simp; done) | omega | (simp; omega)))) | ((with_reducible refine row_other ?_ ?_); (focus (first | (simp; done) | omega | (simp; omega)))) | (with_reducible refine drew_heap ?_))); done)); refine hK _ _ ?_; clear hK K)
          (refine wpAny_ready (rs := [3]) (by kernel_rfl) (by simp) (AllReady.cons rfl (fun K hK => ?_) AllReady.nil))
          ((with_reducible apply any_store83); rfl; rfl; rfl; rfl; (focus ((repeat' (first | (with_reducible assumption) | ((with_reducible refine heap_last ?_); (focus (first | (simp; done) | omega | (simp; omega)))) | ((with_reducible refine heap_prev ?_ ?_); (focus (first | (simp; done) | omega | (simp; omega)))) | (with_reducible apply sign_heap) | (with_reducible apply row_heap) | (with_reducible apply bit0_heap) | ((with_reducible refine sign_other ?_ ?_); (focus (first | (simp; done) | omega | (simp; omega)))) | ((with_reducible refine row_other ?_ ?_); (focus (first | (simp; done) | omega | (simp; omega)))) | (with_reducible refine drew_heap ?_))); done)); refine hK _ _ ?_; clear hK K)
          refine wpAny_done (by kernel_rfl) ?_ _
          go_wp2_with ((with_reducible apply FIN2); rfl; rfl; rfl; (focus ((repeat' (first | (with_reducible assumption) | ((with_reducible refine heap_last ?_); (focus (first | (simp; done) | omega | (simp; omega)))) | ((with_reducible refine heap_prev ?_ ?_); (focus (first | (simp; done) | omega | (simp; omega)))) | (with_reducible apply sign_heap) | (with_reducible apply row_heap) | (with_reducible apply bit0_heap) | ((with_reducible refine sign_other ?_ ?_); (focus (first | (simp; done) | omega | (simp; omega)))) | ((with_reducible refine row_other ?_ ?_); (focus (first | (simp; done) | omega | (simp; omega)))) | (with_reducible refine drew_heap ?_))); done)); (focus ((repeat' (first | (with_reducible assumption) | ((with_reducible refine heap_last ?_); (focus (first | (simp; done) | omega | (simp; omega)))) | ((with_reducible refine heap_prev ?_ ?_); (focus (first | (simp; done) | omega | (simp; omega)))) | (with_reducible apply sign_heap) | (with_reducible apply row_heap) | (with_reducible apply bit0_heap) | ((with_reducible refine sign_other ?_ ?_); (focus (first | (simp; done) | omega | (simp; omega)))) | ((with_reducible refine row_other ?_ ?_); (focus (first | (simp; done) | omega | (simp; omega)))) | (with_reducible refine drew_heap ?_))); done)); (focus ((repeat' (first | (with_reducible exact Below.refl _ _) | (with_reducible assumption) | (with_reducible refine Below.alloc ?_ ?_ _) | (with_reducible refine Below.setCell ?_ ?_ _) | (with_reducible refine Below.row ?_ ?_ _) | (with_reducible refine Below.drew ?_) | (with_reducible refine below_drewN ?_ _) | (focus (first | (simp; done) | omega | (simp; omega))))); done)))
        · ((with_reducible apply any_store83); rfl; rfl; rfl; rfl; (focus ((repeat' (first | (with_reducible assumption) | ((with_reducible refine heap_last ?_); (focus (first | (simp; done) | omega | (simp; omega)))) | ((with_reducible refine heap_prev ?_ ?_); (focus (first | (simp; done) | omega | (simp; omega)))) | (with_reducible apply sign_heap) | (with_reducible apply row_heap) | (with_reducible apply bit0_heap) | ((with_reducible refine sign_other ?_ ?_); (focus (first | (simp; done) | omega | (simp; omega)))) | ((with_reducible refine row_other ?_ ?_); (focus (first | (simp; done) | omega | (simp; omega)))) | (with_reducible refine drew_heap ?_))); done)); refine hK _ _ ?_; clear hK K)
          (refine wpAny_ready (rs := [1]) (by kernel_rfl) (by simp) (AllReady.cons rfl (fun K hK => ?_) AllReady.nil))
          ((with_reducible apply any_load83); rfl; rfl; rfl; (focus ((repeat' (first | (with_reducible assumption) | ((with_reducible refine heap_last ?_); (focus (first | (simp; done) | omega | (simp; omega)))) | ((with_reducible refine heap_prev ?_ ?_); (focus (first | (simp; done) | omega | (simp; omega)))) | (with_reducible apply sign_heap) | (with_reducible apply row_heap) | (with_reducible apply bit0_heap) | ((with_reducible refine sign_other ?_ ?_); (focus (first | (simp; done) | omega | (simp; omega)))) | ((with_reducible refine row_other ?_ ?_); (focus (first | (simp; done) | omega | (simp; omega)))) | (with_reducible refine drew_heap ?_))); done)); refine hK _ _ ?_; clear hK K)
          (refine wpAny_ready (rs := [3]) (by kernel_rfl) (by simp) (AllReady.cons rfl (fun K hK => ?_) AllReady.nil))
          ((with_reducible apply any_store83); rfl; rfl; rfl; rfl; (focus ((repeat' (first | (with_reducible assumption) | ((with_reducible refine heap_last ?_); (focus (first | (simp; done) | omega | (simp; omega)))) | ((with_reducible refine heap_prev ?_ ?_); (focus (first | (simp; done) | omega | (simp; omega)))) | (with_reducible apply sign_heap) | (with_reducible apply row_heap) | (with_reducible apply bit0_heap) | ((with_reducible refine sign_other ?_ ?_); (focus (first | (simp; done) | omega | (simp; omega)))) | ((with_reducible refine row_other ?_ ?_); (focus (first | (simp; done) | omega | (simp; omega)))) | (with_reducible refine drew_heap ?_))); done)); refine hK _ _ ?_; clear hK K)
          refine wpAny_done (by kernel_rfl) ?_ _
          go_wp2_with ((with_reducible apply FIN2); rfl; rfl; rfl; (focus ((repeat' (first | (with_reducible assumption) | ((with_reducible refine heap_last ?_); (focus (first | (simp; done) | omega | (simp; omega)))) | ((with_reducible refine heap_prev ?_ ?_); (focus (first | (simp; done) | omega | (simp; omega)))) | (with_reducible apply sign_heap) | (with_reducible apply row_heap) | (with_reducible apply bit0_heap) | ((with_reducible refine sign_other ?_ ?_); (focus (first | (simp; done) | omega | (simp; omega)))) | ((with_reducible refine row_other ?_ ?_); (focus (first | (simp; done) | omega | (simp; omega)))) | (with_reducible refine drew_heap ?_))); done)); (focus ((repeat' (first | (with_reducible assumption) | ((with_reducible refine heap_last ?_); (focus (first | (simp; done) | omega | (simp; omega)))) | ((with_reducible refine heap_prev ?_ ?_); (focus (first | (simp; done) | omega | (simp; omega)))) | (with_reducible apply sign_heap) | (with_reducible apply row_heap) | (with_reducible apply bit0_heap) | ((with_reducible refine sign_other ?_ ?_); (focus (first | (simp; done) | omega | (simp; omega)))) | ((with_reducible refine row_other ?_ ?_); (focus (first | (simp; done) | omega | (simp; omega)))) | (with_reducible refine drew_heap ?_))); done)); (focus ((repeat' (first | (with_reducible exact Below.refl _ _) | (with_reducible assumption) | (with_reducible refine Below.alloc ?_ ?_ _) | (with_reducible refine Below.setCell ?_ ?_ _) | (with_reducible refine Below.row ?_ ?_ _) | (with_reducible refine Below.drew ?_) | (with_reducible refine below_drewN ?_ _) | (focus (first | (simp; done) | omega | (simp; omega))))); done)))
      · ((with_reducible apply any_load83); rfl; rfl; rfl; (focus ((repeat' (first | (with_reducible assumption) | ((with_reducible refine heap_last ?_); (focus (first | (simp; done) | omega | (simp; omega)))) | ((with_reducible refine heap_prev ?_ ?_); (focus (first | (simp; done) | omega | (simp; omega)))) | (with_reducible apply sign_heap) | (with_reducible apply row_heap) | (with_reducible apply bit0_heap) | ((with_reducible refine sign_other ?_ ?_); (focus (first | (simp; done) | omega | (simp; omega)))) | ((with_reducible refine row_other ?_ ?_); (focus (first | (simp; done) | omega | (simp; omega)))) | (with_reducible refine drew_heap ?_))); done)); refine hK _ _ ?_; clear hK K)
        (refine wpAny_ready (rs := [0]) (by kernel_rfl) (by simp) (AllReady.cons rfl (fun K hK => ?_) AllReady.nil))
        ((with_reducible apply any_load83); rfl; rfl; rfl; (focus ((repeat' (first | (with_reducible assumption) | ((with_reducible refine heap_last ?_); (focus (first | (simp; done) | omega | (simp; omega)))) | ((with_reducible refine heap_prev ?_ ?_); (focus (first | (simp; done) | omega | (simp; omega)))) | (with_reducible apply sign_heap) | (with_reducible apply row_heap) | (with_reducible apply bit0_heap) | ((with_reducible refine sign_other ?_ ?_); (focus (first | (simp; done) | omega | (simp; omega)))) | ((with_reducible refine row_other ?_ ?_); (focus (first | (simp; done) | omega | (simp; omega)))) | (with_reducible refine drew_heap ?_))); done)); refine hK _ _ ?_; clear hK K)
        (refine wpAny_ready (rs := [2]) (by kernel_rfl) (by simp) (AllReady.cons rfl (fun K hK => ?_) AllReady.nil))
        ((with_reducible apply any_store83); rfl; rfl; rfl; rfl; (focus ((repeat' (first | (with_reducible assumption) | ((with_reducible refine heap_last ?_); (focus (first | (simp; done) | omega | (simp; omega)))) | ((with_reducible refine heap_prev ?_ ?_); (focus (first | (simp; done) | omega | (simp; omega)))) | (with_reducible apply sign_heap) | (with_reducible apply row_heap) | (with_reducible apply bit0_heap) | ((with_reducible refine sign_other ?_ ?_); (focus (first | (simp; done) | omega | (simp; omega)))) | ((with_reducible refine row_other ?_ ?_); (focus (first | (simp; done) | omega | (simp; omega)))) | (with_reducible refine drew_heap ?_))); done)); refine hK _ _ ?_; clear hK K)
        (refine wpAny_ready (rs := [3]) (by kernel_rfl) (by simp) (AllReady.cons rfl (fun K hK => ?_) AllReady.nil))
        ((with_reducible apply any_store83); rfl; rfl; rfl; rfl; (focus ((repeat' (first | (with_reducible assumption) | ((with_reducible refine heap_last ?_); (focus (first | (simp; done) | omega | (simp; omega)))) | ((with_reducible refine heap_prev ?_ ?_); (focus (first | (simp; done) | omega | (simp; omega)))) | (with_reducible apply sign_heap) | (with_reducible apply row_heap) | (with_reducible apply bit0_heap) | ((with_reducible refine sign_other ?_ ?_); (focus (first | (simp; done) | omega | (simp; omega)))) | ((with_reducible refine row_other ?_ ?_); (focus (first | (simp; done) | omega | (simp; omega)))) | (with_reducible refine drew_heap ?_))); done)); refine hK _ _ ?_; clear hK K)
        refine wpAny_done (by kernel_rfl) ?_ _
        go_wp2_with ((with_reducible apply FIN2); rfl; rfl; rfl; (focus ((repeat' (first | (with_reducible assumption) | ((with_reducible refine heap_last ?_); (focus (first | (simp; done) | omega | (simp; omega)))) | ((with_reducible refine heap_prev ?_ ?_); (focus (first | (simp; done) | omega | (simp; omega)))) | (with_reducible apply sign_heap) | (with_reducible apply row_heap) | (with_reducible apply bit0_heap) | ((with_reducible refine sign_other ?_ ?_); (focus (first | (simp; done) | omega | (simp; omega)))) | ((with_reducible refine row_other ?_ ?_); (focus (first | (simp; done) | omega | (simp; omega)))) | (with_reducible refine drew_heap ?_))); done)); (focus ((repeat' (first | (with_reducible assumption) | ((with_reducible refine heap_last ?_); (focus (first | (simp; done) | omega | (simp; omega)))) | ((with_reducible refine heap_prev ?_ ?_); (focus (first | (simp; done) | omega | (simp; omega)))) | (with_reducible apply sign_heap) | (with_reducible apply row_heap) | (with_reducible apply bit0_heap) | ((with_reducible refine sign_other ?_ ?_); (focus (first | (simp; done) | omega | (simp; omega)))) | ((with_reducible refine row_other ?_ ?_); (focus (first | (simp; done) | omega | (simp; omega)))) | (with_reducible refine drew_heap ?_))); done)); (focus ((repeat' (first | (with_reducible exact Below.refl _ _) | (with_reducible assumption) | (with_reducible refine Below.alloc ?_ ?_ _) | (with_reducible refine Below.setCell ?_ ?_ _) | (with_reducible refine Below.row ?_ ?_ _) | (with_reducible refine Below.drew ?_) | (with_reducible refine below_drewN ?_ _) | (focus (first | (simp; done) | omega | (simp; omega))))); done)))
end Go.Proofs.Ythpgbghcmfjjoaa
