/- The reference's quotient, rounded. -/
import Derived.Test.YthpgbghcmfjjoaaRefL
import Derived.Test.YthpgbghcmfjjoaaRefI
import Derived.Test.YthpgbghcmfjjoaaDivB
import Derived.Deep.DeepCutAuto
import Derived.Deep.CutBlock
namespace Go.Proofs.Ythpgbghcmfjjoaa
open Go.RowKit

set_option maxHeartbeats 4000000 in
set_option maxRecDepth 100000 in
theorem refDiv_core (a b c round : Int) (n d q r : Nat) (sp sc neg odd aw : Bool) (res : Int) (hx : InR a) (hy : InR b) (hz : InR c) (hround : round = 1 ∨ round = 2 ∨ round = 3) (e0 : (c == 0) = false)
    (hneg : (sp == sc) = !neg) (hodd : odd = decide (q % 2 = 1)) (haw : aw = awayB round neg odd r d) (hd0 : 0 < d) (hd : d < 2 ^ 134) (hn : n < 2 ^ 134) (hq : q = n / d) (hr : r = n % d)
    (hres : res = if neg then -((q + if aw then 1 else 0 : Nat) : Int) else ((q + if aw then 1 else 0 : Nat) : Int)) (hc : NZ c = NC d sc)
    (HT : Hid (∀ w, Calls Try.prog 26 #[.agg (NZ a), .agg (NZ b)] w fun e w' => e = .returned (.agg (NC n sp)) ∧ Below w.heap.size w w')) (w : World) :
    Calls Try.prog 17 #[.int .i64 a, .int .i64 b, .int .i64 c, .int .i64 round] w fun e w' => e = .returned (.tuple #[.int .i64 (tv res), .int .i64 (te res)]) ∧ Below w.heap.size w w' := by
  have hz83 := zero83
  have Hx := Lib.hid hx
  have Hy := Lib.hid hy
  have Hz := Lib.hid hz
  clear hx hy hz
  have HP : Hid (∀ w, Calls Try.prog 28 #[.agg (NC n sp), .agg (NC d sc)] w fun e w' => e = .returned (.tuple #[.agg (NC q false), .agg (NC r false)]) ∧ Below w.heap.size w w') := by
    intro w; rw [hq, hr]; exact parts_n n d sp sc (by omega) hd0 hd w
  have HOc : Hid (∀ w, Calls Try.prog 27 #[.int .i64 c] w fun e w' => e = .returned (.agg (NC d sc)) ∧ Below w.heap.size w w') := by
    intro w; rw [← hc]; exact Of_z c Hz.out w
  have hrd : r < d := by rw [hr]; exact Nat.mod_lt _ hd0
  have hqn : q ≤ n := by rw [hq]; exact Nat.div_le_self _ _
  have Hq := Lib.hid hqn; clear hqn hq
  have Hn := Lib.hid hn; clear hn
  have Hd := Lib.hid hd; clear hd
  have Hrd := Lib.hid hrd; clear hrd hr
  have Hodd := Lib.hid hodd; clear hodd
  have Haw := Lib.hid haw; clear haw
  have Hres := Lib.hid hres; clear hres hc hd0
  have r1 : (1 : Int) ≤ round := by omega
  have r2 : round ≤ 3 := by omega
  have Hround := Lib.hid hround; clear hround
  go_enter Try.func17, Try.ntmps17
  go_wp2_with fail
  ((with_reducible refine (Of_z a Hx.out _).mono ?_); rintro e w1 ⟨rfl, hb1⟩)
  go_wp2_with fail
  ((with_reducible refine (Of_z b Hy.out _).mono ?_); rintro e w2 ⟨rfl, hb2⟩)
  go_wp2_with fail
  ((with_reducible refine (HT.out _).mono ?_); rintro e w3 ⟨rfl, hb3⟩)
  have B3 : Hid (Below w.heap.size w w3) := (hb1.trans (hb2.mono hb1.size)).trans (hb3.mono (Nat.le_trans hb1.size hb2.size))
  clear hb1 hb2 hb3
  go_wp2_with (first | ((with_reducible apply load83); rfl; rfl; rfl; (focus ((repeat' (first | (with_reducible assumption) | ((with_reducible refine heap_last ?_); (focus (first | (simp; done) | omega | (simp; omega)))) | ((with_reducible refine heap_prev ?_ ?_); (focus (first | (simp; done) | omega | (simp; omega)))) | (with_reducible apply sign_heap) | (with_reducible apply row_heap) | (with_reducible apply bit0_heap) | ((with_reducible refine sign_other ?_ ?_); (focus (first | (simp; done) | omega | (simp; omega)))) | ((with_reducible refine row_other ?_ ?_); (focus (first | (simp; done) | omega | (simp; omega)))) | (with_reducible refine drew_heap ?_))); done)); skip) | (first | ((with_reducible apply store83_0); rfl; rfl; rfl; rfl; (focus (simp; done)); skip) | ((with_reducible apply store83_1); rfl; rfl; rfl; rfl; (focus (simp; done)); skip) | ((with_reducible apply store83_2); rfl; rfl; rfl; rfl; (focus (simp; done)); skip) | ((with_reducible apply store83_3); rfl; rfl; rfl; rfl; (focus (simp; done)); skip) | ((with_reducible apply store83_4); rfl; rfl; rfl; rfl; (focus (simp; done)); skip)))
  ((with_reducible refine (HOc.out _).mono ?_); rintro e w4 ⟨rfl, hb4⟩)
  have z4 : w3.heap.size < w4.heap.size := by have := hb4.size; simp at this; omega
  have P4 : w4.heap[w3.heap.size]? = some (.cells (NC n sp) 57 (0, 0)) := by rw [hb4.block _ (by simp)]; (focus ((repeat' (first | (with_reducible assumption) | ((with_reducible refine heap_last ?_); (focus (first | (simp; done) | omega | (simp; omega)))) | ((with_reducible refine heap_prev ?_ ?_); (focus (first | (simp; done) | omega | (simp; omega)))) | (with_reducible apply sign_heap) | (with_reducible apply row_heap) | (with_reducible apply bit0_heap) | ((with_reducible refine sign_other ?_ ?_); (focus (first | (simp; done) | omega | (simp; omega)))) | ((with_reducible refine row_other ?_ ?_); (focus (first | (simp; done) | omega | (simp; omega)))) | (with_reducible refine drew_heap ?_))); done))
  have B4 : Hid (Below w.heap.size w w4) := Below.trans (Below.alloc B3.out B3.out.size _) (hb4.mono (by have := B3.out.size; simp; omega))
  clear hb4 B3
  go_wp2_with (first | ((with_reducible apply load83); rfl; rfl; rfl; (focus ((repeat' (first | (with_reducible assumption) | ((with_reducible refine heap_last ?_); (focus (first | (simp; done) | omega | (simp; omega)))) | ((with_reducible refine heap_prev ?_ ?_); (focus (first | (simp; done) | omega | (simp; omega)))) | (with_reducible apply sign_heap) | (with_reducible apply row_heap) | (with_reducible apply bit0_heap) | ((with_reducible refine sign_other ?_ ?_); (focus (first | (simp; done) | omega | (simp; omega)))) | ((with_reducible refine row_other ?_ ?_); (focus (first | (simp; done) | omega | (simp; omega)))) | (with_reducible refine drew_heap ?_))); done)); skip) | (first | ((with_reducible apply store83_0); rfl; rfl; rfl; rfl; (focus (simp; done)); skip) | ((with_reducible apply store83_1); rfl; rfl; rfl; rfl; (focus (simp; done)); skip) | ((with_reducible apply store83_2); rfl; rfl; rfl; rfl; (focus (simp; done)); skip) | ((with_reducible apply store83_3); rfl; rfl; rfl; rfl; (focus (simp; done)); skip) | ((with_reducible apply store83_4); rfl; rfl; rfl; rfl; (focus (simp; done)); skip)))
  ((with_reducible refine (HP.out _).mono ?_); rintro e w5 ⟨rfl, hb5⟩)
  have z5 : w4.heap.size < w5.heap.size := by have := hb5.size; simp at this; omega
  have P5 : w5.heap[w3.heap.size]? = some (.cells (NC n sp) 57 (0, 0)) := by rw [hb5.block _ (by simp; omega)]; (focus ((repeat' (first | (with_reducible assumption) | ((with_reducible refine heap_last ?_); (focus (first | (simp; done) | omega | (simp; omega)))) | ((with_reducible refine heap_prev ?_ ?_); (focus (first | (simp; done) | omega | (simp; omega)))) | (with_reducible apply sign_heap) | (with_reducible apply row_heap) | (with_reducible apply bit0_heap) | ((with_reducible refine sign_other ?_ ?_); (focus (first | (simp; done) | omega | (simp; omega)))) | ((with_reducible refine row_other ?_ ?_); (focus (first | (simp; done) | omega | (simp; omega)))) | (with_reducible refine drew_heap ?_))); done))
  have C5 : w5.heap[w4.heap.size]? = some (.cells (NC d sc) 57 (0, 0)) := by rw [hb5.block _ (by simp)]; (focus ((repeat' (first | (with_reducible assumption) | ((with_reducible refine heap_last ?_); (focus (first | (simp; done) | omega | (simp; omega)))) | ((with_reducible refine heap_prev ?_ ?_); (focus (first | (simp; done) | omega | (simp; omega)))) | (with_reducible apply sign_heap) | (with_reducible apply row_heap) | (with_reducible apply bit0_heap) | ((with_reducible refine sign_other ?_ ?_); (focus (first | (simp; done) | omega | (simp; omega)))) | ((with_reducible refine row_other ?_ ?_); (focus (first | (simp; done) | omega | (simp; omega)))) | (with_reducible refine drew_heap ?_))); done))
  have B5 : Hid (Below w.heap.size w w5) := Below.trans (Below.alloc B4.out B4.out.size _) (hb5.mono (by have := B4.out.size; simp; omega))
  clear hb5 B4 P4
  have cP : ((w5.alloc (.cells (NC q false) 57)).alloc (.cells (NC r false) 57)).cell? ⟨w3.heap.size, 136, none⟩ = some (.bool sp) := cell_heap (heap_prev (by simp; omega) (heap_prev (by omega) P5)) (NC_sign _ _)
  have cC : ((w5.alloc (.cells (NC q false) 57)).alloc (.cells (NC r false) 57)).cell? ⟨w4.heap.size, 136, none⟩ = some (.bool sc) := cell_heap (heap_prev (by simp; omega) (heap_prev (by omega) C5)) (NC_sign _ _)
  obtain ⟨b0, hb0⟩ : ∃ b0, b0 = decide (r = 0) := ⟨_, rfl⟩
  have Hb0 := Lib.hid hb0; clear hb0
  go_wp2_with (first | ((with_reducible apply load83); rfl; rfl; rfl; (focus ((repeat' (first | (with_reducible assumption) | ((with_reducible refine heap_last ?_); (focus (first | (simp; done) | omega | (simp; omega)))) | ((with_reducible refine heap_prev ?_ ?_); (focus (first | (simp; done) | omega | (simp; omega)))) | (with_reducible apply sign_heap) | (with_reducible apply row_heap) | (with_reducible apply bit0_heap) | ((with_reducible refine sign_other ?_ ?_); (focus (first | (simp; done) | omega | (simp; omega)))) | ((with_reducible refine row_other ?_ ?_); (focus (first | (simp; done) | omega | (simp; omega)))) | (with_reducible refine drew_heap ?_))); done)); skip) | (first | ((with_reducible apply store83_0); rfl; rfl; rfl; rfl; (focus (simp; done)); skip) | ((with_reducible apply store83_1); rfl; rfl; rfl; rfl; (focus (simp; done)); skip) | ((with_reducible apply store83_2); rfl; rfl; rfl; rfl; (focus (simp; done)); skip) | ((with_reducible apply store83_3); rfl; rfl; rfl; rfl; (focus (simp; done)); skip) | ((with_reducible apply store83_4); rfl; rfl; rfl; rfl; (focus (simp; done)); skip)))
  ((with_reducible refine (nought_c r false b0 (by have := Hrd.out; have := Hd.out; omega) Hb0.out _).mono ?_); rintro e w6 ⟨rfl, hb6⟩)
  have z6 : w5.heap.size + 2 ≤ w6.heap.size := by have := hb6.size; simp at this; omega
  have C6 : w6.heap[w4.heap.size]? = some (.cells (NC d sc) 57 (0, 0)) := by rw [hb6.block _ (by simp; omega)]; (focus ((repeat' (first | (with_reducible assumption) | ((with_reducible refine heap_last ?_); (focus (first | (simp; done) | omega | (simp; omega)))) | ((with_reducible refine heap_prev ?_ ?_); (focus (first | (simp; done) | omega | (simp; omega)))) | (with_reducible apply sign_heap) | (with_reducible apply row_heap) | (with_reducible apply bit0_heap) | ((with_reducible refine sign_other ?_ ?_); (focus (first | (simp; done) | omega | (simp; omega)))) | ((with_reducible refine row_other ?_ ?_); (focus (first | (simp; done) | omega | (simp; omega)))) | (with_reducible refine drew_heap ?_))); done))
  have Q6 : w6.heap[w5.heap.size]? = some (.cells (NC q false) 57 (0, 0)) := by rw [hb6.block _ (by simp; omega)]; (focus ((repeat' (first | (with_reducible assumption) | ((with_reducible refine heap_last ?_); (focus (first | (simp; done) | omega | (simp; omega)))) | ((with_reducible refine heap_prev ?_ ?_); (focus (first | (simp; done) | omega | (simp; omega)))) | (with_reducible apply sign_heap) | (with_reducible apply row_heap) | (with_reducible apply bit0_heap) | ((with_reducible refine sign_other ?_ ?_); (focus (first | (simp; done) | omega | (simp; omega)))) | ((with_reducible refine row_other ?_ ?_); (focus (first | (simp; done) | omega | (simp; omega)))) | (with_reducible refine drew_heap ?_))); done))
  have R6 : w6.heap[w5.heap.size + 1]? = some (.cells (NC r false) 57 (0, 0)) := by rw [hb6.block _ (by simp)]; (focus ((repeat' (first | (with_reducible assumption) | ((with_reducible refine heap_last ?_); (focus (first | (simp; done) | omega | (simp; omega)))) | ((with_reducible refine heap_prev ?_ ?_); (focus (first | (simp; done) | omega | (simp; omega)))) | (with_reducible apply sign_heap) | (with_reducible apply row_heap) | (with_reducible apply bit0_heap) | ((with_reducible refine sign_other ?_ ?_); (focus (first | (simp; done) | omega | (simp; omega)))) | ((with_reducible refine row_other ?_ ?_); (focus (first | (simp; done) | omega | (simp; omega)))) | (with_reducible refine drew_heap ?_))); done))
  have B6 : Hid (Below w.heap.size w w6) := Below.trans (Below.alloc (Below.alloc B5.out B5.out.size _) (by have := B5.out.size; simp; omega) _) (hb6.mono (by have := B5.out.size; simp; omega))
  have BR := B5.out.size
  clear hb6 cP cC B5 P5 C5
  go_upto_if 45 with fail
  go_cut [15, 16] (fun s15 s16 wx => s15 = .bool aw ∧ Below w6.heap.size w6 wx)
  case first =>
    cases b0
    · have hr0 : ¬ r = 0 := by have := Hb0.out; simpa using this
      rcases Hround.out with rfl | rfl | rfl
      · have ha1 : aw = neg := by rw [Haw.out, awayB, if_neg hr0]; simp
        clear hr0
        go_wp2_with fail
        go_meet
        case rel => exact ⟨by rw [ha1], Below.refl _ _⟩
      · have ha1 : aw = !neg := by rw [Haw.out, awayB, if_neg hr0]; simp
        clear hr0
        go_wp2_with fail
        go_meet
        case rel => exact ⟨by rw [ha1], Below.refl _ _⟩
      · have ha1 : Hid (aw = (decide (d < 2 * r) || (decide (2 * r = d) && odd))) := by show _ = _; rw [Haw.out, awayB, if_neg hr0]; simp
        clear hr0
        go_wp2_with (first | ((with_reducible apply load83); rfl; rfl; rfl; (focus ((repeat' (first | (with_reducible assumption) | ((with_reducible refine heap_last ?_); (focus (first | (simp; done) | omega | (simp; omega)))) | ((with_reducible refine heap_prev ?_ ?_); (focus (first | (simp; done) | omega | (simp; omega)))) | (with_reducible apply sign_heap) | (with_reducible apply row_heap) | (with_reducible apply bit0_heap) | ((with_reducible refine sign_other ?_ ?_); (focus (first | (simp; done) | omega | (simp; omega)))) | ((with_reducible refine row_other ?_ ?_); (focus (first | (simp; done) | omega | (simp; omega)))) | (with_reducible refine drew_heap ?_))); done)); skip) | (first | ((with_reducible apply store83_0); rfl; rfl; rfl; rfl; (focus (simp; done)); skip) | ((with_reducible apply store83_1); rfl; rfl; rfl; rfl; (focus (simp; done)); skip) | ((with_reducible apply store83_2); rfl; rfl; rfl; rfl; (focus (simp; done)); skip) | ((with_reducible apply store83_3); rfl; rfl; rfl; rfl; (focus (simp; done)); skip) | ((with_reducible apply store83_4); rfl; rfl; rfl; rfl; (focus (simp; done)); skip)))
        ((with_reducible refine (twice_c _ _ _).mono ?_); rintro e w7 ⟨rfl, hb7⟩)
        have z7 : w6.heap.size ≤ w7.heap.size := hb7.size
        have C7 : w7.heap[w4.heap.size]? = some (.cells (NC d sc) 57 (0, 0)) := by rw [hb7.block _ (by omega)]; exact C6
        have Q7 : w7.heap[w5.heap.size]? = some (.cells (NC q false) 57 (0, 0)) := by rw [hb7.block _ (by omega)]; exact Q6
        have B7 := Lib.hid hb7
        clear hb7 C6 Q6 R6
        obtain ⟨b1, hb1⟩ : ∃ b1, b1 = decide (d < 2 * r) := ⟨_, rfl⟩
        have Hb1 := Lib.hid hb1; clear hb1
        go_wp2_with (first | ((with_reducible apply load83); rfl; rfl; rfl; (focus ((repeat' (first | (with_reducible assumption) | ((with_reducible refine heap_last ?_); (focus (first | (simp; done) | omega | (simp; omega)))) | ((with_reducible refine heap_prev ?_ ?_); (focus (first | (simp; done) | omega | (simp; omega)))) | (with_reducible apply sign_heap) | (with_reducible apply row_heap) | (with_reducible apply bit0_heap) | ((with_reducible refine sign_other ?_ ?_); (focus (first | (simp; done) | omega | (simp; omega)))) | ((with_reducible refine row_other ?_ ?_); (focus (first | (simp; done) | omega | (simp; omega)))) | (with_reducible refine drew_heap ?_))); done)); skip) | (first | ((with_reducible apply store83_0); rfl; rfl; rfl; rfl; (focus (simp; done)); skip) | ((with_reducible apply store83_1); rfl; rfl; rfl; rfl; (focus (simp; done)); skip) | ((with_reducible apply store83_2); rfl; rfl; rfl; rfl; (focus (simp; done)); skip) | ((with_reducible apply store83_3); rfl; rfl; rfl; rfl; (focus (simp; done)); skip) | ((with_reducible apply store83_4); rfl; rfl; rfl; rfl; (focus (simp; done)); skip)))
        ((with_reducible refine (below_c d (2 * r) sc false b1 (by have := Hd.out; omega) (by have := Hrd.out; have := Hd.out; omega) Hb1.out _).mono ?_); rintro e w8 ⟨rfl, hb8⟩)
        have z8 : w7.heap.size + 1 ≤ w8.heap.size := by have := hb8.size; simp at this; omega
        have C8 : w8.heap[w4.heap.size]? = some (.cells (NC d sc) 57 (0, 0)) := by rw [hb8.block _ (by simp; omega)]; (focus ((repeat' (first | (with_reducible assumption) | ((with_reducible refine heap_last ?_); (focus (first | (simp; done) | omega | (simp; omega)))) | ((with_reducible refine heap_prev ?_ ?_); (focus (first | (simp; done) | omega | (simp; omega)))) | (with_reducible apply sign_heap) | (with_reducible apply row_heap) | (with_reducible apply bit0_heap) | ((with_reducible refine sign_other ?_ ?_); (focus (first | (simp; done) | omega | (simp; omega)))) | ((with_reducible refine row_other ?_ ?_); (focus (first | (simp; done) | omega | (simp; omega)))) | (with_reducible refine drew_heap ?_))); done))
        have Q8 : w8.heap[w5.heap.size]? = some (.cells (NC q false) 57 (0, 0)) := by rw [hb8.block _ (by simp; omega)]; (focus ((repeat' (first | (with_reducible assumption) | ((with_reducible refine heap_last ?_); (focus (first | (simp; done) | omega | (simp; omega)))) | ((with_reducible refine heap_prev ?_ ?_); (focus (first | (simp; done) | omega | (simp; omega)))) | (with_reducible apply sign_heap) | (with_reducible apply row_heap) | (with_reducible apply bit0_heap) | ((with_reducible refine sign_other ?_ ?_); (focus (first | (simp; done) | omega | (simp; omega)))) | ((with_reducible refine row_other ?_ ?_); (focus (first | (simp; done) | omega | (simp; omega)))) | (with_reducible refine drew_heap ?_))); done))
        have T8 : w8.heap[w7.heap.size]? = some (.cells (NC (2 * r) false) 57 (0, 0)) := by rw [hb8.block _ (by simp)]; (focus ((repeat' (first | (with_reducible assumption) | ((with_reducible refine heap_last ?_); (focus (first | (simp; done) | omega | (simp; omega)))) | ((with_reducible refine heap_prev ?_ ?_); (focus (first | (simp; done) | omega | (simp; omega)))) | (with_reducible apply sign_heap) | (with_reducible apply row_heap) | (with_reducible apply bit0_heap) | ((with_reducible refine sign_other ?_ ?_); (focus (first | (simp; done) | omega | (simp; omega)))) | ((with_reducible refine row_other ?_ ?_); (focus (first | (simp; done) | omega | (simp; omega)))) | (with_reducible refine drew_heap ?_))); done))
        have B8 : Hid (Below w6.heap.size w6 w8) := Below.trans (Below.alloc B7.out B7.out.size _) (hb8.mono (by simp; omega))
        clear hb8 B7 C7 Q7
        cases b1
        · obtain ⟨b2, hb2⟩ : ∃ b2, b2 = decide (2 * r < d) := ⟨_, rfl⟩
          have Hb2 := Lib.hid hb2; clear hb2
          go_wp2_with (first | ((with_reducible apply load83); rfl; rfl; rfl; (focus ((repeat' (first | (with_reducible assumption) | ((with_reducible refine heap_last ?_); (focus (first | (simp; done) | omega | (simp; omega)))) | ((with_reducible refine heap_prev ?_ ?_); (focus (first | (simp; done) | omega | (simp; omega)))) | (with_reducible apply sign_heap) | (with_reducible apply row_heap) | (with_reducible apply bit0_heap) | ((with_reducible refine sign_other ?_ ?_); (focus (first | (simp; done) | omega | (simp; omega)))) | ((with_reducible refine row_other ?_ ?_); (focus (first | (simp; done) | omega | (simp; omega)))) | (with_reducible refine drew_heap ?_))); done)); skip) | (first | ((with_reducible apply store83_0); rfl; rfl; rfl; rfl; (focus (simp; done)); skip) | ((with_reducible apply store83_1); rfl; rfl; rfl; rfl; (focus (simp; done)); skip) | ((with_reducible apply store83_2); rfl; rfl; rfl; rfl; (focus (simp; done)); skip) | ((with_reducible apply store83_3); rfl; rfl; rfl; rfl; (focus (simp; done)); skip) | ((with_reducible apply store83_4); rfl; rfl; rfl; rfl; (focus (simp; done)); skip)))
          ((with_reducible refine (below_c (2 * r) d false sc b2 (by have := Hrd.out; have := Hd.out; omega) (by have := Hd.out; omega) Hb2.out _).mono ?_); rintro e w9 ⟨rfl, hb9⟩)
          have Q9 : w9.heap[w5.heap.size]? = some (.cells (NC q false) 57 (0, 0)) := by rw [hb9.block _ (by omega)]; exact Q8
          have c9 : w9.cell? ⟨w5.heap.size, 0, none⟩ = some (.bool odd) := by
            rw [cell_of_row _ _ _ _ _ _ Q9, NC_get _ _ _ (by omega), Hodd.out]
            congr 2
            rw [Nat.testBit_zero]
          have B9 : Hid (Below w6.heap.size w6 w9) := B8.out.trans (hb9.mono (by omega))
          clear hb9 C8 Q8 T8 B8
          cases b2
          · have hao : aw = odd := by
              have h1 := Hb1.out; have h2 := Hb2.out
              have e3 : 2 * r = d := by simp at h1 h2; omega
              rw [ha1.out, ← h1]; simp [e3]
            go_wp2_with fail
            go_meet
            case rel => exact ⟨by rw [hao], B9.out⟩
          · have hao : aw = false := by
              have h1 := Hb1.out; have h2 := Hb2.out
              have e3 : ¬ 2 * r = d := by simp at h2; omega
              rw [ha1.out, ← h1]; simp [e3]
            go_wp2_with fail
            go_meet
            case rel => exact ⟨by rw [hao], B9.out⟩
        · have hao : aw = true := by
            have h1 := Hb1.out
            rw [ha1.out, ← h1]; rfl
          go_wp2_with fail
          go_meet
          case rel => exact ⟨by rw [hao], B8.out⟩
    · have hr0 : r = 0 := by have := Hb0.out; simpa using this
      have ha1 : aw = false := by rw [Haw.out, awayB, if_pos hr0]
      clear hr0
      go_wp2_with fail
      go_meet
      case rel => exact ⟨by rw [ha1], Below.refl _ _⟩
  case rest =>
    obtain ⟨rfl, hbx⟩ := hcut
    have zx : w6.heap.size ≤ wc.heap.size := hbx.size
    have Qx : wc.heap[w5.heap.size]? = some (.cells (NC q false) 57 (0, 0)) := by rw [hbx.block _ (by omega)]; exact Q6
    have Bx : Hid (Below w.heap.size w wc) := B6.out.trans (hbx.mono B6.out.size)
    clear hbx C6 Q6 R6 B6
    have z9 : w5.heap.size < wc.heap.size := by omega
    have O1 : Hid (∀ w, Calls Try.prog 27 #[.int .i64 1] w fun e w' => e = .returned (.agg (NC 1 false)) ∧ Below w.heap.size w w') := by
      intro w; exact Of_z 1 (by unfold InR; omega) w
    obtain ⟨m, hm⟩ : ∃ m, m = q + if aw then 1 else 0 := ⟨_, rfl⟩
    have Hm := Lib.hid hm; clear hm
    have Hr2 : Hid (res = if neg then -(m : Int) else (m : Int)) := by show _ = _; rw [Hm.out]; exact Hres.out
    have hmb : Hid (m < 2 ^ 135) := by show _ < _; have := Hm.out; have := Hq.out; have := Hn.out; cases aw <;> simp at * <;> omega
    clear Hres
    go_upto_if 70 with fail
    go_cut [16] (fun _ wx => Hid (wx.heap[w5.heap.size]? = some (.cells (NC m false) 57 (0, 0))) ∧ Hid (Below w.heap.size w wx))
    case first =>
      cases aw
      · have hmq : m = q := by have := Hm.out; simpa using this
        go_wp2_with fail
        go_meet
        case rel => exact ⟨by rw [hmq]; exact Qx, Bx⟩
      · have hmq : q + 1 = m := by have := Hm.out; simp at this; omega
        have Hmq := Lib.hid hmq; clear hmq
        go_wp2_with fail
        refine wp_region_any (by kernel_rfl) ?_
        change wpAny _ _ _ _ _ _ _ (World.drew _)
        (refine wpAny_ready (rs := [0, 1]) (by kernel_rfl) (by simp) (AllReady.cons rfl (fun K hK => ?_) (AllReady.cons rfl (fun K hK => ?_) AllReady.nil)))
        · ((with_reducible apply any_load83); rfl; rfl; rfl; (focus ((repeat' (first | (with_reducible assumption) | ((with_reducible refine heap_last ?_); (focus (first | (simp; done) | omega | (simp; omega)))) | ((with_reducible refine heap_prev ?_ ?_); (focus (first | (simp; done) | omega | (simp; omega)))) | (with_reducible apply sign_heap) | (with_reducible apply row_heap) | (with_reducible apply bit0_heap) | ((with_reducible refine sign_other ?_ ?_); (focus (first | (simp; done) | omega | (simp; omega)))) | ((with_reducible refine row_other ?_ ?_); (focus (first | (simp; done) | omega | (simp; omega)))) | (with_reducible refine drew_heap ?_))); done)); refine hK _ _ ?_; clear hK K)
          (refine wpAny_ready (rs := [1]) (by kernel_rfl) (by simp) (AllReady.cons rfl (fun K hK => ?_) AllReady.nil))
          go_simp
          ((with_reducible refine (O1.out _).mono ?_); rintro e w7 ⟨rfl, b7⟩)
          refine hK _ _ ?_
          clear hK K
          have s7 := b7.size
          have Q7 : w7.heap[w5.heap.size]? = some (.cells (NC q false) 57 (0, 0)) := by rw [b7.block _ (by first | omega | (simp; omega))]; (focus ((repeat' (first | (with_reducible assumption) | ((with_reducible refine heap_last ?_); (focus (first | (simp; done) | omega | (simp; omega)))) | ((with_reducible refine heap_prev ?_ ?_); (focus (first | (simp; done) | omega | (simp; omega)))) | (with_reducible apply sign_heap) | (with_reducible apply row_heap) | (with_reducible apply bit0_heap) | ((with_reducible refine sign_other ?_ ?_); (focus (first | (simp; done) | omega | (simp; omega)))) | ((with_reducible refine row_other ?_ ?_); (focus (first | (simp; done) | omega | (simp; omega)))) | (with_reducible refine drew_heap ?_))); done))
          have B7 : Hid (Below w.heap.size w w7) := Below.trans (Below.drew Bx.out) (b7.mono (by first | omega | (simp; omega)))
          clear b7
          (refine wpAny_ready (rs := [2]) (by kernel_rfl) (by simp) (AllReady.cons rfl (fun K hK => ?_) AllReady.nil))
          go_simp
          ((with_reducible refine (more_c _ _ _ _ _).mono ?_); rintro e w8 ⟨rfl, b8⟩)
          rw [Hmq.out]
          refine hK _ _ ?_
          clear hK K
          have s8 := b8.size
          have Q8 : w8.heap[w5.heap.size]? = some (.cells (NC q false) 57 (0, 0)) := by rw [b8.block _ (by first | omega | (simp at s7; omega))]; exact Q7
          have B8 : Below w.heap.size w w8 := B7.out.trans (b8.mono (by first | omega | (simp at s7; omega)))
          clear b8 B7 Q7
          (refine wpAny_ready (rs := [3]) (by kernel_rfl) (by simp) (AllReady.cons rfl (fun K hK => ?_) AllReady.nil))
          ((with_reducible apply any_store83); rfl; rfl; rfl; rfl; (focus ((repeat' (first | (with_reducible assumption) | ((with_reducible refine heap_last ?_); (focus (first | (simp; done) | omega | (simp; omega)))) | ((with_reducible refine heap_prev ?_ ?_); (focus (first | (simp; done) | omega | (simp; omega)))) | (with_reducible apply sign_heap) | (with_reducible apply row_heap) | (with_reducible apply bit0_heap) | ((with_reducible refine sign_other ?_ ?_); (focus (first | (simp; done) | omega | (simp; omega)))) | ((with_reducible refine row_other ?_ ?_); (focus (first | (simp; done) | omega | (simp; omega)))) | (with_reducible refine drew_heap ?_))); done)); refine hK _ _ ?_; clear hK K)
          refine wpAny_done (by kernel_rfl) ?_ _
          go_wp2_with fail
          go_meet
          case rel => exact ⟨row_heap Q8, by show Below _ _ _; (focus ((repeat' (first | (with_reducible exact Below.refl _ _) | (with_reducible assumption) | (with_reducible refine Below.alloc ?_ ?_ _) | (with_reducible refine Below.setCell ?_ ?_ _) | (with_reducible refine Below.row ?_ ?_ _) | (with_reducible refine Below.drew ?_) | (with_reducible refine below_drewN ?_ _) | (focus (first | (simp; done) | omega | (simp; omega))))); done))⟩
        · go_simp
          ((with_reducible refine (O1.out _).mono ?_); rintro e w7 ⟨rfl, b7⟩)
          refine hK _ _ ?_
          clear hK K
          have s7 := b7.size
          have Q7 : w7.heap[w5.heap.size]? = some (.cells (NC q false) 57 (0, 0)) := by rw [b7.block _ (by first | omega | (simp; omega))]; (focus ((repeat' (first | (with_reducible assumption) | ((with_reducible refine heap_last ?_); (focus (first | (simp; done) | omega | (simp; omega)))) | ((with_reducible refine heap_prev ?_ ?_); (focus (first | (simp; done) | omega | (simp; omega)))) | (with_reducible apply sign_heap) | (with_reducible apply row_heap) | (with_reducible apply bit0_heap) | ((with_reducible refine sign_other ?_ ?_); (focus (first | (simp; done) | omega | (simp; omega)))) | ((with_reducible refine row_other ?_ ?_); (focus (first | (simp; done) | omega | (simp; omega)))) | (with_reducible refine drew_heap ?_))); done))
          have B7 : Hid (Below w.heap.size w w7) := Below.trans (Below.drew Bx.out) (b7.mono (by first | omega | (simp; omega)))
          clear b7
          (refine wpAny_ready (rs := [0]) (by kernel_rfl) (by simp) (AllReady.cons rfl (fun K hK => ?_) AllReady.nil))
          ((with_reducible apply any_load83); rfl; rfl; rfl; (focus ((repeat' (first | (with_reducible assumption) | ((with_reducible refine heap_last ?_); (focus (first | (simp; done) | omega | (simp; omega)))) | ((with_reducible refine heap_prev ?_ ?_); (focus (first | (simp; done) | omega | (simp; omega)))) | (with_reducible apply sign_heap) | (with_reducible apply row_heap) | (with_reducible apply bit0_heap) | ((with_reducible refine sign_other ?_ ?_); (focus (first | (simp; done) | omega | (simp; omega)))) | ((with_reducible refine row_other ?_ ?_); (focus (first | (simp; done) | omega | (simp; omega)))) | (with_reducible refine drew_heap ?_))); done)); refine hK _ _ ?_; clear hK K)
          (refine wpAny_ready (rs := [2]) (by kernel_rfl) (by simp) (AllReady.cons rfl (fun K hK => ?_) AllReady.nil))
          go_simp
          ((with_reducible refine (more_c _ _ _ _ _).mono ?_); rintro e w8 ⟨rfl, b8⟩)
          rw [Hmq.out]
          refine hK _ _ ?_
          clear hK K
          have s8 := b8.size
          have Q8 : w8.heap[w5.heap.size]? = some (.cells (NC q false) 57 (0, 0)) := by rw [b8.block _ (by first | omega | (simp at s7; omega))]; exact Q7
          have B8 : Below w.heap.size w w8 := B7.out.trans (b8.mono (by first | omega | (simp at s7; omega)))
          clear b8 B7 Q7
          (refine wpAny_ready (rs := [3]) (by kernel_rfl) (by simp) (AllReady.cons rfl (fun K hK => ?_) AllReady.nil))
          ((with_reducible apply any_store83); rfl; rfl; rfl; rfl; (focus ((repeat' (first | (with_reducible assumption) | ((with_reducible refine heap_last ?_); (focus (first | (simp; done) | omega | (simp; omega)))) | ((with_reducible refine heap_prev ?_ ?_); (focus (first | (simp; done) | omega | (simp; omega)))) | (with_reducible apply sign_heap) | (with_reducible apply row_heap) | (with_reducible apply bit0_heap) | ((with_reducible refine sign_other ?_ ?_); (focus (first | (simp; done) | omega | (simp; omega)))) | ((with_reducible refine row_other ?_ ?_); (focus (first | (simp; done) | omega | (simp; omega)))) | (with_reducible refine drew_heap ?_))); done)); refine hK _ _ ?_; clear hK K)
          refine wpAny_done (by kernel_rfl) ?_ _
          go_wp2_with fail
          go_meet
          case rel => exact ⟨row_heap Q8, by show Below _ _ _; (focus ((repeat' (first | (with_reducible exact Below.refl _ _) | (with_reducible assumption) | (with_reducible refine Below.alloc ?_ ?_ _) | (with_reducible refine Below.setCell ?_ ?_ _) | (with_reducible refine Below.row ?_ ?_ _) | (with_reducible refine Below.drew ?_) | (with_reducible refine below_drewN ?_ _) | (focus (first | (simp; done) | omega | (simp; omega))))); done))⟩
    case rest =>
      obtain ⟨Qw, Bw⟩ := hcut
      have hgw := Qw.out
      have hlt : w5.heap.size < wc.heap.size := by
        rcases Nat.lt_or_ge w5.heap.size wc.heap.size with h | h
        · exact h
        · rw [Array.getElem?_eq_none h] at hgw; cases hgw
      have fS : wc.frozen? ⟨w5.heap.size, 136, none⟩ = false := frozen_of_row _ _ _ _ _ hgw
      have cS : wc.cell? ⟨w5.heap.size, 136, none⟩ = some (.bool false) := cell_heap hgw (NC_sign _ _)
      cases neg
      · have hrs : res = (m : Int) := by have := Hr2.out; simpa using this
        have TL : Hid (∀ w, Calls Try.prog 33 #[.agg (NC m false)] w fun e w' => e = .returned (.tuple #[.int .i64 (tv res), .int .i64 (te res)]) ∧ Below w.heap.size w w') := by
          intro w; rw [hrs]
          have := told_c (m : Int) (by have := hmb.out; omega) w
          unfold NZ at this
          have e1 : decide ((m : Int) < 0) = false := by simp
          rw [e1, Int.natAbs_natCast] at this
          exact this
        clear hrs Hr2
        go_wp2_with (first | ((with_reducible apply load83); rfl; rfl; rfl; (focus ((repeat' (first | (with_reducible assumption) | ((with_reducible refine heap_last ?_); (focus (first | (simp; done) | omega | (simp; omega)))) | ((with_reducible refine heap_prev ?_ ?_); (focus (first | (simp; done) | omega | (simp; omega)))) | (with_reducible apply sign_heap) | (with_reducible apply row_heap) | (with_reducible apply bit0_heap) | ((with_reducible refine sign_other ?_ ?_); (focus (first | (simp; done) | omega | (simp; omega)))) | ((with_reducible refine row_other ?_ ?_); (focus (first | (simp; done) | omega | (simp; omega)))) | (with_reducible refine drew_heap ?_))); done)); skip) | (first | ((with_reducible apply store83_0); rfl; rfl; rfl; rfl; (focus (simp; done)); skip) | ((with_reducible apply store83_1); rfl; rfl; rfl; rfl; (focus (simp; done)); skip) | ((with_reducible apply store83_2); rfl; rfl; rfl; rfl; (focus (simp; done)); skip) | ((with_reducible apply store83_3); rfl; rfl; rfl; rfl; (focus (simp; done)); skip) | ((with_reducible apply store83_4); rfl; rfl; rfl; rfl; (focus (simp; done)); skip)))
        ((with_reducible refine (TL.out _).mono ?_); rintro e w9 ⟨rfl, b9⟩)
        have B9 : Below w.heap.size w w9 := Below.trans (by have := Bw.out; (focus ((repeat' (first | (with_reducible exact Below.refl _ _) | (with_reducible assumption) | (with_reducible refine Below.alloc ?_ ?_ _) | (with_reducible refine Below.setCell ?_ ?_ _) | (with_reducible refine Below.row ?_ ?_ _) | (with_reducible refine Below.drew ?_) | (with_reducible refine below_drewN ?_ _) | (focus (first | (simp; done) | omega | (simp; omega))))); done))) (b9.mono (by have := Bw.out.size; first | omega | (simp; omega)))
        clear b9
        go_wp2_with fail
        go_ret2
        first | exact ⟨rfl, B9⟩ | exact B9
      · have hrs : res = -(m : Int) := by have := Hr2.out; simpa using this
        obtain ⟨b3, hb3⟩ : ∃ b3, b3 = decide (m = 0) := ⟨_, rfl⟩
        have TL : Hid (∀ w, Calls Try.prog 33 #[.agg (NC m (!b3))] w fun e w' => e = .returned (.tuple #[.int .i64 (tv res), .int .i64 (te res)]) ∧ Below w.heap.size w w') := by
          intro w; rw [hrs]
          have := told_c (-(m : Int)) (by have := hmb.out; omega) w
          unfold NZ at this
          have e1 : decide (-(m : Int) < 0) = !b3 := by rw [hb3]; by_cases h : m = 0 <;> simp [h] <;> omega
          rw [e1, Int.natAbs_neg, Int.natAbs_natCast] at this
          exact this
        have Hb3 := Lib.hid hb3
        clear hrs Hr2 hb3
        go_wp2_with (first | ((with_reducible apply load83); rfl; rfl; rfl; (focus ((repeat' (first | (with_reducible assumption) | ((with_reducible refine heap_last ?_); (focus (first | (simp; done) | omega | (simp; omega)))) | ((with_reducible refine heap_prev ?_ ?_); (focus (first | (simp; done) | omega | (simp; omega)))) | (with_reducible apply sign_heap) | (with_reducible apply row_heap) | (with_reducible apply bit0_heap) | ((with_reducible refine sign_other ?_ ?_); (focus (first | (simp; done) | omega | (simp; omega)))) | ((with_reducible refine row_other ?_ ?_); (focus (first | (simp; done) | omega | (simp; omega)))) | (with_reducible refine drew_heap ?_))); done)); skip) | (first | ((with_reducible apply store83_0); rfl; rfl; rfl; rfl; (focus (simp; done)); skip) | ((with_reducible apply store83_1); rfl; rfl; rfl; rfl; (focus (simp; done)); skip) | ((with_reducible apply store83_2); rfl; rfl; rfl; rfl; (focus (simp; done)); skip) | ((with_reducible apply store83_3); rfl; rfl; rfl; rfl; (focus (simp; done)); skip) | ((with_reducible apply store83_4); rfl; rfl; rfl; rfl; (focus (simp; done)); skip)))
        ((with_reducible refine (nought_c m false b3 (by have := hmb.out; omega) Hb3.out _).mono ?_); rintro e w8 ⟨rfl, b8⟩)
        have s8 := b8.size
        have Q8 : w8.heap[w5.heap.size]? = some (.cells (NC m false) 57 (0, 0)) := by rw [b8.block _ hlt]; exact Qw.out
        have B8 : Hid (Below w.heap.size w w8) := Bw.out.trans (b8.mono Bw.out.size)
        have fS8 : w8.frozen? ⟨w5.heap.size, 136, none⟩ = false := frozen_of_row _ _ _ _ _ Q8
        have cS8 : w8.cell? ⟨w5.heap.size, 136, none⟩ = some (.bool false) := cell_heap Q8 (NC_sign _ _)
        clear b8 fS cS hgw
        have z8 : w5.heap.size < w8.heap.size := by omega
        go_wp2_with (first | ((with_reducible apply load83); rfl; rfl; rfl; (focus ((repeat' (first | (with_reducible assumption) | ((with_reducible refine heap_last ?_); (focus (first | (simp; done) | omega | (simp; omega)))) | ((with_reducible refine heap_prev ?_ ?_); (focus (first | (simp; done) | omega | (simp; omega)))) | (with_reducible apply sign_heap) | (with_reducible apply row_heap) | (with_reducible apply bit0_heap) | ((with_reducible refine sign_other ?_ ?_); (focus (first | (simp; done) | omega | (simp; omega)))) | ((with_reducible refine row_other ?_ ?_); (focus (first | (simp; done) | omega | (simp; omega)))) | (with_reducible refine drew_heap ?_))); done)); skip) | (first | ((with_reducible apply store83_0); rfl; rfl; rfl; rfl; (focus (simp; done)); skip) | ((with_reducible apply store83_1); rfl; rfl; rfl; rfl; (focus (simp; done)); skip) | ((with_reducible apply store83_2); rfl; rfl; rfl; rfl; (focus (simp; done)); skip) | ((with_reducible apply store83_3); rfl; rfl; rfl; rfl; (focus (simp; done)); skip) | ((with_reducible apply store83_4); rfl; rfl; rfl; rfl; (focus (simp; done)); skip)))
        ((with_reducible refine (TL.out _).mono ?_); rintro e w9 ⟨rfl, b9⟩)
        have B9 : Below w.heap.size w w9 := Below.trans (by have := B8.out; (focus ((repeat' (first | (with_reducible exact Below.refl _ _) | (with_reducible assumption) | (with_reducible refine Below.alloc ?_ ?_ _) | (with_reducible refine Below.setCell ?_ ?_ _) | (with_reducible refine Below.row ?_ ?_ _) | (with_reducible refine Below.drew ?_) | (with_reducible refine below_drewN ?_ _) | (focus (first | (simp; done) | omega | (simp; omega))))); done))) (b9.mono (by have := B8.out.size; first | omega | (simp; omega)))
        clear b9
        go_wp2_with fail
        go_ret2
        first | exact ⟨rfl, B9⟩ | exact B9
end Go.Proofs.Ythpgbghcmfjjoaa
