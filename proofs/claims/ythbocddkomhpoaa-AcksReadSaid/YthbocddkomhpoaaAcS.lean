/- acks: the reference's Of, All. (By mkacs.py.) -/
import Derived.Test.YthbocddkomhpoaaAcR
namespace Go.Proofs.Ythbocddkomhpoaa
open Go.RowKit Go.Lib

theorem sum_wrap {x k : Nat} (hx : x < 2 ^ k) (hk : k < 32) : IntKind.u64.wrap ((x : Int) + (2 : Int) ^ k) = ((x + 2 ^ k : Nat) : Int) := by
  have h1 : 2 ^ k < 4294967296 := by
    rw [show 4294967296 = 2 ^ 32 by decide]
    exact Nat.pow_lt_pow_right (by omega) hk
  have hp : (2 : Int) ^ k = ((2 ^ k : Nat) : Int) := by simp
  rw [hp]
  generalize 2 ^ k = y at *
  rw [IntWalk.u64_in _ (by omega)]
  omega
set_option maxHeartbeats 4000000 in
set_option maxRecDepth 100000 in
theorem rOf_c (n : Int) (B : Nat) (A : Option Addr) (c : Nat) (L : Al) (r : Int) (w : World) (H : RL w B A c L) (hl : L.length ≤ 1000) :
    Calls Try.prog 31 #[.agg #[.int .i64 n, .slice A L.length c], .int .i64 r] w fun e w' => e = .returned (.int .u64 (ofL L r : Int)) ∧ Below w.heap.size w w' := by
  have HH : Hid (∀ v W, Below w.heap.size w W → Calls Try.prog 32 #[.agg #[.int .i64 n, .slice A L.length c], .int .i64 r, .int .i64 v] W fun e w' => e = .returned (.bool (hasL L r v)) ∧ Below W.heap.size W w') := Lib.hid (fun v W hW => rHas_c n B A c L r v W (H.below hW) hl)
  have HB := Lib.hid (fun v => rBit_c v)
  generalize L.length = N at *
  clear H hl
  go_enter Try.func31, Try.ntmps31
  go_wp2_with fail
  go_loopw [5, 6] (fun x i wr => ∃ k : Nat, k ≤ 32 ∧ x = .int .u64 (sumL L r k : Int) ∧ i = .int .i64 ((k : Int) + 1) ∧ Hid (wr.heap[w.heap.size]? = some (.cells #[.int .i64 n, .slice A N c] 35 (0, 0))) ∧ Hid (Below w.heap.size w wr) ∧ w.heap.size + 1 ≤ wr.heap.size) (fun _ i _ => 33 - (intOf i).toNat)
  case atStart => exact ⟨0, by omega, rfl, rfl, by show _ = _; (focus ((repeat' (first | (with_reducible assumption) | ((with_reducible refine heap_last ?_); (focus (first | (simp; done) | omega | (simp; omega)))) | ((with_reducible refine heap_prev ?_ ?_); (focus (first | (simp; done) | omega | (simp; omega)))) | (with_reducible apply row_heap) | ((with_reducible apply tab_set); (focus (first | (simp; done) | omega | (simp; omega)))) | ((with_reducible refine sign_other ?_ ?_); (focus (first | (simp; done) | omega | (simp; omega)))) | ((with_reducible refine row_other ?_ ?_); (focus (first | (simp; done) | omega | (simp; omega)))) | (with_reducible refine drew_heap ?_) | (with_reducible refine drewN_heap ?_))); done)), Lib.hid (by (focus ((repeat' (first | (with_reducible exact Below.refl _ _) | (with_reducible assumption) | (with_reducible refine Below.alloc ?_ ?_ _) | (with_reducible refine Below.setCell ?_ ?_ _) | (with_reducible refine Below.row ?_ ?_ _) | (with_reducible refine Below.drew ?_) | (with_reducible refine below_drewN ?_ _) | (focus (first | (simp; done) | omega | (simp; omega))))); done))), by (focus (first | (simp; done) | omega | (simp; omega)))⟩
  case round =>
    obtain ⟨k, hk, rfl, rfl, h1, hB, hsz⟩ := hrel
    by_cases hlt : k < 32
    · have hltI : (k : Int) + 1 ≤ 32 := by omega
      have c0 : wr.cell? ⟨w.heap.size, 0, none⟩ = some (.int .i64 n) := cell_of_row _ _ _ _ _ _ h1.out
      have c1 : wr.cell? ⟨w.heap.size, 1, none⟩ = some (.slice A N c) := cell_of_row _ _ _ _ _ _ h1.out
      have hh := HH.out ((k : Int) + 1) wr hB.out
      have hbt := HB.out ((k : Int) + 1)
      rw [bitN_at hlt] at hbt
      have HBT := Lib.hid hbt
      have hs := sum_wrap (sumL_lt L r k) hlt
      have hn : sumL L r (k + 1) = sumL L r k + (if hasL L r ((k : Int) + 1) then 2 ^ k else 0) := rfl
      clear hbt
      cases hb : hasL L r ((k : Int) + 1)
      · rw [hb] at hh hn
        have HHH := Lib.hid hh
        have HN : Hid (sumL L r (k + 1) = sumL L r k) := Lib.hid (by simpa using hn)
        clear hh hs hn
        go_wp2_with (first | ((with_reducible refine HHH.out.mono ?_); rintro e w1 ⟨rfl, b1⟩))
        refine ⟨⟨k + 1, by omega, by rw [HN.out], by go_num, Lib.hid (by rw [b1.block _ (by (focus (first | (simp; done) | omega | (simp; omega))))]; exact h1.out), Lib.hid (hB.out.trans (b1.mono hB.out.size)), by have := b1.size; omega⟩, by simp [intOf]; omega⟩
      · rw [hb] at hh hn
        rw [if_pos rfl] at hn
        have HHH := Lib.hid hh
        rw [← hn] at hs
        have HN := Lib.hid hn
        clear hh hn
        go_wp2_with (first | ((with_reducible refine HHH.out.mono ?_); rintro e w1 ⟨rfl, b1⟩) | ((with_reducible refine (HBT.out _).mono ?_); rintro e w2 ⟨rfl, rfl⟩))
        refine ⟨⟨k + 1, by omega, rfl, by go_num, Lib.hid (by rw [b1.block _ (by (focus (first | (simp; done) | omega | (simp; omega))))]; exact h1.out), Lib.hid (hB.out.trans (b1.mono hB.out.size)), by have := b1.size; omega⟩, by simp [intOf]; omega⟩
    · obtain rfl : k = 32 := by omega
      go_wp2_with fail
      go_ret
      exact ⟨rfl, hB.out⟩
set_option maxHeartbeats 4000000 in
set_option maxRecDepth 100000 in
theorem rAll_c (n : Nat) (B : Nat) (A : Option Addr) (c : Nat) (L : Al) (v : Int) (w : World) (H : RL w B A c L) (hl : L.length ≤ 1000) (hn : n ≤ 7) :
    Calls Try.prog 33 #[.agg #[.int .i64 (n : Int), .slice A L.length c], .int .i64 v] w fun e w' => e = .returned (.bool (allL n L v)) ∧ Below w.heap.size w w' := by
  have HH : Hid (∀ r W, Below w.heap.size w W → Calls Try.prog 32 #[.agg #[.int .i64 (n : Int), .slice A L.length c], .int .i64 r, .int .i64 v] W fun e w' => e = .returned (.bool (hasL L r v)) ∧ Below W.heap.size W w') := Lib.hid (fun r W hW => rHas_c n B A c L r v W (H.below hW) hl)
  generalize L.length = N at *
  obtain ⟨R, hR⟩ : ∃ R, R = allL n L v := ⟨_, rfl⟩
  rw [← hR]
  replace hR := Lib.hid hR
  clear H hl
  go_enter Try.func33, Try.ntmps33
  go_wp2_with fail
  go_loopw [5] (fun i wr => ∃ k : Nat, k ≤ n ∧ i = .int .i64 (k : Int) ∧ Hid (∀ j, j < k → hasL L (j : Int) v = true) ∧ Hid (wr.heap[w.heap.size]? = some (.cells #[.int .i64 (n : Int), .slice A N c] 35 (0, 0))) ∧ Hid (Below w.heap.size w wr) ∧ w.heap.size + 1 ≤ wr.heap.size) (fun i _ => n - (intOf i).toNat)
  case atStart => exact ⟨0, by omega, rfl, Lib.hid (fun j hj => by omega), by show _ = _; (focus ((repeat' (first | (with_reducible assumption) | ((with_reducible refine heap_last ?_); (focus (first | (simp; done) | omega | (simp; omega)))) | ((with_reducible refine heap_prev ?_ ?_); (focus (first | (simp; done) | omega | (simp; omega)))) | (with_reducible apply row_heap) | ((with_reducible apply tab_set); (focus (first | (simp; done) | omega | (simp; omega)))) | ((with_reducible refine sign_other ?_ ?_); (focus (first | (simp; done) | omega | (simp; omega)))) | ((with_reducible refine row_other ?_ ?_); (focus (first | (simp; done) | omega | (simp; omega)))) | (with_reducible refine drew_heap ?_) | (with_reducible refine drewN_heap ?_))); done)), Lib.hid (by (focus ((repeat' (first | (with_reducible exact Below.refl _ _) | (with_reducible assumption) | (with_reducible refine Below.alloc ?_ ?_ _) | (with_reducible refine Below.setCell ?_ ?_ _) | (with_reducible refine Below.row ?_ ?_ _) | (with_reducible refine Below.drew ?_) | (with_reducible refine below_drewN ?_ _) | (focus (first | (simp; done) | omega | (simp; omega))))); done))), by (focus (first | (simp; done) | omega | (simp; omega)))⟩
  case round =>
    obtain ⟨k, hk, rfl, hy, h1, hB, hsz⟩ := hrel
    have c0 : wr.cell? ⟨w.heap.size, 0, none⟩ = some (.int .i64 (n : Int)) := cell_of_row _ _ _ _ _ _ h1.out
    have c1 : wr.cell? ⟨w.heap.size, 1, none⟩ = some (.slice A N c) := cell_of_row _ _ _ _ _ _ h1.out
    by_cases hlt : k < n
    · have hltI : (k : Int) < (n : Int) := by omega
      have hk7 : (k : Int) < 7 := by omega
      have hh := HH.out (k : Int) wr hB.out
      cases hb : hasL L (k : Int) v
      · rw [hb] at hh
        have HHH := Lib.hid hh
        have hf : allL n L v = false := by unfold allL; rw [decide_eq_false_iff_not]; rintro ⟨_, h⟩; rw [h k hlt] at hb; cases hb
        rw [← hR.out] at hf
        subst hf
        clear hh hb
        go_wp2_with (first | ((with_reducible refine HHH.out.mono ?_); rintro e w1 ⟨rfl, b1⟩))
        go_ret
        exact ⟨rfl, hB.out.trans (b1.mono hB.out.size)⟩
      · rw [hb] at hh
        have HHH := Lib.hid hh
        clear hh
        have HY : Hid (∀ j, j < k + 1 → hasL L (j : Int) v = true) := Lib.hid (fun j hj => by
          by_cases e : j = k
          · subst e; exact hb
          · exact hy.out j (by omega))
        clear hb
        go_wp2_with (first | ((with_reducible refine HHH.out.mono ?_); rintro e w1 ⟨rfl, b1⟩))
        refine ⟨⟨k + 1, by omega, by go_num, HY, Lib.hid (by rw [b1.block _ (by (focus (first | (simp; done) | omega | (simp; omega))))]; exact h1.out), Lib.hid (hB.out.trans (b1.mono hB.out.size)), by have := b1.size; omega⟩, by simp [intOf]; omega⟩
    · obtain rfl : k = n := by omega
      have hltI : ¬ (k : Int) < (k : Int) := by omega
      by_cases h0 : 0 < k
      · have h0I : (0 : Int) < (k : Int) := by omega
        have hf : allL k L v = true := by unfold allL; rw [decide_eq_true_iff]; exact ⟨h0, hy.out⟩
        rw [← hR.out] at hf
        subst hf
        go_wp2_with fail
        go_ret
        exact ⟨rfl, hB.out⟩
      · have h0I : ¬ (0 : Int) < (k : Int) := by omega
        have hf : allL k L v = false := by unfold allL; rw [decide_eq_false_iff_not]; exact fun h => h0 h.1
        rw [← hR.out] at hf
        subst hf
        go_wp2_with fail
        go_ret
        exact ⟨rfl, hB.out⟩
end Go.Proofs.Ythbocddkomhpoaa
