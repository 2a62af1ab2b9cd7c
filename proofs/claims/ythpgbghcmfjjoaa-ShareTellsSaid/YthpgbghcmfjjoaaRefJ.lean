/- A row of bits as a number of 64 bits, or refused. -/
import Derived.Test.YthpgbghcmfjjoaaRefG
namespace Go.Proofs.Ythpgbghcmfjjoaa
open Go.RowKit

theorem high_bit (m : Nat) (hm : m < 2 ^ 136) (h : ∀ j, 64 ≤ j → j < 136 → m.testBit j = false) : m < 2 ^ 64 := by
  apply Nat.lt_pow_two_of_testBit
  intro i hi
  by_cases h2 : i < 136
  · exact h i hi h2
  · exact Nat.testBit_lt_two_pow (Nat.lt_of_lt_of_le hm (Nat.pow_le_pow_right (by omega) (by omega)))
theorem low_bit (m : Nat) (hm : m < 2 ^ 64) (j : Nat) (h : 64 ≤ j) : m.testBit j = false :=
  Nat.testBit_lt_two_pow (Nat.lt_of_lt_of_le hm (Nat.pow_le_pow_right (by omega) h))

set_option maxHeartbeats 4000000 in
set_option maxRecDepth 100000 in
theorem Back_big (m : Nat) (s : Bool) (hm : m < 2 ^ 136) (hb : 2 ^ 64 ≤ m) (w : World) :
    Calls Try.prog 40 #[.agg (NC m s)] w fun e w' => e = .returned (.tuple #[.int .i64 0, .bool false]) ∧ Below w.heap.size w w' := by
  have Hm := Lib.hid hm; clear hm
  have Hb := Lib.hid hb; clear hb
  go_enter Try.func40, Try.ntmps40
  go_wp2
  go_loop [4] (fun i => ∃ k : Nat, 64 ≤ k ∧ k ≤ 136 ∧ i = .int .i64 k ∧ (∀ j, 64 ≤ j → j < k → m.testBit j = false)) (fun i => 136 - (intOf i).toNat)
  case atStart => exact ⟨64, by omega, by omega, rfl, fun j h1 h2 => by omega⟩
  case round =>
    obtain ⟨k, hk0, hk, rfl, hf⟩ := hrel
    have Hf := Lib.hid hf; clear hf
    by_cases hlt : k < 136
    · have g1 := NC_get m s k hlt
      obtain ⟨x, hx⟩ : ∃ x, x = m.testBit k := ⟨_, rfl⟩
      rw [← hx] at g1
      have Hx := Lib.hid hx; clear hx
      cases x
      · go_wp2
        refine ⟨⟨k + 1, by omega, by omega, by go_num, fun j h1 hj => ?_⟩, by simp [intOf]; omega⟩
        by_cases e : j = k
        · subst e; exact Hx.out.symm
        · exact Hf.out j h1 (by omega)
      · go_wp2
        go_ret2
        first | exact ⟨rfl, by (focus ((repeat' (first | (with_reducible exact Below.refl _ _) | (with_reducible assumption) | (with_reducible refine Below.alloc ?_ ?_ _) | (with_reducible refine Below.setCell ?_ ?_ _) | (with_reducible refine Below.row ?_ ?_ _) | (with_reducible refine Below.drew ?_) | (with_reducible refine below_drewN ?_ _) | (focus (first | (simp; done) | omega | (simp; omega))))); done))⟩ | (focus ((repeat' (first | (with_reducible exact Below.refl _ _) | (with_reducible assumption) | (with_reducible refine Below.alloc ?_ ?_ _) | (with_reducible refine Below.setCell ?_ ?_ _) | (with_reducible refine Below.row ?_ ?_ _) | (with_reducible refine Below.drew ?_) | (with_reducible refine below_drewN ?_ _) | (focus (first | (simp; done) | omega | (simp; omega))))); done))
    · exfalso
      obtain rfl : k = 136 := by omega
      have := high_bit m Hm.out Hf.out
      have := Hb.out
      omega

theorem ret_pair {v : Value} {a b : Bool} (h : a = b) : Ending.returned (.tuple #[v, .bool a]) = .returned (.tuple #[v, .bool b]) := by rw [h]
def BackP (x : Int) (ok : Bool) (e : Ending) : Prop := ∃ v, e = .returned (.tuple #[.int .i64 v, .bool ok]) ∧ (ok = true → v = x)
theorem half_step (m j : Nat) (hm : m < 2 ^ 64) : m / 2 ^ j = 2 * (m / 2 ^ (j + 1)) + (if m.testBit j then 1 else 0) ∧ m / 2 ^ j ≤ 18446744073709551615 := by
  constructor
  · rw [div_succ, bit_eq]
    have : m / 2 ^ j % 2 = 0 ∨ m / 2 ^ j % 2 = 1 := by omega
    rcases this with h | h <;> simp [h] <;> omega
  · exact Nat.le_trans (Nat.div_le_self _ _) (by omega)
theorem back_neg (m : Nat) (h1 : 0 < m) (h2 : m ≤ 9223372036854775808) : wrap64 (18446744073709551615 - (m : Int) + 1) = -(m : Int) := by
  unfold wrap64; omega
theorem back_pos (m : Nat) (h2 : m < 9223372036854775808) : wrap64 (m : Int) = (m : Int) := by
  unfold wrap64; omega

set_option maxHeartbeats 4000000 in
set_option maxRecDepth 100000 in
theorem Back_small (m : Nat) (s : Bool) (ok : Bool) (hm : m < 2 ^ 64) (hs : s = true → 0 < m) (hok : ok = if s then decide (m ≤ 9223372036854775808) else decide (m < 9223372036854775808)) (w : World) :
    Calls Try.prog 40 #[.agg (NC m s)] w fun e w' => BackP (if s then -(m : Int) else (m : Int)) ok e ∧ Below w.heap.size w w' := by
  have gs := NC_sign m s
  have Hm := Lib.hid hm; clear hm
  have Hs := Lib.hid hs; clear hs
  have Hok := Lib.hid hok; clear hok
  go_enter Try.func40, Try.ntmps40
  go_wp2
  go_loop [4] (fun i => ∃ k : Nat, 64 ≤ k ∧ k ≤ 136 ∧ i = .int .i64 k) (fun i => 136 - (intOf i).toNat)
  case atStart => exact ⟨64, by omega, by omega, rfl⟩
  case round =>
    obtain ⟨k, hk0, hk, rfl⟩ := hrel
    by_cases hlt : k < 136
    · have g1 := NC_get m s k hlt
      rw [low_bit m Hm.out k hk0] at g1
      go_wp2
      exact ⟨⟨k + 1, by omega, by omega, by go_num⟩, by simp [intOf]; omega⟩
    · obtain rfl : k = 136 := by omega
      go_wp2
      go_loop [5, 6] (fun u i => ∃ k : Nat, k ≤ 64 ∧ i = .int .i64 ((k : Int) - 1) ∧ u = .int .u64 ((m / 2 ^ k : Nat) : Int)) (fun _ i => (intOf i + 1).toNat)
      case atStart => exact ⟨64, by omega, rfl, by rw [Nat.div_eq_of_lt Hm.out]; rfl⟩
      case round =>
        obtain ⟨k, hk, rfl, rfl⟩ := hrel
        by_cases hlt2 : 0 < k
        · obtain ⟨j, rfl⟩ : ∃ j, k = j + 1 := ⟨k - 1, by omega⟩
          rw [show (((j + 1 : Nat) : Int) - 1) = (j : Int) by omega]
          have ⟨h1, h2⟩ := half_step m j Hm.out
          have g1 := NC_get m s j (by omega)
          obtain ⟨q, hq⟩ : ∃ q, q = m / 2 ^ (j + 1) := ⟨_, rfl⟩
          rw [← hq] at h1
          rw [← hq]
          have Hq := Lib.hid hq; clear hq
          have q0 : (0 : Int) ≤ (j : Int) := by omega
          have q1 : (j : Int) < 64 := by omega
          generalize m.testBit j = x at *
          cases x
          · have h3 : (2 * (q : Int)) ≤ 18446744073709551615 := by simp at h1; omega
            have H1 := Lib.hid h1; clear h1 h2
            go_wp2
            exact ⟨⟨j, by omega, rfl, by rw [H1.out]; simp⟩, by simp [intOf]⟩
          · have h3 : (2 * (q : Int)) + 1 ≤ 18446744073709551615 := by simp at h1; omega
            have H1 := Lib.hid h1; clear h1 h2
            go_wp2
            exact ⟨⟨j, by omega, rfl, by rw [H1.out]; simp⟩, by simp [intOf]⟩
        · obtain rfl : k = 0 := by omega
          rw [show m / 2 ^ 0 = m by simp]
          have hm' : (m : Int) ≤ 18446744073709551615 := by have := Hm.out; omega
          have hm0 : (0 : Int) ≤ (m : Int) := by omega
          cases s
          · have hb : decide ((m : Int) < 9223372036854775808) = ok := by rw [Hok.out]; simp; omega
            have HB := Lib.hid hb; clear hb
            go_wp2
            go_ret2
            exact ⟨⟨wrap64 (m : Int), ret_pair HB.out, fun h => back_pos m (by have := HB.out; rw [h] at this; simp at this; omega)⟩, by (focus ((repeat' (first | (with_reducible exact Below.refl _ _) | (with_reducible assumption) | (with_reducible refine Below.alloc ?_ ?_ _) | (with_reducible refine Below.setCell ?_ ?_ _) | (with_reducible refine Below.row ?_ ?_ _) | (with_reducible refine Below.drew ?_) | (with_reducible refine below_drewN ?_ _) | (focus (first | (simp; done) | omega | (simp; omega))))); done))⟩
          · have hpos := Hs.out rfl
            by_cases hle : m ≤ 9223372036854775808
            · have hl2 : (m : Int) ≤ 9223372036854775808 := by omega
              have e0 := back_neg m hpos hle
              have E0 := Lib.hid e0; clear e0
              have hp1 : (1 : Int) ≤ (m : Int) := by omega
              have hk1 : ok = true := by rw [Hok.out]; simp; omega
              have HK1 := Lib.hid hk1; clear hk1
              go_wp2
              go_ret2
              exact ⟨⟨wrap64 (18446744073709551615 - (m : Int) + 1), ret_pair HK1.out.symm, fun _ => E0.out⟩, by (focus ((repeat' (first | (with_reducible exact Below.refl _ _) | (with_reducible assumption) | (with_reducible refine Below.alloc ?_ ?_ _) | (with_reducible refine Below.setCell ?_ ?_ _) | (with_reducible refine Below.row ?_ ?_ _) | (with_reducible refine Below.drew ?_) | (with_reducible refine below_drewN ?_ _) | (focus (first | (simp; done) | omega | (simp; omega))))); done))⟩
            · have hl2 : (9223372036854775808 : Int) < (m : Int) := by omega
              have hk1 : ok = false := by rw [Hok.out]; simp; omega
              have HK1 := Lib.hid hk1; clear hk1
              go_wp2
              go_ret2
              exact ⟨⟨0, ret_pair HK1.out.symm, fun h => by rw [HK1.out] at h; cases h⟩, by (focus ((repeat' (first | (with_reducible exact Below.refl _ _) | (with_reducible assumption) | (with_reducible refine Below.alloc ?_ ?_ _) | (with_reducible refine Below.setCell ?_ ?_ _) | (with_reducible refine Below.row ?_ ?_ _) | (with_reducible refine Below.drew ?_) | (with_reducible refine below_drewN ?_ _) | (focus (first | (simp; done) | omega | (simp; omega))))); done))⟩

set_option maxHeartbeats 4000000 in
set_option maxRecDepth 100000 in
theorem told_c (x : Int) (hx : x.natAbs < 2 ^ 136) (w : World) :
    Calls Try.prog 33 #[.agg (NZ x)] w fun e w' => e = .returned (.tuple #[.int .i64 (tv x), .int .i64 (te x)]) ∧ Below w.heap.size w w' := by
  by_cases hbig : 2 ^ 64 ≤ x.natAbs
  · have e1 := tv_out (x := x) (by unfold InR; omega)
    have e2 := te_out (x := x) (by unfold InR; omega)
    rw [e1, e2]
    clear e1 e2
    have hc := fun w => Back_big x.natAbs (decide (x < 0)) hx hbig w
    have Hc := Lib.hid hc; clear hc hx hbig
    unfold NZ
    go_enter Try.func33, Try.ntmps33
    go_wp2_with (first | ((with_reducible apply load83); rfl; rfl; rfl; (focus ((repeat' (first | (with_reducible assumption) | ((with_reducible refine heap_last ?_); (focus (first | (simp; done) | omega | (simp; omega)))) | ((with_reducible refine heap_prev ?_ ?_); (focus (first | (simp; done) | omega | (simp; omega)))) | (with_reducible apply sign_heap) | (with_reducible apply row_heap) | (with_reducible apply bit0_heap) | ((with_reducible refine sign_other ?_ ?_); (focus (first | (simp; done) | omega | (simp; omega)))) | ((with_reducible refine row_other ?_ ?_); (focus (first | (simp; done) | omega | (simp; omega)))) | (with_reducible refine drew_heap ?_))); done)); skip))
    ((with_reducible refine (Hc.out _).mono ?_); rintro e w1 ⟨rfl, hb1⟩)
    have hB : Below w.heap.size w w1 := Below.trans (by (focus ((repeat' (first | (with_reducible exact Below.refl _ _) | (with_reducible assumption) | (with_reducible refine Below.alloc ?_ ?_ _) | (with_reducible refine Below.setCell ?_ ?_ _) | (with_reducible refine Below.row ?_ ?_ _) | (with_reducible refine Below.drew ?_) | (with_reducible refine below_drewN ?_ _) | (focus (first | (simp; done) | omega | (simp; omega))))); done))) (hb1.mono (by simp))
    clear hb1
    go_wp2
    go_ret2
    first | exact ⟨rfl, hB⟩ | exact hB
  · obtain ⟨ok, hok⟩ : ∃ ok, ok = if decide (x < 0) then decide (x.natAbs ≤ 9223372036854775808) else decide (x.natAbs < 9223372036854775808) := ⟨_, rfl⟩
    have hc := fun w => Back_small x.natAbs (decide (x < 0)) ok (by omega) (by simp; omega) hok w
    have hin : ok = true ↔ InR x := by
      unfold InR; rw [hok]
      by_cases h : x < 0 <;> simp [h] <;> omega
    have hv : (if decide (x < 0) then -(x.natAbs : Int) else (x.natAbs : Int)) = x := by
      by_cases h : x < 0 <;> simp [h] <;> omega
    rw [hv] at hc
    have Hc := Lib.hid hc; clear hc hx hbig hok hv
    unfold NZ
    cases ok
    · have hn : ¬ InR x := fun h => by have := hin.2 h; cases this
      rw [tv_out hn, te_out hn]
      have Hin := Lib.hid hin; clear hin hn
      go_enter Try.func33, Try.ntmps33
      go_wp2_with (first | ((with_reducible apply load83); rfl; rfl; rfl; (focus ((repeat' (first | (with_reducible assumption) | ((with_reducible refine heap_last ?_); (focus (first | (simp; done) | omega | (simp; omega)))) | ((with_reducible refine heap_prev ?_ ?_); (focus (first | (simp; done) | omega | (simp; omega)))) | (with_reducible apply sign_heap) | (with_reducible apply row_heap) | (with_reducible apply bit0_heap) | ((with_reducible refine sign_other ?_ ?_); (focus (first | (simp; done) | omega | (simp; omega)))) | ((with_reducible refine row_other ?_ ?_); (focus (first | (simp; done) | omega | (simp; omega)))) | (with_reducible refine drew_heap ?_))); done)); skip))
      ((with_reducible refine (Hc.out _).mono ?_); rintro e w1 ⟨⟨v, rfl, hv⟩, hb1⟩)
      have hB : Below w.heap.size w w1 := Below.trans (by (focus ((repeat' (first | (with_reducible exact Below.refl _ _) | (with_reducible assumption) | (with_reducible refine Below.alloc ?_ ?_ _) | (with_reducible refine Below.setCell ?_ ?_ _) | (with_reducible refine Below.row ?_ ?_ _) | (with_reducible refine Below.drew ?_) | (with_reducible refine below_drewN ?_ _) | (focus (first | (simp; done) | omega | (simp; omega))))); done))) (hb1.mono (by simp))
      clear hb1 hv
      go_wp2
      go_ret2
      first | exact ⟨rfl, hB⟩ | exact hB
    · have hn : InR x := hin.1 rfl
      rw [tv_in hn, te_in hn]
      have Hin := Lib.hid hin; clear hin hn
      go_enter Try.func33, Try.ntmps33
      go_wp2_with (first | ((with_reducible apply load83); rfl; rfl; rfl; (focus ((repeat' (first | (with_reducible assumption) | ((with_reducible refine heap_last ?_); (focus (first | (simp; done) | omega | (simp; omega)))) | ((with_reducible refine heap_prev ?_ ?_); (focus (first | (simp; done) | omega | (simp; omega)))) | (with_reducible apply sign_heap) | (with_reducible apply row_heap) | (with_reducible apply bit0_heap) | ((with_reducible refine sign_other ?_ ?_); (focus (first | (simp; done) | omega | (simp; omega)))) | ((with_reducible refine row_other ?_ ?_); (focus (first | (simp; done) | omega | (simp; omega)))) | (with_reducible refine drew_heap ?_))); done)); skip))
      ((with_reducible refine (Hc.out _).mono ?_); rintro e w1 ⟨⟨v, rfl, hv⟩, hb1⟩)
      obtain rfl : v = x := hv rfl
      have hB : Below w.heap.size w w1 := Below.trans (by (focus ((repeat' (first | (with_reducible exact Below.refl _ _) | (with_reducible assumption) | (with_reducible refine Below.alloc ?_ ?_ _) | (with_reducible refine Below.setCell ?_ ?_ _) | (with_reducible refine Below.row ?_ ?_ _) | (with_reducible refine Below.drew ?_) | (with_reducible refine below_drewN ?_ _) | (focus (first | (simp; done) | omega | (simp; omega))))); done))) (hb1.mono (by simp))
      clear hb1 hv
      go_wp2
      go_ret2
      first | exact ⟨rfl, hB⟩ | exact hB
end Go.Proofs.Ythpgbghcmfjjoaa
