/- purse: Release, told whole; Free, told whole. -/
import Derived.Test.YtpegkojcemggaabPuE1
import Derived.Test.YtpegkojcemggaabPuE2
import Derived.Test.YtpegkojcemggaabPuE3
import Derived.Test.YtpegkojcemggaabPuE4
import Derived.Test.YtpegkojcemggaabPuF1
import Derived.Test.YtpegkojcemggaabPuF2
import Derived.Test.YtpegkojcemggaabPuF3
import Derived.Test.YtpegkojcemggaabPuF4
import Derived.Test.YtpegkojcemggaabPuF5
import Derived.Test.YtpegkojcemggaabPuG
namespace Go.Proofs.Ytpegkojcemggaab
open Go.RowKit

theorem int_nat {a : Int} (h0 : 0 ≤ a) (h8 : a < 8) : ∃ k : Nat, k < 8 ∧ a = (k : Int) := ⟨a.toNat, by omega, by omega⟩
theorem toNat_k (k : Nat) : ((k : Int)).toNat = k := Int.toNat_natCast k

theorem dep_c (z : Ti) (g : Good z) (a s n : Int) (hn : InR n) (w : World) :
    Calls Try.prog 19 #[.agg (TC z), .int .i64 a, .int .i64 s, .int .i64 n] w fun e w' => e = .returned (.tuple #[.agg (TC (depN z a s n).1), .int .i64 (depN z a s n).2]) ∧ Below w.heap.size w w' := by
  by_cases h : May a s ∧ 1 ≤ n ∧ n ≤ 4611686018427387904
  rotate_left
  · have e : depN z a s n = (z, 2) := by unfold depN; rw [if_neg h]
    rw [e]; exact dep_bad z a s n hn h w
  have hm := h.1
  have h1 := h.2.1
  have hM : Mny n := ⟨by omega, h.2.2⟩
  obtain ⟨m0, m8, hs⟩ := hm
  obtain ⟨k, hk, rfl⟩ := int_nat m0 m8
  rcases hs with rfl | rfl
  · have ea : allS z 1 = cashS z := rfl
    by_cases hc : allS z 1 + n ≤ 4611686018427387904
    · have e : depN z (k : Int) 1 n = (upd z (ix (k : Int) 1) n, 0) := by unfold depN; rw [if_pos h, if_pos hc]
      rw [e, ix_cash (a := (k : Int)) (s := 1) rfl, toNat_k]; exact dep_cash_ok z g k hk n hM h1 (by rw [ea] at hc; exact hc) w
    · have e : depN z (k : Int) 1 n = (z, 10) := by unfold depN; rw [if_pos h, if_neg hc]
      rw [e]; exact dep_cash_big z g k hk n hM h1 (by rw [ea] at hc; exact hc) w
  · have ea : allS z 2 = stockS z := rfl
    by_cases hc : allS z 2 + n ≤ 4611686018427387904
    · have e : depN z (k : Int) 2 n = (upd z (ix (k : Int) 2) n, 0) := by unfold depN; rw [if_pos h, if_pos hc]
      rw [e, ix_stock (a := (k : Int)) (s := 2) rfl, toNat_k]; exact dep_stock_ok z g k hk n hM h1 (by rw [ea] at hc; exact hc) w
    · have e : depN z (k : Int) 2 n = (z, 10) := by unfold depN; rw [if_pos h, if_neg hc]
      rw [e]; exact dep_stock_big z g k hk n hM h1 (by rw [ea] at hc; exact hc) w

theorem wd_c (z : Ti) (g : Good z) (a s n : Int) (hn : InR n) (w : World) :
    Calls Try.prog 26 #[.agg (TC z), .int .i64 a, .int .i64 s, .int .i64 n] w fun e w' => e = .returned (.tuple #[.agg (TC (wdN z a s n).1), .int .i64 (wdN z a s n).2]) ∧ Below w.heap.size w w' := by
  by_cases h : May a s ∧ 1 ≤ n ∧ n ≤ 4611686018427387904
  rotate_left
  · have e : wdN z a s n = (z, 2) := by unfold wdN; rw [if_neg h]
    rw [e]; exact wd_bad z a s n hn h w
  have hm := h.1
  have h1 := h.2.1
  have hM : Mny n := ⟨by omega, h.2.2⟩
  obtain ⟨m0, m8, hs⟩ := hm
  obtain ⟨k, hk, rfl⟩ := int_nat m0 m8
  rcases hs with rfl | rfl
  · have ea : freeN z (k : Int) 1 - owedS z (k : Int) 1 = z (6 * k) - z (6 * k + 2) - z (6 * k + 4) := by unfold freeN owedS; rw [if_pos h.1, ix_cash (a := (k : Int)) (s := 1) rfl, toNat_k, if_pos rfl]
    by_cases hc : n ≤ freeN z (k : Int) 1 - owedS z (k : Int) 1
    · have e : wdN z (k : Int) 1 n = (upd z (ix (k : Int) 1) (-n), 0) := by unfold wdN; rw [if_pos h, if_pos hc]
      rw [e, ix_cash (a := (k : Int)) (s := 1) rfl, toNat_k]; exact wd_cash_ok z g k hk n hM h1 (by rw [ea] at hc; exact hc) w
    · have e : wdN z (k : Int) 1 n = (z, 53) := by unfold wdN; rw [if_pos h, if_neg hc]
      rw [e]; exact wd_cash_no z g k hk n hM h1 (by rw [ea] at hc; exact hc) w
  · have ea : freeN z (k : Int) 2 - owedS z (k : Int) 2 = z (6 * k + 1) - z (6 * k + 3) := by unfold freeN owedS; rw [if_pos h.1, ix_stock (a := (k : Int)) (s := 2) rfl, toNat_k, if_neg (by omega), Int.sub_zero]
    by_cases hc : n ≤ freeN z (k : Int) 2 - owedS z (k : Int) 2
    · have e : wdN z (k : Int) 2 n = (upd z (ix (k : Int) 2) (-n), 0) := by unfold wdN; rw [if_pos h, if_pos hc]
      rw [e, ix_stock (a := (k : Int)) (s := 2) rfl, toNat_k]; exact wd_stock_ok z g k hk n hM h1 (by rw [ea] at hc; exact hc) w
    · have e : wdN z (k : Int) 2 n = (z, 53) := by unfold wdN; rw [if_pos h, if_neg hc]
      rw [e]; exact wd_stock_no z g k hk n hM h1 (by rw [ea] at hc; exact hc) w

theorem hold_c (z : Ti) (g : Good z) (a s n : Int) (hn : InR n) (w : World) :
    Calls Try.prog 20 #[.agg (TC z), .int .i64 a, .int .i64 s, .int .i64 n] w fun e w' => e = .returned (.tuple #[.agg (TC (holdN z a s n).1), .int .i64 (holdN z a s n).2]) ∧ Below w.heap.size w w' := by
  by_cases h : May a s ∧ Mny n
  rotate_left
  · have e : holdN z a s n = (z, 2) := by unfold holdN; rw [if_neg h]
    rw [e]; exact hold_bad z a s n hn h w
  have hm := h.1
  have hM := h.2
  obtain ⟨m0, m8, hs⟩ := hm
  obtain ⟨k, hk, rfl⟩ := int_nat m0 m8
  rcases hs with rfl | rfl
  · have ea : freeN z (k : Int) 1 = z (6 * k) - z (6 * k + 2) := by unfold freeN; rw [if_pos h.1, ix_cash (a := (k : Int)) (s := 1) rfl, toNat_k]
    by_cases hc : n ≤ freeN z (k : Int) 1
    · have e : holdN z (k : Int) 1 n = (upd z (ix (k : Int) 1 + 2) n, 0) := by unfold holdN; rw [if_pos h, if_pos hc]
      rw [e, ix_cash (a := (k : Int)) (s := 1) rfl, toNat_k]; exact hold_cash_ok z g k hk n hM (by rw [ea] at hc; exact hc) w
    · have e : holdN z (k : Int) 1 n = (z, 53) := by unfold holdN; rw [if_pos h, if_neg hc]
      rw [e]; exact hold_cash_no z g k hk n hM (by rw [ea] at hc; exact hc) w
  · have ea : freeN z (k : Int) 2 = z (6 * k + 1) - z (6 * k + 3) := by unfold freeN; rw [if_pos h.1, ix_stock (a := (k : Int)) (s := 2) rfl, toNat_k]
    by_cases hc : n ≤ freeN z (k : Int) 2
    · have e : holdN z (k : Int) 2 n = (upd z (ix (k : Int) 2 + 2) n, 0) := by unfold holdN; rw [if_pos h, if_pos hc]
      rw [e, ix_stock (a := (k : Int)) (s := 2) rfl, toNat_k]; exact hold_stock_ok z g k hk n hM (by rw [ea] at hc; exact hc) w
    · have e : holdN z (k : Int) 2 n = (z, 53) := by unfold holdN; rw [if_pos h, if_neg hc]
      rw [e]; exact hold_stock_no z g k hk n hM (by rw [ea] at hc; exact hc) w

theorem rel_c (z : Ti) (g : Good z) (a s n : Int) (hn : InR n) (w : World) :
    Calls Try.prog 29 #[.agg (TC z), .int .i64 a, .int .i64 s, .int .i64 n] w fun e w' => e = .returned (.tuple #[.agg (TC (relN z a s n).1), .int .i64 (relN z a s n).2]) ∧ Below w.heap.size w w' := by
  by_cases h : May a s ∧ Mny n
  rotate_left
  · have e : relN z a s n = (z, 2) := by unfold relN; rw [if_neg h]
    rw [e]; exact rel_bad z a s n hn h w
  have hm := h.1
  have hM := h.2
  obtain ⟨m0, m8, hs⟩ := hm
  obtain ⟨k, hk, rfl⟩ := int_nat m0 m8
  rcases hs with rfl | rfl
  · have ea : z (ix (k : Int) 1 + 2) = z (6 * k + 2) := by rw [ix_cash (a := (k : Int)) (s := 1) rfl, toNat_k]
    by_cases hc : n ≤ z (ix (k : Int) 1 + 2)
    · have e : relN z (k : Int) 1 n = (upd z (ix (k : Int) 1 + 2) (-n), 0) := by unfold relN; rw [if_pos h, if_pos hc]
      rw [e, ix_cash (a := (k : Int)) (s := 1) rfl, toNat_k]; exact rel_cash_ok z g k hk n hM (by rw [ea] at hc; exact hc) w
    · have e : relN z (k : Int) 1 n = (z, 53) := by unfold relN; rw [if_pos h, if_neg hc]
      rw [e]; exact rel_cash_no z g k hk n hM (by rw [ea] at hc; exact hc) w
  · have ea : z (ix (k : Int) 2 + 2) = z (6 * k + 3) := by rw [ix_stock (a := (k : Int)) (s := 2) rfl, toNat_k]
    by_cases hc : n ≤ z (ix (k : Int) 2 + 2)
    · have e : relN z (k : Int) 2 n = (upd z (ix (k : Int) 2 + 2) (-n), 0) := by unfold relN; rw [if_pos h, if_pos hc]
      rw [e, ix_stock (a := (k : Int)) (s := 2) rfl, toNat_k]; exact rel_stock_ok z g k hk n hM (by rw [ea] at hc; exact hc) w
    · have e : relN z (k : Int) 2 n = (z, 53) := by unfold relN; rw [if_pos h, if_neg hc]
      rw [e]; exact rel_stock_no z g k hk n hM (by rw [ea] at hc; exact hc) w

theorem free_c (z : Ti) (g : Good z) (a s : Int) (w : World) : Calls Try.prog 12 #[.agg (TC z), .int .i64 a, .int .i64 s] w fun e w' => e = .returned (.int .i64 (freeN z a s)) ∧ Below w.heap.size w w' := by
  by_cases h : May a s
  rotate_left
  · have e : freeN z a s = 0 := by unfold freeN; rw [if_neg h]
    rw [e]; exact free_no z a s h w
  obtain ⟨m0, m8, hs⟩ := h
  obtain ⟨k, hk, rfl⟩ := int_nat m0 m8
  rcases hs with rfl | rfl
  · have e : freeN z (k : Int) 1 = z (6 * k) - z (6 * k + 2) := by unfold freeN; rw [if_pos ⟨m0, m8, .inl rfl⟩, ix_cash rfl, toNat_k]
    rw [e]; exact free_cash z g k hk w
  · have e : freeN z (k : Int) 2 = z (6 * k + 1) - z (6 * k + 3) := by unfold freeN; rw [if_pos ⟨m0, m8, .inr rfl⟩, ix_stock rfl, toNat_k]
    rw [e]; exact free_stock z g k hk w
end Go.Proofs.Ytpegkojcemggaab
