/- coin's products: their sums and differences, by the model's Add64 and Sub64. -/
import Derived.Test.YthpgbghcmfjjoaaNum
import Derived.WalkSpells
import Derived.WalkLawsBesides
import Derived.Handy
import Derived.Lib.Hide
import Derived.BigQuiet
import Derived.Deep.QuietTactic
import Derived.Deep.RegionWith
namespace Go.Proofs.Ythpgbghcmfjjoaa
open Go.RowKit

def hiOf (x : Int) : Int := x / 18446744073709551616
def loOf (x : Int) : Int := x % 18446744073709551616
abbrev PV (x : Int) : Value := .agg #[.int .i64 (hiOf x), .int .u64 (loOf x)]
abbrev PC (x : Int) : Obj := .cells #[.int .i64 (hiOf x), .int .u64 (loOf x)] 46
/-- A number that a product has room for. -/
def Rm (x : Int) : Prop := -170141183460469231731687303715884105728 ≤ x ∧ x < 170141183460469231731687303715884105728
theorem hi_bd {x : Int} (h : Rm x) : -9223372036854775808 ≤ hiOf x ∧ hiOf x ≤ 9223372036854775807 := by unfold Rm at h; unfold hiOf; omega
theorem lo_bd (x : Int) : 0 ≤ loOf x ∧ loOf x ≤ 18446744073709551615 := by unfold loOf; omega
theorem hi_lo (x : Int) : x = hiOf x * 18446744073709551616 + loOf x := by unfold hiOf loOf; omega
theorem wide_hi (n : Int) (h0 : -9223372036854775808 ≤ n) (h1 : n ≤ 9223372036854775807) : n / 9223372036854775808 = hiOf n := by unfold hiOf; omega
theorem wide_lo (n : Int) : IntKind.u64.wrap n = loOf n := by unfold loOf; rw [IntKind.wrap_u64]

theorem add64_run (x y c : Int) (hx : 0 ≤ x) (hy : 0 ≤ y) (hc0 : 0 ≤ c) (hc : c ≤ 1) (w : World) :
    (callFunc 37 #[.int .u64 x, .int .u64 y, .int .u64 c]).run Try.prog w = .ok (.value (.tuple #[.int .u64 ((x + y + c) % 18446744073709551616), .int .u64 ((x + y + c) / 18446744073709551616)])) w := by
  rw [run_callFunc_extern Try.func37 (by kernel_rfl) (by kernel_rfl) (by kernel_rfl) (e := add64Entry) (by kernel_rfl), run_add64 x y c hx hy hc0 hc]
  rfl
def sub64Entry : Array Value → Sem Value := fun args => do
  let (x, y, b) ← Extern.MathBitsCarry.three "Sub64" args
  pure (Extern.MathBitsCarry.pair ((x + Extern.MathBitsCarry.m64 - y - b) % Extern.MathBitsCarry.m64) (if x < y + b then 1 else 0))
theorem run_sub64n {P : Program} (x y b : Nat) (hb : b ≤ 1) (w : World) :
    (sub64Entry #[.int .u64 x, .int .u64 y, .int .u64 b]).run P w =
      .ok (.tuple #[.int .u64 (((x + 18446744073709551616 - y - b) % 18446744073709551616 : Nat) : Int), .int .u64 ((if x < y + b then 1 else 0 : Nat) : Int)]) w := by
  have : b = 0 ∨ b = 1 := by omega
  rcases this with rfl | rfl <;> rfl
theorem sub64_run (x y c : Int) (hx : 0 ≤ x) (hx1 : x ≤ 18446744073709551615) (hy : 0 ≤ y) (hy1 : y ≤ 18446744073709551615) (hc0 : 0 ≤ c) (hc : c ≤ 1) (w : World) :
    (callFunc 38 #[.int .u64 x, .int .u64 y, .int .u64 c]).run Try.prog w = .ok (.value (.tuple #[.int .u64 ((x - y - c) % 18446744073709551616), .int .u64 (-((x - y - c) / 18446744073709551616))])) w := by
  obtain ⟨X, rfl⟩ := Int.eq_ofNat_of_zero_le hx
  obtain ⟨Y, rfl⟩ := Int.eq_ofNat_of_zero_le hy
  obtain ⟨C, rfl⟩ := Int.eq_ofNat_of_zero_le hc0
  have e1 : (((X + 18446744073709551616 - Y - C) % 18446744073709551616 : Nat) : Int) = ((X : Int) - Y - C) % 18446744073709551616 := by omega
  have e2 : ((if X < Y + C then 1 else 0 : Nat) : Int) = -(((X : Int) - Y - C) / 18446744073709551616) := by split <;> omega
  rw [run_callFunc_extern Try.func38 (by kernel_rfl) (by kernel_rfl) (by kernel_rfl) (e := sub64Entry) (by kernel_rfl), run_sub64n X Y C (by omega), e1, e2]
  rfl

set_option maxHeartbeats 400000 in
theorem wide_c (n : Int) (h0 : -9223372036854775808 ≤ n) (h1 : n ≤ 9223372036854775807) (w : World) :
    Calls Try.prog 20 #[.int .i64 n] w fun e w' => e = .returned (PV n) ∧ w.alloc (PC n) = w' := by
  have e1 := wide_hi n h0 h1
  have e2 := wide_lo n
  go_enter Try.func20, Try.ntmps20
  go_wp2
  go_returns
  exact ⟨rfl, rfl⟩

theorem plus_math (x y lo c hi : Int) (hz : Rm (x + y)) (hlo : lo = (loOf x + loOf y + 0) % 18446744073709551616) (hc : c = (loOf x + loOf y + 0) / 18446744073709551616)
    (hhi : hi = (IntKind.u64.wrap (hiOf x) + IntKind.u64.wrap (hiOf y) + c) % 18446744073709551616) : wrap64 hi = hiOf (x + y) ∧ lo = loOf (x + y) := by
  have h1 := hi_lo x
  have h2 := hi_lo y
  have h3 := lo_bd x
  have h4 := lo_bd y
  unfold Rm at hz
  simp only [IntKind.wrap_u64] at hhi
  generalize hiOf x = a at *
  generalize hiOf y = b at *
  generalize loOf x = p at *
  generalize loOf y = q at *
  unfold wrap64 hiOf loOf
  subst h1 h2 hlo hc hhi
  constructor <;> omega
theorem minus_math (x y lo c hi : Int) (hz : Rm (x - y)) (hlo : lo = (loOf x - loOf y - 0) % 18446744073709551616) (hc : c = -((loOf x - loOf y - 0) / 18446744073709551616))
    (hhi : hi = (IntKind.u64.wrap (hiOf x) - IntKind.u64.wrap (hiOf y) - c) % 18446744073709551616) : wrap64 hi = hiOf (x - y) ∧ lo = loOf (x - y) := by
  have h1 := hi_lo x
  have h2 := hi_lo y
  have h3 := lo_bd x
  have h4 := lo_bd y
  unfold Rm at hz
  simp only [IntKind.wrap_u64] at hhi
  generalize hiOf x = a at *
  generalize hiOf y = b at *
  generalize loOf x = p at *
  generalize loOf y = q at *
  unfold wrap64 hiOf loOf
  subst h1 h2 hlo hc hhi
  constructor <;> omega

theorem wrap_u64_bd (z : Int) : 0 ≤ IntKind.u64.wrap z ∧ IntKind.u64.wrap z ≤ 18446744073709551615 := by simp only [IntKind.wrap_u64]; omega

set_option maxHeartbeats 400000 in
theorem plus_c (x y : Int) (hx : Rm x) (hy : Rm y) (hz : Rm (x + y)) (w : World) :
    Calls Try.prog 23 #[PV x, PV y] w fun e w' => e = .returned (PV (x + y)) ∧ ((w.alloc (PC x)).alloc (PC y)).alloc (PC (x + y)) = w' := by
  have ⟨x1, x2⟩ := hi_bd hx
  have ⟨x3, x4⟩ := lo_bd x
  have ⟨y1, y2⟩ := hi_bd hy
  have ⟨y3, y4⟩ := lo_bd y
  obtain ⟨lo, hlo⟩ : ∃ lo, lo = (loOf x + loOf y + 0) % 18446744073709551616 := ⟨_, rfl⟩
  obtain ⟨c, hc⟩ : ∃ c, c = (loOf x + loOf y + 0) / 18446744073709551616 := ⟨_, rfl⟩
  obtain ⟨hi, hhi⟩ : ∃ hi, hi = (IntKind.u64.wrap (hiOf x) + IntKind.u64.wrap (hiOf y) + c) % 18446744073709551616 := ⟨_, rfl⟩
  obtain ⟨c2, hc2⟩ : ∃ c2, c2 = (IntKind.u64.wrap (hiOf x) + IntKind.u64.wrap (hiOf y) + c) / 18446744073709551616 := ⟨_, rfl⟩
  have c0 : 0 ≤ c := by omega
  have c1 : c ≤ 1 := by omega
  have r1 := add64_run (loOf x) (loOf y) 0 x3 y3 (by omega) (by omega)
  rw [← hlo, ← hc] at r1
  have r2 := add64_run (IntKind.u64.wrap (hiOf x)) (IntKind.u64.wrap (hiOf y)) c (wrap_u64_bd _).1 (wrap_u64_bd _).1 c0 c1
  rw [← hhi, ← hc2] at r2
  obtain ⟨m1, m2⟩ := plus_math x y lo c hi hz hlo hc hhi
  clear hlo hc hhi hc2
  go_enter Try.func23, Try.ntmps23
  go_wp2
  go_returns
  exact ⟨rfl, rfl⟩

set_option maxHeartbeats 400000 in
theorem minus_c (x y : Int) (hx : Rm x) (hy : Rm y) (hz : Rm (x - y)) (w : World) :
    Calls Try.prog 24 #[PV x, PV y] w fun e w' => e = .returned (PV (x - y)) ∧ ((w.alloc (PC x)).alloc (PC y)).alloc (PC (x - y)) = w' := by
  have ⟨x1, x2⟩ := hi_bd hx
  have ⟨x3, x4⟩ := lo_bd x
  have ⟨y1, y2⟩ := hi_bd hy
  have ⟨y3, y4⟩ := lo_bd y
  obtain ⟨lo, hlo⟩ : ∃ lo, lo = (loOf x - loOf y - 0) % 18446744073709551616 := ⟨_, rfl⟩
  obtain ⟨c, hc⟩ : ∃ c, c = -((loOf x - loOf y - 0) / 18446744073709551616) := ⟨_, rfl⟩
  obtain ⟨hi, hhi⟩ : ∃ hi, hi = (IntKind.u64.wrap (hiOf x) - IntKind.u64.wrap (hiOf y) - c) % 18446744073709551616 := ⟨_, rfl⟩
  obtain ⟨c2, hc2⟩ : ∃ c2, c2 = -((IntKind.u64.wrap (hiOf x) - IntKind.u64.wrap (hiOf y) - c) / 18446744073709551616) := ⟨_, rfl⟩
  have c0 : 0 ≤ c := by omega
  have c1 : c ≤ 1 := by omega
  have r1 := sub64_run (loOf x) (loOf y) 0 x3 x4 y3 y4 (by omega) (by omega)
  rw [← hlo, ← hc] at r1
  have r2 := sub64_run (IntKind.u64.wrap (hiOf x)) (IntKind.u64.wrap (hiOf y)) c (wrap_u64_bd _).1 (wrap_u64_bd _).2 (wrap_u64_bd _).1 (wrap_u64_bd _).2 c0 c1
  rw [← hhi, ← hc2] at r2
  obtain ⟨m1, m2⟩ := minus_math x y lo c hi hz hlo hc hhi
  clear hlo hc hhi hc2
  go_enter Try.func24, Try.ntmps24
  go_wp2
  go_returns
  exact ⟨rfl, rfl⟩
end Go.Proofs.Ythpgbghcmfjjoaa
