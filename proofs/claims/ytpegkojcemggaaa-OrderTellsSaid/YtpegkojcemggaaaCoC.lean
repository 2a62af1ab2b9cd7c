/- XCoinA, XCoinB, XCoinC, XCoinD, XCoinE, XCoinF, XCoinF1, XCoinF2, XCoinF3, XCoinG, in one text. (By mkmerge.py.) -/
import Derived.Test.YtpegkojcemggaaaNum
import Derived.WalkSpells
import Derived.WalkLawsBesides
import Derived.Handy
import Derived.Lib.Hide
import Derived.BigQuiet
import Derived.Deep.QuietTactic
import Derived.Deep.RegionWith
import Derived.Deep.RegionHeld3

/- coin's products: their sums and differences, by the model's Add64 and Sub64. -/
namespace Go.Proofs.Ytpegkojcemggaaa
open Go.RowKit

def hiOf (x : Int) : Int := x / 18446744073709551616
def loOf (x : Int) : Int := x % 18446744073709551616
abbrev PV (x : Int) : Value := .agg #[.int .i64 (hiOf x), .int .u64 (loOf x)]
abbrev PC (x : Int) : Obj := .cells #[.int .i64 (hiOf x), .int .u64 (loOf x)] 116
/-- A number that a product has room for. -/
def Rm (x : Int) : Prop := -170141183460469231731687303715884105728 ≤ x ∧ x < 170141183460469231731687303715884105728
theorem hi_bd {x : Int} (h : Rm x) : -9223372036854775808 ≤ hiOf x ∧ hiOf x ≤ 9223372036854775807 := by unfold Rm at h; unfold hiOf; omega
theorem lo_bd (x : Int) : 0 ≤ loOf x ∧ loOf x ≤ 18446744073709551615 := by unfold loOf; omega
theorem hi_lo (x : Int) : x = hiOf x * 18446744073709551616 + loOf x := by unfold hiOf loOf; omega
theorem wide_hi (n : Int) (h0 : -9223372036854775808 ≤ n) (h1 : n ≤ 9223372036854775807) : n / 9223372036854775808 = hiOf n := by unfold hiOf; omega
theorem wide_lo (n : Int) : IntKind.u64.wrap n = loOf n := by unfold loOf; rw [IntKind.wrap_u64]

def sub64Entry : Array Value → Sem Value := fun args => do
  let (x, y, b) ← Extern.MathBitsCarry.three "Sub64" args
  pure (Extern.MathBitsCarry.pair ((x + Extern.MathBitsCarry.m64 - y - b) % Extern.MathBitsCarry.m64) (if x < y + b then 1 else 0))
theorem run_sub64n {P : Program} (x y b : Nat) (hb : b ≤ 1) (w : World) :
    (sub64Entry #[.int .u64 x, .int .u64 y, .int .u64 b]).run P w =
      .ok (.tuple #[.int .u64 (((x + 18446744073709551616 - y - b) % 18446744073709551616 : Nat) : Int), .int .u64 ((if x < y + b then 1 else 0 : Nat) : Int)]) w := by
  have : b = 0 ∨ b = 1 := by omega
  rcases this with rfl | rfl <;> rfl
set_option maxHeartbeats 400000 in
theorem wide_c (n : Int) (h0 : -9223372036854775808 ≤ n) (h1 : n ≤ 9223372036854775807) (w : World) :
    Calls Try.prog 96 #[.int .i64 n] w fun e w' => e = .returned (PV n) ∧ w.alloc (PC n) = w' := by
  have e1 := wide_hi n h0 h1
  have e2 := wide_lo n
  go_enter Try.func96, Try.ntmps96
  go_wp2
  go_returns
  exact ⟨rfl, rfl⟩

theorem plus_math (x y lo c hi : Int) (hz : Rm (x + y)) (hlo : lo = (loOf x + loOf y + 0) % 18446744073709551616) (hc : c = (loOf x + loOf y + 0) / 18446744073709551616)
    (hhi : hi = (IntKind.u64.wrap (hiOf x) + IntKind.u64.wrap (hiOf y) + c) % 18446744073709551616) : wrap64 hi = hiOf (x + y) ∧ lo = loOf (x + y) := by
  have h1 := hi_lo x
  have h2 := hi_lo y
  have h3 := lo_bd x
  have h4 := lo_bd y
  unfold Rm at hz
  simp only [IntKind.wrap_u64] at hhi
  generalize hiOf x = a at *
  generalize hiOf y = b at *
  generalize loOf x = p at *
  generalize loOf y = q at *
  unfold wrap64 hiOf loOf
  subst h1 h2 hlo hc hhi
  constructor <;> omega
theorem minus_math (x y lo c hi : Int) (hz : Rm (x - y)) (hlo : lo = (loOf x - loOf y - 0) % 18446744073709551616) (hc : c = -((loOf x - loOf y - 0) / 18446744073709551616))
    (hhi : hi = (IntKind.u64.wrap (hiOf x) - IntKind.u64.wrap (hiOf y) - c) % 18446744073709551616) : wrap64 hi = hiOf (x - y) ∧ lo = loOf (x - y) := by
  have h1 := hi_lo x
  have h2 := hi_lo y
  have h3 := lo_bd x
  have h4 := lo_bd y
  unfold Rm at hz
  simp only [IntKind.wrap_u64] at hhi
  generalize hiOf x = a at *
  generalize hiOf y = b at *
  generalize loOf x = p at *
  generalize loOf y = q at *
  unfold wrap64 hiOf loOf
  subst h1 h2 hlo hc hhi
  constructor <;> omega

theorem wrap_u64_bd (z : Int) : 0 ≤ IntKind.u64.wrap z ∧ IntKind.u64.wrap z ≤ 18446744073709551615 := by simp only [IntKind.wrap_u64]; omega

end Go.Proofs.Ytpegkojcemggaaa

/- coin: narrow, size, below, times, and what stands on them. -/
namespace Go.Proofs.Ytpegkojcemggaaa
open Go.RowKit

theorem pv_eq {x y : Int} : (hiOf x = hiOf y ∧ loOf x = loOf y) ↔ x = y := by
  constructor
  · rintro ⟨a, b⟩
    rw [hi_lo x, hi_lo y, a, b]
  · rintro rfl; exact ⟨rfl, rfl⟩
theorem drew_below {B : Nat} {w w' : World} (h : Below B w w') : Below B w w'.drew := h.drew

set_option maxHeartbeats 1000000 in
theorem narrow_c (x : Int) (hx : Rm x) (w : World) :
    Calls Try.prog 73 #[PV x] w fun e w' => e = .returned (.tuple #[.int .i64 (tv x), .int .i64 (te x)]) ∧ Below w.heap.size w w' := by
  have ⟨x3, x4⟩ := lo_bd x
  have ⟨x5, x6⟩ := hi_bd hx
  by_cases hin : InR x
  · rw [tv_in hin, te_in hin]
    have h0 := hin.1
    have h1 := hin.2
    have e1 : wrap64 (loOf x) = x := by unfold wrap64 loOf; omega
    clear hin hx
    go_enter Try.func73, Try.ntmps73
    go_wp2_with fail
    go_region_with (go_at_call 96; refine (wide_c _ h0 h1 _).mono ?_; rintro e w' ⟨rfl, rfl⟩)
    all_goals
      go_wp2
      go_ret2
      first | exact ⟨rfl, by go_grown⟩ | go_grown
  · rw [tv_out hin, te_out hin]
    obtain ⟨n, hn⟩ : ∃ n, n = wrap64 (loOf x) := ⟨_, rfl⟩
    have h0 : -9223372036854775808 ≤ n := by rw [hn]; unfold wrap64; omega
    have h1 : n ≤ 9223372036854775807 := by rw [hn]; unfold wrap64; omega
    have hl : loOf n = loOf x := by rw [hn]; unfold wrap64 loOf; omega
    have hne : (hiOf x == hiOf n) = false := by
      simp only [beq_eq_false_iff_ne]
      intro h
      have := pv_eq.1 ⟨h, hl.symm⟩
      exact hin (by rw [this]; exact ⟨h0, h1⟩)
    have e1 := hn.symm
    have Hl := Lib.hid hl; clear hl hn hin hx
    go_enter Try.func73, Try.ntmps73
    go_wp2_with fail
    go_region_with (go_at_call 96; refine (wide_c _ h0 h1 _).mono ?_; rintro e w' ⟨rfl, rfl⟩)
    all_goals
      go_wp2
      go_ret2
      first | exact ⟨rfl, by go_grown⟩ | go_grown

theorem rm_in {n : Int} (h : InR n) : Rm n := by unfold InR at h; unfold Rm; omega

end Go.Proofs.Ytpegkojcemggaaa

/- coin: the product of two numbers of 64 bits. -/
namespace Go.Proofs.Ytpegkojcemggaaa
open Go.RowKit

theorem ret_two {k k' : IntKind} {a b c d : Int} (h : a = b) (h' : c = d) : Ending.returned (.tuple #[.int k a, .int k' c]) = .returned (.tuple #[.int k b, .int k' d]) := by rw [h, h']

set_option maxHeartbeats 1000000 in
theorem Mul64_c (x y : Int) (x0 : 0 ≤ x) (x1 : x ≤ 18446744073709551615) (y0 : 0 ≤ y) (y1 : y ≤ 18446744073709551615) (w : World) :
    Calls Try.prog 95 #[.int .u64 x, .int .u64 y] w fun e w' => e = .returned (.tuple #[.int .u64 (x * y / 18446744073709551616), .int .u64 (x * y % 18446744073709551616)]) ∧ w = w' := by
  have e1 := and_low32 x x0 (by omega)
  have e2 := and_low32 y y0 (by omega)
  go_enter Try.func95, Try.ntmps95
  go_wp2
  go_ret2
  refine ⟨ret_two ?_ (IntKind.wrap_u64 _), rfl⟩
  rw [and_low32 _ (wrap_u64_bd _).1 (by have := (wrap_u64_bd (IntKind.u64.wrap (x / 4294967296 * (y % 4294967296)) + IntKind.u64.wrap (x % 4294967296 * (y % 4294967296)) / 4294967296)).2; omega)]
  simp only [IntKind.wrap_u64]
  exact mul64_arith x y x0 (by omega) y0 (by omega)

theorem times_rm {a b : Int} (ha : InR a) (hb : InR b) : Rm (a * b) := by
  have h1 : a.natAbs ≤ 2 ^ 63 := by unfold InR at ha; omega
  have h2 : b.natAbs ≤ 2 ^ 63 := by unfold InR at hb; omega
  have h := Nat.mul_le_mul h1 h2
  rw [← Int.natAbs_mul] at h
  unfold Rm
  omega
theorem times_neg {a b : Int} (ha : InR a) (hb : InR b) : Rm (-(a * b)) := by
  have h1 : a.natAbs ≤ 2 ^ 63 := by unfold InR at ha; omega
  have h2 : b.natAbs ≤ 2 ^ 63 := by unfold InR at hb; omega
  have h := Nat.mul_le_mul h1 h2
  rw [← Int.natAbs_mul] at h
  unfold Rm
  omega
theorem times_math (a b : Int) (ha : InR a) (hb : InR b) (h l : Int) (hh : h = IntKind.u64.wrap a * IntKind.u64.wrap b / 18446744073709551616) (hl : l = IntKind.u64.wrap a * IntKind.u64.wrap b % 18446744073709551616) :
    l = loOf (a * b) ∧
    (0 ≤ a → 0 ≤ b → wrap64 h = hiOf (a * b)) ∧ (a < 0 → 0 ≤ b → wrap64 (wrap64 h - b) = hiOf (a * b)) ∧
    (0 ≤ a → b < 0 → wrap64 (wrap64 h - a) = hiOf (a * b)) ∧ (a < 0 → b < 0 → wrap64 (wrap64 (wrap64 h - b) - a) = hiOf (a * b)) := by
  have hr := times_rm ha hb
  have hb' := hi_bd hr
  have hz := hi_lo (a * b)
  have hlo := lo_bd (a * b)
  have wa : IntKind.u64.wrap a = if a < 0 then a + 18446744073709551616 else a := by rw [IntKind.wrap_u64]; unfold InR at ha; split <;> omega
  have wb : IntKind.u64.wrap b = if b < 0 then b + 18446744073709551616 else b := by rw [IntKind.wrap_u64]; unfold InR at hb; split <;> omega
  rw [wa, wb] at hh hl
  clear wa wb
  have key : (if a < 0 then a + 18446744073709551616 else a) * (if b < 0 then b + 18446744073709551616 else b) = a * b + 18446744073709551616 * ((if a < 0 then b else 0) + (if b < 0 then a else 0) + (if a < 0 then (if b < 0 then 18446744073709551616 else 0) else 0)) := by
    split <;> split <;> grind
  rw [key] at hh hl
  clear key hr
  generalize hiOf (a * b) = H at *
  generalize loOf (a * b) = L at *
  generalize a * b = p at *
  unfold InR at ha hb
  unfold wrap64
  refine ⟨?_, ?_, ?_, ?_, ?_⟩
  · omega
  · intro h1 h2
    rw [if_neg (by omega), if_neg (by omega), if_neg (by omega)] at hh
    omega
  · intro h1 h2
    rw [if_pos h1, if_neg (by omega), if_pos h1, if_neg (by omega)] at hh
    omega
  · intro h1 h2
    rw [if_neg (by omega), if_pos h2, if_neg (by omega)] at hh
    omega
  · intro h1 h2
    rw [if_pos h1, if_pos h2, if_pos h1, if_pos h2] at hh
    omega

set_option maxHeartbeats 1000000 in
theorem times_c (a b : Int) (ha : InR a) (hb : InR b) (w : World) :
    Calls Try.prog 72 #[.int .i64 a, .int .i64 b] w fun e w' => e = .returned (PV (a * b)) ∧ Below w.heap.size w w' := by
  obtain ⟨h, hh⟩ : ∃ h, h = IntKind.u64.wrap a * IntKind.u64.wrap b / 18446744073709551616 := ⟨_, rfl⟩
  obtain ⟨l, hl⟩ : ∃ l, l = IntKind.u64.wrap a * IntKind.u64.wrap b % 18446744073709551616 := ⟨_, rfl⟩
  obtain ⟨m0, m1, m2, m3, m4⟩ := times_math a b ha hb h l hh hl
  have hc := fun w => Mul64_c (IntKind.u64.wrap a) (IntKind.u64.wrap b) (wrap_u64_bd _).1 (wrap_u64_bd _).2 (wrap_u64_bd _).1 (wrap_u64_bd _).2 w
  rw [← hh, ← hl, m0] at hc
  have a0 := ha.1
  have a1 := ha.2
  have b0 := hb.1
  have b1 := hb.2
  clear hh hl m0 ha hb
  have Hc := Lib.hid hc; clear hc
  by_cases sa : a < 0
  · by_cases sb : b < 0
    · have e := m4 sa sb
      clear m1 m2 m3 m4
      go_enter Try.func72, Try.ntmps72
      go_wp2_with (go_at_call 95; (with_reducible refine (Hc.out _).mono ?_); rintro e w' ⟨rfl, rfl⟩)
      go_returns
      first | exact ⟨rfl, by go_grown⟩ | go_grown
    · have e := m2 sa (by omega)
      rw [show IntKind.u64.wrap b = b by rw [IntKind.wrap_u64]; omega] at Hc
      clear m1 m2 m3 m4
      go_enter Try.func72, Try.ntmps72
      go_wp2_with (go_at_call 95; (with_reducible refine (Hc.out _).mono ?_); rintro e w' ⟨rfl, rfl⟩)
      go_returns
      first | exact ⟨rfl, by go_grown⟩ | go_grown
  · by_cases sb : b < 0
    · have e := m3 (by omega) sb
      rw [show IntKind.u64.wrap a = a by rw [IntKind.wrap_u64]; omega] at Hc
      clear m1 m2 m3 m4
      go_enter Try.func72, Try.ntmps72
      go_wp2_with (go_at_call 95; (with_reducible refine (Hc.out _).mono ?_); rintro e w' ⟨rfl, rfl⟩)
      go_returns
      first | exact ⟨rfl, by go_grown⟩ | go_grown
    · have e := m1 (by omega) (by omega)
      rw [show IntKind.u64.wrap a = a by rw [IntKind.wrap_u64]; omega, show IntKind.u64.wrap b = b by rw [IntKind.wrap_u64]; omega] at Hc
      clear m1 m2 m3 m4
      go_enter Try.func72, Try.ntmps72
      go_wp2_with (go_at_call 95; (with_reducible refine (Hc.out _).mono ?_); rintro e w' ⟨rfl, rfl⟩)
      go_returns
      first | exact ⟨rfl, by go_grown⟩ | go_grown
end Go.Proofs.Ytpegkojcemggaaa

/- coin: Add, Sub, Mul; which product is below. -/
namespace Go.Proofs.Ytpegkojcemggaaa
open Go.RowKit

theorem bl3 {a b c d : World} (h1 : Below a.heap.size a b) (h2 : Below b.heap.size b c) (h3 : Below c.heap.size c d) : Below a.heap.size a d :=
  (h1.trans (h2.mono h1.size)).trans (h3.mono (Nat.le_trans h1.size h2.size))

set_option maxHeartbeats 1000000 in
theorem Mul_c (x y : Int) (hx : InR x) (hy : InR y) (w : World) :
    Calls Try.prog 38 #[.int .i64 x, .int .i64 y] w fun e w' => e = .returned (.tuple #[.int .i64 (tv (x * y)), .int .i64 (te (x * y))]) ∧ Below w.heap.size w w' := by
  have H1 := Lib.hid hx
  have H2 := Lib.hid hy
  have H3 := Lib.hid (times_rm hx hy)
  clear hx hy
  go_enter Try.func38, Try.ntmps38
  go_wp2_with fail
  ((with_reducible refine (times_c x y H1.out H2.out _).mono ?_); rintro e w1 ⟨rfl, hb1⟩)
  go_wp2_with fail
  ((with_reducible refine (narrow_c (x * y) H3.out _).mono ?_); rintro e w4 ⟨rfl, hb4⟩)
  have hB : Below w.heap.size w w4 := hb1.trans (hb4.mono hb1.size)
  clear hb4 hb1
  go_wp2_with fail
  go_ret2
  first | exact ⟨rfl, hB⟩ | exact hB

theorem below_math (x y : Int) : (x < y ↔ (hiOf x < hiOf y ∨ hiOf x = hiOf y ∧ loOf x < loOf y)) := by
  have h1 := hi_lo x
  have h2 := hi_lo y
  have h3 := lo_bd x
  have h4 := lo_bd y
  omega

end Go.Proofs.Ytpegkojcemggaaa

/- coin: whether a quotient is rounded away from 0. -/
namespace Go.Proofs.Ytpegkojcemggaaa
open Go.RowKit

/-- Is a quotient that leaves the rest r, of d, rounded away from 0? -/
def awayB (round : Int) (neg odd : Bool) (r d : Nat) : Bool :=
  if r = 0 then false else if round = 2 then !neg else if round = 1 then neg else decide (d < 2 * r) || (decide (2 * r = d) && odd)

theorem pv_ne {x : Int} (h : x ≠ 0) : (hiOf x == hiOf 0 && loOf x == loOf 0) = false := by
  rw [Bool.eq_false_iff]
  intro e
  simp only [Bool.and_eq_true, beq_iff_eq] at e
  exact h (pv_eq.1 e)

end Go.Proofs.Ytpegkojcemggaaa

/- coin: a product by a number, rounded: given what Div64 tells of these. -/
namespace Go.Proofs.Ytpegkojcemggaaa
open Go.RowKit

/-- Whole numbers by a whole number, rounded. -/
def divR (a b c round : Int) : Int :=
  let n := (a * b).natAbs
  let d := c.natAbs
  let neg := decide (a * b < 0) != decide (c < 0)
  let q := n / d + if awayB round neg (decide (n / d % 2 = 1)) (n % d) d then 1 else 0
  if neg then -(q : Int) else (q : Int)

theorem hi_neg {x : Int} : decide (hiOf x < 0) = decide (x < 0) := by
  unfold hiOf; simp only [decide_eq_decide]; omega
theorem nat_hi (n : Nat) : hiOf (n : Int) = ((n / 18446744073709551616 : Nat) : Int) := by unfold hiOf; omega
theorem nat_lo (n : Nat) : loOf (n : Int) = ((n % 18446744073709551616 : Nat) : Int) := by unfold loOf; omega

theorem and_one (q : Nat) (_h : q < 18446744073709551616) : (bits BinOp.and IntKind.u64 (q : Int) 1 == 1) = decide (q % 2 = 1) := by
  rw [and_one_u64 (q : Int) (by omega) (by omega)]
  rw [Bool.eq_iff_iff]; simp; omega

theorem small_hi (q : Nat) (h : q < 2 ^ 64) : hiOf (q : Int) = 0 := by unfold hiOf; omega
theorem small_lo (q : Nat) (h : q < 2 ^ 64) : loOf (q : Int) = (q : Int) := by unfold loOf; omega

theorem drewN_heap {w : World} {g n : Nat} {p : Obj} (h : w.heap[g]? = some p) : (w.drewN n).heap[g]? = some p := h
theorem info75 (x : Int) : (Try.prog.info? 116).map (·.size) = some (#[Value.int .i64 (hiOf x), .int .u64 (loOf x)] : Array Value).size := by
  show _ = some 2
  kernel_rfl
theorem below_setRow' {B g : Nat} {w0 w : World} (hb : Below B w0 w) (hBg : B ≤ g) (cs : Array Value) : Below B w0 (w.setRow g cs) :=
  hb.trans ⟨rfl, rfl, rfl, by simp [World.setRow], fun k hk => setRow_other w g k cs (by omega)⟩
theorem any_store75 {ops : Array Oper} {o : Oper} {a : Act} {w : World} {Q : Exit → Act → World → Prop} {K : Act → World → Prop} {E : Prop} (hgd : Region.wanted o (yielded ops a.tmps) = true) (x y : Operand) (ho : o.op = .store 116 x y) (g : Nat) (m old : Int)
    (hx : a.eval x = .pointer (some ⟨g, 0, none⟩)) (hy : a.eval y = PV m) (hg : w.heap[g]? = some (PC old))
    (h : ∀ V : World, V.heap[g]? = some (PC m) → V.heap.size = w.heap.size → (∀ B w0, Below B w0 w → B ≤ g → Below B w0 V) → K (a.put o.dst undef) V) :
    if Region.wanted o (yielded ops a.tmps) = true then Oper.wp Try.prog o a w K Q else E := by
  rw [if_pos hgd]
  refine wp_store_row 116 x y ho g _ hx hy 116 _ hg (info75 m) rfl (by simp [Value.oneCell']) (h _ (setRow_heap w g _ _ _ _ hg) (size_setRow _ _ _) (fun B w0 hb hB => below_setRow' hb hB _))
end Go.Proofs.Ytpegkojcemggaaa

/- coin: a product by a number, rounded the way 1: given what the calls below tell. -/
namespace Go.Proofs.Ytpegkojcemggaaa
open Go.RowKit

end Go.Proofs.Ytpegkojcemggaaa

/- coin: a product by a number, rounded the way 2: given what the calls below tell. -/
namespace Go.Proofs.Ytpegkojcemggaaa
open Go.RowKit

end Go.Proofs.Ytpegkojcemggaaa

/- coin: a product by a number, rounded the way 3: given what the calls below tell. -/
namespace Go.Proofs.Ytpegkojcemggaaa
open Go.RowKit

end Go.Proofs.Ytpegkojcemggaaa

/- coin: Div. -/
namespace Go.Proofs.Ytpegkojcemggaaa
open Go.RowKit

end Go.Proofs.Ytpegkojcemggaaa
