/-
  GridTells: for every input the law returns true, and each argument reads behind the call as it read before. No condition.
-/
import Derived.Test.YtacfboopkcaobabRows
import Derived.WalkKit
import Derived.ProofKit
import Derived.OpenShut
import Derived.ShutString
import Derived.ChangeOld
import Derived.Below
import Derived.Carry
import Derived.Test.YtacfboopkcaobabGrX
namespace Go.Proofs.Ytacfboopkcaobab.gridTells
open Go.ChangeShapes Go.WideShapes Go.ChangeAt Go.RowKit
open Go.ChangeMaps (open_string shut_string)
set_option linter.unusedVariables false

theorem own : ownKnob Try.prog.godebug = none := by kernel_rfl
theorem laidOut : laidOutB Try.prog = true := by kernel_rfl

/-- A slice of bytes that came in, as the form reads it. -/
def IsRow (w : World) (a : Option Addr) (len cap : Nat) (zs : List Int) : Prop :=
  (a = none ∧ len = 0 ∧ cap = 0 ∧ zs = []) ∨ ∃ x, a = some x ∧ len ≤ cap ∧ cap ≤ maxLen ∧ zs.length = cap ∧ (∀ i, i < zs.length → w.cell? (x.add i) = some (.int .u8 (zs.getD i 0))) ∧ ∀ n ∈ zs, (Lit.int .u8 n).wf = true

set_option maxHeartbeats 8000000 in
set_option maxRecDepth 100000 in
theorem walk (a0 : Option Addr) (len0 cap0 : Nat) (its0 : List Tk) (a1 : Int) (w : World) (w0 : Tks w a0 len0 its0 ∧ len0 ≤ cap0 ∧ cap0 ≤ maxLen) (w1 : (Lit.int .i64 a1).wf = true) :
    Calls Try.prog 5 #[.slice a0 len0 cap0, .int .i64 a1] w fun e w' => e = .returned (.bool true) ∧ Below w.heap.size w w' := by
  obtain ⟨e1, e2, e3, e4, e5, e6, e7⟩ := all9 its0 a1
  have HPl := Lib.hid (plain_c a0 len0 cap0 its0 w w0.1)
  have HD := fun (W : World) (h : Below w.heap.size w W) => down_c a1 a0 len0 cap0 its0 W (w0.1.below h)
  have HU := fun (W : World) (h : Below w.heap.size w W) => up_c a1 a0 len0 cap0 its0 W (w0.1.below h)
  have HC := fun (W : World) (h : Below w.heap.size w W) => check_c a0 len0 cap0 its0 W (w0.1.below h)
  have HS := fun (W : World) (h : Below w.heap.size w W) => size_c a1 a0 len0 cap0 its0 W (w0.1.below h)
  have HO := fun (W : World) (h : Below w.heap.size w W) => on_c a1 a0 len0 cap0 its0 W (w0.1.below h)
  have HD2 := fun (A : Option Addr) (n c : Nat) (W : World) (h : Tks W A n (its0.take 9)) => rDown_c a1 A n c _ W h
  have HU2 := fun (A : Option Addr) (n c : Nat) (W : World) (h : Tks W A n (its0.take 9)) => rUp_c a1 A n c _ W h
  have HC2 := fun (A : Option Addr) (n c : Nat) (W : World) (h : Tks W A n (its0.take 9)) => rCheck_c A n c _ W h
  have HS2 := fun (A : Option Addr) (n c : Nat) (W : World) (h : Tks W A n (its0.take 9)) => rSize_c a1 A n c _ W h
  have HO2 := fun (A : Option Addr) (n c : Nat) (W : World) (h : Tks W A n (its0.take 9)) => rOn_c a1 A n c _ W h
  rw [e4, e5] at HD2
  rw [e6, e7] at HU2
  rw [e1] at HC2
  rw [e2] at HS2
  rw [e3] at HO2
  obtain ⟨x1, g1⟩ : ∃ x, x = downN its0 a1 := ⟨_, rfl⟩
  obtain ⟨x2, g2⟩ : ∃ x, x = downB its0 a1 := ⟨_, rfl⟩
  obtain ⟨x3, g3⟩ : ∃ x, x = upN its0 a1 := ⟨_, rfl⟩
  obtain ⟨x4, g4⟩ : ∃ x, x = upB its0 a1 := ⟨_, rfl⟩
  obtain ⟨x5, g5⟩ : ∃ x, x = checkN its0 := ⟨_, rfl⟩
  obtain ⟨x6, g6⟩ : ∃ x, x = sizeN its0 a1 := ⟨_, rfl⟩
  obtain ⟨x7, g7⟩ : ∃ x, x = onN its0 a1 := ⟨_, rfl⟩
  rw [← g1, ← g2] at HD HD2
  rw [← g3, ← g4] at HU HU2
  rw [← g5] at HC HC2
  rw [← g6] at HS HS2
  rw [← g7] at HO HO2
  have KHD := Lib.hid HD
  have KHD2 := Lib.hid HD2
  have KHU := Lib.hid HU
  have KHU2 := Lib.hid HU2
  have KHC := Lib.hid HC
  have KHC2 := Lib.hid HC2
  have KHS := Lib.hid HS
  have KHS2 := Lib.hid HS2
  have KHO := Lib.hid HO
  have KHO2 := Lib.hid HO2
  clear w0 w1 e1 e2 e3 e4 e5 e6 e7 g1 g2 g3 g4 g5 g6 g7 HD HD2 HU HU2 HC HC2 HS HS2 HO HO2
  go_enter Try.func5, Try.ntmps5
  go_wp2_with fail
  ((with_reducible refine HPl.out.mono ?_); rintro e v0 ⟨A, n, c, rfl, hd⟩)
  have B0 : Hid (Below w.heap.size w v0 ∧ Tks v0 A n (its0.take 9)) := ⟨hd.out.1, hd.out.2.1⟩
  clear hd HPl
  have N0 := Lib.hid (KHD.out v0 B0.out.1)
  clear KHD
  go_wp2_with fail
  ((with_reducible refine N0.out.mono ?_); rintro e v1 ⟨rfl, b1⟩)
  have B1 : Hid (Below w.heap.size w v1 ∧ Tks v1 A n (its0.take 9)) := ⟨B0.out.1.trans (b1.mono B0.out.1.size), B0.out.2.below b1⟩
  clear N0 B0 b1
  have N1 := Lib.hid (KHD2.out A n c v1 B1.out.2)
  clear KHD2
  go_wp2_with fail
  ((with_reducible refine N1.out.mono ?_); rintro e v2 ⟨rfl, b2⟩)
  have B2 : Hid (Below w.heap.size w v2 ∧ Tks v2 A n (its0.take 9)) := ⟨B1.out.1.trans (b2.mono B1.out.1.size), B1.out.2.below b2⟩
  clear N1 B1 b2
  have N2 := Lib.hid (KHU.out v2 B2.out.1)
  clear KHU
  go_wp2_with fail
  ((with_reducible refine N2.out.mono ?_); rintro e v3 ⟨rfl, b3⟩)
  have B3 : Hid (Below w.heap.size w v3 ∧ Tks v3 A n (its0.take 9)) := ⟨B2.out.1.trans (b3.mono B2.out.1.size), B2.out.2.below b3⟩
  clear N2 B2 b3
  have N3 := Lib.hid (KHU2.out A n c v3 B3.out.2)
  clear KHU2
  go_wp2_with fail
  ((with_reducible refine N3.out.mono ?_); rintro e v4 ⟨rfl, b4⟩)
  have B4 : Hid (Below w.heap.size w v4 ∧ Tks v4 A n (its0.take 9)) := ⟨B3.out.1.trans (b4.mono B3.out.1.size), B3.out.2.below b4⟩
  clear N3 B3 b4
  have N4 := Lib.hid (KHC.out v4 B4.out.1)
  clear KHC
  go_wp2_with fail
  ((with_reducible refine N4.out.mono ?_); rintro e v5 ⟨rfl, b5⟩)
  have B5 : Hid (Below w.heap.size w v5 ∧ Tks v5 A n (its0.take 9)) := ⟨B4.out.1.trans (b5.mono B4.out.1.size), B4.out.2.below b5⟩
  clear N4 B4 b5
  have N5 := Lib.hid (KHC2.out A n c v5 B5.out.2)
  clear KHC2
  go_wp2_with fail
  ((with_reducible refine N5.out.mono ?_); rintro e v6 ⟨rfl, b6⟩)
  have B6 : Hid (Below w.heap.size w v6 ∧ Tks v6 A n (its0.take 9)) := ⟨B5.out.1.trans (b6.mono B5.out.1.size), B5.out.2.below b6⟩
  clear N5 B5 b6
  have N6 := Lib.hid (KHS.out v6 B6.out.1)
  clear KHS
  go_wp2_with fail
  ((with_reducible refine N6.out.mono ?_); rintro e v7 ⟨rfl, b7⟩)
  have B7 : Hid (Below w.heap.size w v7 ∧ Tks v7 A n (its0.take 9)) := ⟨B6.out.1.trans (b7.mono B6.out.1.size), B6.out.2.below b7⟩
  clear N6 B6 b7
  have N7 := Lib.hid (KHS2.out A n c v7 B7.out.2)
  clear KHS2
  go_wp2_with fail
  ((with_reducible refine N7.out.mono ?_); rintro e v8 ⟨rfl, b8⟩)
  have B8 : Hid (Below w.heap.size w v8 ∧ Tks v8 A n (its0.take 9)) := ⟨B7.out.1.trans (b8.mono B7.out.1.size), B7.out.2.below b8⟩
  clear N7 B7 b8
  have N8 := Lib.hid (KHO.out v8 B8.out.1)
  clear KHO
  go_wp2_with fail
  ((with_reducible refine N8.out.mono ?_); rintro e v9 ⟨rfl, b9⟩)
  have B9 : Hid (Below w.heap.size w v9 ∧ Tks v9 A n (its0.take 9)) := ⟨B8.out.1.trans (b9.mono B8.out.1.size), B8.out.2.below b9⟩
  clear N8 B8 b9
  have N9 := Lib.hid (KHO2.out A n c v9 B9.out.2)
  clear KHO2
  go_wp2_with fail
  ((with_reducible refine N9.out.mono ?_); rintro e v10 ⟨rfl, b10⟩)
  have B10 : Hid (Below w.heap.size w v10 ∧ Tks v10 A n (its0.take 9)) := ⟨B9.out.1.trans (b10.mono B9.out.1.size), B9.out.2.below b10⟩
  clear N9 B9 b10
  go_wp2_with fail
  ((with_reducible refine (lives6_c _).mono ?_); rintro e v11 ⟨rfl, b11⟩)
  have BF : Hid (Below w.heap.size w v11) := B10.out.1.trans (b11.mono B10.out.1.size)
  clear b11 B10
  go_wp2_with fail
  go_ret
  exact ⟨rfl, BF.out⟩

set_option maxRecDepth 100000 in
theorem lifted (os : Os) (started : os.Started) (H : Type) (enc : TypeId × Value → H) :
    ReturnsInHanded {} Try.checked os 5 .any (Rows.gridTellsSpec.pre6 enc Try.prog Try.f5 Rows.gridTellsRow.domain false) (Rows.gridTellsSpec.post enc Try.prog Try.f5 false true false false) := by
  refine returnsInHanded_of_change (C := Try.checked) own started (by kernel_rfl) Try.func5
    (ChangeSpec.witness6 (enc := enc) (C := Try.checked) false ⟨#[], #[.slice none 0 0, .int .i64 0], []⟩ 8 (by kernel_rfl) (by kernel_rfl) (by kernel_rfl) (by kernel_rfl)) ?_
  intro W base args ds gs before hval0 hW hcnd _
  have hval : ∀ (j : Nat) t v, Try.f5.params[j]? = some t → args[j]? = some v → Value.okWide Try.prog W .any base t v := hval0
  have hW' := hW
  obtain ⟨p, q, hA0, hV, rfl, hfz, hnd⟩ := hW
  have hA : DataW.TrodAll enc Try.prog W 0 (fun _ => true) true Try.f5.params.toList args.toList ds p := hA0
  rw [Try.params5] at hA hval
  obtain ⟨v0, vs0, d0, ds0, p0, q0, hargs, rfl, rfl, h0, r0⟩ := trodAll_cons hA
  obtain ⟨v1, vs1, d1, ds1, p1, q1, rfl, rfl, rfl, h1, r1⟩ := trodAll_cons r0
  obtain ⟨rfl, rfl, rfl⟩ := trodAll_nil r1
  obtain rfl : args = #[v0, v1] := by cases args; simp_all
  obtain ⟨rfl, rfl⟩ := trodVars_none hV
  have k0 := h0
  have lt0 : ∀ x ∈ p0, x.block < W.heap.size := by obtain ⟨m, hm⟩ := k0; exact DataW.trod_lt m _ _ _ hm
  obtain ⟨a0, len0, cap0, rfl⟩ := okWide_slice Try.underlying42 (hval 0 42 v0 rfl rfl)
  obtain ⟨its0, w0⟩ := open_tks h0
  obtain ⟨a1, rfl, rfl, rfl, w1⟩ := open_int Try.underlying2 (hval 1 2 v1 rfl rfl) h1
  clear hA0 hval0
  refine (walk a0 len0 cap0 its0 a1 W w0 w1).mono fun e W' ⟨he, bel⟩ => ?_
  subst he
  exact ⟨_, rfl, _, _, _, [], _, [], hW', trodAll_mk1 (shut_bool Try.underlying4 _), (trodAll_cons_mk (Below.trod laidOut (by kernel_rfl) (of_decide_eq_true (by kernel_rfl)) k0 bel lt0) (trodAll_cons_mk (shut_int Try.underlying2 w1) trodAll_mk0)), rfl, bel.frame _, fun h => by cases h⟩

theorem over : Rows.gridTellsRow.holds Try.pinned (OpenSpec.ofChange Rows.gridTellsSpec) :=
  OpenClaim.holds_of_wide 5 Try.f5 rfl rfl rfl rfl rfl rfl rfl ⟨rfl, rfl, rfl, rfl, rfl⟩ rfl rfl rfl rfl rfl (by kernel_rfl) Try.func5 (by kernel_rfl)
    (of_decide_eq_true (by kernel_rfl)) (by unfold Func.isWrapper; first | (rw [if_pos (by decide +kernel)]; kernel_rfl) | (rw [if_neg (by decide +kernel)]; exact ⟨rfl, rfl⟩))
    (fun os started H enc _ => lifted os started H enc)

theorem proved : Rows.GridTellsSaid := over
end Go.Proofs.Ytacfboopkcaobab.gridTells
