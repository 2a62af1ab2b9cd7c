/-
  FeesTell: for every input the law returns true, and each argument reads behind the call as it read before. No condition.
-/
import Derived.Test.YtghpafbgjbhohaaRows
import Derived.WalkKit
import Derived.ProofKit
import Derived.OpenShut
import Derived.ShutString
import Derived.ChangeOld
import Derived.Below
import Derived.Carry
import Derived.Test.YtghpafbgjbhohaaFeL
namespace Go.Proofs.Ytghpafbgjbhohaa.feesTell
open Go.ChangeShapes Go.WideShapes Go.ChangeAt Go.RowKit
open Go.ChangeMaps (open_string shut_string)
set_option linter.unusedVariables false

theorem own : ownKnob Try.prog.godebug = none := by kernel_rfl
theorem laidOut : laidOutB Try.prog = true := by kernel_rfl

/-- A slice of bytes that came in, as the form reads it. -/
def IsRow (w : World) (a : Option Addr) (len cap : Nat) (zs : List Int) : Prop :=
  (a = none ∧ len = 0 ∧ cap = 0 ∧ zs = []) ∨ ∃ x, a = some x ∧ len ≤ cap ∧ cap ≤ maxLen ∧ zs.length = cap ∧ (∀ i, i < zs.length → w.cell? (x.add i) = some (.int .u8 (zs.getD i 0))) ∧ ∀ n ∈ zs, (Lit.int .u8 n).wf = true

set_option maxHeartbeats 8000000 in
set_option maxRecDepth 100000 in
theorem walk (a0 : Option Addr) (len0 cap0 : Nat) (its0 : List Ti) (a1 : Int) (w : World) (w0 : Tis w a0 len0 its0 ∧ len0 ≤ cap0 ∧ cap0 ≤ maxLen) (w1 : (Lit.int .i64 a1).wf = true) :
    Calls Try.prog 6 #[.slice a0 len0 cap0, .int .i64 a1] w fun e w' => e = .returned (.bool true) ∧ Below w.heap.size w w' := by
  have HCo := Lib.hid (fun (W : World) (hW : Below w.heap.size w W) => check_c a0 len0 cap0 its0 W (w0.1.below hW))
  have HTi := Lib.hid (fun (W : World) (hW : Below w.heap.size w W) => tier_c a1 a0 len0 cap0 its0 W (w0.1.below hW))
  have HTo := Lib.hid (fun (W : World) (hW : Below w.heap.size w W) => top_c a0 len0 cap0 its0 W (w0.1.below hW))
  have HP0 := Lib.hid (plain_c a0 len0 cap0 its0 w w0.1)
  have RC := Lib.hid (fun (A : Option Addr) (n c : Nat) (W : World) (h : Tis W A n (its0.take 9)) => rCheck_c A n c (its0.take 9) W h)
  rw [checkT9] at RC
  have RR := Lib.hid (fun (A : Option Addr) (n c : Nat) (W : World) (h : Tis W A n (its0.take 9)) => rRow_c a1 A n c (its0.take 9) W h)
  rw [rowT9] at RR
  have RT := Lib.hid (fun (A : Option Addr) (n c : Nat) (W : World) (h : Tis W A n (its0.take 9)) => rTop_c A n c (its0.take 9) W h)
  rw [topT9] at RT
  obtain ⟨g, hg⟩ : ∃ g, g = checkT its0 := ⟨_, rfl⟩
  obtain ⟨rf, hrf⟩ : ∃ x, x = (rowT its0 a1).f := ⟨_, rfl⟩
  obtain ⟨rm, hrm⟩ : ∃ x, x = (rowT its0 a1).m := ⟨_, rfl⟩
  obtain ⟨rk, hrk⟩ : ∃ x, x = (rowT its0 a1).k := ⟨_, rfl⟩
  obtain ⟨tp, htp⟩ : ∃ x, x = topT its0 := ⟨_, rfl⟩
  rw [← hg] at HCo RC
  rw [← hrf, ← hrm, ← hrk] at HTi RR
  rw [← htp] at HTo RT
  clear hg hrf hrm hrk htp w0 w1
  go_enter Try.func6, Try.ntmps6
  go_wp2_with fail
  ((with_reducible refine HP0.out.mono ?_); rintro e w1 ⟨A, n, c, rfl, hd1⟩)
  have B1 := Lib.hid hd1.out.1
  have K1 := Lib.hid hd1.out.2.1
  have N1 := Lib.hid (HCo.out w1 B1.out)
  clear HP0 hd1 HCo
  go_wp2_with fail
  ((with_reducible refine N1.out.mono ?_); rintro e w2 ⟨rfl, b2⟩)
  have B2 : Hid (Below w.heap.size w w2) := B1.out.trans (b2.mono B1.out.size)
  have K2 : Hid (Tis w2 A n (its0.take 9)) := K1.out.below b2
  have N2 := Lib.hid (RC.out A n c w2 K2.out)
  clear b2 N1 B1 K1 RC
  go_wp2_with fail
  ((with_reducible refine N2.out.mono ?_); rintro e w3 ⟨rfl, b3⟩)
  have B3 : Hid (Below w.heap.size w w3) := B2.out.trans (b3.mono B2.out.size)
  have K3 : Hid (Tis w3 A n (its0.take 9)) := K2.out.below b3
  have N3 := Lib.hid (HTi.out w3 B3.out)
  clear b3 N2 B2 K2 HTi
  go_wp2_with fail
  ((with_reducible refine N3.out.mono ?_); rintro e w4 ⟨rfl, b4⟩)
  have B4 : Hid (Below w.heap.size w w4) := B3.out.trans (b4.mono B3.out.size)
  have K4 : Hid (Tis w4 A n (its0.take 9)) := K3.out.below b4
  have N4 := Lib.hid (RR.out A n c w4 K4.out)
  clear b4 N3 B3 K3 RR
  go_wp2_with fail
  ((with_reducible refine N4.out.mono ?_); rintro e w5 ⟨rfl, b5⟩)
  have B5 : Hid (Below w.heap.size w w5) := B4.out.trans (b5.mono B4.out.size)
  have K5 : Hid (Tis w5 A n (its0.take 9)) := K4.out.below b5
  have N5 := Lib.hid (HTo.out w5 B5.out)
  clear b5 N4 B4 K4 HTo
  go_wp2_with fail
  ((with_reducible refine N5.out.mono ?_); rintro e w6 ⟨rfl, b6⟩)
  have B6 : Hid (Below w.heap.size w w6) := B5.out.trans (b6.mono B5.out.size)
  have K6 : Hid (Tis w6 A n (its0.take 9)) := K5.out.below b6
  have N6 := Lib.hid (RT.out A n c w6 K6.out)
  clear b6 N5 B5 K5 RT
  go_wp2_with fail
  ((with_reducible refine N6.out.mono ?_); rintro e w7 ⟨rfl, b7⟩)
  have B7 : Hid (Below w.heap.size w w7) := B6.out.trans (b7.mono B6.out.size)
  clear b7 N6 B6 K6
  go_wp2_with fail
  ((with_reducible refine (lives8_c _).mono ?_); rintro e w8 ⟨rfl, b8⟩)
  have B8 : Hid (Below w.heap.size w w8) := B7.out.trans (b8.mono B7.out.size)
  clear b8 B7
  go_wp2_with fail
  go_ret
  exact ⟨rfl, B8.out⟩

set_option maxRecDepth 100000 in
theorem lifted (os : Os) (started : os.Started) (H : Type) (enc : TypeId × Value → H) :
    ReturnsInHanded {} Try.checked os 6 .any (Rows.feesTellSpec.pre6 enc Try.prog Try.f6 Rows.feesTellRow.domain false) (Rows.feesTellSpec.post enc Try.prog Try.f6 false true false false) := by
  refine returnsInHanded_of_change (C := Try.checked) own started (by kernel_rfl) Try.func6
    (ChangeSpec.witness6 (enc := enc) (C := Try.checked) false ⟨#[], #[.slice none 0 0, .int .i64 0], []⟩ 8 (by kernel_rfl) (by kernel_rfl) (by kernel_rfl) (by kernel_rfl)) ?_
  intro W base args ds gs before hval0 hW hcnd _
  have hval : ∀ (j : Nat) t v, Try.f6.params[j]? = some t → args[j]? = some v → Value.okWide Try.prog W .any base t v := hval0
  have hW' := hW
  obtain ⟨p, q, hA0, hV, rfl, hfz, hnd⟩ := hW
  have hA : DataW.TrodAll enc Try.prog W 0 (fun _ => true) true Try.f6.params.toList args.toList ds p := hA0
  rw [Try.params6] at hA hval
  obtain ⟨v0, vs0, d0, ds0, p0, q0, hargs, rfl, rfl, h0, r0⟩ := trodAll_cons hA
  obtain ⟨v1, vs1, d1, ds1, p1, q1, rfl, rfl, rfl, h1, r1⟩ := trodAll_cons r0
  obtain ⟨rfl, rfl, rfl⟩ := trodAll_nil r1
  obtain rfl : args = #[v0, v1] := by cases args; simp_all
  obtain ⟨rfl, rfl⟩ := trodVars_none hV
  have k0 := h0
  have lt0 : ∀ x ∈ p0, x.block < W.heap.size := by obtain ⟨m, hm⟩ := k0; exact DataW.trod_lt m _ _ _ hm
  obtain ⟨a0, len0, cap0, rfl⟩ := okWide_slice Try.underlying34 (hval 0 34 v0 rfl rfl)
  obtain ⟨its0, w0⟩ := open_tis h0
  obtain ⟨a1, rfl, rfl, rfl, w1⟩ := open_int Try.underlying2 (hval 1 2 v1 rfl rfl) h1
  clear hA0 hval0
  refine (walk a0 len0 cap0 its0 a1 W w0 w1).mono fun e W' ⟨he, bel⟩ => ?_
  subst he
  exact ⟨_, rfl, _, _, _, [], _, [], hW', trodAll_mk1 (shut_bool Try.underlying4 _), (trodAll_cons_mk (Below.trod laidOut (by kernel_rfl) (of_decide_eq_true (by kernel_rfl)) k0 bel lt0) (trodAll_cons_mk (shut_int Try.underlying2 w1) trodAll_mk0)), rfl, bel.frame _, fun h => by cases h⟩

theorem over : Rows.feesTellRow.holds Try.pinned (OpenSpec.ofChange Rows.feesTellSpec) :=
  OpenClaim.holds_of_wide 6 Try.f6 rfl rfl rfl rfl rfl rfl rfl ⟨rfl, rfl, rfl, rfl, rfl⟩ rfl rfl rfl rfl rfl (by kernel_rfl) Try.func6 (by kernel_rfl)
    (of_decide_eq_true (by kernel_rfl)) (by unfold Func.isWrapper; first | (rw [if_pos (by decide +kernel)]; kernel_rfl) | (rw [if_neg (by decide +kernel)]; exact ⟨rfl, rfl⟩))
    (fun os started H enc _ => lifted os started H enc)

theorem proved : Rows.FeesTellSaid := over
end Go.Proofs.Ytghpafbgjbhohaa.feesTell
