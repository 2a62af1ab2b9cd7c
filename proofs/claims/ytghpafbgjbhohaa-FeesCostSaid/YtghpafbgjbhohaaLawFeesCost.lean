/-
  FeesCost: for every input the law returns true, and each argument reads behind the call as it read before. No condition.
-/
import Derived.Test.YtghpafbgjbhohaaRows
import Derived.WalkKit
import Derived.ProofKit
import Derived.OpenShut
import Derived.ShutString
import Derived.ChangeOld
import Derived.Below
import Derived.Carry
import Derived.Test.YtghpafbgjbhohaaFeL
namespace Go.Proofs.Ytghpafbgjbhohaa.feesCost
open Go.ChangeShapes Go.WideShapes Go.ChangeAt Go.RowKit
open Go.ChangeMaps (open_string shut_string)
set_option linter.unusedVariables false

theorem own : ownKnob Try.prog.godebug = none := by kernel_rfl
theorem laidOut : laidOutB Try.prog = true := by kernel_rfl

/-- A slice of bytes that came in, as the form reads it. -/
def IsRow (w : World) (a : Option Addr) (len cap : Nat) (zs : List Int) : Prop :=
  (a = none ∧ len = 0 ∧ cap = 0 ∧ zs = []) ∨ ∃ x, a = some x ∧ len ≤ cap ∧ cap ≤ maxLen ∧ zs.length = cap ∧ (∀ i, i < zs.length → w.cell? (x.add i) = some (.int .u8 (zs.getD i 0))) ∧ ∀ n ∈ zs, (Lit.int .u8 n).wf = true

set_option maxHeartbeats 8000000 in
set_option maxRecDepth 100000 in
theorem walk (a0 : Option Addr) (len0 cap0 : Nat) (its0 : List Ti) (a1 : Int) (a2 : Int) (a3 : Int) (a4 : Int) (w : World) (w0 : Tis w a0 len0 its0 ∧ len0 ≤ cap0 ∧ cap0 ≤ maxLen) (w1 : (Lit.int .i64 a1).wf = true) (w2 : (Lit.int .i64 a2).wf = true) (w3 : (Lit.int .i64 a3).wf = true) (w4 : (Lit.int .i64 a4).wf = true) :
    Calls Try.prog 7 #[.slice a0 len0 cap0, .int .i64 a1, .int .i64 a2, .int .i64 a3, .int .i64 a4] w fun e w' => e = .returned (.bool true) ∧ Below w.heap.size w w' := by
  have O0 := Lib.hid (of_c a1 a2 a3 a4 a0 len0 cap0 its0 w w0.1)
  have HPl := Lib.hid (fun (W : World) (hW : Below w.heap.size w W) => plain_c a0 len0 cap0 its0 W (w0.1.below hW))
  have RO := Lib.hid (fun (A : Option Addr) (n c : Nat) (W : World) (h : Tis W A n (its0.take 9)) => rOf_c a1 a2 a3 a4 A n c (its0.take 9) W h)
  rw [(of9 its0 a1 a2 a3 a4).1, (of9 its0 a1 a2 a3 a4).2] at RO
  have F0 := Lib.hid (fee_c a2 a1 a4)
  have F1 := Lib.hid (rFee_c a2 a1 a4)
  obtain ⟨x, hx⟩ : ∃ x, x = ofN its0 a1 a2 a3 a4 := ⟨_, rfl⟩
  obtain ⟨y, hy⟩ : ∃ x, x = ofE its0 a1 a2 a3 a4 := ⟨_, rfl⟩
  obtain ⟨u, hu⟩ : ∃ x, x = feeN a2 a1 a4 := ⟨_, rfl⟩
  obtain ⟨v, hv⟩ : ∃ x, x = feeE a2 a1 a4 := ⟨_, rfl⟩
  rw [← hx, ← hy] at O0 RO
  rw [← hu, ← hv] at F0 F1
  clear hx hy hu hv w0 w1 w2 w3 w4
  go_enter Try.func7, Try.ntmps7
  go_wp2_with fail
  ((with_reducible refine O0.out.mono ?_); rintro e w1 ⟨rfl, b1⟩)
  have B1 := Lib.hid b1
  have N1 := Lib.hid (HPl.out w1 b1)
  clear b1 O0 HPl
  go_wp2_with fail
  ((with_reducible refine N1.out.mono ?_); rintro e w2 ⟨A, n, c, rfl, hd⟩)
  have B2 : Hid (Below w.heap.size w w2) := B1.out.trans (hd.out.1.mono B1.out.size)
  have N2 := Lib.hid (RO.out A n c w2 hd.out.2.1)
  clear hd N1 B1 RO
  go_wp2_with fail
  ((with_reducible refine N2.out.mono ?_); rintro e w3 ⟨rfl, b3⟩)
  have B3 : Hid (Below w.heap.size w w3) := B2.out.trans (b3.mono B2.out.size)
  clear b3 N2 B2
  go_wp2_with fail
  ((with_reducible refine (F0.out _).mono ?_); rintro e w4 ⟨rfl, b4⟩)
  have B4 : Hid (Below w.heap.size w w4) := B3.out.trans (b4.mono B3.out.size)
  clear b4 F0 B3
  go_wp2_with fail
  ((with_reducible refine (F1.out _).mono ?_); rintro e w5 ⟨rfl, b5⟩)
  have B5 : Hid (Below w.heap.size w w5) := B4.out.trans (b5.mono B4.out.size)
  clear b5 F1 B4
  go_wp2_with fail
  ((with_reducible refine (lives8_c _).mono ?_); rintro e w6 ⟨rfl, b6⟩)
  have B6 : Hid (Below w.heap.size w w6) := B5.out.trans (b6.mono B5.out.size)
  clear b6 B5
  go_wp2_with fail
  go_ret
  exact ⟨rfl, B6.out⟩

set_option maxRecDepth 100000 in
theorem lifted (os : Os) (started : os.Started) (H : Type) (enc : TypeId × Value → H) :
    ReturnsInHanded {} Try.checked os 7 .any (Rows.feesCostSpec.pre6 enc Try.prog Try.f7 Rows.feesCostRow.domain false) (Rows.feesCostSpec.post enc Try.prog Try.f7 false true false false) := by
  refine returnsInHanded_of_change (C := Try.checked) own started (by kernel_rfl) Try.func7
    (ChangeSpec.witness6 (enc := enc) (C := Try.checked) false ⟨#[], #[.slice none 0 0, .int .i64 0, .int .i64 0, .int .i64 0, .int .i64 0], []⟩ 8 (by kernel_rfl) (by kernel_rfl) (by kernel_rfl) (by kernel_rfl)) ?_
  intro W base args ds gs before hval0 hW hcnd _
  have hval : ∀ (j : Nat) t v, Try.f7.params[j]? = some t → args[j]? = some v → Value.okWide Try.prog W .any base t v := hval0
  have hW' := hW
  obtain ⟨p, q, hA0, hV, rfl, hfz, hnd⟩ := hW
  have hA : DataW.TrodAll enc Try.prog W 0 (fun _ => true) true Try.f7.params.toList args.toList ds p := hA0
  rw [Try.params7] at hA hval
  obtain ⟨v0, vs0, d0, ds0, p0, q0, hargs, rfl, rfl, h0, r0⟩ := trodAll_cons hA
  obtain ⟨v1, vs1, d1, ds1, p1, q1, rfl, rfl, rfl, h1, r1⟩ := trodAll_cons r0
  obtain ⟨v2, vs2, d2, ds2, p2, q2, rfl, rfl, rfl, h2, r2⟩ := trodAll_cons r1
  obtain ⟨v3, vs3, d3, ds3, p3, q3, rfl, rfl, rfl, h3, r3⟩ := trodAll_cons r2
  obtain ⟨v4, vs4, d4, ds4, p4, q4, rfl, rfl, rfl, h4, r4⟩ := trodAll_cons r3
  obtain ⟨rfl, rfl, rfl⟩ := trodAll_nil r4
  obtain rfl : args = #[v0, v1, v2, v3, v4] := by cases args; simp_all
  obtain ⟨rfl, rfl⟩ := trodVars_none hV
  have k0 := h0
  have lt0 : ∀ x ∈ p0, x.block < W.heap.size := by obtain ⟨m, hm⟩ := k0; exact DataW.trod_lt m _ _ _ hm
  obtain ⟨a0, len0, cap0, rfl⟩ := okWide_slice Try.underlying34 (hval 0 34 v0 rfl rfl)
  obtain ⟨its0, w0⟩ := open_tis h0
  obtain ⟨a1, rfl, rfl, rfl, w1⟩ := open_int Try.underlying2 (hval 1 2 v1 rfl rfl) h1
  obtain ⟨a2, rfl, rfl, rfl, w2⟩ := open_int Try.underlying2 (hval 2 2 v2 rfl rfl) h2
  obtain ⟨a3, rfl, rfl, rfl, w3⟩ := open_int Try.underlying3 (hval 3 3 v3 rfl rfl) h3
  obtain ⟨a4, rfl, rfl, rfl, w4⟩ := open_int Try.underlying3 (hval 4 3 v4 rfl rfl) h4
  clear hA0 hval0
  refine (walk a0 len0 cap0 its0 a1 a2 a3 a4 W w0 w1 w2 w3 w4).mono fun e W' ⟨he, bel⟩ => ?_
  subst he
  exact ⟨_, rfl, _, _, _, [], _, [], hW', trodAll_mk1 (shut_bool Try.underlying4 _), (trodAll_cons_mk (Below.trod laidOut (by kernel_rfl) (of_decide_eq_true (by kernel_rfl)) k0 bel lt0) (trodAll_cons_mk (shut_int Try.underlying2 w1) (trodAll_cons_mk (shut_int Try.underlying2 w2) (trodAll_cons_mk (shut_int Try.underlying3 w3) (trodAll_cons_mk (shut_int Try.underlying3 w4) trodAll_mk0))))), rfl, bel.frame _, fun h => by cases h⟩

theorem over : Rows.feesCostRow.holds Try.pinned (OpenSpec.ofChange Rows.feesCostSpec) :=
  OpenClaim.holds_of_wide 7 Try.f7 rfl rfl rfl rfl rfl rfl rfl ⟨rfl, rfl, rfl, rfl, rfl⟩ rfl rfl rfl rfl rfl (by kernel_rfl) Try.func7 (by kernel_rfl)
    (of_decide_eq_true (by kernel_rfl)) (by unfold Func.isWrapper; first | (rw [if_pos (by decide +kernel)]; kernel_rfl) | (rw [if_neg (by decide +kernel)]; exact ⟨rfl, rfl⟩))
    (fun os started H enc _ => lifted os started H enc)

theorem proved : Rows.FeesCostSaid := over
end Go.Proofs.Ytghpafbgjbhohaa.feesCost
