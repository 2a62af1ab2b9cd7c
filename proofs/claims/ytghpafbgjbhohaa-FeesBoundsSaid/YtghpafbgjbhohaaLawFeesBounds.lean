/-
  FeesBounds: for every input the law returns true, and each argument reads behind the call as it read before. No condition.
-/
import Derived.Test.YtghpafbgjbhohaaRows
import Derived.WalkKit
import Derived.ProofKit
import Derived.OpenShut
import Derived.ShutString
import Derived.ChangeOld
import Derived.Below
import Derived.Carry
import Derived.Test.YtghpafbgjbhohaaFeL
namespace Go.Proofs.Ytghpafbgjbhohaa.feesBounds
open Go.ChangeShapes Go.WideShapes Go.ChangeAt Go.RowKit
open Go.ChangeMaps (open_string shut_string)
set_option linter.unusedVariables false

theorem own : ownKnob Try.prog.godebug = none := by kernel_rfl
theorem laidOut : laidOutB Try.prog = true := by kernel_rfl

/-- A slice of bytes that came in, as the form reads it. -/
def IsRow (w : World) (a : Option Addr) (len cap : Nat) (zs : List Int) : Prop :=
  (a = none ∧ len = 0 ∧ cap = 0 ∧ zs = []) ∨ ∃ x, a = some x ∧ len ≤ cap ∧ cap ≤ maxLen ∧ zs.length = cap ∧ (∀ i, i < zs.length → w.cell? (x.add i) = some (.int .u8 (zs.getD i 0))) ∧ ∀ n ∈ zs, (Lit.int .u8 n).wf = true

set_option maxHeartbeats 8000000 in
set_option maxRecDepth 100000 in
theorem walk (a0 : Option Addr) (len0 cap0 : Nat) (its0 : List Ti) (a1 : Int) (a2 : Int) (a3 : Int) (a4 : Int) (a5 : Int) (w : World) (w0 : Tis w a0 len0 its0 ∧ len0 ≤ cap0 ∧ cap0 ≤ maxLen) (w1 : (Lit.int .i64 a1).wf = true) (w2 : (Lit.int .i64 a2).wf = true) (w3 : (Lit.int .i64 a3).wf = true) (w4 : (Lit.int .i64 a4).wf = true) (w5 : (Lit.int .i64 a5).wf = true) :
    Calls Try.prog 8 #[.slice a0 len0 cap0, .int .i64 a1, .int .i64 a2, .int .i64 a3, .int .i64 a4, .int .i64 a5] w fun e w' => e = .returned (.bool true) ∧ Below w.heap.size w w' := by
  have O0 := Lib.hid (of_c a1 a2 a4 a5 a0 len0 cap0 its0 w w0.1)
  have O1 := Lib.hid (fun (W : World) (hW : Below w.heap.size w W) => of_c a1 a3 a4 a5 a0 len0 cap0 its0 W (w0.1.below hW))
  have HTo := Lib.hid (fun (W : World) (hW : Below w.heap.size w W) => top_c a0 len0 cap0 its0 W (w0.1.below hW))
  have F0 := Lib.hid (fee_c a2 (topT its0) a5)
  have hcase : (¬ ofE its0 a1 a2 a4 a5 = 0 ∧ ofN its0 a1 a2 a4 a5 = 0) ∨ (ofE its0 a1 a2 a4 a5 = 0 ∧ 0 ≤ ofN its0 a1 a2 a4 a5 ∧ ofN its0 a1 a2 a4 a5 ≤ a2 ∧ feeE a2 (topT its0) a5 = 0 ∧ ofN its0 a1 a2 a4 a5 ≤ feeN a2 (topT its0) a5 ∧
      (a3 < a2 ∨ (a2 ≤ a3 ∧ 4611686018427387904 < a3) ∨ (a2 ≤ a3 ∧ a3 ≤ 4611686018427387904 ∧ ofE its0 a1 a3 a4 a5 = 0 ∧ ofN its0 a1 a2 a4 a5 ≤ ofN its0 a1 a3 a4 a5))) := by
    by_cases h : ofE its0 a1 a2 a4 a5 = 0
    · right
      obtain ⟨h1, h2, h3, h4, h5⟩ := of_bounds (more := a3) h
      refine ⟨h, h1, h2, h3, h4, ?_⟩
      by_cases c1 : a3 < a2
      · exact .inl c1
      · by_cases c2 : 4611686018427387904 < a3
        · exact .inr (.inl ⟨by omega, c2⟩)
        · exact .inr (.inr ⟨by omega, by omega, h5 (by omega) (by omega)⟩)
    · exact .inl ⟨h, of_zero h⟩
  obtain ⟨x, hx⟩ : ∃ x, x = ofN its0 a1 a2 a4 a5 := ⟨_, rfl⟩
  obtain ⟨y, hy⟩ : ∃ x, x = ofE its0 a1 a2 a4 a5 := ⟨_, rfl⟩
  obtain ⟨x2, hx2⟩ : ∃ x, x = ofN its0 a1 a3 a4 a5 := ⟨_, rfl⟩
  obtain ⟨y2, hy2⟩ : ∃ x, x = ofE its0 a1 a3 a4 a5 := ⟨_, rfl⟩
  obtain ⟨tp, htp⟩ : ∃ x, x = topT its0 := ⟨_, rfl⟩
  rw [← htp] at HTo F0 hcase
  obtain ⟨u, hu⟩ : ∃ x, x = feeN a2 tp a5 := ⟨_, rfl⟩
  obtain ⟨v, hv⟩ : ∃ x, x = feeE a2 tp a5 := ⟨_, rfl⟩
  rw [← hx, ← hy] at O0 hcase
  rw [← hx2, ← hy2] at O1 hcase
  rw [← hu, ← hv] at F0 hcase
  clear hx hy hx2 hy2 htp hu hv w0 w1 w2 w3 w4 w5
  rcases hcase with ⟨g1, rfl⟩ | ⟨rfl, g1, g2, rfl, g3, g4⟩
  · have e1 : (y == 0) = false := by simp [g1]
    have e2 : (y != 0) = true := by simp [g1]
    clear g1 O1 HTo F0
    go_enter Try.func8, Try.ntmps8
    go_wp2_with fail
    ((with_reducible refine O0.out.mono ?_); rintro e w1 ⟨rfl, b1⟩)
    have B1 := Lib.hid b1
    clear b1 O0
    go_wp2_with fail
    ((with_reducible refine (lives8_c _).mono ?_); rintro e w2 ⟨rfl, b2⟩)
    have B2 : Hid (Below w.heap.size w w2) := B1.out.trans (b2.mono B1.out.size)
    clear b2 B1
    go_wp2_with fail
    go_ret
    exact ⟨rfl, B2.out⟩
  · have hx : ∀ P : Prop, (a3 < a2 → P) → (a2 ≤ a3 → 4611686018427387904 < a3 → P) → (a2 ≤ a3 → a3 ≤ 4611686018427387904 → y2 = 0 → x ≤ x2 → P) → P := fun P p1 p2 p3 => by
      rcases g4 with h | ⟨h1, h2⟩ | ⟨h1, h2, h3, h4⟩
      · exact p1 h
      · exact p2 h1 h2
      · exact p3 h1 h2 h3 h4
    clear g4
    have d1 : decide (x < 0) = false := decide_eq_false (by omega)
    have d2 : decide (a2 < x) = false := decide_eq_false (by omega)
    have d3 : decide (u < x) = false := decide_eq_false (by omega)
    refine hx _ (fun f1 => ?_) (fun f1 f2 => ?_) (fun f1 f2 f3 f4 => ?_)
    all_goals
      clear hx
      try subst y2
      go_enter Try.func8, Try.ntmps8
      go_wp2_with fail
      ((with_reducible refine O0.out.mono ?_); rintro e w1 ⟨rfl, b1⟩)
      have B1 := Lib.hid b1
      have N1 := Lib.hid (HTo.out w1 b1)
      clear b1 O0 HTo
      go_wp2_with fail
      ((with_reducible refine N1.out.mono ?_); rintro e w2 ⟨rfl, b2⟩)
      have B2 : Hid (Below w.heap.size w w2) := B1.out.trans (b2.mono B1.out.size)
      clear b2 N1 B1
      go_wp2_with fail
      ((with_reducible refine (F0.out _).mono ?_); rintro e w3 ⟨rfl, b3⟩)
      have B3 : Hid (Below w.heap.size w w3) := B2.out.trans (b3.mono B2.out.size)
      have N3 := Lib.hid (O1.out w3 B3.out)
      clear b3 F0 B2 O1
    · clear N3
      go_wp2_with fail
      ((with_reducible refine (lives8_c _).mono ?_); rintro e w4 ⟨rfl, b4⟩)
      have B4 : Hid (Below w.heap.size w w4) := B3.out.trans (b4.mono B3.out.size)
      clear b4 B3
      go_wp2_with fail
      go_ret
      exact ⟨rfl, B4.out⟩
    · clear N3
      go_wp2_with fail
      ((with_reducible refine (lives8_c _).mono ?_); rintro e w4 ⟨rfl, b4⟩)
      have B4 : Hid (Below w.heap.size w w4) := B3.out.trans (b4.mono B3.out.size)
      clear b4 B3
      go_wp2_with fail
      go_ret
      exact ⟨rfl, B4.out⟩
    · go_wp2_with fail
      ((with_reducible refine N3.out.mono ?_); rintro e w4 ⟨rfl, b4⟩)
      have B4 : Hid (Below w.heap.size w w4) := B3.out.trans (b4.mono B3.out.size)
      clear b4 B3 N3
      go_wp2_with fail
      ((with_reducible refine (lives8_c _).mono ?_); rintro e w5 ⟨rfl, b5⟩)
      have B5 : Hid (Below w.heap.size w w5) := B4.out.trans (b5.mono B4.out.size)
      clear b5 B4
      go_wp2_with fail
      go_ret
      exact ⟨rfl, B5.out⟩

set_option maxRecDepth 100000 in
theorem lifted (os : Os) (started : os.Started) (H : Type) (enc : TypeId × Value → H) :
    ReturnsInHanded {} Try.checked os 8 .any (Rows.feesBoundsSpec.pre6 enc Try.prog Try.f8 Rows.feesBoundsRow.domain false) (Rows.feesBoundsSpec.post enc Try.prog Try.f8 false true false false) := by
  refine returnsInHanded_of_change (C := Try.checked) own started (by kernel_rfl) Try.func8
    (ChangeSpec.witness6 (enc := enc) (C := Try.checked) false ⟨#[], #[.slice none 0 0, .int .i64 0, .int .i64 0, .int .i64 0, .int .i64 0, .int .i64 0], []⟩ 8 (by kernel_rfl) (by kernel_rfl) (by kernel_rfl) (by kernel_rfl)) ?_
  intro W base args ds gs before hval0 hW hcnd _
  have hval : ∀ (j : Nat) t v, Try.f8.params[j]? = some t → args[j]? = some v → Value.okWide Try.prog W .any base t v := hval0
  have hW' := hW
  obtain ⟨p, q, hA0, hV, rfl, hfz, hnd⟩ := hW
  have hA : DataW.TrodAll enc Try.prog W 0 (fun _ => true) true Try.f8.params.toList args.toList ds p := hA0
  rw [Try.params8] at hA hval
  obtain ⟨v0, vs0, d0, ds0, p0, q0, hargs, rfl, rfl, h0, r0⟩ := trodAll_cons hA
  obtain ⟨v1, vs1, d1, ds1, p1, q1, rfl, rfl, rfl, h1, r1⟩ := trodAll_cons r0
  obtain ⟨v2, vs2, d2, ds2, p2, q2, rfl, rfl, rfl, h2, r2⟩ := trodAll_cons r1
  obtain ⟨v3, vs3, d3, ds3, p3, q3, rfl, rfl, rfl, h3, r3⟩ := trodAll_cons r2
  obtain ⟨v4, vs4, d4, ds4, p4, q4, rfl, rfl, rfl, h4, r4⟩ := trodAll_cons r3
  obtain ⟨v5, vs5, d5, ds5, p5, q5, rfl, rfl, rfl, h5, r5⟩ := trodAll_cons r4
  obtain ⟨rfl, rfl, rfl⟩ := trodAll_nil r5
  obtain rfl : args = #[v0, v1, v2, v3, v4, v5] := by cases args; simp_all
  obtain ⟨rfl, rfl⟩ := trodVars_none hV
  have k0 := h0
  have lt0 : ∀ x ∈ p0, x.block < W.heap.size := by obtain ⟨m, hm⟩ := k0; exact DataW.trod_lt m _ _ _ hm
  obtain ⟨a0, len0, cap0, rfl⟩ := okWide_slice Try.underlying34 (hval 0 34 v0 rfl rfl)
  obtain ⟨its0, w0⟩ := open_tis h0
  obtain ⟨a1, rfl, rfl, rfl, w1⟩ := open_int Try.underlying2 (hval 1 2 v1 rfl rfl) h1
  obtain ⟨a2, rfl, rfl, rfl, w2⟩ := open_int Try.underlying2 (hval 2 2 v2 rfl rfl) h2
  obtain ⟨a3, rfl, rfl, rfl, w3⟩ := open_int Try.underlying2 (hval 3 2 v3 rfl rfl) h3
  obtain ⟨a4, rfl, rfl, rfl, w4⟩ := open_int Try.underlying3 (hval 4 3 v4 rfl rfl) h4
  obtain ⟨a5, rfl, rfl, rfl, w5⟩ := open_int Try.underlying3 (hval 5 3 v5 rfl rfl) h5
  clear hA0 hval0
  refine (walk a0 len0 cap0 its0 a1 a2 a3 a4 a5 W w0 w1 w2 w3 w4 w5).mono fun e W' ⟨he, bel⟩ => ?_
  subst he
  exact ⟨_, rfl, _, _, _, [], _, [], hW', trodAll_mk1 (shut_bool Try.underlying4 _), (trodAll_cons_mk (Below.trod laidOut (by kernel_rfl) (of_decide_eq_true (by kernel_rfl)) k0 bel lt0) (trodAll_cons_mk (shut_int Try.underlying2 w1) (trodAll_cons_mk (shut_int Try.underlying2 w2) (trodAll_cons_mk (shut_int Try.underlying2 w3) (trodAll_cons_mk (shut_int Try.underlying3 w4) (trodAll_cons_mk (shut_int Try.underlying3 w5) trodAll_mk0)))))), rfl, bel.frame _, fun h => by cases h⟩

theorem over : Rows.feesBoundsRow.holds Try.pinned (OpenSpec.ofChange Rows.feesBoundsSpec) :=
  OpenClaim.holds_of_wide 8 Try.f8 rfl rfl rfl rfl rfl rfl rfl ⟨rfl, rfl, rfl, rfl, rfl⟩ rfl rfl rfl rfl rfl (by kernel_rfl) Try.func8 (by kernel_rfl)
    (of_decide_eq_true (by kernel_rfl)) (by unfold Func.isWrapper; first | (rw [if_pos (by decide +kernel)]; kernel_rfl) | (rw [if_neg (by decide +kernel)]; exact ⟨rfl, rfl⟩))
    (fun os started H enc _ => lifted os started H enc)

theorem proved : Rows.FeesBoundsSaid := over
end Go.Proofs.Ytghpafbgjbhohaa.feesBounds
