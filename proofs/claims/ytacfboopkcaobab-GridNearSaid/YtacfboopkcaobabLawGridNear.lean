/-
  GridNear: for every input the law returns true, and each argument reads behind the call as it read before. No condition.
-/
import Derived.Test.YtacfboopkcaobabRows
import Derived.WalkKit
import Derived.ProofKit
import Derived.OpenShut
import Derived.ShutString
import Derived.ChangeOld
import Derived.Below
import Derived.Carry
import Derived.Test.YtacfboopkcaobabGrH
namespace Go.Proofs.Ytacfboopkcaobab.gridNear
open Go.ChangeShapes Go.WideShapes Go.ChangeAt Go.RowKit
open Go.ChangeMaps (open_string shut_string)
set_option linter.unusedVariables false

theorem own : ownKnob Try.prog.godebug = none := by kernel_rfl
theorem laidOut : laidOutB Try.prog = true := by kernel_rfl

/-- A slice of bytes that came in, as the form reads it. -/
def IsRow (w : World) (a : Option Addr) (len cap : Nat) (zs : List Int) : Prop :=
  (a = none ∧ len = 0 ∧ cap = 0 ∧ zs = []) ∨ ∃ x, a = some x ∧ len ≤ cap ∧ cap ≤ maxLen ∧ zs.length = cap ∧ (∀ i, i < zs.length → w.cell? (x.add i) = some (.int .u8 (zs.getD i 0))) ∧ ∀ n ∈ zs, (Lit.int .u8 n).wf = true

set_option maxHeartbeats 8000000 in
set_option maxRecDepth 100000 in
theorem walk (a0 : Option Addr) (len0 cap0 : Nat) (its0 : List Tk) (a1 : Int) (w : World) (w0 : Tks w a0 len0 its0 ∧ len0 ≤ cap0 ∧ cap0 ≤ maxLen) (w1 : (Lit.int .i64 a1).wf = true) :
    Calls Try.prog 7 #[.slice a0 len0 cap0, .int .i64 a1] w fun e w' => e = .returned (.bool true) ∧ Below w.heap.size w w' := by
  have HT := Lib.hid w0.1
  have HD := Lib.hid (down_c a1 a0 len0 cap0 its0 w w0.1)
  have HU := Lib.hid (fun (W : World) (h : Below w.heap.size w W) => up_c a1 a0 len0 cap0 its0 W (w0.1.below h))
  have HO := Lib.hid (fun (p : Int) (W : World) (h : Below w.heap.size w W) => on_c p a0 len0 cap0 its0 W (w0.1.below h))
  have HC := Lib.hid (fun (l h : Int) (W : World) (hW : Below w.heap.size w W) => count_c l h a0 len0 cap0 its0 W (w0.1.below hW))
  clear w0 w1
  cases hon : onN its0 a1
  · have ho1 := off_dn hon
    have ho2 := off_up hon
    have ho3 := off_both hon
    obtain ⟨A, hA⟩ : ∃ A, A = downN its0 a1 := ⟨_, rfl⟩
    obtain ⟨B, hB⟩ : ∃ B, B = upN its0 a1 := ⟨_, rfl⟩
    rw [← hA] at HD ho1 ho3
    rw [← hB] at HU ho2 ho3
    have HO0 := Lib.hid (HO.out a1)
    rw [hon] at HO0
    clear hA hB hon
    cases hd : downB its0 a1 <;> cases hu : upB its0 a1
    · rw [hd] at HD
      rw [hu] at HU
      clear hd hu ho1 ho2 ho3 HO HC
      go_enter Try.func7, Try.ntmps7
      go_wp2_with fail
      ((with_reducible refine HD.out.mono ?_); rintro e w1 ⟨rfl, b1⟩)
      have N := Lib.hid (HU.out w1 b1)
      have B1 := Lib.hid b1
      clear b1 HD HU
      go_wp2_with fail
      ((with_reducible refine N.out.mono ?_); rintro e w2 ⟨rfl, b2⟩)
      have B2 : Hid (Below w.heap.size w w2) := B1.out.trans (b2.mono B1.out.size)
      have N2 := Lib.hid (HO0.out w2 B2.out)
      clear b2 N B1 HO0
      go_wp2_with fail
      ((with_reducible refine N2.out.mono ?_); rintro e w3 ⟨rfl, b3⟩)
      have B3 : Hid (Below w.heap.size w w3) := B2.out.trans (b3.mono B2.out.size)
      clear b3 N2 B2
      go_wp2_with fail
      ((with_reducible refine (lives6_c _).mono ?_); rintro e w4 ⟨rfl, b4⟩)
      have B4 : Hid (Below w.heap.size w w4) := B3.out.trans (b4.mono B3.out.size)
      clear b4 B3
      go_wp2_with fail
      go_ret
      exact ⟨rfl, B4.out⟩
    · obtain ⟨hb1, hb2⟩ := ho2 hu
      have HOB := Lib.hid (HO.out B)
      rw [hb2] at HOB
      rw [hd] at HD
      rw [hu] at HU
      clear hd hu ho1 ho2 ho3 HO HC hb2
      go_enter Try.func7, Try.ntmps7
      go_wp2_with fail
      ((with_reducible refine HD.out.mono ?_); rintro e w1 ⟨rfl, b1⟩)
      have N := Lib.hid (HU.out w1 b1)
      have B1 := Lib.hid b1
      clear b1 HD HU
      go_wp2_with fail
      ((with_reducible refine N.out.mono ?_); rintro e w2 ⟨rfl, b2⟩)
      have B2 : Hid (Below w.heap.size w w2) := B1.out.trans (b2.mono B1.out.size)
      have N2 := Lib.hid (HO0.out w2 B2.out)
      clear b2 N B1 HO0
      go_wp2_with fail
      ((with_reducible refine N2.out.mono ?_); rintro e w3 ⟨rfl, b3⟩)
      have B3 : Hid (Below w.heap.size w w3) := B2.out.trans (b3.mono B2.out.size)
      have N3 := Lib.hid (HOB.out w3 B3.out)
      clear b3 N2 B2 HOB
      go_wp2_with fail
      ((with_reducible refine N3.out.mono ?_); rintro e w4 ⟨rfl, b4⟩)
      have B4 : Hid (Below w.heap.size w w4) := B3.out.trans (b4.mono B3.out.size)
      clear b4 N3 B3
      go_wp2_with fail
      ((with_reducible refine (lives6_c _).mono ?_); rintro e w5 ⟨rfl, b5⟩)
      have B5 : Hid (Below w.heap.size w w5) := B4.out.trans (b5.mono B4.out.size)
      clear b5 B4
      go_wp2_with fail
      go_ret
      exact ⟨rfl, B5.out⟩
    · obtain ⟨ha1, ha2⟩ := ho1 hd
      have HOA := Lib.hid (HO.out A)
      rw [ha2] at HOA
      rw [hd] at HD
      rw [hu] at HU
      clear hd hu ho1 ho2 ho3 HO HC ha2
      go_enter Try.func7, Try.ntmps7
      go_wp2_with fail
      ((with_reducible refine HD.out.mono ?_); rintro e w1 ⟨rfl, b1⟩)
      have N := Lib.hid (HU.out w1 b1)
      have B1 := Lib.hid b1
      clear b1 HD HU
      go_wp2_with fail
      ((with_reducible refine N.out.mono ?_); rintro e w2 ⟨rfl, b2⟩)
      have B2 : Hid (Below w.heap.size w w2) := B1.out.trans (b2.mono B1.out.size)
      have N2 := Lib.hid (HO0.out w2 B2.out)
      clear b2 N B1 HO0
      go_wp2_with fail
      ((with_reducible refine N2.out.mono ?_); rintro e w3 ⟨rfl, b3⟩)
      have B3 : Hid (Below w.heap.size w w3) := B2.out.trans (b3.mono B2.out.size)
      have N3 := Lib.hid (HOA.out w3 B3.out)
      clear b3 N2 B2 HOA
      go_wp2_with fail
      ((with_reducible refine N3.out.mono ?_); rintro e w4 ⟨rfl, b4⟩)
      have B4 : Hid (Below w.heap.size w w4) := B3.out.trans (b4.mono B3.out.size)
      clear b4 N3 B3
      go_wp2_with fail
      ((with_reducible refine (lives6_c _).mono ?_); rintro e w5 ⟨rfl, b5⟩)
      have B5 : Hid (Below w.heap.size w w5) := B4.out.trans (b5.mono B4.out.size)
      clear b5 B4
      go_wp2_with fail
      go_ret
      exact ⟨rfl, B5.out⟩
    · obtain ⟨ha1, ha2⟩ := ho1 hd
      obtain ⟨hb1, hb2⟩ := ho2 hu
      have HOA := Lib.hid (HO.out A)
      rw [ha2] at HOA
      have HOB := Lib.hid (HO.out B)
      rw [hb2] at HOB
      have HCC := Lib.hid (HC.out A B)
      rw [ho3 hd hu] at HCC
      rw [hd] at HD
      rw [hu] at HU
      clear hd hu ho1 ho2 ho3 HO HC ha2 hb2
      go_enter Try.func7, Try.ntmps7
      go_wp2_with fail
      ((with_reducible refine HD.out.mono ?_); rintro e w1 ⟨rfl, b1⟩)
      have N := Lib.hid (HU.out w1 b1)
      have B1 := Lib.hid b1
      clear b1 HD HU
      go_wp2_with fail
      ((with_reducible refine N.out.mono ?_); rintro e w2 ⟨rfl, b2⟩)
      have B2 : Hid (Below w.heap.size w w2) := B1.out.trans (b2.mono B1.out.size)
      have N2 := Lib.hid (HO0.out w2 B2.out)
      clear b2 N B1 HO0
      go_wp2_with fail
      ((with_reducible refine N2.out.mono ?_); rintro e w3 ⟨rfl, b3⟩)
      have B3 : Hid (Below w.heap.size w w3) := B2.out.trans (b3.mono B2.out.size)
      have N3 := Lib.hid (HOA.out w3 B3.out)
      clear b3 N2 B2 HOA
      go_wp2_with fail
      ((with_reducible refine N3.out.mono ?_); rintro e w4 ⟨rfl, b4⟩)
      have B4 : Hid (Below w.heap.size w w4) := B3.out.trans (b4.mono B3.out.size)
      have N4 := Lib.hid (HOB.out w4 B4.out)
      clear b4 N3 B3 HOB
      go_wp2_with fail
      ((with_reducible refine N4.out.mono ?_); rintro e w5 ⟨rfl, b5⟩)
      have B5 : Hid (Below w.heap.size w w5) := B4.out.trans (b5.mono B4.out.size)
      have N5 := Lib.hid (HCC.out w5 B5.out)
      clear b5 N4 B4 HCC
      go_wp2_with fail
      ((with_reducible refine N5.out.mono ?_); rintro e w6 ⟨rfl, b6⟩)
      have B6 : Hid (Below w.heap.size w w6) := B5.out.trans (b6.mono B5.out.size)
      clear b6 N5 B5
      go_wp2_with fail
      ((with_reducible refine (lives6_c _).mono ?_); rintro e w7 ⟨rfl, b7⟩)
      have B7 : Hid (Below w.heap.size w w7) := B6.out.trans (b7.mono B6.out.size)
      clear b7 B6
      go_wp2_with fail
      go_ret
      exact ⟨rfl, B7.out⟩
  · obtain ⟨h1, h2, h3, h4, h5⟩ := on_all hon
    have HO0 := Lib.hid (HO.out a1)
    rw [hon] at HO0
    have HCC := Lib.hid (HC.out a1 a1)
    rw [h5] at HCC
    rw [h1, h2] at HD
    rw [h3, h4] at HU
    clear h1 h2 h3 h4 h5 hon HO HC
    go_enter Try.func7, Try.ntmps7
    go_wp2_with fail
    ((with_reducible refine HD.out.mono ?_); rintro e w1 ⟨rfl, b1⟩)
    have N := Lib.hid (HU.out w1 b1)
    have B1 := Lib.hid b1
    clear b1 HD HU
    go_wp2_with fail
    ((with_reducible refine N.out.mono ?_); rintro e w2 ⟨rfl, b2⟩)
    have B2 : Hid (Below w.heap.size w w2) := B1.out.trans (b2.mono B1.out.size)
    have N2 := Lib.hid (HO0.out w2 B2.out)
    clear b2 N B1 HO0
    go_wp2_with fail
    ((with_reducible refine N2.out.mono ?_); rintro e w3 ⟨rfl, b3⟩)
    have B3 : Hid (Below w.heap.size w w3) := B2.out.trans (b3.mono B2.out.size)
    have N3 := Lib.hid (HCC.out w3 B3.out)
    clear b3 N2 B2 HCC
    go_wp2_with fail
    ((with_reducible refine N3.out.mono ?_); rintro e w4 ⟨rfl, b4⟩)
    have B4 : Hid (Below w.heap.size w w4) := B3.out.trans (b4.mono B3.out.size)
    clear b4 N3 B3
    go_wp2_with fail
    ((with_reducible refine (lives6_c _).mono ?_); rintro e w5 ⟨rfl, b5⟩)
    have B5 : Hid (Below w.heap.size w w5) := B4.out.trans (b5.mono B4.out.size)
    clear b5 B4
    go_wp2_with fail
    go_ret
    exact ⟨rfl, B5.out⟩

set_option maxRecDepth 100000 in
theorem lifted (os : Os) (started : os.Started) (H : Type) (enc : TypeId × Value → H) :
    ReturnsInHanded {} Try.checked os 7 .any (Rows.gridNearSpec.pre6 enc Try.prog Try.f7 Rows.gridNearRow.domain false) (Rows.gridNearSpec.post enc Try.prog Try.f7 false true false false) := by
  refine returnsInHanded_of_change (C := Try.checked) own started (by kernel_rfl) Try.func7
    (ChangeSpec.witness6 (enc := enc) (C := Try.checked) false ⟨#[], #[.slice none 0 0, .int .i64 0], []⟩ 8 (by kernel_rfl) (by kernel_rfl) (by kernel_rfl) (by kernel_rfl)) ?_
  intro W base args ds gs before hval0 hW hcnd _
  have hval : ∀ (j : Nat) t v, Try.f7.params[j]? = some t → args[j]? = some v → Value.okWide Try.prog W .any base t v := hval0
  have hW' := hW
  obtain ⟨p, q, hA0, hV, rfl, hfz, hnd⟩ := hW
  have hA : DataW.TrodAll enc Try.prog W 0 (fun _ => true) true Try.f7.params.toList args.toList ds p := hA0
  rw [Try.params7] at hA hval
  obtain ⟨v0, vs0, d0, ds0, p0, q0, hargs, rfl, rfl, h0, r0⟩ := trodAll_cons hA
  obtain ⟨v1, vs1, d1, ds1, p1, q1, rfl, rfl, rfl, h1, r1⟩ := trodAll_cons r0
  obtain ⟨rfl, rfl, rfl⟩ := trodAll_nil r1
  obtain rfl : args = #[v0, v1] := by cases args; simp_all
  obtain ⟨rfl, rfl⟩ := trodVars_none hV
  have k0 := h0
  have lt0 : ∀ x ∈ p0, x.block < W.heap.size := by obtain ⟨m, hm⟩ := k0; exact DataW.trod_lt m _ _ _ hm
  obtain ⟨a0, len0, cap0, rfl⟩ := okWide_slice Try.underlying42 (hval 0 42 v0 rfl rfl)
  obtain ⟨its0, w0⟩ := open_tks h0
  obtain ⟨a1, rfl, rfl, rfl, w1⟩ := open_int Try.underlying2 (hval 1 2 v1 rfl rfl) h1
  clear hA0 hval0
  refine (walk a0 len0 cap0 its0 a1 W w0 w1).mono fun e W' ⟨he, bel⟩ => ?_
  subst he
  exact ⟨_, rfl, _, _, _, [], _, [], hW', trodAll_mk1 (shut_bool Try.underlying4 _), (trodAll_cons_mk (Below.trod laidOut (by kernel_rfl) (of_decide_eq_true (by kernel_rfl)) k0 bel lt0) (trodAll_cons_mk (shut_int Try.underlying2 w1) trodAll_mk0)), rfl, bel.frame _, fun h => by cases h⟩

theorem over : Rows.gridNearRow.holds Try.pinned (OpenSpec.ofChange Rows.gridNearSpec) :=
  OpenClaim.holds_of_wide 7 Try.f7 rfl rfl rfl rfl rfl rfl rfl ⟨rfl, rfl, rfl, rfl, rfl⟩ rfl rfl rfl rfl rfl (by kernel_rfl) Try.func7 (by kernel_rfl)
    (of_decide_eq_true (by kernel_rfl)) (by unfold Func.isWrapper; first | (rw [if_pos (by decide +kernel)]; kernel_rfl) | (rw [if_neg (by decide +kernel)]; exact ⟨rfl, rfl⟩))
    (fun os started H enc _ => lifted os started H enc)

theorem proved : Rows.GridNearSaid := over
end Go.Proofs.Ytacfboopkcaobab.gridNear
