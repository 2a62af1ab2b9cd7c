/-
  CoinNear: for every input the law returns true, and each argument reads behind the call as it read before. No condition.
  (The frame is the kit's shell of a proof, by program; the walk is mine.)
-/
import Derived.Test.YtoechhbdpkjppabRows
import Derived.WalkKit
import Derived.ProofKit
import Derived.OpenShut
import Derived.ChangeOld
import Derived.Below
import Derived.Test.YtoechhbdpkjppabCoinN
import Derived.ShutString
namespace Go.Proofs.Ytoechhbdpkjppab.coinNear
open Go.ChangeShapes Go.WideShapes Go.ChangeAt Go.RowKit
open Go.ChangeMaps (open_string shut_string)
set_option linter.unusedVariables false      -- a walk need not use every 'w<i>' (that an integer argument fits its kind)

theorem own : ownKnob Try.prog.godebug = none := by kernel_rfl

/-! ### STEP 1: THE WALK: the Go text returns true. 'Grown w w'': the world has at most new blocks (Derived/RowKit3.lean). Part the cases AHEAD of 'go_enter' where a test parts the walk; take each callee by a contract of your own. -/
set_option maxHeartbeats 4000000 in
set_option maxRecDepth 100000 in
theorem walk (a0 : Int) (a1 : Int) (a2 : Int) (w0 : (Lit.int .i64 a0).wf = true) (w1 : (Lit.int .i64 a1).wf = true) (w2 : (Lit.int .i64 a2).wf = true) (w : World) :
    Calls Try.prog 7 #[.int .i64 a0, .int .i64 a1, .int .i64 a2] w fun e w' => e = .returned (.bool true) ∧ Below w.heap.size w w' := by
  have Hx : Hid (InR a0) := bounds_i64 w0
  have Hy : Hid (InR a1) := bounds_i64 w1
  have Hz : Hid (InR a2) := bounds_i64 w2
  clear w0 w1 w2
  obtain ⟨x, hx⟩ : ∃ x, x = dv a0 a1 a2 1 := ⟨_, rfl⟩
  obtain ⟨e, he⟩ : ∃ e, e = de a0 a1 a2 1 := ⟨_, rfl⟩
  obtain ⟨y, hy⟩ : ∃ y, y = dv a0 a1 a2 2 := ⟨_, rfl⟩
  obtain ⟨f, hf⟩ : ∃ f, f = de a0 a1 a2 2 := ⟨_, rfl⟩
  obtain ⟨z, hz⟩ : ∃ z, z = dv a0 a1 a2 3 := ⟨_, rfl⟩
  obtain ⟨g, hg⟩ : ∃ g, g = de a0 a1 a2 3 := ⟨_, rfl⟩
  have hnear := near_of hx he hy hf hz hg
  have D1 : Hid (∀ w, Calls Try.prog 15 #[.int .i64 a0, .int .i64 a1, .int .i64 a2, .int .i64 1] w fun e' w' => e' = .returned (.tuple #[.int .i64 x, .int .i64 e]) ∧ Below w.heap.size w w') := by
    rw [hx, he]; exact fun w => Div_any a0 a1 a2 1 Hx.out Hy.out Hz.out w
  have D2 : Hid (∀ w, Calls Try.prog 15 #[.int .i64 a0, .int .i64 a1, .int .i64 a2, .int .i64 2] w fun e' w' => e' = .returned (.tuple #[.int .i64 y, .int .i64 f]) ∧ Below w.heap.size w w') := by
    rw [hy, hf]; exact fun w => Div_any a0 a1 a2 2 Hx.out Hy.out Hz.out w
  have D3 : Hid (∀ w, Calls Try.prog 15 #[.int .i64 a0, .int .i64 a1, .int .i64 a2, .int .i64 3] w fun e' w' => e' = .returned (.tuple #[.int .i64 z, .int .i64 g]) ∧ Below w.heap.size w w') := by
    rw [hz, hg]; exact fun w => Div_any a0 a1 a2 3 Hx.out Hy.out Hz.out w
  have Rx : Hid (InR x) := by rw [hx]; exact dv_in _ _ _ _
  have Ry : Hid (InR y) := by rw [hy]; exact dv_in _ _ _ _
  clear hx he hy hf hz hg
  rcases hnear with hbad | ⟨rfl, rfl, hd0, hd1, rfl, hzz⟩
  · have ht : Hid (e ≠ 0 ∨ f ≠ 0) := hbad
    by_cases he0 : e = 0
    · subst he0
      have hf0 : (f == 0) = false := by have := ht.out; simp; omega
      have hf1 : (f != 0) = true := by have := ht.out; simp; omega
      clear hbad ht
      go_enter Try.func7, Try.ntmps7
      go_wp2_with fail
      ((with_reducible refine (D1.out _).mono ?_); rintro e' u1 ⟨rfl, b1⟩)
      go_wp2_with fail
      ((with_reducible refine (D2.out _).mono ?_); rintro e' u2 ⟨rfl, b2⟩)
      go_wp2_with fail
      ((with_reducible refine (D3.out _).mono ?_); rintro e' u3 ⟨rfl, b3⟩)
      go_wp2_with fail
      ((with_reducible refine (lives_c _).mono ?_); rintro e' u4 ⟨rfl, b4⟩)
      have s1 := b1.size
      have s2 := b2.size
      have s3 := b3.size
      have hB : Below w.heap.size w u4 := ((b1.trans (b2.mono (by omega))).trans (b3.mono (by omega))).trans (b4.mono (by omega))
      clear b1 b2 b3 b4 s1 s2 s3
      go_wp2_with fail
      go_ret
      first | exact ⟨rfl, hB⟩ | exact hB
    · have hf0 : (e == 0) = false := by simp [he0]
      have hf1 : (e != 0) = true := by simp [he0]
      clear hbad ht he0
      go_enter Try.func7, Try.ntmps7
      go_wp2_with fail
      ((with_reducible refine (D1.out _).mono ?_); rintro e' u1 ⟨rfl, b1⟩)
      go_wp2_with fail
      ((with_reducible refine (D2.out _).mono ?_); rintro e' u2 ⟨rfl, b2⟩)
      go_wp2_with fail
      ((with_reducible refine (D3.out _).mono ?_); rintro e' u3 ⟨rfl, b3⟩)
      go_wp2_with fail
      ((with_reducible refine (lives_c _).mono ?_); rintro e' u4 ⟨rfl, b4⟩)
      have s1 := b1.size
      have s2 := b2.size
      have s3 := b3.size
      have hB : Below w.heap.size w u4 := ((b1.trans (b2.mono (by omega))).trans (b3.mono (by omega))).trans (b4.mono (by omega))
      clear b1 b2 b3 b4 s1 s2 s3
      go_wp2_with fail
      go_ret
      first | exact ⟨rfl, hB⟩ | exact hB
  · obtain ⟨d, hd⟩ : ∃ d, d = y - x := ⟨_, rfl⟩
    rw [← hd] at hd0 hd1
    have S1 : Hid (∀ w, Calls Try.prog 9 #[.int .i64 y, .int .i64 x] w fun e' w' => e' = .returned (.tuple #[.int .i64 d, .int .i64 0]) ∧ Below w.heap.size w w') := by
      intro w
      have := Sub_c y x Ry.out Rx.out w
      rw [← hd, tv_in (by unfold InR; omega), te_in (by unfold InR; omega)] at this
      exact this
    clear hd
    by_cases hzx : z = x
    · have hb : (z == x) = true := by simp [hzx]
      clear hzz hzx
      go_enter Try.func7, Try.ntmps7
      go_wp2_with fail
      ((with_reducible refine (D1.out _).mono ?_); rintro e' u1 ⟨rfl, b1⟩)
      go_wp2_with fail
      ((with_reducible refine (D2.out _).mono ?_); rintro e' u2 ⟨rfl, b2⟩)
      go_wp2_with fail
      ((with_reducible refine (D3.out _).mono ?_); rintro e' u3 ⟨rfl, b3⟩)
      go_wp2_with fail
      ((with_reducible refine (S1.out _).mono ?_); rintro e' u4 ⟨rfl, b4⟩)
      go_wp2_with fail
      ((with_reducible refine (lives_c _).mono ?_); rintro e' u5 ⟨rfl, b5⟩)
      have s1 := b1.size
      have s2 := b2.size
      have s3 := b3.size
      have s4 := b4.size
      have hB : Below w.heap.size w u5 := (((b1.trans (b2.mono (by omega))).trans (b3.mono (by omega))).trans (b4.mono (by omega))).trans (b5.mono (by omega))
      clear b1 b2 b3 b4 b5 s1 s2 s3 s4
      go_wp2_with fail
      go_ret
      first | exact ⟨rfl, hB⟩ | exact hB
    · have hb : (z == x) = false := by simp [hzx]
      have hb2 : (z == y) = true := by have : z = y := by omega
                                       simp [this]
      clear hzz hzx
      go_enter Try.func7, Try.ntmps7
      go_wp2_with fail
      ((with_reducible refine (D1.out _).mono ?_); rintro e' u1 ⟨rfl, b1⟩)
      go_wp2_with fail
      ((with_reducible refine (D2.out _).mono ?_); rintro e' u2 ⟨rfl, b2⟩)
      go_wp2_with fail
      ((with_reducible refine (D3.out _).mono ?_); rintro e' u3 ⟨rfl, b3⟩)
      go_wp2_with fail
      ((with_reducible refine (S1.out _).mono ?_); rintro e' u4 ⟨rfl, b4⟩)
      go_wp2_with fail
      ((with_reducible refine (lives_c _).mono ?_); rintro e' u5 ⟨rfl, b5⟩)
      have s1 := b1.size
      have s2 := b2.size
      have s3 := b3.size
      have s4 := b4.size
      have hB : Below w.heap.size w u5 := (((b1.trans (b2.mono (by omega))).trans (b3.mono (by omega))).trans (b4.mono (by omega))).trans (b5.mono (by omega))
      clear b1 b2 b3 b4 b5 s1 s2 s3 s4
      go_wp2_with fail
      go_ret
      first | exact ⟨rfl, hB⟩ | exact hB

/-! ### THE ROW's STEP: WRITTEN OUT: LEAVE IT -/
set_option maxRecDepth 100000 in
theorem lifted (os : Os) (started : os.Started) (H : Type) (enc : TypeId × Value → H) :
    ReturnsInHanded {} Try.checked os 7 .any (Rows.coinNearSpec.pre6 enc Try.prog Try.f7 Rows.coinNearRow.domain false) (Rows.coinNearSpec.post enc Try.prog Try.f7 false true false false) := by
  refine returnsInHanded_of_change (C := Try.checked) own started (by kernel_rfl) Try.func7
    (ChangeSpec.witness6 (enc := enc) (C := Try.checked) false ⟨#[], #[.int .i64 0, .int .i64 0, .int .i64 0], []⟩ 8 (by kernel_rfl) (by kernel_rfl) (by kernel_rfl) (by kernel_rfl)) ?_
  intro W base args ds gs before hval0 hW hcnd _
  have hval : ∀ (j : Nat) t v, Try.f7.params[j]? = some t → args[j]? = some v → Value.okWide Try.prog W .any base t v := hval0
  have hW' := hW
  obtain ⟨p, q, hA0, hV, rfl, hfz, hnd⟩ := hW
  have hA : DataW.TrodAll enc Try.prog W 0 (fun _ => true) true Try.f7.params.toList args.toList ds p := hA0
  rw [Try.params7] at hA hval
  obtain ⟨v0, vs0, d0, ds0, p0, q0, hargs, rfl, rfl, h0, r0⟩ := trodAll_cons hA
  obtain ⟨v1, vs1, d1, ds1, p1, q1, rfl, rfl, rfl, h1, r1⟩ := trodAll_cons r0
  obtain ⟨v2, vs2, d2, ds2, p2, q2, rfl, rfl, rfl, h2, r2⟩ := trodAll_cons r1
  obtain ⟨rfl, rfl, rfl⟩ := trodAll_nil r2
  obtain rfl : args = #[v0, v1, v2] := by cases args; simp_all
  obtain ⟨rfl, rfl⟩ := trodVars_none hV
  obtain ⟨a0, rfl, rfl, rfl, w0⟩ := open_int Try.underlying2 (hval 0 2 v0 rfl rfl) h0
  obtain ⟨a1, rfl, rfl, rfl, w1⟩ := open_int Try.underlying2 (hval 1 2 v1 rfl rfl) h1
  obtain ⟨a2, rfl, rfl, rfl, w2⟩ := open_int Try.underlying2 (hval 2 2 v2 rfl rfl) h2
  clear hA0 hval0
  refine (walk a0 a1 a2 w0 w1 w2 W).mono fun e W' ⟨he, hg⟩ => ?_
  subst he
  exact ⟨_, rfl, _, _, _, [], _, [], hW', trodAll_mk1 (shut_bool Try.underlying4 _), (trodAll_cons_mk (shut_int Try.underlying2 w0) (trodAll_cons_mk (shut_int Try.underlying2 w1) (trodAll_cons_mk (shut_int Try.underlying2 w2) trodAll_mk0))), rfl, hg.frame _, fun h => by cases h⟩

theorem over : Rows.coinNearRow.holds Try.pinned (OpenSpec.ofChange Rows.coinNearSpec) :=
  OpenClaim.holds_of_wide 7 Try.f7 rfl rfl rfl rfl rfl rfl rfl ⟨rfl, rfl, rfl, rfl, rfl⟩ rfl rfl rfl rfl rfl (by kernel_rfl) Try.func7 (by kernel_rfl)
    (of_decide_eq_true (by kernel_rfl)) (by unfold Func.isWrapper; first | (rw [if_pos (by decide +kernel)]; kernel_rfl) | (rw [if_neg (by decide +kernel)]; exact ⟨rfl, rfl⟩))
    (fun os started H enc _ => lifted os started H enc)

/-- ████ THE STATEMENT ████ -/
theorem proved : Rows.CoinNearSaid :=
  over
end Go.Proofs.Ytoechhbdpkjppab.coinNear
