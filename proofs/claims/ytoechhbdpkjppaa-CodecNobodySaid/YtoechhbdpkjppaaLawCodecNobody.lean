/-
  CodecNobody: for every input the law returns true, and each argument reads behind the call as it read before. No condition.
  (The frame is the kit's shell of a proof, by program; the walk is mine.)
-/
import Derived.Test.YtoechhbdpkjppaaRows
import Derived.WalkKit
import Derived.ProofKit
import Derived.OpenShut
import Derived.ChangeOld
import Derived.Below
import Derived.Test.YtoechhbdpkjppaaCodK
import Derived.ShutString
namespace Go.Proofs.Ytoechhbdpkjppaa.codecNobody
open Go.ChangeShapes Go.WideShapes Go.ChangeAt Go.RowKit
open Go.ChangeMaps (open_string shut_string)
set_option linter.unusedVariables false      -- a walk need not use every 'w<i>' (that an integer argument fits its kind)

theorem own : ownKnob Try.prog.godebug = none := by kernel_rfl

/-! ### STEP 1: THE WALK: the Go text returns true. 'Grown w w'': the world has at most new blocks (Derived/RowKit3.lean). Part the cases AHEAD of 'go_enter' where a test parts the walk; take each callee by a contract of your own. -/
set_option maxHeartbeats 4000000 in
set_option maxRecDepth 100000 in
theorem walk (a0 : Int) (a1 : ByteArray) (w0 : (Lit.int .u64 a0).wf = true) (w1 : a1.size ≤ maxLen) (w : World) :
    Calls Try.prog 7 #[.int .u64 a0, .string a1] w fun e w' => e = .returned (.bool true) ∧ Below w.heap.size w w' := by
  have hn0 : (0 : Int) ≤ a0 := (bounds_u64 w0).1
  have hn1 : a0 ≤ 18446744073709551615 := (bounds_u64 w0).2
  obtain ⟨n, rfl⟩ : ∃ n : Nat, (n : Int) = a0 := ⟨a0.toNat, by omega⟩
  have hn2 : n < 2 ^ 64 := by omega
  have Hn := Lib.hid hn2
  clear w0 w1 hn0 hn1 hn2
  by_cases hlen : 1000 < a1.size
  · have hl' : (1000 : Int) < (a1.size : Int) := by omega
    clear hlen
    go_enter Try.func7, Try.ntmps7
    go_wp2_with fail
    ((with_reducible refine (lives2_c _).mono ?_); rintro e u1 ⟨rfl, b1⟩)
    have B1 := Lib.hid b1; clear b1
    go_wp2_with fail
    go_ret
    exact ⟨rfl, B1.out⟩
  · have hl' : (a1.size : Int) ≤ 1000 := by omega
    have Hs : Hid (a1.size ≤ 1000000000) := by show _ ≤ _; omega
    clear hlen
    go_enter Try.func7, Try.ntmps7
    go_wp2_with fail
    ((with_reducible refine (nilNat1_w n _ Hn.out).mono ?_); rintro e u1 ⟨rfl, b1⟩)
    have B1 := Lib.hid b1; clear b1
    go_wp2_with fail
    ((with_reducible refine (nilInt1_w 5 _ (by omega) (by omega)).mono ?_); rintro e u2 ⟨rfl, b2⟩)
    have B2 : Hid (Below w.heap.size w u2) := B1.out.trans (b2.mono B1.out.size)
    clear b2 B1
    go_wp2_with fail
    ((with_reducible refine (nilFlag_w true _).mono ?_); rintro e u3 ⟨rfl, b3⟩)
    have B3 : Hid (Below w.heap.size w u3) := B2.out.trans (b3.mono B2.out.size)
    clear b3 B2
    go_wp2_with fail
    ((with_reducible refine (nilText_w a1 Hs.out _).mono ?_); rintro e u4 ⟨rfl, b4⟩)
    have B4 : Hid (Below w.heap.size w u4) := B3.out.trans (b4.mono B3.out.size)
    clear b4 B3
    go_wp2_with fail
    ((with_reducible refine (nilFail_c _).mono ?_); rintro e u5 ⟨rfl, hu5⟩)
    have R5 : Hid (RB u5 u4.heap.size [] false) := by
      show RB _ _ _ _
      rw [← hu5]; exact heap_alloc_new u4 _
    have B5 : Hid (Below w.heap.size w u5) := by
      show Below _ _ _
      rw [← hu5]; exact Below.alloc B4.out B4.out.size _
    obtain ⟨g, hg⟩ : ∃ g, g = u4.heap.size := ⟨_, rfl⟩
    have G5 : Hid (w.heap.size ≤ g) := by show _ ≤ _; rw [hg]; exact B4.out.size
    rw [← hg] at R5 ⊢
    clear hu5 B4 hg
    go_wp2_with fail
    ((with_reducible refine (nilBytes_c _).mono ?_); rintro e w' ⟨rfl, rfl⟩)
    go_wp2_with fail
    ((with_reducible refine (nilNat_c n _).mono ?_); rintro e u6 ⟨rfl, b6⟩)
    have B6 : Hid (Below w.heap.size w u6) := B5.out.trans (b6.mono B5.out.size)
    have R6 : Hid (RB u6 g [] false) := (b6.block g R5.out.lt).trans R5.out
    clear b6 B5 R5
    go_wp2_with fail
    ((with_reducible refine (nilInt_c _).mono ?_); rintro e u7 ⟨rfl, b7⟩)
    have B7 : Hid (Below w.heap.size w u7) := B6.out.trans (b7.mono B6.out.size)
    have R7 : Hid (RB u7 g [] false) := (b7.block g R6.out.lt).trans R6.out
    clear b7 B6 R6
    go_wp2_with fail
    ((with_reducible refine (nilFlag_c _).mono ?_); rintro e u8 ⟨rfl, b8⟩)
    have B8 : Hid (Below w.heap.size w u8) := B7.out.trans (b8.mono B7.out.size)
    have R8 : Hid (RB u8 g [] false) := (b8.block g R7.out.lt).trans R7.out
    clear b8 B7 R7
    go_wp2_with fail
    ((with_reducible refine (nilText_c 9 _).mono ?_); rintro e w' ⟨rfl, rfl⟩)
    go_wp2_with fail
    ((with_reducible refine (nilBad_c _).mono ?_); rintro e w' ⟨rfl, rfl⟩)
    go_wp2_with fail
    ((with_reducible refine (nilLeft_c _).mono ?_); rintro e w' ⟨rfl, rfl⟩)
    go_wp2_with fail
    ((with_reducible refine (nilEnd_c _).mono ?_); rintro e w' ⟨rfl, rfl⟩)
    have HE : Hid (Calls Try.prog 37 #[.pointer (some ⟨g, 0, none⟩)] u8 fun e w' => e = .returned (.int .i64 0) ∧ u8 = w') := End_c g [] false u8 R8.out
    have HB0 := Lib.hid (Bad_c g [] false u8 R8.out)
    have HN := Lib.hid (rNat_bad g [] false n u8 R8.out rfl)
    go_wp2_with fail
    ((with_reducible refine HE.out.mono ?_); rintro e w' ⟨rfl, rfl⟩)
    go_wp2_with fail
    ((with_reducible refine HB0.out.mono ?_); rintro e w' ⟨rfl, rfl⟩)
    go_wp2_with fail
    ((with_reducible refine HN.out.mono ?_); rintro e u9 ⟨rfl, t9, r9⟩)
    have B9 : Hid (Below w.heap.size w u9) := B8.out.trans (t9.below G5.out B8.out.size)
    have HB1 := Lib.hid (Bad_c g [] true u9 r9)
    clear t9 r9 HE HB0 HN B8 R8 G5
    go_wp2_with fail
    ((with_reducible refine HB1.out.mono ?_); rintro e w' ⟨rfl, rfl⟩)
    clear HB1
    go_wp2_with fail
    ((with_reducible refine (lives2_c _).mono ?_); rintro e u10 ⟨rfl, b10⟩)
    have B10 : Hid (Below w.heap.size w u10) := B9.out.trans (b10.mono B9.out.size)
    clear b10 B9
    go_wp2_with fail
    go_ret
    exact ⟨rfl, B10.out⟩

/-! ### THE ROW's STEP: WRITTEN OUT: LEAVE IT -/
set_option maxRecDepth 100000 in
theorem lifted (os : Os) (started : os.Started) (H : Type) (enc : TypeId × Value → H) :
    ReturnsInHanded {} Try.checked os 7 .any (Rows.codecNobodySpec.pre6 enc Try.prog Try.f7 Rows.codecNobodyRow.domain false) (Rows.codecNobodySpec.post enc Try.prog Try.f7 false true false false) := by
  refine returnsInHanded_of_change (C := Try.checked) own started (by kernel_rfl) Try.func7
    (ChangeSpec.witness6 (enc := enc) (C := Try.checked) false ⟨#[], #[.int .u64 0, .string ByteArray.empty], []⟩ 8 (by kernel_rfl) (by kernel_rfl) (by kernel_rfl) (by kernel_rfl)) ?_
  intro W base args ds gs before hval0 hW hcnd _
  have hval : ∀ (j : Nat) t v, Try.f7.params[j]? = some t → args[j]? = some v → Value.okWide Try.prog W .any base t v := hval0
  have hW' := hW
  obtain ⟨p, q, hA0, hV, rfl, hfz, hnd⟩ := hW
  have hA : DataW.TrodAll enc Try.prog W 0 (fun _ => true) true Try.f7.params.toList args.toList ds p := hA0
  rw [Try.params7] at hA hval
  obtain ⟨v0, vs0, d0, ds0, p0, q0, hargs, rfl, rfl, h0, r0⟩ := trodAll_cons hA
  obtain ⟨v1, vs1, d1, ds1, p1, q1, rfl, rfl, rfl, h1, r1⟩ := trodAll_cons r0
  obtain ⟨rfl, rfl, rfl⟩ := trodAll_nil r1
  obtain rfl : args = #[v0, v1] := by cases args; simp_all
  obtain ⟨rfl, rfl⟩ := trodVars_none hV
  obtain ⟨a0, rfl, rfl, rfl, w0⟩ := open_int Try.underlying29 (hval 0 29 v0 rfl rfl) h0
  obtain ⟨a1, rfl, rfl, rfl, w1⟩ := open_string Try.underlying9 (hval 1 9 v1 rfl rfl) h1
  clear hA0 hval0
  refine (walk a0 a1 w0 w1 W).mono fun e W' ⟨he, hg⟩ => ?_
  subst he
  exact ⟨_, rfl, _, _, _, [], _, [], hW', trodAll_mk1 (shut_bool Try.underlying4 _), (trodAll_cons_mk (shut_int Try.underlying29 w0) (trodAll_cons_mk (shut_string Try.underlying9 w1) trodAll_mk0)), rfl, hg.frame _, fun h => by cases h⟩

theorem over : Rows.codecNobodyRow.holds Try.pinned (OpenSpec.ofChange Rows.codecNobodySpec) :=
  OpenClaim.holds_of_wide 7 Try.f7 rfl rfl rfl rfl rfl rfl rfl ⟨rfl, rfl, rfl, rfl, rfl⟩ rfl rfl rfl rfl rfl (by kernel_rfl) Try.func7 (by kernel_rfl)
    (of_decide_eq_true (by kernel_rfl)) (by unfold Func.isWrapper; first | (rw [if_pos (by decide +kernel)]; kernel_rfl) | (rw [if_neg (by decide +kernel)]; exact ⟨rfl, rfl⟩))
    (fun os started H enc _ => lifted os started H enc)

/-- ████ THE STATEMENT ████ -/
theorem proved : Rows.CodecNobodySaid :=
  over
end Go.Proofs.Ytoechhbdpkjppaa.codecNobody
