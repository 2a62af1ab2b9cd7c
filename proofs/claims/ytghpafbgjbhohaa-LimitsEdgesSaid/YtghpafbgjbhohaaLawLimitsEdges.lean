/-
  LimitsEdges: for every input the law returns true, and each argument reads behind the call as it read before. No condition.
-/
import Derived.Test.YtghpafbgjbhohaaRows
import Derived.WalkKit
import Derived.ProofKit
import Derived.OpenShut
import Derived.ShutString
import Derived.ChangeOld
import Derived.Below
import Derived.Carry
import Derived.Test.YtghpafbgjbhohaaLiC
namespace Go.Proofs.Ytghpafbgjbhohaa.limitsEdges
open Go.ChangeShapes Go.WideShapes Go.ChangeAt Go.RowKit
open Go.ChangeMaps (open_string shut_string)
set_option linter.unusedVariables false

theorem own : ownKnob Try.prog.godebug = none := by kernel_rfl
theorem laidOut : laidOutB Try.prog = true := by kernel_rfl

/-- A slice of bytes that came in, as the form reads it. -/
def IsRow (w : World) (a : Option Addr) (len cap : Nat) (zs : List Int) : Prop :=
  (a = none ∧ len = 0 ∧ cap = 0 ∧ zs = []) ∨ ∃ x, a = some x ∧ len ≤ cap ∧ cap ≤ maxLen ∧ zs.length = cap ∧ (∀ i, i < zs.length → w.cell? (x.add i) = some (.int .u8 (zs.getD i 0))) ∧ ∀ n ∈ zs, (Lit.int .u8 n).wf = true

set_option maxHeartbeats 8000000 in
set_option maxRecDepth 100000 in
theorem walk (a0 : Int) (a1 : Int) (a2 : Int) (w : World) (w0 : (Lit.int .i64 a0).wf = true) (w1 : (Lit.int .i64 a1).wf = true) (w2 : (Lit.int .i64 a2).wf = true) :
    Calls Try.prog 4 #[.int .i64 a0, .int .i64 a1, .int .i64 a2] w fun e w' => e = .returned (.bool true) ∧ Below w.heap.size w w' := by
  have i0 : Hid (InR a0) := bounds_i64 w0
  have i1 : Hid (InR a1) := bounds_i64 w1
  clear w0 w1 w2
  have H1 := Lib.hid (edges_c a0 a1 i0.out i1.out)
  have H2 := Lib.hid (rEdges_c a0 a1 i0.out i1.out)
  have H3 := Lib.hid (band_c a0 a2 a1 i0.out i1.out)
  have hcase : (a2 < 1 ∧ bandN a0 a2 a1 = 2) ∨ (1 ≤ a2 ∧ 1099511627776 < a2 ∧ bandN a0 a2 a1 = 2) ∨ (1 ≤ a2 ∧ a2 ≤ 1099511627776 ∧ highN a0 a1 = 0 ∧ bandN a0 a2 a1 = 2) ∨
      (1 ≤ a2 ∧ a2 ≤ 1099511627776 ∧ ¬ highN a0 a1 = 0 ∧ ((bandN a0 a2 a1 = 0 ∧ lowN a0 a1 ≤ a2 ∧ a2 ≤ highN a0 a1) ∨ (¬ bandN a0 a2 a1 = 0 ∧ a2 < lowN a0 a1) ∨ (¬ bandN a0 a2 a1 = 0 ∧ lowN a0 a1 ≤ a2 ∧ highN a0 a1 < a2))) := by
    by_cases hw : WrongL a0 a1 ∨ a2 < 1 ∨ 1099511627776 < a2
    · have hb : bandN a0 a2 a1 = 2 := if_pos hw
      rcases hw with h | h | h
      · have := high_zero.2 h
        omega
      · exact .inl ⟨h, hb⟩
      · omega
    · have hn : ¬ WrongL a0 a1 := fun h => hw (.inl h)
      have h1 : 1 ≤ a2 := by omega
      have h2 : a2 ≤ 1099511627776 := by omega
      have hb := band_edges hn h1 h2
      have hh : ¬ highN a0 a1 = 0 := fun h => hn (high_zero.1 h)
      refine .inr (.inr (.inr ⟨h1, h2, hh, ?_⟩))
      generalize bandN a0 a2 a1 = b at *
      generalize lowN a0 a1 = l at *
      generalize highN a0 a1 = h at *
      omega
  obtain ⟨lo, hlo⟩ : ∃ x, x = lowN a0 a1 := ⟨_, rfl⟩
  obtain ⟨hi, hhi⟩ : ∃ x, x = highN a0 a1 := ⟨_, rfl⟩
  obtain ⟨n, hn⟩ : ∃ x, x = bandN a0 a2 a1 := ⟨_, rfl⟩
  rw [← hlo, ← hhi] at H1 H2
  rw [← hn] at H3
  rw [← hlo, ← hhi, ← hn] at hcase
  clear hlo hhi hn i0 i1
  have hx : ∀ (P : Prop), (a2 < 1 → n = 2 → P) → (1 ≤ a2 → 1099511627776 < a2 → n = 2 → P) → (1 ≤ a2 → a2 ≤ 1099511627776 → hi = 0 → n = 2 → P) →
      (1 ≤ a2 → a2 ≤ 1099511627776 → ¬ hi = 0 → n = 0 → lo ≤ a2 → a2 ≤ hi → P) → (1 ≤ a2 → a2 ≤ 1099511627776 → ¬ hi = 0 → ¬ n = 0 → a2 < lo → P) → (1 ≤ a2 → a2 ≤ 1099511627776 → ¬ hi = 0 → ¬ n = 0 → lo ≤ a2 → hi < a2 → P) → P := by
    intro P p1 p2 p3 p4 p5 p6
    rcases hcase with ⟨h1, h2⟩ | ⟨h1, h2, h3⟩ | ⟨h1, h2, h3, h4⟩ | ⟨h1, h2, h3, ⟨h4, h5, h6⟩ | ⟨h4, h5⟩ | ⟨h4, h5, h6⟩⟩
    · exact p1 h1 h2
    · exact p2 h1 h2 h3
    · exact p3 h1 h2 h3 h4
    · exact p4 h1 h2 h3 h4 h5 h6
    · exact p5 h1 h2 h3 h4 h5
    · exact p6 h1 h2 h3 h4 h5 h6
  clear hcase
  refine hx _ (fun g1 g2 => ?_) (fun g0 g1 g2 => ?_) (fun g0 g1 g2 g3 => ?_) (fun g0 g1 g2 g3 g4 g5 => ?_) (fun g0 g1 g2 g3 g4 => ?_) (fun g0 g1 g2 g3 g4 g5 => ?_)
  all_goals
    clear hx
    try subst n
    try subst hi
    try (have e1 : (hi == 0) = false := by simp; omega)
    try (have e2 : (n == 0) = false := by simp; omega)
    try (have d1 : decide (a2 ≤ hi) = false := decide_eq_false (by omega))
    try (have d2 : decide (lo ≤ a2) = false := decide_eq_false (by omega))
    go_enter Try.func4, Try.ntmps4
    go_wp2_with fail
    ((with_reducible refine (H1.out _).mono ?_); rintro e u1 ⟨rfl, b1⟩)
    have B1 := Lib.hid b1
    clear b1
    go_wp2_with fail
    ((with_reducible refine (H2.out _).mono ?_); rintro e u2 ⟨rfl, b2⟩)
    have B2 : Hid (Below w.heap.size w u2) := B1.out.trans (b2.mono B1.out.size)
    clear b2 B1
    go_wp2_with fail
    ((with_reducible refine (H3.out _).mono ?_); rintro e u3 ⟨rfl, b3⟩)
    have B3 : Hid (Below w.heap.size w u3) := B2.out.trans (b3.mono B2.out.size)
    clear b3 B2
    go_wp2_with fail
    ((with_reducible refine (lives7_c _).mono ?_); rintro e u4 ⟨rfl, b4⟩)
    have B4 : Hid (Below w.heap.size w u4) := B3.out.trans (b4.mono B3.out.size)
    clear b4 B3
    go_wp2_with fail
    go_ret
    exact ⟨rfl, B4.out⟩

set_option maxRecDepth 100000 in
theorem lifted (os : Os) (started : os.Started) (H : Type) (enc : TypeId × Value → H) :
    ReturnsInHanded {} Try.checked os 4 .any (Rows.limitsEdgesSpec.pre6 enc Try.prog Try.f4 Rows.limitsEdgesRow.domain false) (Rows.limitsEdgesSpec.post enc Try.prog Try.f4 false true false false) := by
  refine returnsInHanded_of_change (C := Try.checked) own started (by kernel_rfl) Try.func4
    (ChangeSpec.witness6 (enc := enc) (C := Try.checked) false ⟨#[], #[.int .i64 0, .int .i64 0, .int .i64 0], []⟩ 8 (by kernel_rfl) (by kernel_rfl) (by kernel_rfl) (by kernel_rfl)) ?_
  intro W base args ds gs before hval0 hW hcnd _
  have hval : ∀ (j : Nat) t v, Try.f4.params[j]? = some t → args[j]? = some v → Value.okWide Try.prog W .any base t v := hval0
  have hW' := hW
  obtain ⟨p, q, hA0, hV, rfl, hfz, hnd⟩ := hW
  have hA : DataW.TrodAll enc Try.prog W 0 (fun _ => true) true Try.f4.params.toList args.toList ds p := hA0
  rw [Try.params4] at hA hval
  obtain ⟨v0, vs0, d0, ds0, p0, q0, hargs, rfl, rfl, h0, r0⟩ := trodAll_cons hA
  obtain ⟨v1, vs1, d1, ds1, p1, q1, rfl, rfl, rfl, h1, r1⟩ := trodAll_cons r0
  obtain ⟨v2, vs2, d2, ds2, p2, q2, rfl, rfl, rfl, h2, r2⟩ := trodAll_cons r1
  obtain ⟨rfl, rfl, rfl⟩ := trodAll_nil r2
  obtain rfl : args = #[v0, v1, v2] := by cases args; simp_all
  obtain ⟨rfl, rfl⟩ := trodVars_none hV
  obtain ⟨a0, rfl, rfl, rfl, w0⟩ := open_int Try.underlying2 (hval 0 2 v0 rfl rfl) h0
  obtain ⟨a1, rfl, rfl, rfl, w1⟩ := open_int Try.underlying2 (hval 1 2 v1 rfl rfl) h1
  obtain ⟨a2, rfl, rfl, rfl, w2⟩ := open_int Try.underlying2 (hval 2 2 v2 rfl rfl) h2
  clear hA0 hval0
  refine (walk a0 a1 a2 W w0 w1 w2).mono fun e W' ⟨he, bel⟩ => ?_
  subst he
  exact ⟨_, rfl, _, _, _, [], _, [], hW', trodAll_mk1 (shut_bool Try.underlying4 _), (trodAll_cons_mk (shut_int Try.underlying2 w0) (trodAll_cons_mk (shut_int Try.underlying2 w1) (trodAll_cons_mk (shut_int Try.underlying2 w2) trodAll_mk0))), rfl, bel.frame _, fun h => by cases h⟩

theorem over : Rows.limitsEdgesRow.holds Try.pinned (OpenSpec.ofChange Rows.limitsEdgesSpec) :=
  OpenClaim.holds_of_wide 4 Try.f4 rfl rfl rfl rfl rfl rfl rfl ⟨rfl, rfl, rfl, rfl, rfl⟩ rfl rfl rfl rfl rfl (by kernel_rfl) Try.func4 (by kernel_rfl)
    (of_decide_eq_true (by kernel_rfl)) (by unfold Func.isWrapper; first | (rw [if_pos (by decide +kernel)]; kernel_rfl) | (rw [if_neg (by decide +kernel)]; exact ⟨rfl, rfl⟩))
    (fun os started H enc _ => lifted os started H enc)

theorem proved : Rows.LimitsEdgesSaid := over
end Go.Proofs.Ytghpafbgjbhohaa.limitsEdges
