/-
  LimitsTrim: for every input the law returns true, and each argument reads behind the call as it read before. No condition.
-/
import Derived.Test.YtghpafbgjbhohaaRows
import Derived.WalkKit
import Derived.ProofKit
import Derived.OpenShut
import Derived.ShutString
import Derived.ChangeOld
import Derived.Below
import Derived.Carry
import Derived.Test.YtghpafbgjbhohaaLiC
namespace Go.Proofs.Ytghpafbgjbhohaa.limitsTrim
open Go.ChangeShapes Go.WideShapes Go.ChangeAt Go.RowKit
open Go.ChangeMaps (open_string shut_string)
set_option linter.unusedVariables false

theorem own : ownKnob Try.prog.godebug = none := by kernel_rfl
theorem laidOut : laidOutB Try.prog = true := by kernel_rfl

/-- A slice of bytes that came in, as the form reads it. -/
def IsRow (w : World) (a : Option Addr) (len cap : Nat) (zs : List Int) : Prop :=
  (a = none ∧ len = 0 ∧ cap = 0 ∧ zs = []) ∨ ∃ x, a = some x ∧ len ≤ cap ∧ cap ≤ maxLen ∧ zs.length = cap ∧ (∀ i, i < zs.length → w.cell? (x.add i) = some (.int .u8 (zs.getD i 0))) ∧ ∀ n ∈ zs, (Lit.int .u8 n).wf = true

set_option maxHeartbeats 8000000 in
set_option maxRecDepth 100000 in
theorem walk (a0 : Int) (a1 : Int) (w : World) (w0 : (Lit.int .i64 a0).wf = true) (w1 : (Lit.int .i64 a1).wf = true) :
    Calls Try.prog 5 #[.int .i64 a0, .int .i64 a1] w fun e w' => e = .returned (.bool true) ∧ Below w.heap.size w w' := by
  have i0 : Hid (InR a0) := bounds_i64 w0
  have i1 : Hid (InR a1) := bounds_i64 w1
  have H1 := Lib.hid (trim_c a0 a1 i1.out i0.out)
  have hm0 := i0.out.2
  have hm1 := i1.out.2
  clear w0 w1 i0 i1
  have hz : (a0 < 1 ∨ a1 < 1) → trimN a0 a1 = 0 := fun h => if_pos h
  have hcase : (trimN a0 a1 = 0 ∧ (a0 < 1 ∨ 1 ≤ a0 ∧ a1 < 1)) ∨ (1 ≤ a0 ∧ 1 ≤ a1 ∧ 0 ≤ trimN a0 a1 ∧ trimN a0 a1 ≤ a1 ∧ trimN a0 a1 % a0 = 0 ∧ a1 - trimN a0 a1 < a0 ∧
      (trimN a0 a1 = 0 ∨ (¬ trimN a0 a1 = 0 ∧ 1099511627776 < a0) ∨ (¬ trimN a0 a1 = 0 ∧ a0 ≤ 1099511627776 ∧ 1099511627776 < trimN a0 a1) ∨ (¬ trimN a0 a1 = 0 ∧ a0 ≤ 1099511627776 ∧ trimN a0 a1 ≤ 1099511627776 ∧ lotN a0 (trimN a0 a1) = 0))) := by
    by_cases h0 : a0 < 1 ∨ a1 < 1
    · left; exact ⟨hz h0, by omega⟩
    · right
      obtain ⟨t0, t1, t2, t3, _⟩ := trim_bd (lot := a0) (qty := a1) (by omega) (by omega)
      refine ⟨by omega, by omega, t0, t1, t2, t3, ?_⟩
      have hl : a0 ≤ 1099511627776 → ¬ trimN a0 a1 = 0 → trimN a0 a1 ≤ 1099511627776 → lotN a0 (trimN a0 a1) = 0 := fun e1 e2 e3 => by
        unfold lotN
        rw [if_neg (by omega), if_neg (by omega)]
      generalize trimN a0 a1 = t at *
      by_cases e1 : t = 0
      · exact .inl e1
      · by_cases e2 : a0 ≤ 1099511627776
        · by_cases e3 : t ≤ 1099511627776
          · exact .inr (.inr (.inr ⟨e1, e2, e3, hl e2 e1 e3⟩))
          · exact .inr (.inr (.inl ⟨e1, e2, by omega⟩))
        · exact .inr (.inl ⟨e1, by omega⟩)
  obtain ⟨n, hn⟩ : ∃ n, n = trimN a0 a1 := ⟨_, rfl⟩
  rw [← hn] at H1 hcase
  have H2 := Lib.hid (lot_c a0 n)
  obtain ⟨m, hm⟩ : ∃ m, m = lotN a0 n := ⟨_, rfl⟩
  rw [← hm] at H2 hcase
  clear hn hm hz
  rcases hcase with ⟨rfl, g1⟩ | ⟨g1, g2, g3, g4, g5, g6, g7⟩
  · have hx : ∀ P : Prop, (a0 < 1 → P) → (1 ≤ a0 → a1 < 1 → P) → P := fun P p1 p2 => by
      rcases g1 with h | ⟨h1, h2⟩
      · exact p1 h
      · exact p2 h1 h2
    clear g1
    refine hx _ (fun g1 => ?_) (fun g0 g1 => ?_)
    all_goals
      clear hx
      go_enter Try.func5, Try.ntmps5
      go_wp2_with fail
      ((with_reducible refine (H1.out _).mono ?_); rintro e u1 ⟨rfl, rfl⟩)
      go_wp2_with fail
      ((with_reducible refine (lives7_c _).mono ?_); rintro e u4 ⟨rfl, b4⟩)
      go_wp2_with fail
      go_ret
      exact ⟨rfl, b4⟩
  · have e0 : (a0 == 0) = false := by simp; omega
    have e1 : (n % a0 == 0) = true := by simp [g5]
    have d1 : decide (a1 - n < a0) = true := decide_eq_true g6
    have d2 : decide (n ≤ a1) = true := decide_eq_true g4
    have d3 : decide (0 ≤ n) = true := decide_eq_true g3
    have hx : ∀ P : Prop, (n = 0 → P) → ((n == 0) = false → 1099511627776 < a0 → P) → ((n == 0) = false → a0 ≤ 1099511627776 → 1099511627776 < n → P) → ((n == 0) = false → a0 ≤ 1099511627776 → n ≤ 1099511627776 → m = 0 → P) → P := fun P p1 p2 p3 p4 => by
      rcases g7 with h | ⟨h1, h2⟩ | ⟨h1, h2, h3⟩ | ⟨h1, h2, h3, h4⟩
      · exact p1 h
      · exact p2 (by simp [h1]) h2
      · exact p3 (by simp [h1]) h2 h3
      · exact p4 (by simp [h1]) h2 h3 h4
    clear g5 g7
    refine hx _ (fun f1 => ?_) (fun f1 f2 => ?_) (fun f1 f2 f3 => ?_) (fun f1 f2 f3 f4 => ?_)
    all_goals
      clear hx
      try subst n
      try subst m
      go_enter Try.func5, Try.ntmps5
      go_wp2_with fail
      ((with_reducible refine (H1.out _).mono ?_); rintro e u1 ⟨rfl, rfl⟩)
      go_wp2_with (first | ((with_reducible refine (H2.out _).mono ?_); rintro e u2 ⟨rfl, rfl⟩) | fail)
      ((with_reducible refine (lives7_c _).mono ?_); rintro e u4 ⟨rfl, b4⟩)
      go_wp2_with fail
      go_ret
      exact ⟨rfl, b4⟩

set_option maxRecDepth 100000 in
theorem lifted (os : Os) (started : os.Started) (H : Type) (enc : TypeId × Value → H) :
    ReturnsInHanded {} Try.checked os 5 .any (Rows.limitsTrimSpec.pre6 enc Try.prog Try.f5 Rows.limitsTrimRow.domain false) (Rows.limitsTrimSpec.post enc Try.prog Try.f5 false true false false) := by
  refine returnsInHanded_of_change (C := Try.checked) own started (by kernel_rfl) Try.func5
    (ChangeSpec.witness6 (enc := enc) (C := Try.checked) false ⟨#[], #[.int .i64 0, .int .i64 0], []⟩ 8 (by kernel_rfl) (by kernel_rfl) (by kernel_rfl) (by kernel_rfl)) ?_
  intro W base args ds gs before hval0 hW hcnd _
  have hval : ∀ (j : Nat) t v, Try.f5.params[j]? = some t → args[j]? = some v → Value.okWide Try.prog W .any base t v := hval0
  have hW' := hW
  obtain ⟨p, q, hA0, hV, rfl, hfz, hnd⟩ := hW
  have hA : DataW.TrodAll enc Try.prog W 0 (fun _ => true) true Try.f5.params.toList args.toList ds p := hA0
  rw [Try.params5] at hA hval
  obtain ⟨v0, vs0, d0, ds0, p0, q0, hargs, rfl, rfl, h0, r0⟩ := trodAll_cons hA
  obtain ⟨v1, vs1, d1, ds1, p1, q1, rfl, rfl, rfl, h1, r1⟩ := trodAll_cons r0
  obtain ⟨rfl, rfl, rfl⟩ := trodAll_nil r1
  obtain rfl : args = #[v0, v1] := by cases args; simp_all
  obtain ⟨rfl, rfl⟩ := trodVars_none hV
  obtain ⟨a0, rfl, rfl, rfl, w0⟩ := open_int Try.underlying2 (hval 0 2 v0 rfl rfl) h0
  obtain ⟨a1, rfl, rfl, rfl, w1⟩ := open_int Try.underlying2 (hval 1 2 v1 rfl rfl) h1
  clear hA0 hval0
  refine (walk a0 a1 W w0 w1).mono fun e W' ⟨he, bel⟩ => ?_
  subst he
  exact ⟨_, rfl, _, _, _, [], _, [], hW', trodAll_mk1 (shut_bool Try.underlying4 _), (trodAll_cons_mk (shut_int Try.underlying2 w0) (trodAll_cons_mk (shut_int Try.underlying2 w1) trodAll_mk0)), rfl, bel.frame _, fun h => by cases h⟩

theorem over : Rows.limitsTrimRow.holds Try.pinned (OpenSpec.ofChange Rows.limitsTrimSpec) :=
  OpenClaim.holds_of_wide 5 Try.f5 rfl rfl rfl rfl rfl rfl rfl ⟨rfl, rfl, rfl, rfl, rfl⟩ rfl rfl rfl rfl rfl (by kernel_rfl) Try.func5 (by kernel_rfl)
    (of_decide_eq_true (by kernel_rfl)) (by unfold Func.isWrapper; first | (rw [if_pos (by decide +kernel)]; kernel_rfl) | (rw [if_neg (by decide +kernel)]; exact ⟨rfl, rfl⟩))
    (fun os started H enc _ => lifted os started H enc)

theorem proved : Rows.LimitsTrimSaid := over
end Go.Proofs.Ytghpafbgjbhohaa.limitsTrim
