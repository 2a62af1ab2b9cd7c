/-
  ParcelWraps: for every input the law returns true, and each argument reads behind the call as it read before. No condition.
-/
import Derived.Test.YtghpafbgjbhohabRows
import Derived.WalkKit
import Derived.ProofKit
import Derived.OpenShut
import Derived.ShutString
import Derived.ChangeOld
import Derived.Below
import Derived.Carry
import Derived.Test.YtghpafbgjbhohabPcL
namespace Go.Proofs.Ytghpafbgjbhohab.parcelWraps
open Go.ChangeShapes Go.WideShapes Go.ChangeAt Go.RowKit
open Go.ChangeMaps (open_string shut_string)
set_option linter.unusedVariables false

theorem own : ownKnob Try.prog.godebug = none := by kernel_rfl
theorem laidOut : laidOutB Try.prog = true := by kernel_rfl

/-- A slice of bytes that came in, as the form reads it. -/
def IsRow (w : World) (a : Option Addr) (len cap : Nat) (zs : List Int) : Prop :=
  (a = none ∧ len = 0 ∧ cap = 0 ∧ zs = []) ∨ ∃ x, a = some x ∧ len ≤ cap ∧ cap ≤ maxLen ∧ zs.length = cap ∧ (∀ i, i < zs.length → w.cell? (x.add i) = some (.int .u8 (zs.getD i 0))) ∧ ∀ n ∈ zs, (Lit.int .u8 n).wf = true

set_option maxHeartbeats 8000000 in
set_option maxRecDepth 100000 in
theorem walk (a0 : Int) (a1 : Option Addr) (len1 cap1 : Nat) (z1 : List Int) (w : World) (w0 : (Lit.int .u8 a0).wf = true) (w1 : IsRow w a1 len1 cap1 z1) :
    Calls Try.prog 3 #[.int .u8 a0, .slice a1 len1 cap1] w fun e w' => e = .returned (.bool true) ∧ Below w.heap.size w w' := by
  have hk0 : (0 : Int) ≤ a0 := (bounds_u8 w0).1
  have hk1 : a0 ≤ 255 := (bounds_u8 w0).2
  obtain ⟨kd, rfl⟩ : ∃ kd : Nat, (kd : Int) = a0 := ⟨a0.toNat, by omega⟩
  have hkd : kd < 256 := by omega
  obtain ⟨l, hs⟩ := slB_of_row w1
  have hA : a1 = none → cap1 = 0 := fun h => by
    rcases w1 with ⟨_, _, hc, _⟩ | ⟨x, hx, _⟩
    · exact hc
    · rw [hx] at h; cases h
  have HS := Lib.hid hs
  have HA := Lib.hid hA
  have HK := Lib.hid hkd
  clear w0 w1 hs hA hk0 hk1 hkd
  by_cases hlen : 70000 < len1
  · have hlI : (70000 : Int) < (len1 : Int) := by omega
    clear hlen
    go_enter Try.func3, Try.ntmps3
    go_wp2_with fail
    ((with_reducible refine (lives3_c _).mono ?_); rintro e u1 ⟨rfl, b1⟩)
    go_wp2_with fail
    go_ret
    exact ⟨rfl, b1⟩
  · have hlI : (len1 : Int) ≤ 70000 := by omega
    have HN : Hid (len1 ≤ 70000) := by show _ ≤ _; omega
    have W1 := Lib.hid (wrapAny_c kd HK.out a1 len1 cap1 l w HS.out (by have := HN.out; omega) HA.out)
    have W2 := Lib.hid (fun (W : World) (hW : Below w.heap.size w W) => rWrapAny_c kd HK.out a1 len1 cap1 l W (HS.out.fr0 (S := fun _ => False) (Fr.of_below hW) (fun _ _ _ h => h)) (by have := HN.out; omega))
    have S1 := Lib.hid (fun (W : World) (hW : Below w.heap.size w W) => sum_c a1 len1 cap1 l W (HS.out.fr0 (S := fun _ => False) (Fr.of_below hW) (fun _ _ _ h => h)) (by have := HN.out; omega))
    have S2 := Lib.hid (fun (W : World) (hW : Below w.heap.size w W) => rSum_c a1 len1 cap1 l W (HS.out.fr0 (S := fun _ => False) (Fr.of_below hW) (fun _ _ _ h => h)) (by have := HN.out; omega))
    unfold Wrapped at W1 W2
    obtain ⟨o, ho⟩ : ∃ o, o = wOut kd l := ⟨_, rfl⟩
    obtain ⟨er, her⟩ : ∃ er, er = wErr kd l := ⟨_, rfl⟩
    obtain ⟨sm, hsm⟩ : ∃ sm, sm = sumN l := ⟨_, rfl⟩
    rw [← ho, ← her] at W1 W2
    rw [← hsm] at S1 S2
    clear ho her hsm hlen HA HS HK
    by_cases h2 : 2000 < len1
    all_goals
      have h2I := h2
      go_enter Try.func3, Try.ntmps3
      go_wp2_with fail
      ((with_reducible refine W1.out.mono ?_); rintro e u1 ⟨A1, c1, rfl, hd1⟩)
      have B1 := Lib.hid hd1.out.2.1
      have K1 := Lib.hid hd1.out.1
      have N1 := Lib.hid (W2.out u1 B1.out)
      clear hd1 W1 W2
      go_wp2_with fail
      ((with_reducible refine N1.out.mono ?_); rintro e u2 ⟨A2, c2, rfl, hd2⟩)
      have B2 : Hid (Below w.heap.size w u2) := B1.out.trans (hd2.out.2.1.mono B1.out.size)
      have hcv1 := conv_str (c := c1) (K1.out.fr0 (S := fun _ => False) (Fr.of_below hd2.out.2.1) (fun _ _ _ h => h))
      have hcv2 := conv_str (c := c2) hd2.out.1
      have N2 := Lib.hid (S1.out u2 B2.out)
      clear hd2 N1 B1 K1 S1
    · have h2J : (2000 : Int) < (len1 : Int) := by omega
      clear h2 h2I N2 S2
      go_wp2_with fail
      ((with_reducible refine (lives3_c _).mono ?_); rintro e u5 ⟨rfl, b5⟩)
      have B5 : Hid (Below w.heap.size w u5) := B2.out.trans (b5.mono B2.out.size)
      clear b5 B2 hcv1 hcv2
      go_wp2_with fail
      go_ret
      exact ⟨rfl, B5.out⟩
    · have h2J : (len1 : Int) ≤ 2000 := by omega
      clear h2 h2I
      go_wp2_with fail
      ((with_reducible refine N2.out.mono ?_); rintro e u3 ⟨rfl, b3⟩)
      have B3 : Hid (Below w.heap.size w u3) := B2.out.trans (b3.mono B2.out.size)
      have N3 := Lib.hid (S2.out u3 B3.out)
      clear b3 N2 B2 S2 hcv1 hcv2
      go_wp2_with fail
      ((with_reducible refine N3.out.mono ?_); rintro e u4 ⟨rfl, rfl⟩)
      clear N3
      go_wp2_with fail
      ((with_reducible refine (lives3_c _).mono ?_); rintro e u5 ⟨rfl, b5⟩)
      have B5 : Hid (Below w.heap.size w u5) := B3.out.trans (b5.mono B3.out.size)
      clear b5 B3
      go_wp2_with fail
      go_ret
      exact ⟨rfl, B5.out⟩

set_option maxRecDepth 100000 in
theorem lifted (os : Os) (started : os.Started) (H : Type) (enc : TypeId × Value → H) :
    ReturnsInHanded {} Try.checked os 3 .any (Rows.parcelWrapsSpec.pre6 enc Try.prog Try.f3 Rows.parcelWrapsRow.domain false) (Rows.parcelWrapsSpec.post enc Try.prog Try.f3 false true false false) := by
  refine returnsInHanded_of_change (C := Try.checked) own started (by kernel_rfl) Try.func3
    (ChangeSpec.witness6 (enc := enc) (C := Try.checked) false ⟨#[], #[.int .u8 0, .slice none 0 0], []⟩ 8 (by kernel_rfl) (by kernel_rfl) (by kernel_rfl) (by kernel_rfl)) ?_
  intro W base args ds gs before hval0 hW hcnd _
  have hval : ∀ (j : Nat) t v, Try.f3.params[j]? = some t → args[j]? = some v → Value.okWide Try.prog W .any base t v := hval0
  have hW' := hW
  obtain ⟨p, q, hA0, hV, rfl, hfz, hnd⟩ := hW
  have hA : DataW.TrodAll enc Try.prog W 0 (fun _ => true) true Try.f3.params.toList args.toList ds p := hA0
  rw [Try.params3] at hA hval
  obtain ⟨v0, vs0, d0, ds0, p0, q0, hargs, rfl, rfl, h0, r0⟩ := trodAll_cons hA
  obtain ⟨v1, vs1, d1, ds1, p1, q1, rfl, rfl, rfl, h1, r1⟩ := trodAll_cons r0
  obtain ⟨rfl, rfl, rfl⟩ := trodAll_nil r1
  obtain rfl : args = #[v0, v1] := by cases args; simp_all
  obtain ⟨rfl, rfl⟩ := trodVars_none hV
  obtain ⟨a0, rfl, rfl, rfl, w0⟩ := open_int Try.underlying5 (hval 0 5 v0 rfl rfl) h0
  have k1 := h1
  have lt1 : ∀ x ∈ p1, x.block < W.heap.size := by obtain ⟨m, hm⟩ := k1; exact DataW.trod_lt m _ _ _ hm
  obtain ⟨a1, len1, cap1, rfl⟩ := okWide_slice Try.underlying22 (hval 1 22 v1 rfl rfl)
  obtain ⟨z1, w1⟩ : ∃ zs, IsRow W a1 len1 cap1 zs := by
    obtain ⟨fuel, hf⟩ := h1
    rcases open_ints Try.underlying22 Try.underlying5 (by kernel_rfl) hf with ⟨hcs, _⟩ | ⟨x, l, c, zs, hcs, _, hl, hm, hz, _, hcell, hwz⟩
    · simp [Value.cells] at hcs
      obtain ⟨rfl, rfl, rfl⟩ := hcs
      exact ⟨[], .inl ⟨rfl, rfl, rfl, rfl⟩⟩
    · simp [Value.cells] at hcs
      obtain ⟨rfl, rfl, rfl⟩ := hcs
      exact ⟨zs, .inr ⟨_, rfl, hl, hm, by simpa using hz, hcell, hwz⟩⟩
  clear hA0 hval0
  refine (walk a0 a1 len1 cap1 z1 W w0 w1).mono fun e W' ⟨he, bel⟩ => ?_
  subst he
  exact ⟨_, rfl, _, _, _, [], _, [], hW', trodAll_mk1 (shut_bool Try.underlying4 _), (trodAll_cons_mk (shut_int Try.underlying5 w0) (trodAll_cons_mk (Below.trod laidOut (by kernel_rfl) (of_decide_eq_true (by kernel_rfl)) k1 bel lt1) trodAll_mk0)), rfl, bel.frame _, fun h => by cases h⟩

theorem over : Rows.parcelWrapsRow.holds Try.pinned (OpenSpec.ofChange Rows.parcelWrapsSpec) :=
  OpenClaim.holds_of_wide 3 Try.f3 rfl rfl rfl rfl rfl rfl rfl ⟨rfl, rfl, rfl, rfl, rfl⟩ rfl rfl rfl rfl rfl (by kernel_rfl) Try.func3 (by kernel_rfl)
    (of_decide_eq_true (by kernel_rfl)) (by unfold Func.isWrapper; first | (rw [if_pos (by decide +kernel)]; kernel_rfl) | (rw [if_neg (by decide +kernel)]; exact ⟨rfl, rfl⟩))
    (fun os started H enc _ => lifted os started H enc)

theorem proved : Rows.ParcelWrapsSaid := over
end Go.Proofs.Ytghpafbgjbhohab.parcelWraps
