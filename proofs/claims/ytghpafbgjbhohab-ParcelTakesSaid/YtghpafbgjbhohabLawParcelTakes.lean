/-
  ParcelTakes: for every input the law returns true, and each argument reads behind the call as it read before. No condition.
-/
import Derived.Test.YtghpafbgjbhohabRows
import Derived.WalkKit
import Derived.ProofKit
import Derived.OpenShut
import Derived.ShutString
import Derived.ChangeOld
import Derived.Below
import Derived.Carry
import Derived.Test.YtghpafbgjbhohabPcO
namespace Go.Proofs.Ytghpafbgjbhohab.parcelTakes
open Go.ChangeShapes Go.WideShapes Go.ChangeAt Go.RowKit
open Go.ChangeMaps (open_string shut_string)
set_option linter.unusedVariables false

theorem own : ownKnob Try.prog.godebug = none := by kernel_rfl
theorem laidOut : laidOutB Try.prog = true := by kernel_rfl

/-- A slice of bytes that came in, as the form reads it. -/
def IsRow (w : World) (a : Option Addr) (len cap : Nat) (zs : List Int) : Prop :=
  (a = none ∧ len = 0 ∧ cap = 0 ∧ zs = []) ∨ ∃ x, a = some x ∧ len ≤ cap ∧ cap ≤ maxLen ∧ zs.length = cap ∧ (∀ i, i < zs.length → w.cell? (x.add i) = some (.int .u8 (zs.getD i 0))) ∧ ∀ n ∈ zs, (Lit.int .u8 n).wf = true

set_option maxHeartbeats 8000000 in
set_option maxRecDepth 100000 in
theorem walk (a0 : Option Addr) (len0 cap0 : Nat) (z0 : List Int) (w : World) (w0 : IsRow w a0 len0 cap0 z0) :
    Calls Try.prog 4 #[.slice a0 len0 cap0] w fun e w' => e = .returned (.bool true) ∧ Below w.heap.size w w' := by
  obtain ⟨l, hs⟩ := slB_of_row w0
  have hcp : len0 ≤ cap0 ∧ cap0 ≤ maxLen := by
    rcases w0 with ⟨_, h1, h2, _⟩ | ⟨_, _, h1, h2, _⟩
    · rw [h1, h2]; exact ⟨Nat.le_refl _, Nat.zero_le _⟩
    · exact ⟨h1, h2⟩
  by_cases hlen : 3000 < len0
  · have hlI : (3000 : Int) < (len0 : Int) := by omega
    clear hlen hcp hs w0
    go_enter Try.func4, Try.ntmps4
    go_wp2_with fail
    ((with_reducible refine (lives3_c _).mono ?_); rintro e u1 ⟨rfl, b1⟩)
    go_wp2_with fail
    go_ret
    exact ⟨rfl, b1⟩
  · have hlI : (len0 : Int) ≤ 3000 := by omega
    have T1 := Lib.hid (take_c a0 len0 cap0 l w hs (by omega) hcp.1 (by have := hcp.2; unfold maxLen at this; omega))
    have T2 := Lib.hid (fun (W : World) (hW : Below w.heap.size w W) => rTake_c a0 len0 cap0 l W (hs.fr0 (S := fun _ => False) (Fr.of_below hW) (fun _ _ _ h => h)) (by omega) hcp.1 hcp.2)
    unfold Taken at T1 T2
    obtain ⟨p, hp⟩ : ∃ p, p = parB l := ⟨_, rfl⟩
    obtain ⟨m, hm⟩ : ∃ m, m = parN l := ⟨_, rfl⟩
    obtain ⟨kd, hkd⟩ : ∃ kd, kd = (firstF l).kd := ⟨_, rfl⟩
    obtain ⟨er, her⟩ : ∃ er, er = (firstF l).er := ⟨_, rfl⟩
    rw [← hp, ← hm, ← hkd, ← her] at T1 T2
    clear hp hm hkd her hlen hs hcp w0
    go_enter Try.func4, Try.ntmps4
    go_wp2_with fail
    ((with_reducible refine T1.out.mono ?_); rintro e u1 ⟨A1, c1, rfl, hd1⟩)
    have B1 := Lib.hid hd1.out.2.1
    have K1 := Lib.hid hd1.out.1
    have N1 := Lib.hid (T2.out u1 B1.out)
    clear hd1 T1 T2
    go_wp2_with fail
    ((with_reducible refine N1.out.mono ?_); rintro e u2 ⟨A2, c2, rfl, hd2⟩)
    have B2 : Hid (Below w.heap.size w u2) := B1.out.trans (hd2.out.2.1.mono B1.out.size)
    have hcv1 := conv_str (c := c1) (K1.out.fr0 (S := fun _ => False) (Fr.of_below hd2.out.2.1) (fun _ _ _ h => h))
    have hcv2 := conv_str (c := c2) hd2.out.1
    clear hd2 N1 B1 K1
    go_wp2_with fail
    ((with_reducible refine (lives3_c _).mono ?_); rintro e u3 ⟨rfl, b3⟩)
    have B3 : Hid (Below w.heap.size w u3) := B2.out.trans (b3.mono B2.out.size)
    clear b3 B2
    go_wp2_with fail
    go_ret
    exact ⟨rfl, B3.out⟩

set_option maxRecDepth 100000 in
theorem lifted (os : Os) (started : os.Started) (H : Type) (enc : TypeId × Value → H) :
    ReturnsInHanded {} Try.checked os 4 .any (Rows.parcelTakesSpec.pre6 enc Try.prog Try.f4 Rows.parcelTakesRow.domain false) (Rows.parcelTakesSpec.post enc Try.prog Try.f4 false true false false) := by
  refine returnsInHanded_of_change (C := Try.checked) own started (by kernel_rfl) Try.func4
    (ChangeSpec.witness6 (enc := enc) (C := Try.checked) false ⟨#[], #[.slice none 0 0], []⟩ 8 (by kernel_rfl) (by kernel_rfl) (by kernel_rfl) (by kernel_rfl)) ?_
  intro W base args ds gs before hval0 hW hcnd _
  have hval : ∀ (j : Nat) t v, Try.f4.params[j]? = some t → args[j]? = some v → Value.okWide Try.prog W .any base t v := hval0
  have hW' := hW
  obtain ⟨p, q, hA0, hV, rfl, hfz, hnd⟩ := hW
  have hA : DataW.TrodAll enc Try.prog W 0 (fun _ => true) true Try.f4.params.toList args.toList ds p := hA0
  rw [Try.params4] at hA hval
  obtain ⟨v0, vs0, d0, ds0, p0, q0, hargs, rfl, rfl, h0, r0⟩ := trodAll_cons hA
  obtain ⟨rfl, rfl, rfl⟩ := trodAll_nil r0
  obtain rfl : args = #[v0] := by cases args; simp_all
  obtain ⟨rfl, rfl⟩ := trodVars_none hV
  have k0 := h0
  have lt0 : ∀ x ∈ p0, x.block < W.heap.size := by obtain ⟨m, hm⟩ := k0; exact DataW.trod_lt m _ _ _ hm
  obtain ⟨a0, len0, cap0, rfl⟩ := okWide_slice Try.underlying22 (hval 0 22 v0 rfl rfl)
  obtain ⟨z0, w0⟩ : ∃ zs, IsRow W a0 len0 cap0 zs := by
    obtain ⟨fuel, hf⟩ := h0
    rcases open_ints Try.underlying22 Try.underlying5 (by kernel_rfl) hf with ⟨hcs, _⟩ | ⟨x, l, c, zs, hcs, _, hl, hm, hz, _, hcell, hwz⟩
    · simp [Value.cells] at hcs
      obtain ⟨rfl, rfl, rfl⟩ := hcs
      exact ⟨[], .inl ⟨rfl, rfl, rfl, rfl⟩⟩
    · simp [Value.cells] at hcs
      obtain ⟨rfl, rfl, rfl⟩ := hcs
      exact ⟨zs, .inr ⟨_, rfl, hl, hm, by simpa using hz, hcell, hwz⟩⟩
  clear hA0 hval0
  refine (walk a0 len0 cap0 z0 W w0).mono fun e W' ⟨he, bel⟩ => ?_
  subst he
  exact ⟨_, rfl, _, _, _, [], _, [], hW', trodAll_mk1 (shut_bool Try.underlying4 _), (trodAll_cons_mk (Below.trod laidOut (by kernel_rfl) (of_decide_eq_true (by kernel_rfl)) k0 bel lt0) trodAll_mk0), rfl, bel.frame _, fun h => by cases h⟩

theorem over : Rows.parcelTakesRow.holds Try.pinned (OpenSpec.ofChange Rows.parcelTakesSpec) :=
  OpenClaim.holds_of_wide 4 Try.f4 rfl rfl rfl rfl rfl rfl rfl ⟨rfl, rfl, rfl, rfl, rfl⟩ rfl rfl rfl rfl rfl (by kernel_rfl) Try.func4 (by kernel_rfl)
    (of_decide_eq_true (by kernel_rfl)) (by unfold Func.isWrapper; first | (rw [if_pos (by decide +kernel)]; kernel_rfl) | (rw [if_neg (by decide +kernel)]; exact ⟨rfl, rfl⟩))
    (fun os started H enc _ => lifted os started H enc)

theorem proved : Rows.ParcelTakesSaid := over
end Go.Proofs.Ytghpafbgjbhohab.parcelTakes
