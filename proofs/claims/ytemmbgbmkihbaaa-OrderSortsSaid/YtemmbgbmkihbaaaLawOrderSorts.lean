/-
  OrderSorts: for every input the law returns true, and each argument reads behind the call as it read before. No condition.
-/
import Derived.Test.YtemmbgbmkihbaaaRows
import Derived.WalkKit
import Derived.ProofKit
import Derived.OpenShut
import Derived.ShutString
import Derived.ChangeOld
import Derived.Below
import Derived.Carry
import Derived.Test.YtemmbgbmkihbaaaOrZ
namespace Go.Proofs.Ytemmbgbmkihbaaa.orderSorts
open Go.ChangeShapes Go.WideShapes Go.ChangeAt Go.RowKit
open Go.ChangeMaps (open_string shut_string)
set_option linter.unusedVariables false

theorem own : ownKnob Try.prog.godebug = none := by kernel_rfl
theorem laidOut : laidOutB Try.prog = true := by kernel_rfl

/-- A slice of bytes that came in, as the form reads it. -/
def IsRow (w : World) (a : Option Addr) (len cap : Nat) (zs : List Int) : Prop :=
  (a = none ∧ len = 0 ∧ cap = 0 ∧ zs = []) ∨ ∃ x, a = some x ∧ len ≤ cap ∧ cap ≤ maxLen ∧ zs.length = cap ∧ (∀ i, i < zs.length → w.cell? (x.add i) = some (.int .u8 (zs.getD i 0))) ∧ ∀ n ∈ zs, (Lit.int .u8 n).wf = true

set_option maxHeartbeats 8000000 in
set_option maxRecDepth 100000 in
theorem walk (a0 : Option Addr) (len0 cap0 : Nat) (its0 : List Od) (w : World) (w0 : Ods w a0 len0 its0 ∧ len0 ≤ cap0 ∧ cap0 ≤ maxLen) :
    Calls Try.prog 7 #[.slice a0 len0 cap0] w fun e w' => e = .returned (.bool true) ∧ Below w.heap.size w w' := by
  have HL := Lib.hid lives12_c
  obtain ⟨hO, hc1, hc2⟩ := w0
  by_cases h100 : len0 ≤ 100
  case neg =>
    have hz : (100 : Int) < (len0 : Int) := by omega
    clear hO h100
    go_enter Try.func7, Try.ntmps7
    go_wp2_with fail
    refine (HL.out _).mono ?_
    rintro e w2 ⟨rfl, k2⟩
    have G2 : Hid (Below w.heap.size w w2) := Lib.hid k2
    clear k2
    go_wp2_with fail
    go_ret
    exact ⟨rfl, G2.out⟩
  have hz : ¬ (100 : Int) < (len0 : Int) := by omega
  have HO := Lib.hid hO
  have HN := Lib.hid hO.1
  have HP := Lib.hid (fun W (B : Below w.heap.size w W) => plain_c a0 len0 cap0 its0 W (HO.out.below B) (by omega))
  have HB := Lib.hid (fun W (B : Below w.heap.size w W) => bookAny_c a0 len0 cap0 its0 W (HO.out.below B))
  have HS := Lib.hid (fun W (B : Below w.heap.size w W) => sorted_c a0 len0 cap0 its0 W (HO.out.below B) (by omega))
  have h100' := Lib.hid h100
  clear hO h100
  go_enter Try.func7, Try.ntmps7
  go_wp2_with fail
  refine (HP.out _ (Below.refl _ _)).mono ?_
  rintro e w1 ⟨A1, n1, c1, rfl, HF⟩
  obtain ⟨n1, rfl⟩ : ∃ k, k = n1 := ⟨_, rfl⟩
  have en : n1 = len0 := by
    have h1 := HF.out.2.1.1
    rw [HN.out] at h1
    exact h1.symm
  subst en
  have B1 := Lib.hid HF.out.1
  have HR := Lib.hid (rSorted_c A1 n1 c1 its0 w1 HF.out.2.1 (by have := h100'.out; omega))
  clear HF
  go_wp2_with fail
  refine HR.out.mono ?_
  rintro e w2 ⟨A2, n2, c2, rfl, HF⟩
  have en : n2 = n1 := by
    have h1 := HF.out.2.1.1
    rw [sortO_len, HN.out] at h1
    exact h1.symm
  subst en
  have B2 : Hid (Below w.heap.size w w2) := Lib.hid (B1.out.trans (HF.out.1.mono B1.out.size))
  have O2 := Lib.hid HF.out.2.1
  have H3 := Lib.hid (HS.out w2 B2.out)
  clear HF HR B1
  go_wp2_with fail
  refine H3.out.mono ?_
  rintro e w3 ⟨A3, c3, rfl, hc3, O3', b3⟩
  have B3 : Hid (Below w.heap.size w w3) := Lib.hid (B2.out.trans (b3.mono B2.out.size))
  have O3 := Lib.hid O3'
  have R3 := Lib.hid (O2.out.below b3)
  have H4 := Lib.hid (same_c A3 A2 n2 c3 c2 (sortO its0) (sortO its0) w3 O3.out R3.out (by have := h100'.out; omega))
  have ee : eqL (sortO its0) (sortO its0) = true := (eqL_iff _ _).2 rfl
  rw [ee] at H4
  clear H3 b3 O3' O2 B2 ee
  go_wp2_with fail
  refine H4.out.mono ?_
  rintro e w4 ⟨rfl, k4⟩
  have B4 : Hid (Below w.heap.size w w4) := Lib.hid (B3.out.trans (k4.b.mono B3.out.size))
  have O4 := Lib.hid (O3.out.below k4.b)
  have R4 := Lib.hid (R3.out.below k4.b)
  have H5 := Lib.hid (sorted_c A3 n2 c3 (sortO its0) w4 O4.out (by have := h100'.out; omega))
  clear H4 k4 O3 R3 B3
  go_wp2_with fail
  refine H5.out.mono ?_
  rintro e w5 ⟨A5, c5, rfl, hc5, O5', b5⟩
  rw [sortO_idem] at O5'
  have B5 : Hid (Below w.heap.size w w5) := Lib.hid (B4.out.trans (b5.mono B4.out.size))
  have H6 := Lib.hid (same_c A5 A2 n2 c5 c2 (sortO its0) (sortO its0) w5 O5' (R4.out.below b5) (by have := h100'.out; omega))
  have ee : eqL (sortO its0) (sortO its0) = true := (eqL_iff _ _).2 rfl
  rw [ee] at H6
  clear H5 b5 O5' R4 O4 B4 ee
  go_wp2_with fail
  refine H6.out.mono ?_
  rintro e w6 ⟨rfl, k6⟩
  have B6 : Hid (Below w.heap.size w w6) := Lib.hid (B5.out.trans (k6.b.mono B5.out.size))
  have H7 := Lib.hid (HB.out w6 B6.out)
  clear H6 k6 B5
  go_wp2_with fail
  refine H7.out.mono ?_
  rintro e w7 ⟨rfl, k7⟩
  have B7 : Hid (Below w.heap.size w w7) := Lib.hid (B6.out.trans (k7.mono B6.out.size))
  have H8 := Lib.hid (HP.out w7 B7.out)
  clear H7 k7 B6
  go_wp2_with fail
  refine H8.out.mono ?_
  rintro e w8 ⟨A8, n8, c8, rfl, HF⟩
  have en : n8 = n2 := by
    have h1 := HF.out.2.1.1
    rw [HN.out] at h1
    exact h1.symm
  subst en
  have B8 : Hid (Below w.heap.size w w8) := Lib.hid (B7.out.trans (HF.out.1.mono B7.out.size))
  have H9 := Lib.hid (rBook_c A8 n8 c8 its0 w8 HF.out.2.1 (by have := h100'.out; omega))
  clear H8 HF B7
  go_wp2_with fail
  refine H9.out.mono ?_
  rintro e w9 ⟨rfl, k9⟩
  have B9 : Hid (Below w.heap.size w w9) := Lib.hid (B8.out.trans (k9.mono B8.out.size))
  have eb : (bookO its0 == bookO its0) = true := by simp
  generalize bookO its0 = bk at eb ⊢
  have H10 := Lib.hid (HL.out w9)
  clear H9 k9 B8 HB HP HS
  go_wp2_with fail
  refine H10.out.mono ?_
  rintro e w10 ⟨rfl, k10⟩
  have B10 : Hid (Below w.heap.size w w10) := Lib.hid (B9.out.trans (k10.mono B9.out.size))
  clear k10 B9
  go_wp2_with fail
  go_ret
  exact ⟨rfl, B10.out⟩

set_option maxRecDepth 100000 in
theorem lifted (os : Os) (started : os.Started) (H : Type) (enc : TypeId × Value → H) :
    ReturnsInHanded {} Try.checked os 7 .any (Rows.orderSortsSpec.pre6 enc Try.prog Try.f7 Rows.orderSortsRow.domain false) (Rows.orderSortsSpec.post enc Try.prog Try.f7 false true false false) := by
  refine returnsInHanded_of_change (C := Try.checked) own started (by kernel_rfl) Try.func7
    (ChangeSpec.witness6 (enc := enc) (C := Try.checked) false ⟨#[], #[.slice none 0 0], []⟩ 8 (by kernel_rfl) (by kernel_rfl) (by kernel_rfl) (by kernel_rfl)) ?_
  intro W base args ds gs before hval0 hW hcnd _
  have hval : ∀ (j : Nat) t v, Try.f7.params[j]? = some t → args[j]? = some v → Value.okWide Try.prog W .any base t v := hval0
  have hW' := hW
  obtain ⟨p, q, hA0, hV, rfl, hfz, hnd⟩ := hW
  have hA : DataW.TrodAll enc Try.prog W 0 (fun _ => true) true Try.f7.params.toList args.toList ds p := hA0
  rw [Try.params7] at hA hval
  obtain ⟨v0, vs0, d0, ds0, p0, q0, hargs, rfl, rfl, h0, r0⟩ := trodAll_cons hA
  obtain ⟨rfl, rfl, rfl⟩ := trodAll_nil r0
  obtain rfl : args = #[v0] := by cases args; simp_all
  obtain ⟨rfl, rfl⟩ := trodVars_none hV
  have k0 := h0
  have lt0 : ∀ x ∈ p0, x.block < W.heap.size := by obtain ⟨m, hm⟩ := k0; exact DataW.trod_lt m _ _ _ hm
  obtain ⟨a0, len0, cap0, rfl⟩ := okWide_slice Try.underlying47 (hval 0 47 v0 rfl rfl)
  obtain ⟨its0, w0⟩ := open_ods h0
  clear hA0 hval0
  refine (walk a0 len0 cap0 its0 W w0).mono fun e W' ⟨he, bel⟩ => ?_
  subst he
  exact ⟨_, rfl, _, _, _, [], _, [], hW', trodAll_mk1 (shut_bool Try.underlying4 _), (trodAll_cons_mk (Below.trod laidOut (by kernel_rfl) (of_decide_eq_true (by kernel_rfl)) k0 bel lt0) trodAll_mk0), rfl, bel.frame _, fun h => by cases h⟩

theorem over : Rows.orderSortsRow.holds Try.pinned (OpenSpec.ofChange Rows.orderSortsSpec) :=
  OpenClaim.holds_of_wide 7 Try.f7 rfl rfl rfl rfl rfl rfl rfl ⟨rfl, rfl, rfl, rfl, rfl⟩ rfl rfl rfl rfl rfl (by kernel_rfl) Try.func7 (by kernel_rfl)
    (of_decide_eq_true (by kernel_rfl)) (by unfold Func.isWrapper; first | (rw [if_pos (by decide +kernel)]; kernel_rfl) | (rw [if_neg (by decide +kernel)]; exact ⟨rfl, rfl⟩))
    (fun os started H enc _ => lifted os started H enc)

theorem proved : Rows.OrderSortsSaid := over
end Go.Proofs.Ytemmbgbmkihbaaa.orderSorts
