/-
  OrderBytes: for every input the law returns true, and each argument reads behind the call as it read before. No condition.
-/
import Derived.Test.YtemmbgbmkihbaaaRows
import Derived.WalkKit
import Derived.ProofKit
import Derived.OpenShut
import Derived.ShutString
import Derived.ChangeOld
import Derived.Below
import Derived.Carry
import Derived.Test.YtemmbgbmkihbaaaObT
namespace Go.Proofs.Ytemmbgbmkihbaaa.orderBytes
open Go.ChangeShapes Go.WideShapes Go.ChangeAt Go.RowKit
open Go.ChangeMaps (open_string shut_string)
set_option linter.unusedVariables false

theorem own : ownKnob Try.prog.godebug = none := by kernel_rfl
theorem laidOut : laidOutB Try.prog = true := by kernel_rfl

/-- A slice of bytes that came in, as the form reads it. -/
def IsRow (w : World) (a : Option Addr) (len cap : Nat) (zs : List Int) : Prop :=
  (a = none ∧ len = 0 ∧ cap = 0 ∧ zs = []) ∨ ∃ x, a = some x ∧ len ≤ cap ∧ cap ≤ maxLen ∧ zs.length = cap ∧ (∀ i, i < zs.length → w.cell? (x.add i) = some (.int .u8 (zs.getD i 0))) ∧ ∀ n ∈ zs, (Lit.int .u8 n).wf = true

set_option maxHeartbeats 8000000 in
set_option maxRecDepth 100000 in
theorem walk (a0 : Option Addr) (len0 cap0 : Nat) (its0 : List Od) (a1 : Option Addr) (len1 cap1 : Nat) (z1 : List Int) (w : World) (w0 : Ods w a0 len0 its0 ∧ len0 ≤ cap0 ∧ cap0 ≤ maxLen) (w1 : IsRow w a1 len1 cap1 z1) :
    Calls Try.prog 8 #[.slice a0 len0 cap0, .slice a1 len1 cap1] w fun e w' => e = .returned (.bool true) ∧ Below w.heap.size w w' := by
  have mixed : Try.prog.follows .mixedOrders = true := by kernel_rfl
  have HL := Lib.hid lives12_c
  obtain ⟨hO, hc1, hc2⟩ := w0
  obtain ⟨lm, hs⟩ := slB_of_row w1
  have HRow : Hid (len1 ≤ cap1 ∧ (a1 = none → cap1 = 0)) := by
    rcases w1 with ⟨rfl, rfl, rfl, _⟩ | ⟨x, rfl, h1, h2, h3, h4, _⟩
    · exact ⟨Nat.le_refl _, fun _ => rfl⟩
    · exact ⟨h1, fun e => by cases e⟩
  have HS := Lib.hid hs
  have HLm := Lib.hid hs.1
  clear w1 hs
  by_cases h100 : 100 < len0
  · have hz : (100 : Int) < (len0 : Int) := by omega
    clear hO h100
    go_enter Try.func8, Try.ntmps8
    go_wp2_with fail
    refine (HL.out _).mono ?_
    rintro e w2 ⟨rfl, k2⟩
    have G2 : Hid (Below w.heap.size w w2) := Lib.hid k2
    clear k2
    go_wp2_with fail
    go_ret
    exact ⟨rfl, G2.out⟩
  have hz : (len0 : Int) ≤ 100 := by omega
  by_cases hm100 : 100 < len1
  · have hz1 : (100 : Int) < (len1 : Int) := by omega
    clear hO h100 hm100
    go_enter Try.func8, Try.ntmps8
    go_wp2_with fail
    refine (HL.out _).mono ?_
    rintro e w2 ⟨rfl, k2⟩
    have G2 : Hid (Below w.heap.size w w2) := Lib.hid k2
    clear k2
    go_wp2_with fail
    go_ret
    exact ⟨rfl, G2.out⟩
  have hz1 : (len1 : Int) ≤ 100 := by omega
  have HO := Lib.hid hO
  have HN := Lib.hid hO.1
  have HOk := Lib.hid hO.2.2.1
  have H100 : Hid (len0 ≤ 100 ∧ len1 ≤ 100) := ⟨by omega, by omega⟩
  have H1 := Lib.hid (obytes_c a0 len0 cap0 its0 w hO (by omega))
  have HP := Lib.hid (fun W (B : Below w.heap.size w W) => plain_c a0 len0 cap0 its0 W (HO.out.below B) (by have := H100.out; omega))
  have HRB := Lib.hid (fun W A c (h : Ods W A len0 its0) => rbytes_c A len0 c its0 W h (by have := H100.out; omega))
  have HRK := Lib.hid (fun W A c (h : Ods W A len0 its0) => rBook_c A len0 c its0 W h (by have := H100.out; omega))
  have HLen := Lib.hid (ordsB_len HOk.out (by have := H100.out; have := HN.out; omega))
  have HPos := Lib.hid (ordsB_pos its0)
  have HWay := Lib.hid (read_ways HOk.out (by have := H100.out; have := HN.out; omega) lm)
  obtain ⟨bs, hbs⟩ : ∃ bs, ordsB its0 = bs := ⟨_, rfl⟩
  rw [hbs] at H1 HRB HLen HPos HWay
  clear hO h100 hm100 hbs
  go_enter Try.func8, Try.ntmps8
  go_wp2_with fail
  refine H1.out.mono ?_
  rintro e u1 ⟨Ab, cb, rfl, h1⟩
  have HCb : Hid (bs.length ≤ cb) := own_cap h1.out.2.2
  have HBR : Hid (BR w Ab bs a0 len0 its0 u1) := ⟨h1.out.2.1, h1.out.1, HO.out.below h1.out.2.1⟩
  clear h1 H1
  go_wp2_with fail
  refine wp_region_held_drew (S := BR w Ab bs a0 len0 its0) (by kernel_rfl) (by exact HBR.out.drew) (fun hHeld => ?_)
  refine wpAnyH_take (i := 0) (oi := ⟨some 20, _, _, _, _, _⟩) (v := ?_) rfl (by kernel_rfl) (by kernel_rfl) (by kernel_rfl) (fun _ _ _ h => h) (Or.inl ⟨by kernel_rfl, ?_⟩) (by assumption) ?_
  rotate_left
  · (intro w hSw; (try dsimp only at hSw); go_simp; try with_reducible rfl)
  (repeat (first | simp only [Act.put] | simp only [List.setIfInBounds_toArray] | simp only [List.set_cons_succ] | simp only [List.set_cons_zero]))
  refine wpAnyH_take (i := 1) (oi := ⟨some 21, _, _, _, _, _⟩) (v := ?_) rfl (by kernel_rfl) (by kernel_rfl) (by kernel_rfl) (fun _ _ _ h => h) (Or.inl ⟨by kernel_rfl, ?_⟩) (by assumption) ?_
  rotate_left
  · (intro w hSw; have hcv := BR.cv hSw cb; (try dsimp only at hSw); go_simp; try with_reducible rfl)
  (repeat (first | simp only [Act.put] | simp only [List.setIfInBounds_toArray] | simp only [List.set_cons_succ] | simp only [List.set_cons_zero]))
  refine wpAnyH_take (i := 2) (oi := ⟨some 22, _, _, _, _, _⟩) (v := ?_) rfl (by kernel_rfl) (by kernel_rfl) (by kernel_rfl) (fun _ _ _ h => h) (Or.inl ⟨by kernel_rfl, ?_⟩) (by assumption) ?_
  rotate_left
  · (intro w hSw; (try dsimp only at hSw); go_simp; try with_reducible rfl)
  (repeat (first | simp only [Act.put] | simp only [List.setIfInBounds_toArray] | simp only [List.set_cons_succ] | simp only [List.set_cons_zero]))
  refine wpAnyH_ready (rs := [3]) (by kernel_rfl) (by simp) ?_
  refine AllReadyH.cons (o := ⟨some 23, _, _, _, _, _⟩) rfl (fun K hK => ?_) AllReadyH.nil
  go_simp
  ((with_reducible refine (HP.out _ (BR.b (by assumption))).mono ?_); rintro e u2 ⟨A2, n2, c2, rfl, h2⟩)
  have G2 : BR w Ab bs a0 len0 its0 u2 := BR.below (by assumption) h2.out.1
  have en : n2 = len0 := by (have hh := h2.out.2.1.1; rw [HN.out] at hh; exact hh.symm)
  subst en
  have O2 := Lib.hid h2.out.2.1
  clear h2
  refine hK.out _ _ (by exact G2) (fun hHeld => ?_)
  clear hK K
  (repeat (first | simp only [Act.put] | simp only [List.setIfInBounds_toArray] | simp only [List.set_cons_succ] | simp only [List.set_cons_zero]))
  refine wpAnyH_ready (rs := [4]) (by kernel_rfl) (by simp) ?_
  refine AllReadyH.cons (o := ⟨some 24, _, _, _, _, _⟩) rfl (fun K hK => ?_) AllReadyH.nil
  go_simp
  ((with_reducible refine (HRB.out _ _ _ O2.out).mono ?_); rintro e u3 ⟨A3, c3, rfl, h3⟩)
  have G3 : BR w Ab bs a0 n2 its0 u3 := BR.below G2 h3.out.2.1
  have hcv3 := conv_str (c := c3) h3.out.1
  clear h3 O2 G2
  refine hK.out _ _ (by exact G3) (fun hHeld => ?_)
  clear hK K
  (repeat (first | simp only [Act.put] | simp only [List.setIfInBounds_toArray] | simp only [List.set_cons_succ] | simp only [List.set_cons_zero]))
  refine wpAnyH_ready (rs := [5]) (by kernel_rfl) (by simp) ?_
  refine AllReadyH.cons (o := ⟨some 25, _, _, _, _, _⟩) rfl (fun K hK => ?_) AllReadyH.nil
  go_simp
  refine hK.out _ _ (by exact G3) (fun hHeld => ?_)
  clear hK K
  (repeat (first | simp only [Act.put] | simp only [List.setIfInBounds_toArray] | simp only [List.set_cons_succ] | simp only [List.set_cons_zero]))
  refine wpAnyH_take (i := 6) (oi := ⟨some 26, _, _, _, _, _⟩) (v := ?_) rfl (by kernel_rfl) (by kernel_rfl) (by kernel_rfl) (fun _ _ _ h => h) (Or.inl ⟨by kernel_rfl, ?_⟩) (by assumption) ?_
  rotate_left
  · (intro w hSw; (try dsimp only at hSw); go_simp; try with_reducible rfl)
  (repeat (first | simp only [Act.put] | simp only [List.setIfInBounds_toArray] | simp only [List.set_cons_succ] | simp only [List.set_cons_zero]))
  refine wpAnyH_done (by kernel_rfl) ?_ _
  have HB3 := Lib.hid G3
  clear HBR HRB hHeld hcv3 G3
  have A1 := Lib.hid (SlB.some HB3.out.2.1 (by have := HPos.out; omega))
  obtain ⟨bb, boff, hAb⟩ := A1.out
  subst hAb
  have hown0 := empty_own u3 w HB3.out.1.size
  have Bz : Hid (Below w.heap.size w (u3.alloc (Obj.cells #[] 5)) ∧ w.heap.size ≤ (u3.alloc (Obj.cells #[] 5)).heap.size) := ⟨HB3.out.1.alloc HB3.out.1.size _, by have := HB3.out.1.size; simp; omega⟩
  have S0 : SlB (u3.alloc (Obj.cells #[] 5)) (some ⟨bb, boff, none⟩) bs.length bs := HB3.out.2.1.fr0 (S := fun _ => False) (Fr.of_below ((Below.refl _ _).alloc (Nat.le_refl _) _)) (fun _ _ _ h => h)
  go_wp2_with (at_builtin; refine append_bytes0 rfl _ _ rfl w.heap.size _ [] rfl hown0 (some ⟨bb, boff, none⟩) _ cb bs rfl S0 HCb.out (fun e => by cases e) (by have := HLen.out; simp; omega) Bz.out.2 ?_)
  intro v4 u4 bs4 HB4 hown4 b4
  have B4 : Hid (Below w.heap.size w u4) := Bz.out.1.trans b4
  have E4 : Hid (bs4 = bs) := Lib.hid (HB4.out.trans (List.nil_append bs))
  have S4 : SlB u4 a1 len1 lm := HS.out.fr0 (S := fun _ => False) (Fr.of_below B4.out) (fun _ _ _ h => h)
  have hsz4 := B4.out.size
  clear hown0 S0 b4 Bz A1
  go_wp2_with (at_builtin; refine append_bytes0 rfl _ _ rfl w.heap.size _ bs4 rfl hown4 a1 _ cap1 lm rfl S4 HRow.out.1 HRow.out.2 (by have := HLen.out; have := H100.out; rw [E4.out]; omega) hsz4 ?_)
  intro v5 u5 bs5 HB5 hown5 b5
  have B5 : Hid (Below w.heap.size w u5) := B4.out.trans b5
  have E5 : Hid (bs5 = bs ++ lm) := Lib.hid (by rw [HB5.out, E4.out])
  obtain ⟨k5, cp5, hv5, _, _, hs5⟩ := own_slb hown5 (by rw [E5.out, List.length_append]; have := HPos.out; omega)
  subst hv5
  have HOp := Lib.hid (Co.Open_c (some ⟨k5, 0, none⟩) bs5.length cp5 bs5 u5 hs5)
  clear hown4 S4 b5 hown5 hs5 HB4 HB5 hsz4 E4 B4
  go_wp2_with fail
  refine HOp.out.mono ?_
  rintro e u6 ⟨rfl, hu6⟩
  have R6 : Hid (Co.RB u6 u5.heap.size (bs ++ lm) false) := Lib.hid (by
    rw [← hu6, ← E5.out]; exact heap_alloc_new u5 _)
  have B6 : Hid (Below w.heap.size w u6) := Lib.hid (by
    rw [← hu6]; exact B5.out.alloc B5.out.size _)
  have hg := Lib.hid B5.out.size
  generalize u5.heap.size = g at R6 hg ⊢
  have HRd := Lib.hid (oread_c g (bs ++ lm) false u6 R6.out)
  rw [HWay.out] at HRd
  clear HOp hu6 E5 B5
  obtain ⟨p, hp⟩ : ∃ p, bookO its0 = p := ⟨_, rfl⟩
  rw [hp] at HRd HRK
  have HPb := Lib.hid hp
  clear hp HWay
  cases p with
  | false =>
    rw [if_neg Bool.false_ne_true] at HRd
    go_wp2_with fail
    refine HRd.out.mono ?_
    rintro e u7 ⟨A7, c7, rfl, h7⟩
    dsimp only at h7 ⊢
    have B7 : Hid (Below w.heap.size w u7) := B6.out.trans ((Fr.tch h7.out.2.2.1).below (fun k hk => by have := hg.out; omega) B6.out.size)
    have R7 : Hid (Co.RB u7 g [] true) := h7.out.2.2.2.1
    clear HRd h7 R6 B6
    go_wp2_with fail
    refine (HP.out u7 B7.out).mono ?_
    rintro e u8 ⟨A8, n8, c8, rfl, h8⟩
    have en : n8 = n2 := by
      have h1 := h8.out.2.1.1
      rw [HN.out] at h1
      exact h1.symm
    subst en
    have B8 : Hid (Below w.heap.size w u8) := B7.out.trans (h8.out.1.mono B7.out.size)
    have R8 : Hid (Co.RB u8 g [] true) := rb_below R7.out h8.out.1
    have O8 := Lib.hid h8.out.2.1
    clear h8 R7 B7
    go_wp2_with fail
    refine (HRK.out u8 A8 c8 O8.out).mono ?_
    rintro e u9 ⟨rfl, k9⟩
    have B9 : Hid (Below w.heap.size w u9) := B8.out.trans (k9.mono B8.out.size)
    have R9 : Hid (Co.RB u9 g [] true) := rb_below R8.out k9
    have HBd := Lib.hid (Co.Bad_c g [] true u9 R9.out)
    clear k9 O8 R8 B8
    go_wp2_with fail
    refine HBd.out.mono ?_
    rintro e u10 ⟨rfl, rfl⟩
    clear HBd
    go_wp2_with fail
    refine (HL.out _).mono ?_
    rintro e u11 ⟨rfl, k11⟩
    have B11 : Hid (Below w.heap.size w u11) := B9.out.trans (k11.mono B9.out.size)
    clear k11
    go_wp2_with fail
    go_ret
    exact ⟨rfl, B11.out⟩
  | true =>
    rw [if_pos rfl] at HRd
    go_wp2_with fail
    refine HRd.out.mono ?_
    rintro e u7 ⟨A7, c7, rfl, h7⟩
    dsimp only at h7 ⊢
    have B7 : Hid (Below w.heap.size w u7) := B6.out.trans ((Fr.tch h7.out.2.2.1).below (fun k hk => by have := hg.out; omega) B6.out.size)
    have R7 : Hid (Co.RB u7 g lm false) := h7.out.2.2.2.1
    have X7 : Hid (Ods u7 A7 n2 its0) := Lib.hid (by have := h7.out.1; rw [HN.out] at this; exact this)
    rw [HN.out]
    clear HRd h7 R6 B6
    go_wp2_with fail
    refine (HP.out u7 B7.out).mono ?_
    rintro e u8 ⟨A8, n8, c8, rfl, h8⟩
    have en : n8 = n2 := by
      have h1 := h8.out.2.1.1
      rw [HN.out] at h1
      exact h1.symm
    subst en
    have B8 : Hid (Below w.heap.size w u8) := B7.out.trans (h8.out.1.mono B7.out.size)
    have R8 : Hid (Co.RB u8 g lm false) := rb_below R7.out h8.out.1
    have X8 : Hid (Ods u8 A7 n8 its0) := X7.out.below h8.out.1
    have O8 := Lib.hid h8.out.2.1
    clear h8 R7 B7 X7
    go_wp2_with fail
    refine (HRK.out u8 A8 c8 O8.out).mono ?_
    rintro e u9 ⟨rfl, k9⟩
    have B9 : Hid (Below w.heap.size w u9) := B8.out.trans (k9.mono B8.out.size)
    have R9 : Hid (Co.RB u9 g lm false) := rb_below R8.out k9
    have X9 : Hid (Ods u9 A7 n8 its0) := X8.out.below k9
    clear k9 O8 R8 B8 X8
    go_wp2_with fail
    refine (HP.out u9 B9.out).mono ?_
    rintro e u10 ⟨A10, n10, c10, rfl, h10⟩
    have en : n10 = n8 := by
      have h1 := h10.out.2.1.1
      rw [HN.out] at h1
      exact h1.symm
    subst en
    have B10 : Hid (Below w.heap.size w u10) := B9.out.trans (h10.out.1.mono B9.out.size)
    have R10 : Hid (Co.RB u10 g lm false) := rb_below R9.out h10.out.1
    have X10 : Hid (Ods u10 A7 n10 its0) := X9.out.below h10.out.1
    have HSm := Lib.hid (same_c A7 A10 n10 c7 c10 its0 its0 u10 X10.out h10.out.2.1 (by have := H100.out; omega))
    rw [(eqL_iff its0 its0).2 rfl] at HSm
    clear h10 R9 B9 X9
    go_wp2_with fail
    refine HSm.out.mono ?_
    rintro e u11 ⟨rfl, k11⟩
    have B11 : Hid (Below w.heap.size w u11) := B10.out.trans (k11.b.mono B10.out.size)
    have R11 : Hid (Co.RB u11 g lm false) := rb_below R10.out k11.b
    have HLf := Lib.hid (Co.Left_c g lm false u11 R11.out)
    rw [HLm.out] at HLf
    clear HSm k11 X10 R10 B10
    go_wp2_with fail
    refine HLf.out.mono ?_
    rintro e u12 ⟨rfl, rfl⟩
    clear HLf
    have ee : ((len1 : Int) == (len1 : Int)) = true := by simp
    go_wp2_with fail
    refine (HL.out _).mono ?_
    rintro e u13 ⟨rfl, k13⟩
    have B13 : Hid (Below w.heap.size w u13) := B11.out.trans (k13.mono B11.out.size)
    clear k13
    go_wp2_with fail
    go_ret
    exact ⟨rfl, B13.out⟩

set_option maxRecDepth 100000 in
theorem lifted (os : Os) (started : os.Started) (H : Type) (enc : TypeId × Value → H) :
    ReturnsInHanded {} Try.checked os 8 .any (Rows.orderBytesSpec.pre6 enc Try.prog Try.f8 Rows.orderBytesRow.domain false) (Rows.orderBytesSpec.post enc Try.prog Try.f8 false true false false) := by
  refine returnsInHanded_of_change (C := Try.checked) own started (by kernel_rfl) Try.func8
    (ChangeSpec.witness6 (enc := enc) (C := Try.checked) false ⟨#[], #[.slice none 0 0, .slice none 0 0], []⟩ 8 (by kernel_rfl) (by kernel_rfl) (by kernel_rfl) (by kernel_rfl)) ?_
  intro W base args ds gs before hval0 hW hcnd _
  have hval : ∀ (j : Nat) t v, Try.f8.params[j]? = some t → args[j]? = some v → Value.okWide Try.prog W .any base t v := hval0
  have hW' := hW
  obtain ⟨p, q, hA0, hV, rfl, hfz, hnd⟩ := hW
  have hA : DataW.TrodAll enc Try.prog W 0 (fun _ => true) true Try.f8.params.toList args.toList ds p := hA0
  rw [Try.params8] at hA hval
  obtain ⟨v0, vs0, d0, ds0, p0, q0, hargs, rfl, rfl, h0, r0⟩ := trodAll_cons hA
  obtain ⟨v1, vs1, d1, ds1, p1, q1, rfl, rfl, rfl, h1, r1⟩ := trodAll_cons r0
  obtain ⟨rfl, rfl, rfl⟩ := trodAll_nil r1
  obtain rfl : args = #[v0, v1] := by cases args; simp_all
  obtain ⟨rfl, rfl⟩ := trodVars_none hV
  have k0 := h0
  have lt0 : ∀ x ∈ p0, x.block < W.heap.size := by obtain ⟨m, hm⟩ := k0; exact DataW.trod_lt m _ _ _ hm
  obtain ⟨a0, len0, cap0, rfl⟩ := okWide_slice Try.underlying47 (hval 0 47 v0 rfl rfl)
  obtain ⟨its0, w0⟩ := open_ods h0
  have k1 := h1
  have lt1 : ∀ x ∈ p1, x.block < W.heap.size := by obtain ⟨m, hm⟩ := k1; exact DataW.trod_lt m _ _ _ hm
  obtain ⟨a1, len1, cap1, rfl⟩ := okWide_slice Try.underlying68 (hval 1 68 v1 rfl rfl)
  obtain ⟨z1, w1⟩ : ∃ zs, IsRow W a1 len1 cap1 zs := by
    obtain ⟨fuel, hf⟩ := h1
    rcases open_ints Try.underlying68 Try.underlying5 (by kernel_rfl) hf with ⟨hcs, _⟩ | ⟨x, l, c, zs, hcs, _, hl, hm, hz, _, hcell, hwz⟩
    · simp [Value.cells] at hcs
      obtain ⟨rfl, rfl, rfl⟩ := hcs
      exact ⟨[], .inl ⟨rfl, rfl, rfl, rfl⟩⟩
    · simp [Value.cells] at hcs
      obtain ⟨rfl, rfl, rfl⟩ := hcs
      exact ⟨zs, .inr ⟨_, rfl, hl, hm, by simpa using hz, hcell, hwz⟩⟩
  clear hA0 hval0
  refine (walk a0 len0 cap0 its0 a1 len1 cap1 z1 W w0 w1).mono fun e W' ⟨he, bel⟩ => ?_
  subst he
  exact ⟨_, rfl, _, _, _, [], _, [], hW', trodAll_mk1 (shut_bool Try.underlying4 _), (trodAll_cons_mk (Below.trod laidOut (by kernel_rfl) (of_decide_eq_true (by kernel_rfl)) k0 bel lt0) (trodAll_cons_mk (Below.trod laidOut (by kernel_rfl) (of_decide_eq_true (by kernel_rfl)) k1 bel lt1) trodAll_mk0)), rfl, bel.frame _, fun h => by cases h⟩

theorem over : Rows.orderBytesRow.holds Try.pinned (OpenSpec.ofChange Rows.orderBytesSpec) :=
  OpenClaim.holds_of_wide 8 Try.f8 rfl rfl rfl rfl rfl rfl rfl ⟨rfl, rfl, rfl, rfl, rfl⟩ rfl rfl rfl rfl rfl (by kernel_rfl) Try.func8 (by kernel_rfl)
    (of_decide_eq_true (by kernel_rfl)) (by unfold Func.isWrapper; first | (rw [if_pos (by decide +kernel)]; kernel_rfl) | (rw [if_neg (by decide +kernel)]; exact ⟨rfl, rfl⟩))
    (fun os started H enc _ => lifted os started H enc)

theorem proved : Rows.OrderBytesSaid := over
end Go.Proofs.Ytemmbgbmkihbaaa.orderBytes
