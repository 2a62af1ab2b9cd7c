/-
  OrderRank: for every input the law returns true, and each argument reads behind the call as it read before. No condition.
-/
import Derived.Test.YtpegkojcemggaaaRows
import Derived.WalkKit
import Derived.ProofKit
import Derived.OpenShut
import Derived.ShutString
import Derived.ChangeOld
import Derived.Below
import Derived.Carry
import Derived.Test.YtpegkojcemggaaaOrJ
namespace Go.Proofs.Ytpegkojcemggaaa.orderRank
open Go.ChangeShapes Go.WideShapes Go.ChangeAt Go.RowKit
open Go.ChangeMaps (open_string shut_string)
set_option linter.unusedVariables false

theorem own : ownKnob Try.prog.godebug = none := by kernel_rfl
theorem laidOut : laidOutB Try.prog = true := by kernel_rfl

/-- A slice of bytes that came in, as the form reads it. -/
def IsRow (w : World) (a : Option Addr) (len cap : Nat) (zs : List Int) : Prop :=
  (a = none ∧ len = 0 ∧ cap = 0 ∧ zs = []) ∨ ∃ x, a = some x ∧ len ≤ cap ∧ cap ≤ maxLen ∧ zs.length = cap ∧ (∀ i, i < zs.length → w.cell? (x.add i) = some (.int .u8 (zs.getD i 0))) ∧ ∀ n ∈ zs, (Lit.int .u8 n).wf = true

set_option maxHeartbeats 8000000 in
set_option maxRecDepth 100000 in
theorem walk (x0 : Od) (x1 : Od) (x2 : Od) (a3 : Int) (w : World) (w0 : x0.ok w) (w1 : x1.ok w) (w2 : x2.ok w) (w3 : (Lit.int .i64 a3).wf = true) :
    Calls Try.prog 5 #[x0.val, x1.val, x2.val, .int .i64 a3] w fun e w' => e = .returned (.bool true) ∧ Below w.heap.size w w' := by
  have mixed : Try.prog.follows .mixedOrders = true := by kernel_rfl
  have HL := Lib.hid lives12_c
  obtain ⟨i0, c0, s0, p0, q0, e0⟩ := x0
  obtain ⟨i1, c1, s1, p1, q1, e1⟩ := x1
  obtain ⟨i2, c2, s2, p2, q2, e2⟩ := x2
  clear w0 w1 w2 w3
  unfold Od.val
  dsimp only
  obtain ⟨y0, h0⟩ : ∃ y : Od, y = ⟨i0, c0, a3, p0, q0, e0⟩ := ⟨_, rfl⟩
  obtain ⟨y1, h1⟩ : ∃ y : Od, y = ⟨i1, c1, a3, p1, q1, e1⟩ := ⟨_, rfl⟩
  obtain ⟨y2, h2⟩ : ∃ y : Od, y = ⟨i2, c2, a3, p2, q2, e2⟩ := ⟨_, rfl⟩
  have HS : Hid (y0.side = a3 ∧ y1.side = a3 ∧ y2.side = a3) := Lib.hid ⟨by rw [h0], by rw [h1], by rw [h2]⟩
  have TB : ∀ W, W = ((w.alloc (Obj.cells #[.int .u64 i0, .int .i64 c0, .int .i64 a3, .int .i64 p0, .int .i64 q0, .int .u64 e0] 24)).alloc (Obj.cells #[.int .u64 i1, .int .i64 c1, .int .i64 a3, .int .i64 p1, .int .i64 q1, .int .u64 e1] 24)).alloc (Obj.cells #[.int .u64 i2, .int .i64 c2, .int .i64 a3, .int .i64 p2, .int .i64 q2, .int .u64 e2] 24) → W.heap[w.heap.size]? = some (.cells (OC y0) 24 (0, 0)) ∧ W.heap[w.heap.size + 1]? = some (.cells (OC y1) 24 (0, 0)) ∧ W.heap[w.heap.size + 1 + 1]? = some (.cells (OC y2) 24 (0, 0)) ∧ Gw w W ∧ W.heap.size = w.heap.size + 3 := fun W hW => by
    rw [hW, h0, h1, h2]; exact three_box w _ _ _
  have HTB := Lib.hid TB
  clear h0 h1 h2 TB
  go_enter Try.func5, Try.ntmps5
  go_upto_region 2 with fail
  generalize hW : ((w.alloc (Obj.cells #[.int .u64 i0, .int .i64 c0, .int .i64 a3, .int .i64 p0, .int .i64 q0, .int .u64 e0] 24)).alloc (Obj.cells #[.int .u64 i1, .int .i64 c1, .int .i64 a3, .int .i64 p1, .int .i64 q1, .int .u64 e1] 24)).alloc (Obj.cells #[.int .u64 i2, .int .i64 c2, .int .i64 a3, .int .i64 p2, .int .i64 q2, .int .u64 e2] 24) = W
  obtain ⟨f0, f1, f2, G, z⟩ := HTB.out W hW.symm
  clear hW HTB
  have HG := Lib.hid G
  clear G
  by_cases hs : a3 ≠ 1 ∧ a3 ≠ 2
  · obtain ⟨n1, n2⟩ := hs
    have b1 : (a3 != 1) = true := by simp [n1]
    have b2 : (a3 != 2) = true := by simp [n2]
    have HA : Hid (∀ W, Calls Try.prog 13 #[.agg (OC y0), .agg (OC y1)] W fun e w' => e = .returned (.bool false) ∧ Gw W w') := Lib.hid (fun W => by
      have := ahead_o y0 y1 W
      rw [ahd_none (by rw [HS.out.1]; exact n1) (by rw [HS.out.1]; exact n2)] at this
      exact this)
    clear n1 n2
    go_wp2_with (first | ((with_reducible apply loadO (z := y0)); rfl; rfl; rfl; exact f0; skip) | ((with_reducible apply loadO (z := y1)); rfl; rfl; rfl; exact f1; skip) | ((with_reducible apply loadO (z := y2)); rfl; rfl; rfl; exact f2; skip))
    refine (HA.out _).mono ?_
    rintro e w1 ⟨rfl, k1⟩
    have G1 : Hid (Gw w w1) := Lib.hid (HG.out.trans k1)
    clear k1 f0 f1 f2 HA
    go_wp2_with fail
    refine (HL.out _).mono ?_
    rintro e w2 ⟨rfl, k2⟩
    have G2 : Hid (Below w.heap.size w w2) := Lib.hid (G1.out.b.trans (k2.mono G1.out.b.size))
    clear k2
    go_wp2_with fail
    go_ret
    exact ⟨rfl, G2.out⟩
  have hs' : a3 = 1 ∨ a3 = 2 := by omega
  have HU := Lib.hid (ahd_unlike HS.out.1 HS.out.2.1 hs')
  have HT := Lib.hid (fun h k => ahd_trans (x := y0) (y := y1) (z := y2) h k)
  obtain ⟨p, hp⟩ : ∃ p, ahdO y0 y1 = p := ⟨_, rfl⟩
  obtain ⟨q, hq⟩ : ∃ q, ahdO y1 y0 = q := ⟨_, rfl⟩
  obtain ⟨r, hr⟩ : ∃ r, ahdO y1 y2 = r := ⟨_, rfl⟩
  obtain ⟨s, hs2⟩ : ∃ s, ahdO y0 y2 = s := ⟨_, rfl⟩
  have H01 := Lib.hid (fun W => ahead_g y0 y1 W)
  have H10 := Lib.hid (fun W => ahead_g y1 y0 W)
  have H12 := Lib.hid (fun W => ahead_o y1 y2 W)
  have H02 := Lib.hid (fun W => ahead_o y0 y2 W)
  have K01 := Lib.hid (fun W => ahead_o y0 y1 W)
  rw [hp] at H01 K01
  rw [hq] at H10
  rw [hr] at H12
  rw [hs2] at H02
  rw [hp, hq] at HU
  rw [hp, hr, hs2] at HT
  clear hp hq hr hs2
  obtain ⟨u, hu⟩ : ∃ u, u = unlikeO y0 y1 := ⟨_, rfl⟩
  have EU := Lib.hid hu
  clear hu
  have hne : ((p != q) != u) = false := by rw [HU.out, EU.out]; simp
  have HNE := Lib.hid hne
  clear hne HU
  obtain ⟨x00, x01, x02, x03, x04, x05⟩ := box_cells f0
  obtain ⟨x10, x11, x12, x13, x14, x15⟩ := box_cells f1
  clear hs
  go_cut [21] (fun s21 wx => s21 = .bool false ∧ wx = W)
  case first =>
    rcases hs' with h | h
    · have b1 : (a3 != 1) = false := by simp [h]
      clear h
      go_wp2_with fail
      go_meet
      case rel => exact ⟨rfl, rfl⟩
    · have b1 : (a3 != 1) = true := by simp [h]
      have b2 : (a3 != 2) = false := by simp [h]
      clear h
      go_wp2_with fail
      go_meet
      case rel => exact ⟨rfl, rfl⟩
  case rest =>
  obtain ⟨rfl, hwc⟩ := hcut
  obtain rfl : W = wc := hwc.symm
  clear hs'
  go_upto_region 4 with fail
  go_cut [9] (fun s9 wx => s9 = .bool u ∧ wx = W)
  case first =>
    by_cases d1 : y0.price = y1.price
    rotate_left
    · have eu : u = true := by rw [EU.out]; unfold unlikeO; exact decide_eq_true (.inl d1)
      have EE := Lib.hid eu
      have t1 : (y0.price != y1.price) = true := by simp [d1]
      clear eu d1
      go_wp2_with fail
      go_meet
      case rel => exact ⟨by rw [EE.out], rfl⟩
    have t1 : (y0.price != y1.price) = false := by simp [d1]
    by_cases d2 : y0.seq = y1.seq
    rotate_left
    · have eu : u = true := by rw [EU.out]; unfold unlikeO; exact decide_eq_true (.inr (.inl d2))
      have EE := Lib.hid eu
      have t2 : (y0.seq != y1.seq) = true := by simp [d2]
      clear eu d1 d2
      go_wp2_with fail
      go_meet
      case rel => exact ⟨by rw [EE.out], rfl⟩
    have t2 : (y0.seq != y1.seq) = false := by simp [d2]
    by_cases d3 : y0.id = y1.id
    rotate_left
    · have eu : u = true := by rw [EU.out]; unfold unlikeO; exact decide_eq_true (.inr (.inr d3))
      have EE := Lib.hid eu
      have t3 : (y0.id != y1.id) = true := by simp [d3]
      clear eu d1 d2 d3
      go_wp2_with fail
      go_meet
      case rel => exact ⟨by rw [EE.out], rfl⟩
    have t3 : (y0.id != y1.id) = false := by simp [d3]
    have eu : u = false := by rw [EU.out]; unfold unlikeO; exact decide_eq_false (fun h => by rcases h with h | h | h; exact h d1; exact h d2; exact h d3)
    have EE := Lib.hid eu
    clear eu d1 d2 d3
    go_wp2_with fail
    go_meet
    case rel => exact ⟨by rw [EE.out], rfl⟩
  case rest =>
  obtain ⟨rfl, hwc⟩ := hcut
  obtain rfl : W = wc := hwc.symm
  have zl : w.heap.size + 1 + 1 < W.heap.size := by omega
  have g00 := fun n os => (box_cells (grown_cell f0 n os))
  have g10 := fun n os => (box_cells (grown_cell f1 n os))
  have HW := Lib.hid (And.intro f0 (And.intro f1 f2))
  clear f0 f1 f2 x00 x01 x02 x03 x04 x05 x10 x11 x12 x13 x14 x15 zl
  have GGR := Lib.hid (fun (n : Nat) (os : Array Obj) => gw_grow W n os)
  go_upto_region 5 with fail
  go_cut [56] (fun s56 wx => s56 = .bool false ∧ Hid (Gw W wx))
  case first =>
    have hne := HNE.out
    cases p <;> cases q <;> cases u <;> first | (exfalso; revert hne; decide) | skip
    all_goals
      clear hne HNE EU HT
      go_quiet_grown (first | (go_at_call 13; with_reducible refine Calls.grown_of (H01.out _)) | (go_at_call 13; with_reducible refine Calls.grown_of (H10.out _)))
      go_wp2_with fail
      go_meet
      case rel => exact ⟨rfl, GGR.out _ _⟩
  case rest =>
  obtain ⟨rfl, hGG⟩ := hcut
  have GG := hGG.out
  have f0 := gw_heap GG HW.out.1
  have f1 := gw_heap GG HW.out.2.1
  have f2 := gw_heap GG HW.out.2.2
  have HG2 : Hid (Gw w wc) := Lib.hid (HG.out.trans GG)
  clear GG hGG g00 g10 HW HG HNE EU H01 H10 GGR
  cases p
  · go_wp2_with (first | ((with_reducible apply loadO (z := y0)); rfl; rfl; rfl; exact f0; skip) | ((with_reducible apply loadO (z := y1)); rfl; rfl; rfl; exact f1; skip) | ((with_reducible apply loadO (z := y2)); rfl; rfl; rfl; exact f2; skip))
    refine (K01.out _).mono ?_
    rintro e w1 ⟨rfl, k1⟩
    have G1 : Hid (Gw w w1) := Lib.hid (HG2.out.trans k1)
    clear k1 f0 f1 f2 HG2
    go_wp2_with fail
    refine (HL.out _).mono ?_
    rintro e w2 ⟨rfl, k2⟩
    have G2 : Hid (Below w.heap.size w w2) := Lib.hid (G1.out.b.trans (k2.mono G1.out.b.size))
    clear k2
    go_wp2_with fail
    go_ret
    exact ⟨rfl, G2.out⟩
  · cases r
    · go_wp2_with (first | ((with_reducible apply loadO (z := y0)); rfl; rfl; rfl; exact f0; skip) | ((with_reducible apply loadO (z := y1)); rfl; rfl; rfl; exact f1; skip) | ((with_reducible apply loadO (z := y2)); rfl; rfl; rfl; exact f2; skip))
      refine (K01.out _).mono ?_
      rintro e w1 ⟨rfl, k1⟩
      have G1 : Hid (Gw w w1) := Lib.hid (HG2.out.trans k1)
      replace f1 := gw_heap k1 f1
      replace f2 := gw_heap k1 f2
      clear k1 f0 HG2
      go_wp2_with (first | ((with_reducible apply loadO (z := y1)); rfl; rfl; rfl; exact f1; skip) | ((with_reducible apply loadO (z := y2)); rfl; rfl; rfl; exact f2; skip))
      refine (H12.out _).mono ?_
      rintro e w2 ⟨rfl, k2⟩
      have G2 : Hid (Gw w w2) := Lib.hid (G1.out.trans k2)
      clear k2 f1 f2
      go_wp2_with fail
      refine (HL.out _).mono ?_
      rintro e w3 ⟨rfl, k3⟩
      have G3 : Hid (Below w.heap.size w w3) := Lib.hid (G2.out.b.trans (k3.mono G2.out.b.size))
      clear k3
      go_wp2_with fail
      go_ret
      exact ⟨rfl, G3.out⟩
    · have es : s = true := HT.out rfl rfl
      subst es
      go_wp2_with (first | ((with_reducible apply loadO (z := y0)); rfl; rfl; rfl; exact f0; skip) | ((with_reducible apply loadO (z := y1)); rfl; rfl; rfl; exact f1; skip) | ((with_reducible apply loadO (z := y2)); rfl; rfl; rfl; exact f2; skip))
      refine (K01.out _).mono ?_
      rintro e w1 ⟨rfl, k1⟩
      have G1 : Hid (Gw w w1) := Lib.hid (HG2.out.trans k1)
      replace f0 := gw_heap k1 f0
      replace f1 := gw_heap k1 f1
      replace f2 := gw_heap k1 f2
      clear k1 HG2
      go_wp2_with (first | ((with_reducible apply loadO (z := y0)); rfl; rfl; rfl; exact f0; skip) | ((with_reducible apply loadO (z := y1)); rfl; rfl; rfl; exact f1; skip) | ((with_reducible apply loadO (z := y2)); rfl; rfl; rfl; exact f2; skip))
      refine (H12.out _).mono ?_
      rintro e w2 ⟨rfl, k2⟩
      have G2 : Hid (Gw w w2) := Lib.hid (G1.out.trans k2)
      replace f0 := gw_heap k2 f0
      replace f2 := gw_heap k2 f2
      clear k2 f1
      go_wp2_with (first | ((with_reducible apply loadO (z := y0)); rfl; rfl; rfl; exact f0; skip) | ((with_reducible apply loadO (z := y2)); rfl; rfl; rfl; exact f2; skip))
      refine (H02.out _).mono ?_
      rintro e w3 ⟨rfl, k3⟩
      have G3 : Hid (Gw w w3) := Lib.hid (G2.out.trans k3)
      clear k3 f0 f2
      go_wp2_with fail
      refine (HL.out _).mono ?_
      rintro e w4 ⟨rfl, k4⟩
      have G4 : Hid (Below w.heap.size w w4) := Lib.hid (G3.out.b.trans (k4.mono G3.out.b.size))
      clear k4
      go_wp2_with fail
      go_ret
      exact ⟨rfl, G4.out⟩

set_option maxRecDepth 100000 in
theorem lifted (os : Os) (started : os.Started) (H : Type) (enc : TypeId × Value → H) :
    ReturnsInHanded {} Try.checked os 5 .any (Rows.orderRankSpec.pre6 enc Try.prog Try.f5 Rows.orderRankRow.domain false) (Rows.orderRankSpec.post enc Try.prog Try.f5 false true false false) := by
  refine returnsInHanded_of_change (C := Try.checked) own started (by kernel_rfl) Try.func5
    (ChangeSpec.witness6 (enc := enc) (C := Try.checked) false ⟨#[], #[.agg #[.int .u64 0, .int .i64 0, .int .i64 0, .int .i64 0, .int .i64 0, .int .u64 0], .agg #[.int .u64 0, .int .i64 0, .int .i64 0, .int .i64 0, .int .i64 0, .int .u64 0], .agg #[.int .u64 0, .int .i64 0, .int .i64 0, .int .i64 0, .int .i64 0, .int .u64 0], .int .i64 0], []⟩ 8 (by kernel_rfl) (by kernel_rfl) (by kernel_rfl) (by kernel_rfl)) ?_
  intro W base args ds gs before hval0 hW hcnd _
  have hval : ∀ (j : Nat) t v, Try.f5.params[j]? = some t → args[j]? = some v → Value.okWide Try.prog W .any base t v := hval0
  have hW' := hW
  obtain ⟨p, q, hA0, hV, rfl, hfz, hnd⟩ := hW
  have hA : DataW.TrodAll enc Try.prog W 0 (fun _ => true) true Try.f5.params.toList args.toList ds p := hA0
  rw [Try.params5] at hA hval
  obtain ⟨v0, vs0, d0, ds0, p0, q0, hargs, rfl, rfl, h0, r0⟩ := trodAll_cons hA
  obtain ⟨v1, vs1, d1, ds1, p1, q1, rfl, rfl, rfl, h1, r1⟩ := trodAll_cons r0
  obtain ⟨v2, vs2, d2, ds2, p2, q2, rfl, rfl, rfl, h2, r2⟩ := trodAll_cons r1
  obtain ⟨v3, vs3, d3, ds3, p3, q3, rfl, rfl, rfl, h3, r3⟩ := trodAll_cons r2
  obtain ⟨rfl, rfl, rfl⟩ := trodAll_nil r3
  obtain rfl : args = #[v0, v1, v2, v3] := by cases args; simp_all
  obtain ⟨rfl, rfl⟩ := trodVars_none hV
  have k0 := h0
  have lt0 : ∀ x ∈ p0, x.block < W.heap.size := by obtain ⟨m, hm⟩ := k0; exact DataW.trod_lt m _ _ _ hm
  obtain ⟨x0, w0, rfl⟩ := open_od_val (hval 0 24 v0 rfl rfl) h0
  have k1 := h1
  have lt1 : ∀ x ∈ p1, x.block < W.heap.size := by obtain ⟨m, hm⟩ := k1; exact DataW.trod_lt m _ _ _ hm
  obtain ⟨x1, w1, rfl⟩ := open_od_val (hval 1 24 v1 rfl rfl) h1
  have k2 := h2
  have lt2 : ∀ x ∈ p2, x.block < W.heap.size := by obtain ⟨m, hm⟩ := k2; exact DataW.trod_lt m _ _ _ hm
  obtain ⟨x2, w2, rfl⟩ := open_od_val (hval 2 24 v2 rfl rfl) h2
  obtain ⟨a3, rfl, rfl, rfl, w3⟩ := open_int Try.underlying3 (hval 3 3 v3 rfl rfl) h3
  clear hA0 hval0
  refine (walk x0 x1 x2 a3 W w0 w1 w2 w3).mono fun e W' ⟨he, bel⟩ => ?_
  subst he
  exact ⟨_, rfl, _, _, _, [], _, [], hW', trodAll_mk1 (shut_bool Try.underlying4 _), (trodAll_cons_mk (Below.trod laidOut (by kernel_rfl) (of_decide_eq_true (by kernel_rfl)) k0 bel lt0) (trodAll_cons_mk (Below.trod laidOut (by kernel_rfl) (of_decide_eq_true (by kernel_rfl)) k1 bel lt1) (trodAll_cons_mk (Below.trod laidOut (by kernel_rfl) (of_decide_eq_true (by kernel_rfl)) k2 bel lt2) (trodAll_cons_mk (shut_int Try.underlying3 w3) trodAll_mk0)))), rfl, bel.frame _, fun h => by cases h⟩

theorem over : Rows.orderRankRow.holds Try.pinned (OpenSpec.ofChange Rows.orderRankSpec) :=
  OpenClaim.holds_of_wide 5 Try.f5 rfl rfl rfl rfl rfl rfl rfl ⟨rfl, rfl, rfl, rfl, rfl⟩ rfl rfl rfl rfl rfl (by kernel_rfl) Try.func5 (by kernel_rfl)
    (of_decide_eq_true (by kernel_rfl)) (by unfold Func.isWrapper; first | (rw [if_pos (by decide +kernel)]; kernel_rfl) | (rw [if_neg (by decide +kernel)]; exact ⟨rfl, rfl⟩))
    (fun os started H enc _ => lifted os started H enc)

theorem proved : Rows.OrderRankSaid := over
end Go.Proofs.Ytpegkojcemggaaa.orderRank
