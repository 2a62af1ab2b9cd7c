/-
  FaultChains: for every input the law returns true, and each argument reads behind the call as it read before. No condition.
-/
import Derived.Test.YtpinenfclpapjaaDoorRows
import Derived.WalkKit
import Derived.ProofKit
import Derived.OpenShut
import Derived.ShutString
import Derived.ChangeOld
import Derived.Below
import Derived.Carry
import Derived.LaidMore
import Derived.LaidLaws
import Derived.LaidHandle
import Derived.Stop.Joined
import Derived.SevenTiedAt
import Derived.Test.YtpinenfclpapjaaDoorTie
import Derived.Test.YtpinenfclpapjaaDoorCards
import Derived.Test.YtpinenfclpapjaaDoorFtQ
import Derived.Test.YtpinenfclpapjaaDoorFtL
namespace Go.Proofs.YtpinenfclpapjaaDoor.faultChains
open Go.ChangeShapes Go.WideShapes Go.ChangeAt Go.RowKit
open Go.ChangeMaps (open_string shut_string)
set_option linter.unusedVariables false

theorem own : ownKnob Tryd.prog.godebug = none := by kernel_rfl
theorem laidOut : laidOutB Tryd.prog = true := by kernel_rfl

/-- A slice of bytes that came in, as the form reads it. -/
def IsRow (w : World) (a : Option Addr) (len cap : Nat) (zs : List Int) : Prop :=
  (a = none ∧ len = 0 ∧ cap = 0 ∧ zs = []) ∨ ∃ x, a = some x ∧ len ≤ cap ∧ cap ≤ maxLen ∧ zs.length = cap ∧ (∀ i, i < zs.length → w.cell? (x.add i) = some (.int .u8 (zs.getD i 0))) ∧ ∀ n ∈ zs, (Lit.int .u8 n).wf = true

/-- A slice of numbers that came in, as the form reads it. -/
def IsInts (w : World) (a : Option Addr) (len cap : Nat) (zs : List Int) : Prop :=
  (a = none ∧ len = 0 ∧ cap = 0 ∧ zs = []) ∨ ∃ x, a = some x ∧ len ≤ cap ∧ cap ≤ maxLen ∧ zs.length = cap ∧ (∀ i, i < zs.length → w.cell? (x.add i) = some (.int .i64 (zs.getD i 0))) ∧ ∀ n ∈ zs, (Lit.int .i64 n).wf = true

set_option maxHeartbeats 8000000 in
set_option maxRecDepth 100000 in
theorem walk (a0 : Int) (a1 : Int) (a2 : Option Addr) (len2 cap2 : Nat) (z2 : List Int) (w : World) (w0 : (Lit.int .i64 a0).wf = true) (w1 : (Lit.int .i64 a1).wf = true) (w2 : IsInts w a2 len2 cap2 z2) (hL : Laid4 w) :
    Calls Tryd.prog 3 #[.int .i64 a0, .int .i64 a1, .slice a2 len2 cap2] w fun e w' => e = .returned (.bool true) ∧ Below w.heap.size w w' := by
  obtain ⟨l0, hS0, hlc, hcm⟩ := slN_of w2
  have hb0 := bounds_i64 w0
  have hb1 := bounds_i64 w1
  have hmI : (len2 : Int) ≤ 9223372036854775807 := by unfold maxLen at hcm; omega
  clear w0 w1 w2
  have HB0 := Lib.hid hb0
  have HS0 := Lib.hid hS0
  have HB1 := Lib.hid hb1
  clear hb0 hb1 hS0 hcm
  have hhe : (0 : Int) ≤ (len2 : Int) := by omega
  go_enter Tryd.func3, Tryd.ntmps3
  by_cases h100 : 100 < len2
  · have hI : (100 : Int) < (len2 : Int) := by omega
    have hcI : (100 : Int) ≤ (cap2 : Int) := by omega
    obtain ⟨b, off, rfl, hbl, hcell⟩ : ∃ b off, a2 = some ⟨b, off, none⟩ ∧ b < w.heap.size ∧ ∀ i, i < len2 → w.cell? ⟨b, off + i, none⟩ = some (.int .i64 (l0.getD i 0)) := by
      rcases HS0.out.2.2 with h0 | h0
      · omega
      · exact h0
    obtain ⟨L, hLe⟩ : ∃ L, L = l0.take 100 := ⟨_, rfl⟩
    have hS := HS0.out.take 100 (by omega)
    rw [← hLe] at hS
    have HS := Lib.hid hS
    have HCe : Hid (b < w.heap.size ∧ ∀ i, i < 100 → w.cell? ⟨b, off + i, none⟩ = some (.int .i64 (L.getD i 0))) := by
      refine ⟨hbl, fun i hi => ?_⟩
      rw [hcell i (by omega), hLe]
      simp [List.getD_eq_getElem?_getD, hi]
    clear hcell hbl hLe hS h100
    by_cases hz : a0 = 0
    · subst hz
      go_wp2_with (first | (go_at_call 6; refine (new_zero _ _).mono ?_; rintro e w' ⟨rfl, rfl⟩))
      (with_reducible refine (digits_c a1.natAbs a1 (Nat.le_refl _) HB1.out.1 HB1.out.2 _).mono ?_); rintro e w1 ⟨rfl, hb1⟩
      go_wp2_with fail
      go_loopw [7, 8, 25] (fun e ws i wr => ∃ (k : Nat) (W : List UInt8), k ≤ 100 ∧ i = .int .i64 (k : Int) ∧ e = .nilIface ∧ ws = Str W ∧ Hid (W = jn (L.take k) a1) ∧ Below w.heap.size w wr) (fun _ _ i _ => 100 - (intOf i).toNat)
      case atStart => exact ⟨0, _, Nat.zero_le _, rfl, rfl, rfl, (jn_zero a1).symm, hb1⟩
      case round =>
        obtain ⟨k, W, hk, rfl, rfl, rfl, HW, bel⟩ := hrel
        by_cases hlt : k < 100
        · have hltI : (k : Int) < (100 : Int) := by omega
          have hce : wr.cell? ⟨b, off + k, none⟩ = some (.int .i64 (L.getD k 0)) := (bel.cell (p := ⟨b, off + k, none⟩) HCe.out.1).trans (HCe.out.2 k hlt)
          have hmem : L[k]? = some (L.getD k 0) := by rw [List.getD_eq_getElem?_getD, List.getElem?_eq_getElem (by have := HS.out.1; omega)]; rfl
          obtain ⟨nv, hnv⟩ : ∃ nv, nv = L.getD k 0 := ⟨_, rfl⟩
          rw [← hnv] at hce hmem
          have hr : -9223372036854775808 ≤ nv ∧ nv ≤ 9223372036854775807 := HS.out.2.1 nv (List.mem_of_getElem? hmem)
          have HR := Lib.hid hr
          have hil := itoa_len hr.1 hr.2
          have hwl : W.length ≤ 21 * 101 := by
            rw [HW.out]
            have h1 := jn_len (L.take k) a1 (fun x hx => HS.out.2.1 x (List.mem_of_mem_take hx)) HB1.out
            have h2 : (L.take k).length ≤ 100 := by rw [List.length_take]; omega
            omega
          have hn1 : ¬ 9223372036854775807 < (Lib.itoa nv).length + 1 := by omega
          have hn2 : ¬ 9223372036854775807 < (Lib.itoa nv).length + 1 + W.length := by omega
          have HNv := Lib.hid hmem
          clear hmem hnv hr hil hwl
          go_wp2_with (first | (go_at_call 8; refine (wrap_nil _ _).mono ?_; rintro e w' ⟨rfl, rfl⟩))
          (with_reducible refine (digits_c nv.natAbs nv (Nat.le_refl _) HR.out.1 HR.out.2 _).mono ?_); rintro e z1 ⟨rfl, hd1⟩
          have HD1 := Lib.hid hd1
          clear hd1
          go_wp2_with fail
          refine ⟨⟨k + 1, Lib.itoa nv ++ ([62] ++ W), by omega, by go_num, rfl, str3 _ [62] _, ?_, bel.trans (HD1.out.mono bel.size)⟩, by simp [intOf]; omega⟩
          show _ = _
          rw [jn_snoc _ _ _ _ HNv.out, HW.out]
        · obtain rfl : 100 = k := by omega
          have HL1 := Lib.hid (hL.below bel)
          go_wp2_with fail
          (with_reducible refine (layers_nil _).mono ?_); rintro e w2 ⟨rfl, hb2⟩
          have HL2 := Lib.hid (HL1.out.below hb2)
          have HB2 := Lib.hid (bel.trans (hb2.mono bel.size))
          clear hb2 bel HL1
          go_wp2_with fail
          (with_reducible refine (code_nil _).mono ?_); rintro e w3 ⟨rfl, hb3⟩
          have HL3 := Lib.hid (HL2.out.below hb3)
          have HB3 := Lib.hid (HB2.out.trans (hb3.mono HB2.out.size))
          clear hb3 HL2 HB2
          go_wp2_with fail
          (with_reducible refine (text_nil _).mono ?_); rintro e w4 ⟨rfl, hb4⟩
          have HL4 := Lib.hid (HL3.out.below hb4)
          have HB4 := Lib.hid (HB3.out.trans (hb4.mono HB3.out.size))
          clear hb4 HL3 HB3
          go_wp2_with fail
          (with_reducible refine (lives4_c _ HL4.out).mono ?_); rintro e w5 ⟨rfl, hb5⟩
          go_wp2_with fail
          go_ret
          exact ⟨rfl, HB4.out.trans (hb5.mono HB4.out.size)⟩
    · have hn : (a0 != 0) = true := by simpa using hz
      have hn2 : (a0 == 0) = false := by simpa using hz
      clear hz
      have HBa0 := Lib.hid ((Below.refl _ w).alloc (Nat.le_refl _) (.cells (fcs a1 a0 .nilIface) 40))
      go_wp2_with (first | (go_at_call 6; refine (new_c _ _ hn2 _).mono ?_; rintro e w' ⟨rfl, rfl⟩))
      (with_reducible refine (digits_c a1.natAbs a1 (Nat.le_refl _) HB1.out.1 HB1.out.2 _).mono ?_); rintro e w1 ⟨rfl, hb1⟩
      have HC1 : Hid (Chn w1 a0 (rv (L.take 0) a1) w.heap.size) := FtB.below (ft_last rfl : FtB _ _ a1 a0 .nilIface) hb1
      have HB2 := Lib.hid (HBa0.out.trans (hb1.mono HBa0.out.size))
      clear hb1 HBa0
      go_wp2_with fail
      go_loopw [7, 8, 25] (fun e ws i wr => ∃ (k d : Nat) (W : List UInt8), k ≤ 100 ∧ i = .int .i64 (k : Int) ∧ e = fvl d ∧ ws = Str W ∧ Hid (W = jn (L.take k) a1) ∧ Hid (Chn wr a0 (rv (L.take k) a1) d) ∧ Below w.heap.size w wr) (fun _ _ i _ => 100 - (intOf i).toNat)
      case atStart => exact ⟨0, w.heap.size, _, Nat.zero_le _, rfl, rfl, rfl, (jn_zero a1).symm, HC1.out, HB2.out⟩
      case round =>
        obtain ⟨k, d, W, hk, rfl, rfl, rfl, HW, HCh, bel⟩ := hrel
        clear HC1 HB2
        by_cases hlt : k < 100
        · have hltI : (k : Int) < (100 : Int) := by omega
          have hce : wr.cell? ⟨b, off + k, none⟩ = some (.int .i64 (L.getD k 0)) := (bel.cell (p := ⟨b, off + k, none⟩) HCe.out.1).trans (HCe.out.2 k hlt)
          have hmem : L[k]? = some (L.getD k 0) := by rw [List.getD_eq_getElem?_getD, List.getElem?_eq_getElem (by have := HS.out.1; omega)]; rfl
          obtain ⟨nv, hnv⟩ : ∃ nv, nv = L.getD k 0 := ⟨_, rfl⟩
          rw [← hnv] at hce hmem
          have hr : -9223372036854775808 ≤ nv ∧ nv ≤ 9223372036854775807 := HS.out.2.1 nv (List.mem_of_getElem? hmem)
          have HR := Lib.hid hr
          have hil := itoa_len hr.1 hr.2
          have hwl : W.length ≤ 21 * 101 := by
            rw [HW.out]
            have h1 := jn_len (L.take k) a1 (fun x hx => HS.out.2.1 x (List.mem_of_mem_take hx)) HB1.out
            have h2 : (L.take k).length ≤ 100 := by rw [List.length_take]; omega
            omega
          have hn1 : ¬ 9223372036854775807 < (Lib.itoa nv).length + 1 := by omega
          have hn2 : ¬ 9223372036854775807 < (Lib.itoa nv).length + 1 + W.length := by omega
          have HNv := Lib.hid hmem
          clear hmem hnv hr hil hwl
          have HBa := Lib.hid (bel.trans (((Below.refl _ wr).alloc (Nat.le_refl _) (.cells (fcs nv 0 (fvl d)) 40)).mono bel.size))
          have HCa : Hid (Chn (wr.alloc (.cells (fcs nv 0 (fvl d)) 40)) a0 (nv :: rv (L.take k) a1) wr.heap.size) := HCh.out.wrap
          go_wp2_with (first | (go_at_call 8; refine (wrap_c _ _ _).mono ?_; rintro e w' ⟨rfl, rfl⟩))
          (with_reducible refine (digits_c nv.natAbs nv (Nat.le_refl _) HR.out.1 HR.out.2 _).mono ?_); rintro e z1 ⟨rfl, hd1⟩
          have HD1 := Lib.hid hd1
          clear hd1
          go_wp2_with fail
          refine ⟨⟨k + 1, wr.heap.size, Lib.itoa nv ++ ([62] ++ W), by omega, by go_num, rfl, str3 _ [62] _, ?_, ?_, HBa.out.trans (HD1.out.mono HBa.out.size)⟩, by simp [intOf]; omega⟩
          · show _ = _
            rw [jn_snoc _ _ _ _ HNv.out, HW.out]
          · rw [rv_snoc _ _ _ _ HNv.out]
            exact HCa.out.below HD1.out
        · obtain rfl : 100 = k := by omega
          have hlL : L.length = 100 := HS.out.1
          have hch := HCh.out
          have hw := HW.out
          rw [List.take_of_length_le (by omega)] at hch hw
          have hW100 := jn_len L a1 HS.out.2.1 HB1.out
          rw [← hw, hlL] at hW100
          have hL1 := hL.below bel
          have HLy := Lib.hid (layers_s a0 hn L a1 100 hlL (by omega) d wr hL1 hch)
          have HCh1 := Lib.hid hch
          have HL1 := Lib.hid hL1
          have HW1 := Lib.hid hw
          clear hch hL1 hw HCh HW
          go_wp2_with fail
          (with_reducible refine HLy.out.mono ?_); rintro e w2 ⟨g, cp, rfl, hcp, HM2, hb2⟩
          have HB2 := Lib.hid (bel.trans (hb2.mono bel.size))
          have HL2 := Lib.hid (HL1.out.below hb2)
          have HCh2 := Lib.hid (HCh1.out.below hb2)
          have hlast : w2.cell? ⟨g, 100, none⟩ = some (.int .i64 a1) := by
            rw [HM2.out.2 100 (by omega), rv_last L a1 100 hlL]
          clear HLy hb2 HL1 HCh1 bel hlL
          have hcpI : (100 : Int) + 1 ≤ (cp : Int) := by omega
          go_wp2_with fail
          (with_reducible refine (code_c a0 hn (rv L a1) d w2 HL2.out.et HCh2.out).mono ?_); rintro e w3 ⟨rfl, hb3⟩
          have HB3 := Lib.hid (HB2.out.trans (hb3.mono HB2.out.size))
          have HL3 := Lib.hid (HL2.out.below hb3)
          have HCh3 := Lib.hid (HCh2.out.below hb3)
          have HM3 : Hid (g < w3.heap.size ∧ ∀ i, i < 100 + 1 → w3.cell? ⟨g, i, none⟩ = some (.int .i64 ((rv L a1).getD i 0))) := ⟨Nat.lt_of_lt_of_le HM2.out.1 hb3.size, fun i hi => (hb3.cell (p := ⟨g, i, none⟩) HM2.out.1).trans (HM2.out.2 i hi)⟩
          have hT := text_s a0 hn2 hn HB0.out L a1 (by have := HS.out.1; omega) HS.out.2.1 HB1.out d w3 HL3.out HCh3.out
          rw [← HW1.out] at hT
          have HT := Lib.hid hT
          have hia := itoa_len HB0.out.1 HB0.out.2
          have hn3 : ¬ 9223372036854775807 < W.length + 1 := by omega
          have hn4 : ¬ 9223372036854775807 < W.length + 1 + (Lib.itoa a0).length := by omega
          clear hT hb3 HB2 HL2 HCh2 HM2 hlast hia hW100
          go_wp2_with fail
          (with_reducible refine HT.out.mono ?_); rintro e w4 ⟨rfl, hb4⟩
          have HB4 := Lib.hid (HB3.out.trans (hb4.mono HB3.out.size))
          have HL4 := Lib.hid (HL3.out.below hb4)
          have HM4 : Hid (g < w4.heap.size ∧ ∀ i, i < 100 + 1 → w4.cell? ⟨g, i, none⟩ = some (.int .i64 ((rv L a1).getD i 0))) := ⟨Nat.lt_of_lt_of_le HM3.out.1 hb4.size, fun i hi => (hb4.cell (p := ⟨g, i, none⟩) HM3.out.1).trans (HM3.out.2 i hi)⟩
          clear HT hb4 HB3 HL3 HCh3 HM3
          go_wp2_with fail
          (with_reducible refine (digits_c a0.natAbs a0 (Nat.le_refl _) HB0.out.1 HB0.out.2 _).mono ?_); rintro e w6 ⟨rfl, hb6⟩
          have HB6 := Lib.hid (HB4.out.trans (hb6.mono HB4.out.size))
          have HL6 := Lib.hid (HL4.out.below hb6)
          have HM : Hid (g < w6.heap.size ∧ ∀ i, i < 100 + 1 → w6.cell? ⟨g, i, none⟩ = some (.int .i64 ((rv L a1).getD i 0))) := ⟨Nat.lt_of_lt_of_le HM4.out.1 hb6.size, fun i hi => (hb6.cell (p := ⟨g, i, none⟩) HM4.out.1).trans (HM4.out.2 i hi)⟩
          clear hb6 HB4 HL4 HM4
          go_wp2_with fail
          go_loopw [95] (fun i wr => ∃ k : Nat, k ≤ 100 ∧ i = .int .i64 (k : Int) ∧ Below w6.heap.size w6 wr) (fun i _ => 100 - (intOf i).toNat)
          case atStart => exact ⟨0, Nat.zero_le _, rfl, Below.refl _ _⟩
          case round =>
            obtain ⟨k, hk, rfl, bel2⟩ := hrel
            by_cases hlt : k < 100
            · obtain ⟨q, hq⟩ : ∃ q : Nat, q + k + 1 = 100 := ⟨100 - 1 - k, by omega⟩
              have hltI : (k : Int) < (100 : Int) := by omega
              have hk1 : (k : Int) < (100 : Int) + 1 := by omega
              have hk0 : (0 : Int) ≤ (k : Int) := by omega
              have hme : wr.cell? ⟨g, k, none⟩ = some (.int .i64 (L.getD q 0)) := by
                rw [← rv_at L a1 100 k q HS.out.1 hq]
                exact (bel2.cell (p := ⟨g, k, none⟩) HM.out.1).trans (HM.out.2 k (by omega))
              have hce : wr.cell? ⟨b, off + q, none⟩ = some (.int .i64 (L.getD q 0)) := ((HB6.out.trans (bel2.mono HB6.out.size)).cell (p := ⟨b, off + q, none⟩) HCe.out.1).trans (HCe.out.2 q (by omega))
              obtain ⟨nv, hnv⟩ : ∃ nv, nv = L.getD q 0 := ⟨_, rfl⟩
              rw [← hnv] at hme hce
              clear hnv
              have e1 : IntKind.i64.wrap ((100 : Int) - 1) = (99 : Int) := by rw [IntWalk.i64_in _ (by omega)]; try omega
              have e2 : IntKind.i64.wrap ((99 : Int) - (k : Int)) = (q : Int) := by rw [IntWalk.i64_in _ (by omega)]; omega
              have hq0 : (0 : Int) ≤ (q : Int) := by omega
              have hq1 : (q : Int) < (100 : Int) := by omega
              clear hk hlt hq
              go_wp2_with fail
              go_quiet (fail)
              go_wp2_with fail
              exact ⟨⟨k + 1, by omega, by go_num, below_dn bel2 _⟩, by simp [intOf]; omega⟩
            · obtain rfl : 100 = k := by omega
              have HL7 := Lib.hid (HL6.out.below bel2)
              have HB7 := Lib.hid (HB6.out.trans (bel2.mono HB6.out.size))
              clear bel2
              go_wp2_with fail
              (with_reducible refine (lives4_c _ HL7.out).mono ?_); rintro e w5 ⟨rfl, hb5⟩
              go_wp2_with fail
              go_ret
              exact ⟨rfl, HB7.out.trans (hb5.mono HB7.out.size)⟩
  · have hI : (len2 : Int) ≤ 100 := by omega
    have h100' : len2 ≤ 100 := by omega
    clear h100
    by_cases h0 : len2 = 0
    · subst h0
      obtain ⟨L, hLe⟩ : ∃ L, L = l0 := ⟨_, rfl⟩
      have HS : Hid (SlN w a2 0 L) := by show SlN _ _ _ _; rw [hLe]; exact HS0.out
      clear hLe
      by_cases hz : a0 = 0
      · subst hz
        go_wp2_with (first | (go_at_call 6; refine (new_zero _ _).mono ?_; rintro e w' ⟨rfl, rfl⟩))
        (with_reducible refine (digits_c a1.natAbs a1 (Nat.le_refl _) HB1.out.1 HB1.out.2 _).mono ?_); rintro e w1 ⟨rfl, hb1⟩
        go_wp2_with fail
        go_loopw [7, 8, 25] (fun e ws i wr => ∃ (k : Nat) (W : List UInt8), k ≤ 0 ∧ i = .int .i64 (k : Int) ∧ e = .nilIface ∧ ws = Str W ∧ Hid (W = jn (L.take k) a1) ∧ Below w.heap.size w wr) (fun _ _ i _ => 0 - (intOf i).toNat)
        case atStart => exact ⟨0, _, Nat.zero_le _, rfl, rfl, rfl, (jn_zero a1).symm, hb1⟩
        case round =>
          obtain ⟨k, W, hk, rfl, rfl, rfl, HW, bel⟩ := hrel
          by_cases hlt : k < 0
          · omega
          · obtain rfl : 0 = k := by omega
            have HL1 := Lib.hid (hL.below bel)
            go_wp2_with fail
            (with_reducible refine (layers_nil _).mono ?_); rintro e w2 ⟨rfl, hb2⟩
            have HL2 := Lib.hid (HL1.out.below hb2)
            have HB2 := Lib.hid (bel.trans (hb2.mono bel.size))
            clear hb2 bel HL1
            go_wp2_with fail
            (with_reducible refine (code_nil _).mono ?_); rintro e w3 ⟨rfl, hb3⟩
            have HL3 := Lib.hid (HL2.out.below hb3)
            have HB3 := Lib.hid (HB2.out.trans (hb3.mono HB2.out.size))
            clear hb3 HL2 HB2
            go_wp2_with fail
            (with_reducible refine (text_nil _).mono ?_); rintro e w4 ⟨rfl, hb4⟩
            have HL4 := Lib.hid (HL3.out.below hb4)
            have HB4 := Lib.hid (HB3.out.trans (hb4.mono HB3.out.size))
            clear hb4 HL3 HB3
            go_wp2_with fail
            (with_reducible refine (lives4_c _ HL4.out).mono ?_); rintro e w5 ⟨rfl, hb5⟩
            go_wp2_with fail
            go_ret
            exact ⟨rfl, HB4.out.trans (hb5.mono HB4.out.size)⟩
      · have hn : (a0 != 0) = true := by simpa using hz
        have hn2 : (a0 == 0) = false := by simpa using hz
        clear hz
        have HBa0 := Lib.hid ((Below.refl _ w).alloc (Nat.le_refl _) (.cells (fcs a1 a0 .nilIface) 40))
        go_wp2_with (first | (go_at_call 6; refine (new_c _ _ hn2 _).mono ?_; rintro e w' ⟨rfl, rfl⟩))
        (with_reducible refine (digits_c a1.natAbs a1 (Nat.le_refl _) HB1.out.1 HB1.out.2 _).mono ?_); rintro e w1 ⟨rfl, hb1⟩
        have HC1 : Hid (Chn w1 a0 (rv (L.take 0) a1) w.heap.size) := FtB.below (ft_last rfl : FtB _ _ a1 a0 .nilIface) hb1
        have HB2 := Lib.hid (HBa0.out.trans (hb1.mono HBa0.out.size))
        clear hb1 HBa0
        go_wp2_with fail
        go_loopw [7, 8, 25] (fun e ws i wr => ∃ (k d : Nat) (W : List UInt8), k ≤ 0 ∧ i = .int .i64 (k : Int) ∧ e = fvl d ∧ ws = Str W ∧ Hid (W = jn (L.take k) a1) ∧ Hid (Chn wr a0 (rv (L.take k) a1) d) ∧ Below w.heap.size w wr) (fun _ _ i _ => 0 - (intOf i).toNat)
        case atStart => exact ⟨0, w.heap.size, _, Nat.zero_le _, rfl, rfl, rfl, (jn_zero a1).symm, HC1.out, HB2.out⟩
        case round =>
          obtain ⟨k, d, W, hk, rfl, rfl, rfl, HW, HCh, bel⟩ := hrel
          clear HC1 HB2
          by_cases hlt : k < 0
          · omega
          · obtain rfl : 0 = k := by omega
            have hlL : L.length = 0 := HS.out.1
            have hch := HCh.out
            have hw := HW.out
            rw [List.take_of_length_le (by omega)] at hch hw
            have hW100 := jn_len L a1 HS.out.2.1 HB1.out
            rw [← hw, hlL] at hW100
            have hL1 := hL.below bel
            have HLy := Lib.hid (layers_s a0 hn L a1 0 hlL (by omega) d wr hL1 hch)
            have HCh1 := Lib.hid hch
            have HL1 := Lib.hid hL1
            have HW1 := Lib.hid hw
            clear hch hL1 hw HCh HW
            go_wp2_with fail
            (with_reducible refine HLy.out.mono ?_); rintro e w2 ⟨g, cp, rfl, hcp, HM2, hb2⟩
            have HB2 := Lib.hid (bel.trans (hb2.mono bel.size))
            have HL2 := Lib.hid (HL1.out.below hb2)
            have HCh2 := Lib.hid (HCh1.out.below hb2)
            have hlast : w2.cell? ⟨g, 0, none⟩ = some (.int .i64 a1) := by
              rw [HM2.out.2 0 (by omega), rv_last L a1 0 hlL]
            clear HLy hb2 HL1 HCh1 bel hlL
            have hcpI : (0 : Int) + 1 ≤ (cp : Int) := by omega
            go_wp2_with fail
            (with_reducible refine (code_c a0 hn (rv L a1) d w2 HL2.out.et HCh2.out).mono ?_); rintro e w3 ⟨rfl, hb3⟩
            have HB3 := Lib.hid (HB2.out.trans (hb3.mono HB2.out.size))
            have HL3 := Lib.hid (HL2.out.below hb3)
            have HCh3 := Lib.hid (HCh2.out.below hb3)
            have HM3 : Hid (g < w3.heap.size ∧ ∀ i, i < 0 + 1 → w3.cell? ⟨g, i, none⟩ = some (.int .i64 ((rv L a1).getD i 0))) := ⟨Nat.lt_of_lt_of_le HM2.out.1 hb3.size, fun i hi => (hb3.cell (p := ⟨g, i, none⟩) HM2.out.1).trans (HM2.out.2 i hi)⟩
            have hT := text_s a0 hn2 hn HB0.out L a1 (by have := HS.out.1; omega) HS.out.2.1 HB1.out d w3 HL3.out HCh3.out
            rw [← HW1.out] at hT
            have HT := Lib.hid hT
            have hia := itoa_len HB0.out.1 HB0.out.2
            have hn3 : ¬ 9223372036854775807 < W.length + 1 := by omega
            have hn4 : ¬ 9223372036854775807 < W.length + 1 + (Lib.itoa a0).length := by omega
            clear hT hb3 HB2 HL2 HCh2 HM2 hlast hia hW100
            go_wp2_with fail
            (with_reducible refine HT.out.mono ?_); rintro e w4 ⟨rfl, hb4⟩
            have HB4 := Lib.hid (HB3.out.trans (hb4.mono HB3.out.size))
            have HL4 := Lib.hid (HL3.out.below hb4)
            have HM4 : Hid (g < w4.heap.size ∧ ∀ i, i < 0 + 1 → w4.cell? ⟨g, i, none⟩ = some (.int .i64 ((rv L a1).getD i 0))) := ⟨Nat.lt_of_lt_of_le HM3.out.1 hb4.size, fun i hi => (hb4.cell (p := ⟨g, i, none⟩) HM3.out.1).trans (HM3.out.2 i hi)⟩
            clear HT hb4 HB3 HL3 HCh3 HM3
            go_wp2_with fail
            (with_reducible refine (digits_c a0.natAbs a0 (Nat.le_refl _) HB0.out.1 HB0.out.2 _).mono ?_); rintro e w6 ⟨rfl, hb6⟩
            have HB6 := Lib.hid (HB4.out.trans (hb6.mono HB4.out.size))
            have HL6 := Lib.hid (HL4.out.below hb6)
            have HM : Hid (g < w6.heap.size ∧ ∀ i, i < 0 + 1 → w6.cell? ⟨g, i, none⟩ = some (.int .i64 ((rv L a1).getD i 0))) := ⟨Nat.lt_of_lt_of_le HM4.out.1 hb6.size, fun i hi => (hb6.cell (p := ⟨g, i, none⟩) HM4.out.1).trans (HM4.out.2 i hi)⟩
            clear hb6 HB4 HL4 HM4
            go_wp2_with fail
            go_loopw [95] (fun i wr => ∃ k : Nat, k ≤ 0 ∧ i = .int .i64 (k : Int) ∧ Below w6.heap.size w6 wr) (fun i _ => 0 - (intOf i).toNat)
            case atStart => exact ⟨0, Nat.zero_le _, rfl, Below.refl _ _⟩
            case round =>
              obtain ⟨k, hk, rfl, bel2⟩ := hrel
              by_cases hlt : k < 0
              · omega
              · obtain rfl : 0 = k := by omega
                have HL7 := Lib.hid (HL6.out.below bel2)
                have HB7 := Lib.hid (HB6.out.trans (bel2.mono HB6.out.size))
                clear bel2
                go_wp2_with fail
                (with_reducible refine (lives4_c _ HL7.out).mono ?_); rintro e w5 ⟨rfl, hb5⟩
                go_wp2_with fail
                go_ret
                exact ⟨rfl, HB7.out.trans (hb5.mono HB7.out.size)⟩
    · obtain ⟨b, off, rfl, hbl, hcell⟩ : ∃ b off, a2 = some ⟨b, off, none⟩ ∧ b < w.heap.size ∧ ∀ i, i < len2 → w.cell? ⟨b, off + i, none⟩ = some (.int .i64 (l0.getD i 0)) := by
        rcases HS0.out.2.2 with h1 | h1
        · omega
        · exact h1
      obtain ⟨L, hLe⟩ : ∃ L, L = l0 := ⟨_, rfl⟩
      have HS : Hid (SlN w (some ⟨b, off, none⟩) len2 L) := by show SlN _ _ _ _; rw [hLe]; exact HS0.out
      have HCe : Hid (b < w.heap.size ∧ ∀ i, i < len2 → w.cell? ⟨b, off + i, none⟩ = some (.int .i64 (L.getD i 0))) := by rw [hLe]; exact ⟨hbl, hcell⟩
      clear hcell hbl hLe
      by_cases hz : a0 = 0
      · subst hz
        go_wp2_with (first | (go_at_call 6; refine (new_zero _ _).mono ?_; rintro e w' ⟨rfl, rfl⟩))
        (with_reducible refine (digits_c a1.natAbs a1 (Nat.le_refl _) HB1.out.1 HB1.out.2 _).mono ?_); rintro e w1 ⟨rfl, hb1⟩
        go_wp2_with fail
        go_loopw [7, 8, 25] (fun e ws i wr => ∃ (k : Nat) (W : List UInt8), k ≤ len2 ∧ i = .int .i64 (k : Int) ∧ e = .nilIface ∧ ws = Str W ∧ Hid (W = jn (L.take k) a1) ∧ Below w.heap.size w wr) (fun _ _ i _ => len2 - (intOf i).toNat)
        case atStart => exact ⟨0, _, Nat.zero_le _, rfl, rfl, rfl, (jn_zero a1).symm, hb1⟩
        case round =>
          obtain ⟨k, W, hk, rfl, rfl, rfl, HW, bel⟩ := hrel
          by_cases hlt : k < len2
          · have hltI : (k : Int) < (len2 : Int) := by omega
            have hce : wr.cell? ⟨b, off + k, none⟩ = some (.int .i64 (L.getD k 0)) := (bel.cell (p := ⟨b, off + k, none⟩) HCe.out.1).trans (HCe.out.2 k hlt)
            have hmem : L[k]? = some (L.getD k 0) := by rw [List.getD_eq_getElem?_getD, List.getElem?_eq_getElem (by have := HS.out.1; omega)]; rfl
            obtain ⟨nv, hnv⟩ : ∃ nv, nv = L.getD k 0 := ⟨_, rfl⟩
            rw [← hnv] at hce hmem
            have hr : -9223372036854775808 ≤ nv ∧ nv ≤ 9223372036854775807 := HS.out.2.1 nv (List.mem_of_getElem? hmem)
            have HR := Lib.hid hr
            have hil := itoa_len hr.1 hr.2
            have hwl : W.length ≤ 21 * 101 := by
              rw [HW.out]
              have h1 := jn_len (L.take k) a1 (fun x hx => HS.out.2.1 x (List.mem_of_mem_take hx)) HB1.out
              have h2 : (L.take k).length ≤ 100 := by rw [List.length_take]; omega
              omega
            have hn1 : ¬ 9223372036854775807 < (Lib.itoa nv).length + 1 := by omega
            have hn2 : ¬ 9223372036854775807 < (Lib.itoa nv).length + 1 + W.length := by omega
            have HNv := Lib.hid hmem
            clear hmem hnv hr hil hwl
            go_wp2_with (first | (go_at_call 8; refine (wrap_nil _ _).mono ?_; rintro e w' ⟨rfl, rfl⟩))
            (with_reducible refine (digits_c nv.natAbs nv (Nat.le_refl _) HR.out.1 HR.out.2 _).mono ?_); rintro e z1 ⟨rfl, hd1⟩
            have HD1 := Lib.hid hd1
            clear hd1
            go_wp2_with fail
            refine ⟨⟨k + 1, Lib.itoa nv ++ ([62] ++ W), by omega, by go_num, rfl, str3 _ [62] _, ?_, bel.trans (HD1.out.mono bel.size)⟩, by simp [intOf]; omega⟩
            show _ = _
            rw [jn_snoc _ _ _ _ HNv.out, HW.out]
          · obtain rfl : len2 = k := by omega
            have HL1 := Lib.hid (hL.below bel)
            go_wp2_with fail
            (with_reducible refine (layers_nil _).mono ?_); rintro e w2 ⟨rfl, hb2⟩
            have HL2 := Lib.hid (HL1.out.below hb2)
            have HB2 := Lib.hid (bel.trans (hb2.mono bel.size))
            clear hb2 bel HL1
            go_wp2_with fail
            (with_reducible refine (code_nil _).mono ?_); rintro e w3 ⟨rfl, hb3⟩
            have HL3 := Lib.hid (HL2.out.below hb3)
            have HB3 := Lib.hid (HB2.out.trans (hb3.mono HB2.out.size))
            clear hb3 HL2 HB2
            go_wp2_with fail
            (with_reducible refine (text_nil _).mono ?_); rintro e w4 ⟨rfl, hb4⟩
            have HL4 := Lib.hid (HL3.out.below hb4)
            have HB4 := Lib.hid (HB3.out.trans (hb4.mono HB3.out.size))
            clear hb4 HL3 HB3
            go_wp2_with fail
            (with_reducible refine (lives4_c _ HL4.out).mono ?_); rintro e w5 ⟨rfl, hb5⟩
            go_wp2_with fail
            go_ret
            exact ⟨rfl, HB4.out.trans (hb5.mono HB4.out.size)⟩
      · have hn : (a0 != 0) = true := by simpa using hz
        have hn2 : (a0 == 0) = false := by simpa using hz
        clear hz
        have HBa0 := Lib.hid ((Below.refl _ w).alloc (Nat.le_refl _) (.cells (fcs a1 a0 .nilIface) 40))
        go_wp2_with (first | (go_at_call 6; refine (new_c _ _ hn2 _).mono ?_; rintro e w' ⟨rfl, rfl⟩))
        (with_reducible refine (digits_c a1.natAbs a1 (Nat.le_refl _) HB1.out.1 HB1.out.2 _).mono ?_); rintro e w1 ⟨rfl, hb1⟩
        have HC1 : Hid (Chn w1 a0 (rv (L.take 0) a1) w.heap.size) := FtB.below (ft_last rfl : FtB _ _ a1 a0 .nilIface) hb1
        have HB2 := Lib.hid (HBa0.out.trans (hb1.mono HBa0.out.size))
        clear hb1 HBa0
        go_wp2_with fail
        go_loopw [7, 8, 25] (fun e ws i wr => ∃ (k d : Nat) (W : List UInt8), k ≤ len2 ∧ i = .int .i64 (k : Int) ∧ e = fvl d ∧ ws = Str W ∧ Hid (W = jn (L.take k) a1) ∧ Hid (Chn wr a0 (rv (L.take k) a1) d) ∧ Below w.heap.size w wr) (fun _ _ i _ => len2 - (intOf i).toNat)
        case atStart => exact ⟨0, w.heap.size, _, Nat.zero_le _, rfl, rfl, rfl, (jn_zero a1).symm, HC1.out, HB2.out⟩
        case round =>
          obtain ⟨k, d, W, hk, rfl, rfl, rfl, HW, HCh, bel⟩ := hrel
          clear HC1 HB2
          by_cases hlt : k < len2
          · have hltI : (k : Int) < (len2 : Int) := by omega
            have hce : wr.cell? ⟨b, off + k, none⟩ = some (.int .i64 (L.getD k 0)) := (bel.cell (p := ⟨b, off + k, none⟩) HCe.out.1).trans (HCe.out.2 k hlt)
            have hmem : L[k]? = some (L.getD k 0) := by rw [List.getD_eq_getElem?_getD, List.getElem?_eq_getElem (by have := HS.out.1; omega)]; rfl
            obtain ⟨nv, hnv⟩ : ∃ nv, nv = L.getD k 0 := ⟨_, rfl⟩
            rw [← hnv] at hce hmem
            have hr : -9223372036854775808 ≤ nv ∧ nv ≤ 9223372036854775807 := HS.out.2.1 nv (List.mem_of_getElem? hmem)
            have HR := Lib.hid hr
            have hil := itoa_len hr.1 hr.2
            have hwl : W.length ≤ 21 * 101 := by
              rw [HW.out]
              have h1 := jn_len (L.take k) a1 (fun x hx => HS.out.2.1 x (List.mem_of_mem_take hx)) HB1.out
              have h2 : (L.take k).length ≤ 100 := by rw [List.length_take]; omega
              omega
            have hn1 : ¬ 9223372036854775807 < (Lib.itoa nv).length + 1 := by omega
            have hn2 : ¬ 9223372036854775807 < (Lib.itoa nv).length + 1 + W.length := by omega
            have HNv := Lib.hid hmem
            clear hmem hnv hr hil hwl
            have HBa := Lib.hid (bel.trans (((Below.refl _ wr).alloc (Nat.le_refl _) (.cells (fcs nv 0 (fvl d)) 40)).mono bel.size))
            have HCa : Hid (Chn (wr.alloc (.cells (fcs nv 0 (fvl d)) 40)) a0 (nv :: rv (L.take k) a1) wr.heap.size) := HCh.out.wrap
            go_wp2_with (first | (go_at_call 8; refine (wrap_c _ _ _).mono ?_; rintro e w' ⟨rfl, rfl⟩))
            (with_reducible refine (digits_c nv.natAbs nv (Nat.le_refl _) HR.out.1 HR.out.2 _).mono ?_); rintro e z1 ⟨rfl, hd1⟩
            have HD1 := Lib.hid hd1
            clear hd1
            go_wp2_with fail
            refine ⟨⟨k + 1, wr.heap.size, Lib.itoa nv ++ ([62] ++ W), by omega, by go_num, rfl, str3 _ [62] _, ?_, ?_, HBa.out.trans (HD1.out.mono HBa.out.size)⟩, by simp [intOf]; omega⟩
            · show _ = _
              rw [jn_snoc _ _ _ _ HNv.out, HW.out]
            · rw [rv_snoc _ _ _ _ HNv.out]
              exact HCa.out.below HD1.out
          · obtain rfl : len2 = k := by omega
            have hlL : L.length = len2 := HS.out.1
            have hch := HCh.out
            have hw := HW.out
            rw [List.take_of_length_le (by omega)] at hch hw
            have hW100 := jn_len L a1 HS.out.2.1 HB1.out
            rw [← hw, hlL] at hW100
            have hL1 := hL.below bel
            have HLy := Lib.hid (layers_s a0 hn L a1 len2 hlL (by omega) d wr hL1 hch)
            have HCh1 := Lib.hid hch
            have HL1 := Lib.hid hL1
            have HW1 := Lib.hid hw
            clear hch hL1 hw HCh HW
            go_wp2_with fail
            (with_reducible refine HLy.out.mono ?_); rintro e w2 ⟨g, cp, rfl, hcp, HM2, hb2⟩
            have HB2 := Lib.hid (bel.trans (hb2.mono bel.size))
            have HL2 := Lib.hid (HL1.out.below hb2)
            have HCh2 := Lib.hid (HCh1.out.below hb2)
            have hlast : w2.cell? ⟨g, len2, none⟩ = some (.int .i64 a1) := by
              rw [HM2.out.2 len2 (by omega), rv_last L a1 len2 hlL]
            clear HLy hb2 HL1 HCh1 bel hlL
            have hcpI : (len2 : Int) + 1 ≤ (cp : Int) := by omega
            go_wp2_with fail
            (with_reducible refine (code_c a0 hn (rv L a1) d w2 HL2.out.et HCh2.out).mono ?_); rintro e w3 ⟨rfl, hb3⟩
            have HB3 := Lib.hid (HB2.out.trans (hb3.mono HB2.out.size))
            have HL3 := Lib.hid (HL2.out.below hb3)
            have HCh3 := Lib.hid (HCh2.out.below hb3)
            have HM3 : Hid (g < w3.heap.size ∧ ∀ i, i < len2 + 1 → w3.cell? ⟨g, i, none⟩ = some (.int .i64 ((rv L a1).getD i 0))) := ⟨Nat.lt_of_lt_of_le HM2.out.1 hb3.size, fun i hi => (hb3.cell (p := ⟨g, i, none⟩) HM2.out.1).trans (HM2.out.2 i hi)⟩
            have hT := text_s a0 hn2 hn HB0.out L a1 (by have := HS.out.1; omega) HS.out.2.1 HB1.out d w3 HL3.out HCh3.out
            rw [← HW1.out] at hT
            have HT := Lib.hid hT
            have hia := itoa_len HB0.out.1 HB0.out.2
            have hn3 : ¬ 9223372036854775807 < W.length + 1 := by omega
            have hn4 : ¬ 9223372036854775807 < W.length + 1 + (Lib.itoa a0).length := by omega
            clear hT hb3 HB2 HL2 HCh2 HM2 hlast hia hW100
            go_wp2_with fail
            (with_reducible refine HT.out.mono ?_); rintro e w4 ⟨rfl, hb4⟩
            have HB4 := Lib.hid (HB3.out.trans (hb4.mono HB3.out.size))
            have HL4 := Lib.hid (HL3.out.below hb4)
            have HM4 : Hid (g < w4.heap.size ∧ ∀ i, i < len2 + 1 → w4.cell? ⟨g, i, none⟩ = some (.int .i64 ((rv L a1).getD i 0))) := ⟨Nat.lt_of_lt_of_le HM3.out.1 hb4.size, fun i hi => (hb4.cell (p := ⟨g, i, none⟩) HM3.out.1).trans (HM3.out.2 i hi)⟩
            clear HT hb4 HB3 HL3 HCh3 HM3
            go_wp2_with fail
            (with_reducible refine (digits_c a0.natAbs a0 (Nat.le_refl _) HB0.out.1 HB0.out.2 _).mono ?_); rintro e w6 ⟨rfl, hb6⟩
            have HB6 := Lib.hid (HB4.out.trans (hb6.mono HB4.out.size))
            have HL6 := Lib.hid (HL4.out.below hb6)
            have HM : Hid (g < w6.heap.size ∧ ∀ i, i < len2 + 1 → w6.cell? ⟨g, i, none⟩ = some (.int .i64 ((rv L a1).getD i 0))) := ⟨Nat.lt_of_lt_of_le HM4.out.1 hb6.size, fun i hi => (hb6.cell (p := ⟨g, i, none⟩) HM4.out.1).trans (HM4.out.2 i hi)⟩
            clear hb6 HB4 HL4 HM4
            go_wp2_with fail
            go_loopw [95] (fun i wr => ∃ k : Nat, k ≤ len2 ∧ i = .int .i64 (k : Int) ∧ Below w6.heap.size w6 wr) (fun i _ => len2 - (intOf i).toNat)
            case atStart => exact ⟨0, Nat.zero_le _, rfl, Below.refl _ _⟩
            case round =>
              obtain ⟨k, hk, rfl, bel2⟩ := hrel
              by_cases hlt : k < len2
              · obtain ⟨q, hq⟩ : ∃ q : Nat, q + k + 1 = len2 := ⟨len2 - 1 - k, by omega⟩
                have hltI : (k : Int) < (len2 : Int) := by omega
                have hk1 : (k : Int) < (len2 : Int) + 1 := by omega
                have hk0 : (0 : Int) ≤ (k : Int) := by omega
                have hme : wr.cell? ⟨g, k, none⟩ = some (.int .i64 (L.getD q 0)) := by
                  rw [← rv_at L a1 len2 k q HS.out.1 hq]
                  exact (bel2.cell (p := ⟨g, k, none⟩) HM.out.1).trans (HM.out.2 k (by omega))
                have hce : wr.cell? ⟨b, off + q, none⟩ = some (.int .i64 (L.getD q 0)) := ((HB6.out.trans (bel2.mono HB6.out.size)).cell (p := ⟨b, off + q, none⟩) HCe.out.1).trans (HCe.out.2 q (by omega))
                obtain ⟨nv, hnv⟩ : ∃ nv, nv = L.getD q 0 := ⟨_, rfl⟩
                rw [← hnv] at hme hce
                clear hnv
                have e1 : IntKind.i64.wrap ((len2 : Int) - 1) = ((len2 : Int) - 1) := by rw [IntWalk.i64_in _ (by omega)]; try omega
                have e2 : IntKind.i64.wrap (((len2 : Int) - 1) - (k : Int)) = (q : Int) := by rw [IntWalk.i64_in _ (by omega)]; omega
                have hq0 : (0 : Int) ≤ (q : Int) := by omega
                have hq1 : (q : Int) < (len2 : Int) := by omega
                clear hk hlt hq
                go_wp2_with fail
                go_quiet (fail)
                go_wp2_with fail
                exact ⟨⟨k + 1, by omega, by go_num, below_dn bel2 _⟩, by simp [intOf]; omega⟩
              · obtain rfl : len2 = k := by omega
                have HL7 := Lib.hid (HL6.out.below bel2)
                have HB7 := Lib.hid (HB6.out.trans (bel2.mono HB6.out.size))
                clear bel2
                go_wp2_with fail
                (with_reducible refine (lives4_c _ HL7.out).mono ?_); rintro e w5 ⟨rfl, hb5⟩
                go_wp2_with fail
                go_ret
                exact ⟨rfl, HB7.out.trans (hb5.mono HB7.out.size)⟩

set_option maxRecDepth 100000 in
theorem lifted (os : Os) (started : os.Started) (H : Type) (enc : TypeId × Value → H) :
    ReturnsInHanded {} Tryd.checked os 3 .any (fun w args => (Rows.faultChainsSpec.pre enc Tryd.prog Tryd.f3 [] false w args ∧ laidMetH Tryd.prog laidL w) ∧ sizedMet enc Tryd.prog Tryd.f3 (OpenSpec.ofChange Rows.faultChainsSpec) false w args) (Rows.faultChainsSpec.post enc Tryd.prog Tryd.f3 false true false false) := by
  refine returnsInHanded_of_change_and (C := Tryd.checked) (X := fun w _ => laidMetH Tryd.prog laidL w) (fun _ _ _ hh h => h.of_heap hh) own started (by kernel_rfl) Tryd.func3
    (ChangeSpec.witness_shaped (enc := enc) (C := Tryd.checked) (os := os) (X := fun w _ => laidMetH Tryd.prog laidL w) false (World.doorLaid Tryd.prog 31 os) #[.int .i64 0, .int .i64 0, .slice none 0 0] 8 rfl (World.shaped_of_RefB (by kernel_rfl) (by kernel_rfl)) (by kernel_rfl) (by kernel_rfl) (by kernel_rfl) (door_met os _)) ?_
  intro W base args ds gs before hval0 hW _ _ hLD _
  have hval : ∀ (j : Nat) t v, Tryd.f3.params[j]? = some t → args[j]? = some v → Value.okWide Tryd.prog W .any base t v := hval0
  have hW' := hW
  obtain ⟨p, q, hA0, hV, rfl, hfz, hnd⟩ := hW
  have hA : DataW.TrodAll enc Tryd.prog W 0 (fun _ => true) true Tryd.f3.params.toList args.toList ds p := hA0
  rw [Tryd.params3] at hA hval
  obtain ⟨v0, vs0, d0, ds0, p0, q0, hargs, rfl, rfl, h0, r0⟩ := trodAll_cons hA
  obtain ⟨v1, vs1, d1, ds1, p1, q1, rfl, rfl, rfl, h1, r1⟩ := trodAll_cons r0
  obtain ⟨v2, vs2, d2, ds2, p2, q2, rfl, rfl, rfl, h2, r2⟩ := trodAll_cons r1
  obtain ⟨rfl, rfl, rfl⟩ := trodAll_nil r2
  obtain rfl : args = #[v0, v1, v2] := by cases args; simp_all
  obtain ⟨rfl, rfl⟩ := trodVars_none hV
  obtain ⟨a0, rfl, rfl, rfl, w0⟩ := open_int Tryd.underlying3 (hval 0 3 v0 rfl rfl) h0
  obtain ⟨a1, rfl, rfl, rfl, w1⟩ := open_int Tryd.underlying3 (hval 1 3 v1 rfl rfl) h1
  have k2 := h2
  have lt2 : ∀ x ∈ p2, x.block < W.heap.size := by obtain ⟨m, hm⟩ := k2; exact DataW.trod_lt m _ _ _ hm
  obtain ⟨a2, len2, cap2, rfl⟩ := okWide_slice Tryd.underlying22 (hval 2 22 v2 rfl rfl)
  obtain ⟨z2, w2⟩ : ∃ zs, IsInts W a2 len2 cap2 zs := by
    obtain ⟨fuel, hf⟩ := h2
    rcases open_ints Tryd.underlying22 Tryd.underlying3 (by kernel_rfl) hf with ⟨hcs, _⟩ | ⟨x, l, c, zs, hcs, _, hl, hm, hz, _, hcell, hwz⟩
    · simp [Value.cells] at hcs
      obtain ⟨rfl, rfl, rfl⟩ := hcs
      exact ⟨[], .inl ⟨rfl, rfl, rfl, rfl⟩⟩
    · simp [Value.cells] at hcs
      obtain ⟨rfl, rfl, rfl⟩ := hcs
      exact ⟨zs, .inr ⟨_, rfl, hl, hm, by simpa using hz, hcell, hwz⟩⟩
  have hL := laid4_of hLD
  clear hA0 hval0
  refine (walk a0 a1 a2 len2 cap2 z2 W w0 w1 w2 hL).mono fun e W' ⟨he, bel⟩ => ?_
  subst he
  exact ⟨_, rfl, _, _, _, [], _, [], hW', trodAll_mk1 (shut_bool Tryd.underlying4 _), (trodAll_cons_mk (shut_int Tryd.underlying3 w0) (trodAll_cons_mk (shut_int Tryd.underlying3 w1) (trodAll_cons_mk (Below.trod laidOut (by kernel_rfl) (of_decide_eq_true (by kernel_rfl)) k2 bel lt2) trodAll_mk0))), rfl, bel.frame _, fun h => by cases h⟩

theorem over : Rows.faultChainsRow.holds Tryd.pinned (OpenSpec.ofChange Rows.faultChainsSpec) :=
  OpenClaim.holds_of_wide 3 Tryd.f3 rfl rfl rfl rfl rfl rfl rfl ⟨rfl, rfl, rfl, rfl, rfl⟩ rfl rfl rfl rfl rfl (by kernel_rfl) Tryd.func3 (by kernel_rfl)
    (of_decide_eq_true (by kernel_rfl)) (by unfold Func.isWrapper; first | (rw [if_pos (by decide +kernel)]; kernel_rfl) | (rw [if_neg (by decide +kernel)]; exact ⟨rfl, rfl⟩))
    (fun os started H enc _ => lifted os started H enc)

theorem proved : Rows.FaultChainsCardSaid :=
  Claim7.holds_tied_plain_at .later [] [.data, .data, .data, .handle] true (true, "e02e50db6800255181a8857acf43a537939f47dd766bf9bf66437044d9735d7e") true
    over (fun _ h => by cases h) (by kernel_rfl) (fun _ h => by cases h) faultChains_row_tie rfl ⟨rfl, rfl⟩ (by kernel_rfl) rfl
    (fun f fn hf hfn => by
      obtain rfl : f = 3 := Option.some.inj ((show Tryd.prog.funcNamed Rows.faultChainsRow.func = some 3 by kernel_rfl).symm.trans hf) |>.symm
      obtain rfl : fn = Tryd.f3 := (Option.some.inj (Tryd.func3.symm.trans hfn)).symm
      exact ⟨by kernel_rfl, fun j t ht => by
        rw [Tryd.params3] at ht
        have hm : t ∈ [3, 3, 22] := by simpa using Array.mem_of_getElem? ht
        have hall : ([3, 3, 22].all fun u => !Tryd.prog.wantsStandIn u) = true := by kernel_rfl
        exact (show Tryd.prog.wantsStandIn t = false by simpa using List.all_eq_true.1 hall t hm)⟩)
    (by kernel_rfl)
end Go.Proofs.YtpinenfclpapjaaDoor.faultChains
