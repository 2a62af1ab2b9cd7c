/-
  FaultFinds: for every input the law returns true, and each argument reads behind the call as it read before. No condition.
-/
import Derived.Test.YtpinenfclpapjaaDoorRows
import Derived.WalkKit
import Derived.ProofKit
import Derived.OpenShut
import Derived.ShutString
import Derived.ChangeOld
import Derived.Below
import Derived.Carry
import Derived.LaidMore
import Derived.LaidLaws
import Derived.LaidHandle
import Derived.Stop.Joined
import Derived.SevenTiedAt
import Derived.Test.YtpinenfclpapjaaDoorTie
import Derived.Test.YtpinenfclpapjaaDoorCards
import Derived.Test.YtpinenfclpapjaaDoorFtN
import Derived.Test.YtpinenfclpapjaaDoorFtL
namespace Go.Proofs.YtpinenfclpapjaaDoor.faultFinds
open Go.ChangeShapes Go.WideShapes Go.ChangeAt Go.RowKit
open Go.ChangeMaps (open_string shut_string)
set_option linter.unusedVariables false

theorem own : ownKnob Tryd.prog.godebug = none := by kernel_rfl
theorem laidOut : laidOutB Tryd.prog = true := by kernel_rfl

/-- A slice of bytes that came in, as the form reads it. -/
def IsRow (w : World) (a : Option Addr) (len cap : Nat) (zs : List Int) : Prop :=
  (a = none ∧ len = 0 ∧ cap = 0 ∧ zs = []) ∨ ∃ x, a = some x ∧ len ≤ cap ∧ cap ≤ maxLen ∧ zs.length = cap ∧ (∀ i, i < zs.length → w.cell? (x.add i) = some (.int .u8 (zs.getD i 0))) ∧ ∀ n ∈ zs, (Lit.int .u8 n).wf = true

/-- A slice of numbers that came in, as the form reads it. -/
def IsInts (w : World) (a : Option Addr) (len cap : Nat) (zs : List Int) : Prop :=
  (a = none ∧ len = 0 ∧ cap = 0 ∧ zs = []) ∨ ∃ x, a = some x ∧ len ≤ cap ∧ cap ≤ maxLen ∧ zs.length = cap ∧ (∀ i, i < zs.length → w.cell? (x.add i) = some (.int .i64 (zs.getD i 0))) ∧ ∀ n ∈ zs, (Lit.int .i64 n).wf = true

set_option maxHeartbeats 8000000 in
set_option maxRecDepth 100000 in
theorem walk (a0 : Int) (a1 : Int) (a2 : Option Addr) (len2 cap2 : Nat) (z2 : List Int) (w : World) (w0 : (Lit.int .i64 a0).wf = true) (w1 : (Lit.int .i64 a1).wf = true) (w2 : IsInts w a2 len2 cap2 z2) (hL : Laid4 w) :
    Calls Tryd.prog 4 #[.int .i64 a0, .int .i64 a1, .slice a2 len2 cap2] w fun e w' => e = .returned (.bool true) ∧ Below w.heap.size w w' := by
  obtain ⟨l0, hS0, hlc, hcm⟩ := slN_of w2
  have hb0 := bounds_i64 w0
  have hmI : (len2 : Int) ≤ 9223372036854775807 := by unfold maxLen at hcm; omega
  clear w0 w1 w2
  have HB0 := Lib.hid hb0
  have HS0 := Lib.hid hS0
  clear hb0 hS0 hcm
  have hhe : (0 : Int) ≤ (len2 : Int) := by omega
  go_enter Tryd.func4, Tryd.ntmps4
  by_cases h100 : 100 < len2
  · have hI : (100 : Int) < (len2 : Int) := by omega
    have hcI : (100 : Int) ≤ (cap2 : Int) := by omega
    obtain ⟨b, off, rfl, hbl, hcell⟩ : ∃ b off, a2 = some ⟨b, off, none⟩ ∧ b < w.heap.size ∧ ∀ i, i < len2 → w.cell? ⟨b, off + i, none⟩ = some (.int .i64 (l0.getD i 0)) := by
      rcases HS0.out.2.2 with h0 | h0
      · omega
      · exact h0
    obtain ⟨L, hLe⟩ : ∃ L, L = l0.take 100 := ⟨_, rfl⟩
    have hS := HS0.out.take 100 (by omega)
    rw [← hLe] at hS
    have HS := Lib.hid hS
    have HCe : Hid (b < w.heap.size ∧ ∀ i, i < 100 → w.cell? ⟨b, off + i, none⟩ = some (.int .i64 (L.getD i 0))) := by
      refine ⟨hbl, fun i hi => ?_⟩
      rw [hcell i (by omega), hLe]
      simp [List.getD_eq_getElem?_getD, hi]
    clear hcell hbl hLe hS h100
    by_cases hz : a0 = 0
    · subst hz
      go_wp2_with (first | (go_at_call 6; refine (new_zero _ _).mono ?_; rintro e w' ⟨rfl, rfl⟩))
      go_loopw [7, 19] (fun e i wr => ∃ k : Nat, k ≤ 100 ∧ i = .int .i64 (k : Int) ∧ e = .nilIface ∧ Below w.heap.size w wr) (fun _ i _ => 100 - (intOf i).toNat)
      case atStart => exact ⟨0, Nat.zero_le _, rfl, rfl, Below.refl _ _⟩
      case round =>
        obtain ⟨k, hk, rfl, rfl, bel⟩ := hrel
        by_cases hlt : k < 100
        · have hltI : (k : Int) < (100 : Int) := by omega
          have hce : wr.cell? ⟨b, off + k, none⟩ = some (.int .i64 (L.getD k 0)) := (bel.cell (p := ⟨b, off + k, none⟩) HCe.out.1).trans (HCe.out.2 k hlt)
          have hmem : L[k]? = some (L.getD k 0) := by rw [List.getD_eq_getElem?_getD, List.getElem?_eq_getElem (by have := HS.out.1; omega)]; rfl
          obtain ⟨nv, hnv⟩ : ∃ nv, nv = L.getD k 0 := ⟨_, rfl⟩
          rw [← hnv] at hce hmem
          have HNv := Lib.hid hmem
          clear hmem hnv
          go_wp2_with (first | (go_at_call 8; refine (wrap_nil _ _).mono ?_; rintro e w' ⟨rfl, rfl⟩))
          refine ⟨⟨k + 1, by omega, by go_num, rfl, bel⟩, by simp [intOf]; omega⟩
        · obtain rfl : 100 = k := by omega
          by_cases he : (0 : Int) = a1
          · have hE : ((0 : Int) == a1) = true := by simpa using he
            clear he
            go_wp2_with fail
            (with_reducible refine (has_nil a1 _).mono ?_); rintro e w2 ⟨rfl, hb2⟩
            have hLr := (hL.below bel).below hb2
            have HB2 := Lib.hid (bel.trans (hb2.mono bel.size))
            clear hb2 bel
            go_wp2_with fail
            (with_reducible refine (lives4_c _ hLr).mono ?_); rintro e w3 ⟨rfl, hb3⟩
            go_wp2_with fail
            go_ret
            exact ⟨rfl, HB2.out.trans (hb3.mono HB2.out.size)⟩
          · have hE : ((0 : Int) == a1) = false := by simpa using he
            clear he
            go_wp2_with fail
            (with_reducible refine (has_nil a1 _).mono ?_); rintro e w2 ⟨rfl, hb2⟩
            have hLr := (hL.below bel).below hb2
            have HB2 := Lib.hid (bel.trans (hb2.mono bel.size))
            clear hb2 bel
            go_wp2_with fail
            (with_reducible refine (lives4_c _ hLr).mono ?_); rintro e w3 ⟨rfl, hb3⟩
            go_wp2_with fail
            go_ret
            exact ⟨rfl, HB2.out.trans (hb3.mono HB2.out.size)⟩
    · have hn : (a0 != 0) = true := by simpa using hz
      have hn2 : (a0 == 0) = false := by simpa using hz
      clear hz
      go_wp2_with (first | (go_at_call 6; refine (new_c _ _ hn2 _).mono ?_; rintro e w' ⟨rfl, rfl⟩))
      go_loopw [7, 19] (fun e i wr => ∃ k d : Nat, k ≤ 100 ∧ i = .int .i64 (k : Int) ∧ e = fvl d ∧ Chn wr a0 (rv (L.take k) 1) d ∧ Below w.heap.size w wr) (fun _ i _ => 100 - (intOf i).toNat)
      case atStart => exact ⟨0, w.heap.size, Nat.zero_le _, rfl, rfl, (ft_last rfl : FtB _ _ 1 a0 .nilIface), (Below.refl _ _).alloc (Nat.le_refl _) _⟩
      case round =>
        obtain ⟨k, d, hk, rfl, rfl, hch, bel⟩ := hrel
        have HCh := Lib.hid hch
        clear hch
        by_cases hlt : k < 100
        · have hltI : (k : Int) < (100 : Int) := by omega
          have hce : wr.cell? ⟨b, off + k, none⟩ = some (.int .i64 (L.getD k 0)) := (bel.cell (p := ⟨b, off + k, none⟩) HCe.out.1).trans (HCe.out.2 k hlt)
          have hmem : L[k]? = some (L.getD k 0) := by rw [List.getD_eq_getElem?_getD, List.getElem?_eq_getElem (by have := HS.out.1; omega)]; rfl
          obtain ⟨nv, hnv⟩ : ∃ nv, nv = L.getD k 0 := ⟨_, rfl⟩
          rw [← hnv] at hce hmem
          have HNv := Lib.hid hmem
          clear hmem hnv
          go_wp2_with (first | (go_at_call 8; refine (wrap_c _ _ _).mono ?_; rintro e w' ⟨rfl, rfl⟩))
          refine ⟨⟨k + 1, wr.heap.size, by omega, by go_num, rfl, ?_, bel.trans (((Below.refl _ wr).alloc (Nat.le_refl _) _).mono bel.size)⟩, by simp [intOf]; omega⟩
          rw [rv_snoc _ _ _ _ HNv.out]
          exact HCh.out.wrap
        · obtain rfl : 100 = k := by omega
          have hlL : L.length = 100 := HS.out.1
          have hch := HCh.out
          rw [List.take_of_length_le (by omega)] at hch
          have hL1 := hL.below bel
          have H1 := has_c a0 a1 hn (rv L 1) d wr hL1.et hch
          by_cases he : a0 = a1
          · have hE : (a0 == a1) = true := by simpa using he
            rw [hE] at H1
            have H1 := Lib.hid H1
            clear he HCh hlL hL1 hch
            go_wp2_with fail
            (with_reducible refine H1.out.mono ?_); rintro e w2 ⟨rfl, hb2⟩
            have hLr := (hL.below bel).below hb2
            have HB2 := Lib.hid (bel.trans (hb2.mono bel.size))
            clear hb2 bel
            go_wp2_with fail
            (with_reducible refine (lives4_c _ hLr).mono ?_); rintro e w3 ⟨rfl, hb3⟩
            go_wp2_with fail
            go_ret
            exact ⟨rfl, HB2.out.trans (hb3.mono HB2.out.size)⟩
          · have hE : (a0 == a1) = false := by simpa using he
            rw [hE] at H1
            have H1 := Lib.hid H1
            clear he HCh hlL hL1 hch
            go_wp2_with fail
            (with_reducible refine H1.out.mono ?_); rintro e w2 ⟨rfl, hb2⟩
            have hLr := (hL.below bel).below hb2
            have HB2 := Lib.hid (bel.trans (hb2.mono bel.size))
            clear hb2 bel
            go_wp2_with fail
            (with_reducible refine (lives4_c _ hLr).mono ?_); rintro e w3 ⟨rfl, hb3⟩
            go_wp2_with fail
            go_ret
            exact ⟨rfl, HB2.out.trans (hb3.mono HB2.out.size)⟩
  · have hI : (len2 : Int) ≤ 100 := by omega
    have h100' : len2 ≤ 100 := by omega
    clear h100
    by_cases h0 : len2 = 0
    · subst h0
      obtain ⟨L, hLe⟩ : ∃ L, L = l0 := ⟨_, rfl⟩
      have HS : Hid (SlN w a2 0 L) := by show SlN _ _ _ _; rw [hLe]; exact HS0.out
      clear hLe
      by_cases hz : a0 = 0
      · subst hz
        go_wp2_with (first | (go_at_call 6; refine (new_zero _ _).mono ?_; rintro e w' ⟨rfl, rfl⟩))
        go_loopw [7, 19] (fun e i wr => ∃ k : Nat, k ≤ 0 ∧ i = .int .i64 (k : Int) ∧ e = .nilIface ∧ Below w.heap.size w wr) (fun _ i _ => 0 - (intOf i).toNat)
        case atStart => exact ⟨0, Nat.zero_le _, rfl, rfl, Below.refl _ _⟩
        case round =>
          obtain ⟨k, hk, rfl, rfl, bel⟩ := hrel
          by_cases hlt : k < 0
          · omega
          · obtain rfl : 0 = k := by omega
            by_cases he : (0 : Int) = a1
            · have hE : ((0 : Int) == a1) = true := by simpa using he
              clear he
              go_wp2_with fail
              (with_reducible refine (has_nil a1 _).mono ?_); rintro e w2 ⟨rfl, hb2⟩
              have hLr := (hL.below bel).below hb2
              have HB2 := Lib.hid (bel.trans (hb2.mono bel.size))
              clear hb2 bel
              go_wp2_with fail
              (with_reducible refine (lives4_c _ hLr).mono ?_); rintro e w3 ⟨rfl, hb3⟩
              go_wp2_with fail
              go_ret
              exact ⟨rfl, HB2.out.trans (hb3.mono HB2.out.size)⟩
            · have hE : ((0 : Int) == a1) = false := by simpa using he
              clear he
              go_wp2_with fail
              (with_reducible refine (has_nil a1 _).mono ?_); rintro e w2 ⟨rfl, hb2⟩
              have hLr := (hL.below bel).below hb2
              have HB2 := Lib.hid (bel.trans (hb2.mono bel.size))
              clear hb2 bel
              go_wp2_with fail
              (with_reducible refine (lives4_c _ hLr).mono ?_); rintro e w3 ⟨rfl, hb3⟩
              go_wp2_with fail
              go_ret
              exact ⟨rfl, HB2.out.trans (hb3.mono HB2.out.size)⟩
      · have hn : (a0 != 0) = true := by simpa using hz
        have hn2 : (a0 == 0) = false := by simpa using hz
        clear hz
        go_wp2_with (first | (go_at_call 6; refine (new_c _ _ hn2 _).mono ?_; rintro e w' ⟨rfl, rfl⟩))
        go_loopw [7, 19] (fun e i wr => ∃ k d : Nat, k ≤ 0 ∧ i = .int .i64 (k : Int) ∧ e = fvl d ∧ Chn wr a0 (rv (L.take k) 1) d ∧ Below w.heap.size w wr) (fun _ i _ => 0 - (intOf i).toNat)
        case atStart => exact ⟨0, w.heap.size, Nat.zero_le _, rfl, rfl, (ft_last rfl : FtB _ _ 1 a0 .nilIface), (Below.refl _ _).alloc (Nat.le_refl _) _⟩
        case round =>
          obtain ⟨k, d, hk, rfl, rfl, hch, bel⟩ := hrel
          have HCh := Lib.hid hch
          clear hch
          by_cases hlt : k < 0
          · omega
          · obtain rfl : 0 = k := by omega
            have hlL : L.length = 0 := HS.out.1
            have hch := HCh.out
            rw [List.take_of_length_le (by omega)] at hch
            have hL1 := hL.below bel
            have H1 := has_c a0 a1 hn (rv L 1) d wr hL1.et hch
            by_cases he : a0 = a1
            · have hE : (a0 == a1) = true := by simpa using he
              rw [hE] at H1
              have H1 := Lib.hid H1
              clear he HCh hlL hL1 hch
              go_wp2_with fail
              (with_reducible refine H1.out.mono ?_); rintro e w2 ⟨rfl, hb2⟩
              have hLr := (hL.below bel).below hb2
              have HB2 := Lib.hid (bel.trans (hb2.mono bel.size))
              clear hb2 bel
              go_wp2_with fail
              (with_reducible refine (lives4_c _ hLr).mono ?_); rintro e w3 ⟨rfl, hb3⟩
              go_wp2_with fail
              go_ret
              exact ⟨rfl, HB2.out.trans (hb3.mono HB2.out.size)⟩
            · have hE : (a0 == a1) = false := by simpa using he
              rw [hE] at H1
              have H1 := Lib.hid H1
              clear he HCh hlL hL1 hch
              go_wp2_with fail
              (with_reducible refine H1.out.mono ?_); rintro e w2 ⟨rfl, hb2⟩
              have hLr := (hL.below bel).below hb2
              have HB2 := Lib.hid (bel.trans (hb2.mono bel.size))
              clear hb2 bel
              go_wp2_with fail
              (with_reducible refine (lives4_c _ hLr).mono ?_); rintro e w3 ⟨rfl, hb3⟩
              go_wp2_with fail
              go_ret
              exact ⟨rfl, HB2.out.trans (hb3.mono HB2.out.size)⟩
    · obtain ⟨b, off, rfl, hbl, hcell⟩ : ∃ b off, a2 = some ⟨b, off, none⟩ ∧ b < w.heap.size ∧ ∀ i, i < len2 → w.cell? ⟨b, off + i, none⟩ = some (.int .i64 (l0.getD i 0)) := by
        rcases HS0.out.2.2 with h1 | h1
        · omega
        · exact h1
      obtain ⟨L, hLe⟩ : ∃ L, L = l0 := ⟨_, rfl⟩
      have HS : Hid (SlN w (some ⟨b, off, none⟩) len2 L) := by show SlN _ _ _ _; rw [hLe]; exact HS0.out
      have HCe : Hid (b < w.heap.size ∧ ∀ i, i < len2 → w.cell? ⟨b, off + i, none⟩ = some (.int .i64 (L.getD i 0))) := by rw [hLe]; exact ⟨hbl, hcell⟩
      clear hcell hbl hLe
      by_cases hz : a0 = 0
      · subst hz
        go_wp2_with (first | (go_at_call 6; refine (new_zero _ _).mono ?_; rintro e w' ⟨rfl, rfl⟩))
        go_loopw [7, 19] (fun e i wr => ∃ k : Nat, k ≤ len2 ∧ i = .int .i64 (k : Int) ∧ e = .nilIface ∧ Below w.heap.size w wr) (fun _ i _ => len2 - (intOf i).toNat)
        case atStart => exact ⟨0, Nat.zero_le _, rfl, rfl, Below.refl _ _⟩
        case round =>
          obtain ⟨k, hk, rfl, rfl, bel⟩ := hrel
          by_cases hlt : k < len2
          · have hltI : (k : Int) < (len2 : Int) := by omega
            have hce : wr.cell? ⟨b, off + k, none⟩ = some (.int .i64 (L.getD k 0)) := (bel.cell (p := ⟨b, off + k, none⟩) HCe.out.1).trans (HCe.out.2 k hlt)
            have hmem : L[k]? = some (L.getD k 0) := by rw [List.getD_eq_getElem?_getD, List.getElem?_eq_getElem (by have := HS.out.1; omega)]; rfl
            obtain ⟨nv, hnv⟩ : ∃ nv, nv = L.getD k 0 := ⟨_, rfl⟩
            rw [← hnv] at hce hmem
            have HNv := Lib.hid hmem
            clear hmem hnv
            go_wp2_with (first | (go_at_call 8; refine (wrap_nil _ _).mono ?_; rintro e w' ⟨rfl, rfl⟩))
            refine ⟨⟨k + 1, by omega, by go_num, rfl, bel⟩, by simp [intOf]; omega⟩
          · obtain rfl : len2 = k := by omega
            by_cases he : (0 : Int) = a1
            · have hE : ((0 : Int) == a1) = true := by simpa using he
              clear he
              go_wp2_with fail
              (with_reducible refine (has_nil a1 _).mono ?_); rintro e w2 ⟨rfl, hb2⟩
              have hLr := (hL.below bel).below hb2
              have HB2 := Lib.hid (bel.trans (hb2.mono bel.size))
              clear hb2 bel
              go_wp2_with fail
              (with_reducible refine (lives4_c _ hLr).mono ?_); rintro e w3 ⟨rfl, hb3⟩
              go_wp2_with fail
              go_ret
              exact ⟨rfl, HB2.out.trans (hb3.mono HB2.out.size)⟩
            · have hE : ((0 : Int) == a1) = false := by simpa using he
              clear he
              go_wp2_with fail
              (with_reducible refine (has_nil a1 _).mono ?_); rintro e w2 ⟨rfl, hb2⟩
              have hLr := (hL.below bel).below hb2
              have HB2 := Lib.hid (bel.trans (hb2.mono bel.size))
              clear hb2 bel
              go_wp2_with fail
              (with_reducible refine (lives4_c _ hLr).mono ?_); rintro e w3 ⟨rfl, hb3⟩
              go_wp2_with fail
              go_ret
              exact ⟨rfl, HB2.out.trans (hb3.mono HB2.out.size)⟩
      · have hn : (a0 != 0) = true := by simpa using hz
        have hn2 : (a0 == 0) = false := by simpa using hz
        clear hz
        go_wp2_with (first | (go_at_call 6; refine (new_c _ _ hn2 _).mono ?_; rintro e w' ⟨rfl, rfl⟩))
        go_loopw [7, 19] (fun e i wr => ∃ k d : Nat, k ≤ len2 ∧ i = .int .i64 (k : Int) ∧ e = fvl d ∧ Chn wr a0 (rv (L.take k) 1) d ∧ Below w.heap.size w wr) (fun _ i _ => len2 - (intOf i).toNat)
        case atStart => exact ⟨0, w.heap.size, Nat.zero_le _, rfl, rfl, (ft_last rfl : FtB _ _ 1 a0 .nilIface), (Below.refl _ _).alloc (Nat.le_refl _) _⟩
        case round =>
          obtain ⟨k, d, hk, rfl, rfl, hch, bel⟩ := hrel
          have HCh := Lib.hid hch
          clear hch
          by_cases hlt : k < len2
          · have hltI : (k : Int) < (len2 : Int) := by omega
            have hce : wr.cell? ⟨b, off + k, none⟩ = some (.int .i64 (L.getD k 0)) := (bel.cell (p := ⟨b, off + k, none⟩) HCe.out.1).trans (HCe.out.2 k hlt)
            have hmem : L[k]? = some (L.getD k 0) := by rw [List.getD_eq_getElem?_getD, List.getElem?_eq_getElem (by have := HS.out.1; omega)]; rfl
            obtain ⟨nv, hnv⟩ : ∃ nv, nv = L.getD k 0 := ⟨_, rfl⟩
            rw [← hnv] at hce hmem
            have HNv := Lib.hid hmem
            clear hmem hnv
            go_wp2_with (first | (go_at_call 8; refine (wrap_c _ _ _).mono ?_; rintro e w' ⟨rfl, rfl⟩))
            refine ⟨⟨k + 1, wr.heap.size, by omega, by go_num, rfl, ?_, bel.trans (((Below.refl _ wr).alloc (Nat.le_refl _) _).mono bel.size)⟩, by simp [intOf]; omega⟩
            rw [rv_snoc _ _ _ _ HNv.out]
            exact HCh.out.wrap
          · obtain rfl : len2 = k := by omega
            have hlL : L.length = len2 := HS.out.1
            have hch := HCh.out
            rw [List.take_of_length_le (by omega)] at hch
            have hL1 := hL.below bel
            have H1 := has_c a0 a1 hn (rv L 1) d wr hL1.et hch
            by_cases he : a0 = a1
            · have hE : (a0 == a1) = true := by simpa using he
              rw [hE] at H1
              have H1 := Lib.hid H1
              clear he HCh hlL hL1 hch
              go_wp2_with fail
              (with_reducible refine H1.out.mono ?_); rintro e w2 ⟨rfl, hb2⟩
              have hLr := (hL.below bel).below hb2
              have HB2 := Lib.hid (bel.trans (hb2.mono bel.size))
              clear hb2 bel
              go_wp2_with fail
              (with_reducible refine (lives4_c _ hLr).mono ?_); rintro e w3 ⟨rfl, hb3⟩
              go_wp2_with fail
              go_ret
              exact ⟨rfl, HB2.out.trans (hb3.mono HB2.out.size)⟩
            · have hE : (a0 == a1) = false := by simpa using he
              rw [hE] at H1
              have H1 := Lib.hid H1
              clear he HCh hlL hL1 hch
              go_wp2_with fail
              (with_reducible refine H1.out.mono ?_); rintro e w2 ⟨rfl, hb2⟩
              have hLr := (hL.below bel).below hb2
              have HB2 := Lib.hid (bel.trans (hb2.mono bel.size))
              clear hb2 bel
              go_wp2_with fail
              (with_reducible refine (lives4_c _ hLr).mono ?_); rintro e w3 ⟨rfl, hb3⟩
              go_wp2_with fail
              go_ret
              exact ⟨rfl, HB2.out.trans (hb3.mono HB2.out.size)⟩

set_option maxRecDepth 100000 in
theorem lifted (os : Os) (started : os.Started) (H : Type) (enc : TypeId × Value → H) :
    ReturnsInHanded {} Tryd.checked os 4 .any (fun w args => (Rows.faultFindsSpec.pre enc Tryd.prog Tryd.f4 [] false w args ∧ laidMetH Tryd.prog laidL w) ∧ sizedMet enc Tryd.prog Tryd.f4 (OpenSpec.ofChange Rows.faultFindsSpec) false w args) (Rows.faultFindsSpec.post enc Tryd.prog Tryd.f4 false true false false) := by
  refine returnsInHanded_of_change_and (C := Tryd.checked) (X := fun w _ => laidMetH Tryd.prog laidL w) (fun _ _ _ hh h => h.of_heap hh) own started (by kernel_rfl) Tryd.func4
    (ChangeSpec.witness_shaped (enc := enc) (C := Tryd.checked) (os := os) (X := fun w _ => laidMetH Tryd.prog laidL w) false (World.doorLaid Tryd.prog 31 os) #[.int .i64 0, .int .i64 0, .slice none 0 0] 8 rfl (World.shaped_of_RefB (by kernel_rfl) (by kernel_rfl)) (by kernel_rfl) (by kernel_rfl) (by kernel_rfl) (door_met os _)) ?_
  intro W base args ds gs before hval0 hW _ _ hLD _
  have hval : ∀ (j : Nat) t v, Tryd.f4.params[j]? = some t → args[j]? = some v → Value.okWide Tryd.prog W .any base t v := hval0
  have hW' := hW
  obtain ⟨p, q, hA0, hV, rfl, hfz, hnd⟩ := hW
  have hA : DataW.TrodAll enc Tryd.prog W 0 (fun _ => true) true Tryd.f4.params.toList args.toList ds p := hA0
  rw [Tryd.params4] at hA hval
  obtain ⟨v0, vs0, d0, ds0, p0, q0, hargs, rfl, rfl, h0, r0⟩ := trodAll_cons hA
  obtain ⟨v1, vs1, d1, ds1, p1, q1, rfl, rfl, rfl, h1, r1⟩ := trodAll_cons r0
  obtain ⟨v2, vs2, d2, ds2, p2, q2, rfl, rfl, rfl, h2, r2⟩ := trodAll_cons r1
  obtain ⟨rfl, rfl, rfl⟩ := trodAll_nil r2
  obtain rfl : args = #[v0, v1, v2] := by cases args; simp_all
  obtain ⟨rfl, rfl⟩ := trodVars_none hV
  obtain ⟨a0, rfl, rfl, rfl, w0⟩ := open_int Tryd.underlying3 (hval 0 3 v0 rfl rfl) h0
  obtain ⟨a1, rfl, rfl, rfl, w1⟩ := open_int Tryd.underlying3 (hval 1 3 v1 rfl rfl) h1
  have k2 := h2
  have lt2 : ∀ x ∈ p2, x.block < W.heap.size := by obtain ⟨m, hm⟩ := k2; exact DataW.trod_lt m _ _ _ hm
  obtain ⟨a2, len2, cap2, rfl⟩ := okWide_slice Tryd.underlying22 (hval 2 22 v2 rfl rfl)
  obtain ⟨z2, w2⟩ : ∃ zs, IsInts W a2 len2 cap2 zs := by
    obtain ⟨fuel, hf⟩ := h2
    rcases open_ints Tryd.underlying22 Tryd.underlying3 (by kernel_rfl) hf with ⟨hcs, _⟩ | ⟨x, l, c, zs, hcs, _, hl, hm, hz, _, hcell, hwz⟩
    · simp [Value.cells] at hcs
      obtain ⟨rfl, rfl, rfl⟩ := hcs
      exact ⟨[], .inl ⟨rfl, rfl, rfl, rfl⟩⟩
    · simp [Value.cells] at hcs
      obtain ⟨rfl, rfl, rfl⟩ := hcs
      exact ⟨zs, .inr ⟨_, rfl, hl, hm, by simpa using hz, hcell, hwz⟩⟩
  have hL := laid4_of hLD
  clear hA0 hval0
  refine (walk a0 a1 a2 len2 cap2 z2 W w0 w1 w2 hL).mono fun e W' ⟨he, bel⟩ => ?_
  subst he
  exact ⟨_, rfl, _, _, _, [], _, [], hW', trodAll_mk1 (shut_bool Tryd.underlying4 _), (trodAll_cons_mk (shut_int Tryd.underlying3 w0) (trodAll_cons_mk (shut_int Tryd.underlying3 w1) (trodAll_cons_mk (Below.trod laidOut (by kernel_rfl) (of_decide_eq_true (by kernel_rfl)) k2 bel lt2) trodAll_mk0))), rfl, bel.frame _, fun h => by cases h⟩

theorem over : Rows.faultFindsRow.holds Tryd.pinned (OpenSpec.ofChange Rows.faultFindsSpec) :=
  OpenClaim.holds_of_wide 4 Tryd.f4 rfl rfl rfl rfl rfl rfl rfl ⟨rfl, rfl, rfl, rfl, rfl⟩ rfl rfl rfl rfl rfl (by kernel_rfl) Tryd.func4 (by kernel_rfl)
    (of_decide_eq_true (by kernel_rfl)) (by unfold Func.isWrapper; first | (rw [if_pos (by decide +kernel)]; kernel_rfl) | (rw [if_neg (by decide +kernel)]; exact ⟨rfl, rfl⟩))
    (fun os started H enc _ => lifted os started H enc)

theorem proved : Rows.FaultFindsCardSaid :=
  Claim7.holds_tied_plain_at .later [] [.data, .data, .data, .handle] true (true, "e02e50db6800255181a8857acf43a537939f47dd766bf9bf66437044d9735d7e") true
    over (fun _ h => by cases h) (by kernel_rfl) (fun _ h => by cases h) faultFinds_row_tie rfl ⟨rfl, rfl⟩ (by kernel_rfl) rfl
    (fun f fn hf hfn => by
      obtain rfl : f = 4 := Option.some.inj ((show Tryd.prog.funcNamed Rows.faultFindsRow.func = some 4 by kernel_rfl).symm.trans hf) |>.symm
      obtain rfl : fn = Tryd.f4 := (Option.some.inj (Tryd.func4.symm.trans hfn)).symm
      exact ⟨by kernel_rfl, fun j t ht => by
        rw [Tryd.params4] at ht
        have hm : t ∈ [3, 3, 22] := by simpa using Array.mem_of_getElem? ht
        have hall : ([3, 3, 22].all fun u => !Tryd.prog.wantsStandIn u) = true := by kernel_rfl
        exact (show Tryd.prog.wantsStandIn t = false by simpa using List.all_eq_true.1 hall t hm)⟩)
    (by kernel_rfl)
end Go.Proofs.YtpinenfclpapjaaDoor.faultFinds
