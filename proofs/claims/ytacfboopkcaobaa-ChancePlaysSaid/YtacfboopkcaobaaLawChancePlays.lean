/-
  ChancePlays: for every input the law returns true, and each argument reads behind the call as it read before. No condition.
-/
import Derived.Test.YtacfboopkcaobaaRows
import Derived.WalkKit
import Derived.ProofKit
import Derived.OpenShut
import Derived.ShutString
import Derived.ChangeOld
import Derived.Below
import Derived.Carry
import Derived.Test.YtacfboopkcaobaaPlays
namespace Go.Proofs.Ytacfboopkcaobaa.chancePlays
open Go.ChangeShapes Go.WideShapes Go.ChangeAt Go.RowKit
open Go.ChangeMaps (open_string shut_string)
set_option linter.unusedVariables false

theorem own : ownKnob Try.prog.godebug = none := by kernel_rfl
theorem laidOut : laidOutB Try.prog = true := by kernel_rfl

/-- A slice of bytes that came in, as the form reads it. -/
def IsRow (w : World) (a : Option Addr) (len cap : Nat) (zs : List Int) : Prop :=
  (a = none ∧ len = 0 ∧ cap = 0 ∧ zs = []) ∨ ∃ x, a = some x ∧ len ≤ cap ∧ cap ≤ maxLen ∧ zs.length = cap ∧ (∀ i, i < zs.length → w.cell? (x.add i) = some (.int .u8 (zs.getD i 0))) ∧ ∀ n ∈ zs, (Lit.int .u8 n).wf = true

set_option maxHeartbeats 8000000 in
set_option maxRecDepth 100000 in
theorem walk (a0 : Option Addr) (len0 cap0 : Nat) (z0 : List Int) (a1 : Option Addr) (len1 cap1 : Nat) (its1 : List Asq) (w : World) (w0 : IsRow w a0 len0 cap0 z0) (w1 : Asqs w a1 len1 its1 ∧ len1 ≤ cap1 ∧ cap1 ≤ maxLen) :
    Calls Try.prog 8 #[.slice a0 len0 cap0, .slice a1 len1 cap1] w fun e w' => e = .returned (.bool true) ∧ Below w.heap.size w w' := by
  obtain ⟨l, hsl⟩ := slB_of_row w0
  have hcm : len0 ≤ cap0 ∧ cap0 ≤ maxLen := by
    rcases w0 with ⟨_, h, h2, _⟩ | ⟨_, _, h1, h2, _⟩
    · subst h; subst h2; exact ⟨Nat.le_refl _, Nat.zero_le _⟩
    · exact ⟨h1, h2⟩
  have hlm : len0 ≤ 9223372036854775807 := by have := hcm.1; have := hcm.2; unfold maxLen at this; omega
  have hA := w1.1
  have hl1 := hA.2.1
  have HLi := Lib.hid (light5_c a0 len0 cap0 a1 len1 cap1 its1 w hA hlm)
  have hl1I : (len1 : Int) ≤ 9223372036854775807 := by omega
  have HS := Lib.hid hsl
  have HA := Lib.hid hA
  have HCM := Lib.hid hcm
  clear hsl hA w0 w1 hcm
  by_cases hlt : Lt5 len0 its1
  · rw [lt5_iff.2 hlt] at HLi
    have HLt := Lib.hid hlt
    clear hlt hlm hl1
    go_enter Try.func8, Try.ntmps8
    go_wp2_with fail
    ((with_reducible refine HLi.out.mono ?_); rintro e w2 ⟨rfl, b2⟩)
    have hb2 := Lib.hid b2
    have HNw := Lib.hid (new_c a0 len0 cap0 l w2 (HS.out.fr0 (Fr.of_below (S := fun _ => False) b2) (fun _ _ _ h => h)) (by have := HLt.out.2.1; omega))
    clear b2 HLi
    go_wp2_with fail
    ((with_reducible refine HNw.out.mono ?_); rintro e w3 ⟨gs, rfl, hd⟩)
    obtain ⟨gw, hgw⟩ : ∃ gw, gw = w3.heap.size := ⟨_, rfl⟩
    have h5 : Hid (P2 w.heap.size w (w3.alloc (.cells #[.slice a0 len0 cap0] 57)) gs gw l l) := by
      have hb3 : Below w.heap.size w w3 := hb2.out.trans (hd.out.2.1.mono hb2.out.size)
      have hba : Below w3.heap.size w3 (w3.alloc (.cells #[.slice a0 len0 cap0] 57)) := (Below.refl _ w3).alloc (Nat.le_refl _) _
      have hb4 := hb3.trans (hba.mono hb3.size)
      refine ⟨hb4, hb4.size, ⟨Nat.le_trans hb2.out.size hd.out.1, by rw [hgw]; exact hb3.size⟩, hd.out.2.2.below hba, a0, len0, cap0, ?_, HS.out.fr0 (Fr.of_below (S := fun _ => False) hb4) (fun _ _ _ h => h), HCM.out⟩
      rw [hgw]; exact heap_alloc_new w3 _
    clear hb2 HNw hd
    go_wp2_with fail
    rw [← hgw]
    clear hgw
    obtain ⟨W, hW⟩ : ∃ W, W = w3.alloc (.cells #[.slice a0 len0 cap0] 57) := ⟨_, rfl⟩
    rw [← hW] at h5 ⊢
    clear hW
    go_loopw [22] (fun i wr => ∃ (k : Nat) (t : List UInt8), k ≤ len1 ∧ i = .int .i64 (k : Int) ∧ Hid (P2 w.heap.size w wr gs gw t t)) (fun i _ => len1 - (intOf i).toNat)
    case atStart => exact ⟨0, l, by omega, rfl, h5.out⟩
    case round =>
      clear h5
      obtain ⟨k, t, hk, rfl, hd⟩ := hrel
      by_cases hltk : k < len1
      · have hltI : (k : Int) < (len1 : Int) := by omega
        have hk0 : (0 : Int) ≤ (k : Int) := by omega
        rcases HA.out.2.2.2 with h0 | ⟨b, off, rfl, hb, hcells⟩
        · exfalso; omega
        obtain ⟨x, hx⟩ : ∃ x, x = its1[k]! := ⟨_, rfl⟩
        have hat : x.at wr b (off + k * 5) := by rw [hx]; exact Asq.at_below (hcells k hltk) hb hd.out.1
        have hok : x.ok wr := by
          have hm : x ∈ its1 := by
            rw [hx, List.getElem!_eq_getElem?_getD, List.getElem?_eq_getElem (by rw [HA.out.1]; exact hltk)]
            exact List.getElem_mem _
          exact Asq.ok_below (HA.out.2.2.1 x hm) hd.out.1
        have h60 : x.vL ≤ 60 := by rw [hx]; exact HLt.out.1 k (by rw [HA.out.1]; exact hltk)
        have H4 := Lib.hid (hd.out.call hok)
        have H60 := Lib.hid h60
        have hu := hok.2.1
        obtain ⟨p0, p1, p2, p3, p4⟩ := hat
        clear hx hcells hok h60 hd
        obtain ⟨xk, xn, xl, xh, xA, xL, xC, xZ⟩ := x
        simp only at p0 p1 p2 p3 p4 hu
        obtain ⟨n, rfl⟩ : ∃ n : Nat, (n : Int) = xn := ⟨xn.toNat, by omega⟩
        have Hn : Hid (n < 18446744073709551616) := by show _ < _; omega
        clear hu
        obtain ⟨c0, c1, c2, c3, c4⟩ := H4.out.all
        simp only at c0 c1 c2 c3 c4
        obtain ⟨q, hq⟩ : ∃ q, q = wr.heap.size := ⟨_, rfl⟩
        rw [← hq] at H4 c0 c1 c2 c3 c4
        obtain ⟨W2, hW2⟩ : ∃ W2, W2 = wr.alloc (.cells #[.int .i64 xk, .int .u64 (n : Int), .int .i64 xl, .int .i64 xh, .slice xA xL xC] 60) := ⟨_, rfl⟩
        have HW2 : Hid (wr.alloc (.cells #[.int .i64 xk, .int .u64 (n : Int), .int .i64 xl, .int .i64 xh, .slice xA xL xC] 60) = W2) := hW2.symm
        have HQ : Hid (wr.heap.size = q) := hq.symm
        simp only at H4
        rw [← hW2] at H4 c0 c1 c2 c3 c4
        clear hW2 hq
        by_cases k0 : xk = 0
        · subst k0
          obtain ⟨v, hv⟩ : ∃ v : Nat, v = (t.headD 0).toNat := ⟨_, rfl⟩
          obtain ⟨t', ht'⟩ : ∃ t', t' = t.tail := ⟨_, rfl⟩
          have D1 : Hid (∀ W, P3 w.heap.size w W gs gw q ⟨0, (n : Int), xl, xh, xA, xL, xC, xZ⟩ t t → Calls Try.prog 22 #[.pointer (some ⟨gs, 0, none⟩)] W fun e w' => e = .returned (.int .u8 (v : Int)) ∧ CA w' q ⟨0, (n : Int), xl, xh, xA, xL, xC, xZ⟩ ∧ Hid (P3 w.heap.size w w' gs gw q ⟨0, (n : Int), xl, xh, xA, xL, xC, xZ⟩ t' t)) := by
            intro W h; rw [hv, ht']; exact p_byte h
          have D2 : Hid (∀ W, P3 w.heap.size w W gs gw q ⟨0, (n : Int), xl, xh, xA, xL, xC, xZ⟩ t' t → Calls Try.prog 23 #[.pointer (some ⟨gw, 0, none⟩)] W fun e w' => e = .returned (.int .u8 (v : Int)) ∧ CA w' q ⟨0, (n : Int), xl, xh, xA, xL, xC, xZ⟩ ∧ Hid (P3 w.heap.size w w' gs gw q ⟨0, (n : Int), xl, xh, xA, xL, xC, xZ⟩ t' t')) := by
            intro W h; rw [hv]; have := p_byte2 h; rw [← ht'] at this; exact this
          clear hv ht'
          go_wp2_with fail
          rw [HW2.out]
          ((with_reducible refine (D1.out _ H4.out).mono ?_); rintro e y1 ⟨rfl, ⟨c0, c1, c2, c3, c4⟩, G1⟩; clear H4 D1)
          go_wp2_with fail
          ((with_reducible refine (D2.out _ G1.out).mono ?_); rintro e y2 ⟨rfl, ⟨c0, c1, c2, c3, c4⟩, G2⟩; clear G1 D2)
          go_wp2_with fail
          clear c0 c1 c2 c3 c4
          have HP := Lib.hid G2.out.1.drew
          obtain ⟨A, nn, cc, hnn, k0, _, _, _, _⟩ := HP.out.2.2.2.2.slice
          have HLf := Lib.hid (sLeft_c gs t' _ HP.out.2.2.2.1)
          rw [← hnn] at HLf
          clear hnn G2
          go_region_held3 (fun w' => w'.cell? ⟨gw, 0, none⟩ = some (.slice A nn cc)) (go_keep) (first | ((with_reducible refine HLf.out.mono ?_); rintro e z1 ⟨rfl, rfl⟩) | fail)
          all_goals
            go_wp2_with fail
            exact ⟨⟨k + 1, t', by omega, by go_num, HP.out⟩, by simp [intOf]; omega⟩
        · by_cases k1 : xk = 1
          · subst k1
            clear k0
            obtain ⟨v, hv⟩ : ∃ v : Nat, v = (belowN t n).1 := ⟨_, rfl⟩
            obtain ⟨t', ht'⟩ : ∃ t', t' = (belowN t n).2 := ⟨_, rfl⟩
            have D1 : Hid (∀ W, P3 w.heap.size w W gs gw q ⟨1, (n : Int), xl, xh, xA, xL, xC, xZ⟩ t t → Calls Try.prog 24 #[.pointer (some ⟨gs, 0, none⟩), .int .u64 (n : Int)] W fun e w' => e = .returned (.int .u64 (v : Int)) ∧ CA w' q ⟨1, (n : Int), xl, xh, xA, xL, xC, xZ⟩ ∧ Hid (P3 w.heap.size w w' gs gw q ⟨1, (n : Int), xl, xh, xA, xL, xC, xZ⟩ t' t)) := by
              intro W h; rw [hv, ht']; exact p_below h Hn.out
            have D2 : Hid (∀ W, P3 w.heap.size w W gs gw q ⟨1, (n : Int), xl, xh, xA, xL, xC, xZ⟩ t' t → Calls Try.prog 25 #[.pointer (some ⟨gw, 0, none⟩), .int .u64 (n : Int)] W fun e w' => e = .returned (.int .u64 (v : Int)) ∧ CA w' q ⟨1, (n : Int), xl, xh, xA, xL, xC, xZ⟩ ∧ Hid (P3 w.heap.size w w' gs gw q ⟨1, (n : Int), xl, xh, xA, xL, xC, xZ⟩ t' t')) := by
              intro W h; rw [hv]; have := p_below2 h Hn.out; rw [← ht'] at this; exact this
            clear hv ht'
            have H5 := Lib.hid H4.out.drew
            go_wp2_with fail
            rw [HW2.out, HQ.out]
            go_region_held3 (fun w' => w'.cell? ⟨q, 1, none⟩ = some (.int .u64 (n : Int))) (go_keep)
              (first
                | ((with_reducible refine (D1.out _ H5.out).mono ?_); rintro e y1 ⟨rfl, ⟨c0, c1, c2, c3, c4⟩, G1⟩; clear H5 D1)
                | ((with_reducible refine (D2.out _ G1.out).mono ?_); rintro e y1 ⟨rfl, ⟨c0, c1, c2, c3, c4⟩, G2⟩; clear G1 D2)
                | fail)
            go_wp2_with fail
            clear c0 c1 c2 c3 c4
            have HP := Lib.hid G2.out.1.drew
            obtain ⟨A, nn, cc, hnn, k0, _, _, _, _⟩ := HP.out.2.2.2.2.slice
            have HLf := Lib.hid (sLeft_c gs t' _ HP.out.2.2.2.1)
            rw [← hnn] at HLf
            clear hnn G2
            go_region_held3 (fun w' => w'.cell? ⟨gw, 0, none⟩ = some (.slice A nn cc)) (go_keep) (first | ((with_reducible refine HLf.out.mono ?_); rintro e z1 ⟨rfl, rfl⟩) | fail)
            all_goals
              go_wp2_with fail
              exact ⟨⟨k + 1, t', by omega, by go_num, HP.out⟩, by simp [intOf]; omega⟩
          · by_cases k2 : xk = 2
            · subst k2
              clear k0 k1
              obtain ⟨v, hv⟩ : ∃ v : Int, v = (betweenN t xl xh).1 := ⟨_, rfl⟩
              obtain ⟨t', ht'⟩ : ∃ t', t' = (betweenN t xl xh).2 := ⟨_, rfl⟩
              have D1 : Hid (∀ W, P3 w.heap.size w W gs gw q ⟨2, (n : Int), xl, xh, xA, xL, xC, xZ⟩ t t → Calls Try.prog 26 #[.pointer (some ⟨gs, 0, none⟩), .int .i64 xl, .int .i64 xh] W fun e w' => e = .returned (.int .i64 v) ∧ CA w' q ⟨2, (n : Int), xl, xh, xA, xL, xC, xZ⟩ ∧ Hid (P3 w.heap.size w w' gs gw q ⟨2, (n : Int), xl, xh, xA, xL, xC, xZ⟩ t' t)) := by
                intro W h; rw [hv, ht']; exact p_between h
              have D2 : Hid (∀ W, P3 w.heap.size w W gs gw q ⟨2, (n : Int), xl, xh, xA, xL, xC, xZ⟩ t' t → Calls Try.prog 27 #[.pointer (some ⟨gw, 0, none⟩), .int .i64 xl, .int .i64 xh] W fun e w' => e = .returned (.int .i64 v) ∧ CA w' q ⟨2, (n : Int), xl, xh, xA, xL, xC, xZ⟩ ∧ Hid (P3 w.heap.size w w' gs gw q ⟨2, (n : Int), xl, xh, xA, xL, xC, xZ⟩ t' t')) := by
                intro W h; rw [hv]; have := p_between2 h; rw [← ht'] at this; exact this
              clear hv ht'
              have H5 := Lib.hid H4.out.drew
              go_wp2_with fail
              rw [HW2.out, HQ.out]
              go_region_held3 (fun w' => w'.cell? ⟨q, 2, none⟩ = some (.int .i64 xl) ∧ w'.cell? ⟨q, 3, none⟩ = some (.int .i64 xh)) (go_keep)
                (first
                  | ((with_reducible refine (D1.out _ H5.out).mono ?_); rintro e y1 ⟨rfl, ⟨c0, c1, c2, c3, c4⟩, G1⟩; clear H5 D1)
                  | ((with_reducible refine (D2.out _ G1.out).mono ?_); rintro e y1 ⟨rfl, ⟨c0, c1, c2, c3, c4⟩, G2⟩; clear G1 D2)
                  | fail)
              go_wp2_with fail
              clear c0 c1 c2 c3 c4
              have HP := Lib.hid G2.out.1.drew
              obtain ⟨A, nn, cc, hnn, k0, _, _, _, _⟩ := HP.out.2.2.2.2.slice
              have HLf := Lib.hid (sLeft_c gs t' _ HP.out.2.2.2.1)
              rw [← hnn] at HLf
              clear hnn G2
              go_region_held3 (fun w' => w'.cell? ⟨gw, 0, none⟩ = some (.slice A nn cc)) (go_keep) (first | ((with_reducible refine HLf.out.mono ?_); rintro e z1 ⟨rfl, rfl⟩) | fail)
              all_goals
                go_wp2_with fail
                exact ⟨⟨k + 1, t', by omega, by go_num, HP.out⟩, by simp [intOf]; omega⟩
            · have q0 : (xk == 0) = false := by simp [k0]
              have q1 : (xk == 1) = false := by simp [k1]
              have q2 : (xk == 2) = false := by simp [k2]
              clear k0 k1 k2
              obtain ⟨v, hv⟩ : ∃ v : Nat, v = (pickN t xZ).1 := ⟨_, rfl⟩
              obtain ⟨t', ht'⟩ : ∃ t', t' = (pickN t xZ).2 := ⟨_, rfl⟩
              have D1 : Hid (∀ W, P3 w.heap.size w W gs gw q ⟨xk, (n : Int), xl, xh, xA, xL, xC, xZ⟩ t t → Calls Try.prog 28 #[.pointer (some ⟨gs, 0, none⟩), .slice xA xL xC] W fun e w' => e = .returned (.int .i64 (v : Int)) ∧ CA w' q ⟨xk, (n : Int), xl, xh, xA, xL, xC, xZ⟩ ∧ Hid (P3 w.heap.size w w' gs gw q ⟨xk, (n : Int), xl, xh, xA, xL, xC, xZ⟩ t' t)) := by
                intro W h; rw [hv, ht']; exact p_pick h H60.out
              have D2 : Hid (∀ W, P3 w.heap.size w W gs gw q ⟨xk, (n : Int), xl, xh, xA, xL, xC, xZ⟩ t' t → Calls Try.prog 29 #[.pointer (some ⟨gw, 0, none⟩), .slice xA xL xC] W fun e w' => e = .returned (.int .i64 (v : Int)) ∧ CA w' q ⟨xk, (n : Int), xl, xh, xA, xL, xC, xZ⟩ ∧ Hid (P3 w.heap.size w w' gs gw q ⟨xk, (n : Int), xl, xh, xA, xL, xC, xZ⟩ t' t')) := by
                intro W h; rw [hv]; have := p_pick2 h H60.out; rw [← ht'] at this; exact this
              clear hv ht'
              have H5 := Lib.hid H4.out.drew
              go_wp2_with fail
              rw [HW2.out, HQ.out]
              go_region_held3 (fun w' => w'.cell? ⟨q, 4, none⟩ = some (.slice xA xL xC)) (go_keep)
                (first
                  | ((with_reducible refine (D1.out _ H5.out).mono ?_); rintro e y1 ⟨rfl, ⟨c0, c1, c2, c3, c4⟩, G1⟩; clear H5 D1)
                  | ((with_reducible refine (D2.out _ G1.out).mono ?_); rintro e y1 ⟨rfl, ⟨c0, c1, c2, c3, c4⟩, G2⟩; clear G1 D2)
                  | fail)
              go_wp2_with fail
              clear c0 c1 c2 c3 c4
              have HP := Lib.hid G2.out.1.drew
              obtain ⟨A, nn, cc, hnn, k0, _, _, _, _⟩ := HP.out.2.2.2.2.slice
              have HLf := Lib.hid (sLeft_c gs t' _ HP.out.2.2.2.1)
              rw [← hnn] at HLf
              clear hnn G2
              go_region_held3 (fun w' => w'.cell? ⟨gw, 0, none⟩ = some (.slice A nn cc)) (go_keep) (first | ((with_reducible refine HLf.out.mono ?_); rintro e z1 ⟨rfl, rfl⟩) | fail)
              all_goals
                go_wp2_with fail
                exact ⟨⟨k + 1, t', by omega, by go_num, HP.out⟩, by simp [intOf]; omega⟩
      · have HB : Hid (Below w.heap.size w wr ∧ w.heap.size ≤ wr.heap.size) := ⟨hd.out.1, hd.out.2.1⟩
        have hkl : k = len1 := by omega
        subst hkl
        clear hd hltk HA
        go_wp2_with fail
        ((with_reducible refine (lives5_c _).mono ?_); rintro e w7 ⟨rfl, b7⟩)
        have HF : Hid (Below w.heap.size w w7) := HB.out.1.trans (b7.mono HB.out.2)
        clear HB b7
        go_wp2_with fail
        go_ret
        exact ⟨rfl, HF.out⟩
  · rw [lt5_false hlt] at HLi
    clear hlt hlm hl1
    go_enter Try.func8, Try.ntmps8
    go_wp2_with fail
    ((with_reducible refine HLi.out.mono ?_); rintro e w2 ⟨rfl, b2⟩)
    go_wp2_with fail
    ((with_reducible refine (lives5_c _).mono ?_); rintro e w5 ⟨rfl, b5⟩)
    have HB : Hid (Below w.heap.size w w5) := b2.trans (b5.mono b2.size)
    clear b2 b5
    go_wp2_with fail
    go_ret
    exact ⟨rfl, HB.out⟩

set_option maxRecDepth 100000 in
theorem lifted (os : Os) (started : os.Started) (H : Type) (enc : TypeId × Value → H) :
    ReturnsInHanded {} Try.checked os 8 .any (Rows.chancePlaysSpec.pre6 enc Try.prog Try.f8 Rows.chancePlaysRow.domain false) (Rows.chancePlaysSpec.post enc Try.prog Try.f8 false true false false) := by
  refine returnsInHanded_of_change (C := Try.checked) own started (by kernel_rfl) Try.func8
    (ChangeSpec.witness6 (enc := enc) (C := Try.checked) false ⟨#[], #[.slice none 0 0, .slice none 0 0], []⟩ 8 (by kernel_rfl) (by kernel_rfl) (by kernel_rfl) (by kernel_rfl)) ?_
  intro W base args ds gs before hval0 hW hcnd _
  have hval : ∀ (j : Nat) t v, Try.f8.params[j]? = some t → args[j]? = some v → Value.okWide Try.prog W .any base t v := hval0
  have hW' := hW
  obtain ⟨p, q, hA0, hV, rfl, hfz, hnd⟩ := hW
  have hA : DataW.TrodAll enc Try.prog W 0 (fun _ => true) true Try.f8.params.toList args.toList ds p := hA0
  rw [Try.params8] at hA hval
  obtain ⟨v0, vs0, d0, ds0, p0, q0, hargs, rfl, rfl, h0, r0⟩ := trodAll_cons hA
  obtain ⟨v1, vs1, d1, ds1, p1, q1, rfl, rfl, rfl, h1, r1⟩ := trodAll_cons r0
  obtain ⟨rfl, rfl, rfl⟩ := trodAll_nil r1
  obtain rfl : args = #[v0, v1] := by cases args; simp_all
  obtain ⟨rfl, rfl⟩ := trodVars_none hV
  have k0 := h0
  have lt0 : ∀ x ∈ p0, x.block < W.heap.size := by obtain ⟨m, hm⟩ := k0; exact DataW.trod_lt m _ _ _ hm
  obtain ⟨a0, len0, cap0, rfl⟩ := okWide_slice Try.underlying22 (hval 0 22 v0 rfl rfl)
  obtain ⟨z0, w0⟩ : ∃ zs, IsRow W a0 len0 cap0 zs := by
    obtain ⟨fuel, hf⟩ := h0
    rcases open_ints Try.underlying22 Try.underlying5 (by kernel_rfl) hf with ⟨hcs, _⟩ | ⟨x, l, c, zs, hcs, _, hl, hm, hz, _, hcell, hwz⟩
    · simp [Value.cells] at hcs
      obtain ⟨rfl, rfl, rfl⟩ := hcs
      exact ⟨[], .inl ⟨rfl, rfl, rfl, rfl⟩⟩
    · simp [Value.cells] at hcs
      obtain ⟨rfl, rfl, rfl⟩ := hcs
      exact ⟨zs, .inr ⟨_, rfl, hl, hm, by simpa using hz, hcell, hwz⟩⟩
  have k1 := h1
  have lt1 : ∀ x ∈ p1, x.block < W.heap.size := by obtain ⟨m, hm⟩ := k1; exact DataW.trod_lt m _ _ _ hm
  obtain ⟨a1, len1, cap1, rfl⟩ := okWide_slice Try.underlying51 (hval 1 51 v1 rfl rfl)
  obtain ⟨its1, w1⟩ := open_asqs h1
  clear hA0 hval0
  refine (walk a0 len0 cap0 z0 a1 len1 cap1 its1 W w0 w1).mono fun e W' ⟨he, bel⟩ => ?_
  subst he
  exact ⟨_, rfl, _, _, _, [], _, [], hW', trodAll_mk1 (shut_bool Try.underlying4 _), (trodAll_cons_mk (Below.trod laidOut (by kernel_rfl) (of_decide_eq_true (by kernel_rfl)) k0 bel lt0) (trodAll_cons_mk (Below.trod laidOut (by kernel_rfl) (of_decide_eq_true (by kernel_rfl)) k1 bel lt1) trodAll_mk0)), rfl, bel.frame _, fun h => by cases h⟩

theorem over : Rows.chancePlaysRow.holds Try.pinned (OpenSpec.ofChange Rows.chancePlaysSpec) :=
  OpenClaim.holds_of_wide 8 Try.f8 rfl rfl rfl rfl rfl rfl rfl ⟨rfl, rfl, rfl, rfl, rfl⟩ rfl rfl rfl rfl rfl (by kernel_rfl) Try.func8 (by kernel_rfl)
    (of_decide_eq_true (by kernel_rfl)) (by unfold Func.isWrapper; first | (rw [if_pos (by decide +kernel)]; kernel_rfl) | (rw [if_neg (by decide +kernel)]; exact ⟨rfl, rfl⟩))
    (fun os started H enc _ => lifted os started H enc)

theorem proved : Rows.ChancePlaysSaid := over
end Go.Proofs.Ytacfboopkcaobaa.chancePlays
