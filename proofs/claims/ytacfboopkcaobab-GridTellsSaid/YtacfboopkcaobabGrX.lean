/- grid, the reference: the next price above. -/
import Derived.Test.YtacfboopkcaobabGrW
namespace Go.Proofs.Ytacfboopkcaobab
open Go.RowKit

/-- Where the loop stands: at the price's row; at the next one; behind the last one. -/
def UpAt (t : List Tk) (p : Int) (len : Nat) (i : Nat) : Prop :=
  i = ri t p ∨ (i = ri t p + 1 ∧ ri t p + 1 < len ∧ up t p = F t (ri t p + 1)) ∨ (i = len ∧ 1099511627776 < up t p)

set_option maxHeartbeats 16000000 in
set_option maxRecDepth 100000 in
theorem rUp_yes (p : Int) (a : Option Addr) (len cap : Nat) (t : List Tk) (w : World) (h : Tks w a len t) (hm : May t p) :
    Calls Try.prog 22 #[.slice a len cap, .int .i64 p] w (Got w (.tuple #[.int .i64 (upN t p), .bool (upB t p)])) := by
  have M := Lib.hid (rmay_c p a len cap t w h true (decide_eq_true hm).symm)
  have HT := Lib.hid h
  have HG := Lib.hid hm.1
  have HM := Lib.hid hm
  have HL := Lib.hid h.1
  have hl8 : (len : Int) ≤ 8 := by have := hm.1.2.1; have := h.1; omega
  obtain ⟨b1, b2, b3, b4, b5⟩ := hm.bounds
  have hp1 := hm.2.1
  have hrl : ri t p < len := by have := h.1; have := hm.row.2.1; omega
  have HR := Lib.hid (fun (W : World) (hW : Below w.heap.size w W) => rrow_c p a len cap t W (h.below hW) hm)
  have HU1 := fun (h : up t p ≤ 1099511627776) => (show upN t p = up t p ∧ upB t p = true from ⟨by unfold upN; rw [if_pos hm, if_pos h], by unfold upB; rw [if_pos hm]; exact decide_eq_true h⟩)
  have HU2 := fun (h : 1099511627776 < up t p) => (show upN t p = 0 ∧ upB t p = false from ⟨by unfold upN; rw [if_pos hm, if_neg (by omega)], by unfold upB; rw [if_pos hm]; exact decide_eq_false (by omega)⟩)
  have U1 := Lib.hid HU1
  have U2 := Lib.hid HU2
  clear h hm HU1 HU2
  go_enter Try.func22, Try.ntmps22
  go_wp2_with fail
  ((with_reducible refine M.out.mono ?_); rintro e w1 ⟨rfl, c1⟩)
  have B1 := Lib.hid c1
  have N := Lib.hid (HR.out w1 c1)
  clear c1 M HR
  go_wp2_with fail
  ((with_reducible refine N.out.mono ?_); rintro e w2 ⟨rfl, rfl⟩)
  clear N
  go_wp2_with fail
  go_loopw [6] (fun u wr => ∃ i : Nat, i ≤ len ∧ u = .int .i64 (i : Int) ∧ Hid (UpAt t p len i) ∧ Hid (Below w.heap.size w wr)) (fun u _ => len - (intOf u).toNat)
  case atStart => exact ⟨_, by omega, rfl, .inl rfl, B1.out⟩
  case round =>
    clear B1
    obtain ⟨i, hil, rfl, hi, hd⟩ := hrel
    have hi0 : (0 : Int) ≤ (i : Int) := by omega
    rcases hi.out with hi1 | ⟨hi1, hi2, hi3⟩ | ⟨hi1, hi2⟩
    · -- the price's own row
      have hlt : i < len := by omega
      have hltI : (i : Int) < (len : Int) := by omega
      obtain ⟨b, off, rfl, _, p0, p1, _, _⟩ := (HT.out.below hd.out).row hlt
      have hup : up t p = min (if 0 < (p - F t (ri t p)) % S t (ri t p) then p + (S t (ri t p) - (p - F t (ri t p)) % S t (ri t p)) else p) (endN t (ri t p)) := rfl
      have hdd := dn_div t p
      have hdn : dn t p = p - (p - F t (ri t p)) % S t (ri t p) := rfl
      have hlow := dn_low HM.out
      have hpe := endN_row HM.out
      have her := HG.out.row (i := ri t p) (by rw [HL.out]; exact hrl)
      have hmb := mod_bd (a := p - F t (ri t p)) b3
      have hnext : (i + 1 = len ∧ endN t (ri t p) = 1099511627777) ∨ (i + 1 < len ∧ endN t (ri t p) = F t (ri t p + 1) ∧ ∃ f', f' = F t (ri t p + 1) ∧ wr.cell? ⟨b, off + (i + 1) * 2, none⟩ = some (.int .i64 f') ∧ 0 ≤ f' ∧ f' ≤ 1099511627776) := by
        by_cases hn : i + 1 < len
        · right
          obtain ⟨b', off', ha, _, q0, _, _, _⟩ := (HT.out.below hd.out).row hn
          injection ha with ha
          injection ha with ha1 ha2
          subst ha1; subst ha2
          rw [hi1] at hn q0 ⊢
          have hr2 := HG.out.row (i := ri t p + 1) (by rw [HL.out]; exact hn)
          have hr3 := HG.out.hi (i := ri t p + 1) (by rw [HL.out]; exact hn)
          exact ⟨hn, by unfold endN; rw [if_pos (by rw [HL.out]; exact hn)], _, rfl, q0, hr2.1, hr3⟩
        · left
          rw [hi1] at hn ⊢
          exact ⟨by omega, by unfold endN; rw [if_neg (by rw [HL.out]; exact hn)]⟩
      rw [← hi1] at b1 b2 b3 b4 hup hdd hdn hlow hpe her hmb
      obtain ⟨f, hf⟩ : ∃ f, f = F t i := ⟨_, rfl⟩
      obtain ⟨s, hs⟩ : ∃ s, s = S t i := ⟨_, rfl⟩
      obtain ⟨d, hdq⟩ : ∃ d, d = dn t p := ⟨_, rfl⟩
      obtain ⟨E, hE⟩ : ∃ E, E = endN t i := ⟨_, rfl⟩
      rw [← hi1] at hnext
      rw [← hf] at p0 b1 b2 hup hdd hdn hlow her hmb
      rw [← hs] at p1 b3 b4 hup hdd hdn hmb
      rw [← hdq] at hdd hdn hlow
      rw [← hE] at hup hpe her hnext
      obtain ⟨v, hv⟩ : ∃ v, v = (p - f) % s := ⟨_, rfl⟩
      rw [← hv] at hup hdn hmb
      have hpf : 0 ≤ p - f := by omega
      obtain ⟨q, hq⟩ : ∃ q, q = (p - f) / s := ⟨_, rfl⟩
      rw [← hq] at hdd
      obtain ⟨m, hmm⟩ : ∃ m, m = q * s := ⟨_, rfl⟩
      rw [← hmm] at hdd
      have q0 : 0 ≤ q := by rw [hq]; exact Int.ediv_nonneg hpf (by omega)
      have q1 : q ≤ p - f := by rw [hq]; exact Int.ediv_le_self _ hpf
      have hA : (if p < f then f else p) = p := by rw [if_neg (by omega)]
      have w1 : IntKind.i64.wrap (p - f) = p - f := by rw [IntKind.wrap_i64]; omega
      have w2 : (p - f).tdiv s = q := by rw [Int.tdiv_eq_ediv_of_nonneg hpf, hq]
      have w3 : IntKind.i64.wrap q = q := by rw [IntKind.wrap_i64]; omega
      have w4 : IntKind.i64.wrap (q * s) = m := by rw [← hmm, IntKind.wrap_i64]; omega
      have w5 : IntKind.i64.wrap (f + m) = d := by rw [IntKind.wrap_i64]; omega
      have hs0 : ¬ s = 0 := by omega
      have hd0 : 0 ≤ d := by omega
      have hdp : d ≤ p := by omega
      have hcase : (d < p ∧ up t p = min (d + s) E) ∨ (d = p ∧ up t p = p) := by
        rcases Int.lt_or_le 0 v with h | h
        · left
          refine ⟨by omega, ?_⟩
          rw [hup, if_pos h]; congr 1; omega
        · right
          refine ⟨by omega, ?_⟩
          rw [hup, if_neg (by omega)]; omega
      have HB : Hid (Below w.heap.size w wr) := hd.out
      have HI := Lib.hid hi1
      clear hf hs hd hq hmm q1 hi hi1 hup hdd hdn hlow hmb hv hdq hE
      rcases hcase with ⟨hdp2, hu⟩ | ⟨rfl, hu⟩
      · rcases hnext with ⟨hn, hE2⟩ | ⟨hn, hE2, f', hf', q0', _, hfm⟩
        · have hbe : ((i : Int) == (len : Int) - 1) = true := by simp; omega
          rcases Int.lt_or_le 1099511627776 (d + s) with hgt | hle
          · have hx : decide (d + s ≤ 1099511627776) = false := decide_eq_false (by omega)
            have HN : Hid (UpAt t p len (i + 1)) := .inr (.inr ⟨hn, by omega⟩)
            have hn1 := Lib.hid hn
            clear hu hE2 hgt hn hpe her
            go_wp2_with fail
            go_quiet (fail)
            go_wp2_with fail
            go_quiet (fail)
            clear w1 w2 w3 w4 w5 hs0
            go_wp2_with fail
            exact ⟨⟨i + 1, by have := hn1.out; omega, by go_num, HN.out, below_drewN HB.out _⟩, by simp [intOf]; omega⟩
          · have HV := U1.out (by omega)
            have hu2 : up t p = d + s := by omega
            rw [hu2] at HV
            have HV := Lib.hid HV
            clear hu hu2 hE2 hn hpe her
            go_wp2_with fail
            go_quiet (fail)
            go_wp2_with fail
            go_quiet (fail)
            clear w1 w2 w3 w4 w5 hs0
            go_wp2_with fail
            go_ret2
            rw [HV.out.1, HV.out.2]
            exact ⟨rfl, below_drewN HB.out _⟩
        · have hbe : ((i : Int) == (len : Int) - 1) = false := by simp; omega
          have hnI : (i : Int) + 1 < (len : Int) := by omega
          rcases Int.lt_or_le (d + s) f' with hlt2 | hge
          · have hu2 : up t p = d + s := by omega
            have HV := U1.out (by omega)
            rw [hu2] at HV
            have HV := Lib.hid HV
            have hx : d + s ≤ 1099511627776 := by omega
            clear hu hu2 hE2 hf' hpe her
            go_wp2_with fail
            go_quiet (fail)
            go_wp2_with fail
            go_quiet (fail)
            clear w1 w2 w3 w4 w5 hs0
            go_wp2_with fail
            go_ret2
            rw [HV.out.1, HV.out.2]
            exact ⟨rfl, below_drewN HB.out _⟩
          · have hx2 : decide (d + s < f') = false := decide_eq_false (by omega)
            have HN : Hid (UpAt t p len (i + 1)) := .inr (.inl ⟨by rw [HI.out], by rw [← HI.out]; exact hn, by rw [← HI.out]; omega⟩)
            rcases Int.lt_or_le 1099511627776 (d + s) with hgt | hle
            · have hx : decide (d + s ≤ 1099511627776) = false := decide_eq_false (by omega)
              clear hu hE2 hgt hf' hpe her
              go_wp2_with fail
              go_quiet (fail)
              go_wp2_with fail
              go_quiet (fail)
              clear w1 w2 w3 w4 w5 hs0
              go_wp2_with fail
              exact ⟨⟨i + 1, by omega, by go_num, HN.out, below_drewN HB.out _⟩, by simp [intOf]; omega⟩
            · clear hu hE2 hf' hpe her hge
              go_wp2_with fail
              go_quiet (fail)
              go_wp2_with fail
              go_quiet (fail)
              clear w1 w2 w3 w4 w5 hs0
              go_wp2_with fail
              exact ⟨⟨i + 1, by omega, by go_num, HN.out, below_drewN HB.out _⟩, by simp [intOf]; omega⟩
      · have HV := U1.out (by omega)
        rw [hu] at HV
        have HV := Lib.hid HV
        have hnd : ¬ d < d := by omega
        rcases hnext with ⟨hn, hE2⟩ | ⟨hn, hE2, f', hf', q0', _, hfm⟩
        · have hbe : ((i : Int) == (len : Int) - 1) = true := by simp; omega
          clear hu hE2 hn hpe her
          go_wp2_with fail
          go_quiet (fail)
          go_wp2_with fail
          go_quiet (fail)
          clear w1 w2 w3 w4 w5 hs0
          go_wp2_with fail
          go_ret2
          rw [HV.out.1, HV.out.2]
          exact ⟨rfl, below_drewN HB.out _⟩
        · have hbe : ((i : Int) == (len : Int) - 1) = false := by simp; omega
          have hnI : (i : Int) + 1 < (len : Int) := by omega
          have hpf' : d < f' := by omega
          clear hu hE2 hf' hpe her
          go_wp2_with fail
          go_quiet (fail)
          go_wp2_with fail
          go_quiet (fail)
          clear w1 w2 w3 w4 w5 hs0
          go_wp2_with fail
          go_ret2
          rw [HV.out.1, HV.out.2]
          exact ⟨rfl, below_drewN HB.out _⟩
    · -- the next row's beginning
      have hlt : i < len := by omega
      have hltI : (i : Int) < (len : Int) := by omega
      obtain ⟨b, off, rfl, _, p0, p1, _, _⟩ := (HT.out.below hd.out).row hlt
      have hrow := HG.out.row (i := i) (by rw [HL.out]; exact hlt)
      have hsz := HG.out.sz (i := i) (by rw [HL.out]; exact hlt)
      have hfi := HG.out.hi (i := i) (by rw [HL.out]; exact hlt)
      have hpf : p < F t i := by
        have h1 := (HM.out).row.2.2.2 (by rw [HL.out]; exact hi2)
        rw [hi1]; exact h1
      have hup : up t p = F t i := by rw [hi3, hi1]
      have HV0 := U1.out (by omega)
      rw [hup] at HV0
      have HV := Lib.hid HV0
      have hnext : i + 1 = len ∨ (i + 1 < len ∧ ∃ f', wr.cell? ⟨b, off + (i + 1) * 2, none⟩ = some (.int .i64 f') ∧ F t i < f') := by
        by_cases hn : i + 1 < len
        · right
          obtain ⟨b', off', ha, _, q0, _, _, _⟩ := (HT.out.below hd.out).row hn
          injection ha with ha
          injection ha with ha1 ha2
          subst ha1; subst ha2
          exact ⟨hn, F t (i + 1), q0, HG.out.inc (by rw [HL.out]; exact hn)⟩
        · left; omega
      obtain ⟨f, hf⟩ : ∃ f, f = F t i := ⟨_, rfl⟩
      obtain ⟨s, hs⟩ : ∃ s, s = S t i := ⟨_, rfl⟩
      rw [← hf] at p0 hrow hfi hpf HV hnext
      rw [← hs] at p1 hsz
      have hf0 := hrow.1
      obtain ⟨s0, s1⟩ := hsz
      have hA : (if p < f then f else p) = f := by rw [if_pos hpf]
      have w1 : IntKind.i64.wrap (f - f) = 0 := by rw [Int.sub_self]; rfl
      have w2 : (0 : Int).tdiv s = 0 := by rw [Int.zero_tdiv]
      have w3 : IntKind.i64.wrap 0 = 0 := rfl
      have w4 : IntKind.i64.wrap (0 * s) = 0 := by rw [Int.zero_mul]; rfl
      have w5 : IntKind.i64.wrap (f + 0) = f := by rw [Int.add_zero, IntKind.wrap_i64]; omega
      have w6 : IntKind.i64.wrap f = f := by rw [IntKind.wrap_i64]; omega
      have hs0 : ¬ s = 0 := by omega
      have hnf : ¬ f < f := by omega
      have HB : Hid (Below w.heap.size w wr) := hd.out
      clear hf hs hd hi hi1 hi2 hi3 hup HV0 hrow
      rcases hnext with hn | ⟨hn, f', q0', hff⟩
      · have hbe : ((i : Int) == (len : Int) - 1) = true := by simp; omega
        clear hn
        go_wp2_with fail
        go_quiet (fail)
        go_wp2_with fail
        go_quiet (fail)
        clear w1 w2 w3 w4 w5 w6 hs0
        go_wp2_with fail
        go_ret2
        rw [HV.out.1, HV.out.2]
        exact ⟨rfl, below_drewN HB.out _⟩
      · have hbe : ((i : Int) == (len : Int) - 1) = false := by simp; omega
        have hnI : (i : Int) + 1 < (len : Int) := by omega
        go_wp2_with fail
        go_quiet (fail)
        go_wp2_with fail
        go_quiet (fail)
        clear w1 w2 w3 w4 w5 w6 hs0
        go_wp2_with fail
        go_ret2
        rw [HV.out.1, HV.out.2]
        exact ⟨rfl, below_drewN HB.out _⟩
    · have hi3 := U2.out hi2
      have HI := Lib.hid hi3
      have hge : ¬ (i : Int) < (len : Int) := by omega
      clear hi hi2 hi3
      go_wp2_with fail
      go_ret2
      rw [HI.out.1, HI.out.2]
      exact ⟨rfl, hd.out⟩

set_option maxHeartbeats 4000000 in
set_option maxRecDepth 100000 in
theorem rUp_c (p : Int) (a : Option Addr) (len cap : Nat) (t : List Tk) (w : World) (h : Tks w a len t) :
    Calls Try.prog 22 #[.slice a len cap, .int .i64 p] w (Got w (.tuple #[.int .i64 (upN t p), .bool (upB t p)])) := by
  by_cases hm : May t p
  · exact rUp_yes p a len cap t w h hm
  · rw [show upB t p = false by unfold upB; rw [if_neg hm], show upN t p = 0 by unfold upN; rw [if_neg hm]]
    have M := Lib.hid (rmay_c p a len cap t w h false (decide_eq_false hm).symm)
    clear h hm
    go_enter Try.func22, Try.ntmps22
    go_wp2_with fail
    ((with_reducible refine M.out.mono ?_); rintro e w1 ⟨rfl, b1⟩)
    go_wp2_with fail
    go_ret2
    exact ⟨rfl, b1⟩
theorem all9 (t : List Tk) (p : Int) : checkN (t.take 9) = checkN t ∧ sizeN (t.take 9) p = sizeN t p ∧ onN (t.take 9) p = onN t p ∧ downN (t.take 9) p = downN t p ∧ downB (t.take 9) p = downB t p ∧ upN (t.take 9) p = upN t p ∧ upB (t.take 9) p = upB t p := by
  rcases take9 t with h | ⟨h1, h2⟩
  · rw [h]; exact ⟨rfl, rfl, rfl, rfl, rfl, rfl, rfl⟩
  · have m1 : ¬ May t p := fun h => h1 h.1
    have m2 : ¬ May (t.take 9) p := fun h => h2 h.1
    unfold checkN sizeN onN downN downB upN upB
    rw [if_neg h1, if_neg h2, if_neg m1, if_neg m2, if_neg m1, if_neg m2, if_neg m1, if_neg m2, if_neg m1, if_neg m2, if_neg m1, if_neg m2, if_neg m1, if_neg m2]
    exact ⟨rfl, rfl, rfl, rfl, rfl, rfl, rfl⟩
end Go.Proofs.Ytacfboopkcaobab
