/- grid, the reference: the next price below. -/
import Derived.Test.YtacfboopkcaobabGrV
namespace Go.Proofs.Ytacfboopkcaobab
open Go.RowKit

theorem dn_div (t : List Tk) (p : Int) : dn t p = F t (ri t p) + (p - F t (ri t p)) / S t (ri t p) * S t (ri t p) := by
  unfold dn
  have := Int.mul_ediv_add_emod (p - F t (ri t p)) (S t (ri t p))
  rw [Int.mul_comm] at this
  omega
theorem dn_low {t : List Tk} {p : Int} (h : May t p) : F t (ri t p) ≤ dn t p ∧ dn t p ≤ p ∧ (dn t p < 1 → dn t p = 0 ∧ ri t p = 0) := by
  obtain ⟨b1, b2, b3, b4, b5⟩ := h.bounds
  have hb := mod_bd (a := p - F t (ri t p)) b3
  have hl := mod_le (a := p - F t (ri t p)) b3 (by omega)
  have hd : dn t p = p - (p - F t (ri t p)) % S t (ri t p) := rfl
  have hr := h.1.lo h.row.2.1
  refine ⟨by omega, by omega, fun h0 => ⟨by omega, by omega⟩⟩

set_option maxHeartbeats 8000000 in
set_option maxRecDepth 100000 in
theorem rDown_yes (p : Int) (a : Option Addr) (len cap : Nat) (t : List Tk) (w : World) (h : Tks w a len t) (hm : May t p) :
    Calls Try.prog 20 #[.slice a len cap, .int .i64 p] w (Got w (.tuple #[.int .i64 (dn t p), .bool (decide (0 < dn t p))])) := by
  have M := Lib.hid (rmay_c p a len cap t w h true (decide_eq_true hm).symm)
  have HT := Lib.hid h
  have HG := Lib.hid hm.1
  have HL := Lib.hid h.1
  have hl8 : (len : Int) ≤ 8 := by have := hm.1.2.1; have := h.1; omega
  obtain ⟨b1, b2, b3, b4, b5⟩ := hm.bounds
  obtain ⟨_, hb, _, hnx⟩ := hm.row
  have hrl : ri t p < len := by have := h.1; omega
  have HR := Lib.hid (fun (W : World) (hW : Below w.heap.size w W) => rrow_c p a len cap t W (h.below hW) hm)
  have hdd := dn_div t p
  have hlow := dn_low hm
  rw [h.1] at hnx
  obtain ⟨k, hk⟩ : ∃ k, k = ri t p := ⟨_, rfl⟩
  rw [← hk] at HR hrl b1 b2 b3 b4 hdd hlow hnx
  obtain ⟨d, hd⟩ : ∃ d, d = dn t p := ⟨_, rfl⟩
  rw [← hd] at hdd hlow ⊢
  obtain ⟨l1, l2, l3⟩ := hlow
  have hkI : (k : Int) < (len : Int) := by omega
  have hk0 : (0 : Int) ≤ (k : Int) := by omega
  have L3 := Lib.hid l3
  have HX := Lib.hid hnx
  have HD := Lib.hid hdd
  clear h hm hb hk hd l3 hnx hdd
  go_enter Try.func20, Try.ntmps20
  go_wp2_with fail
  ((with_reducible refine M.out.mono ?_); rintro e w1 ⟨rfl, c1⟩)
  have B1 := Lib.hid c1
  have N := Lib.hid (HR.out w1 c1)
  clear c1 M HR
  go_wp2_with fail
  ((with_reducible refine N.out.mono ?_); rintro e w2 ⟨rfl, rfl⟩)
  clear N
  go_wp2_with fail
  go_loopw [6] (fun u wr => ∃ i : Int, u = .int .i64 i ∧ Hid (i = (k : Int) ∨ (i = -1 ∧ d = 0)) ∧ Hid (Below w.heap.size w wr)) (fun u _ => (intOf u + 1).toNat)
  case atStart => exact ⟨_, rfl, .inl rfl, B1.out⟩
  case round =>
    clear B1
    obtain ⟨i, rfl, hi, hd⟩ := hrel
    rcases hi.out with rfl | ⟨rfl, hd0⟩
    · clear hi
      obtain ⟨b, off, rfl, _, p0, p1, _, _⟩ := (HT.out.below hd.out).row hrl
      obtain ⟨f, hf⟩ : ∃ f, f = F t k := ⟨_, rfl⟩
      obtain ⟨s, hs⟩ : ∃ s, s = S t k := ⟨_, rfl⟩
      rw [← hf] at p0 b1 b2 HD l1
      rw [← hs] at p1 b3 b4 HD
      have hnext : k + 1 = len ∨ (k + 1 < len ∧ ∃ f', wr.cell? ⟨b, off + (k + 1) * 2, none⟩ = some (.int .i64 f') ∧ p < f' ∧ f' ≤ 1099511627776) := by
        by_cases hn : k + 1 < len
        · right
          obtain ⟨b', off', ha, _, q0, _, _, _⟩ := (HT.out.below hd.out).row hn
          injection ha with ha
          injection ha with ha1 ha2
          subst ha1; subst ha2
          exact ⟨hn, F t (k + 1), q0, HX.out hn, HG.out.hi (by rw [HL.out]; exact hn)⟩
        · left; omega
      have hpf : 0 ≤ p - f := by omega
      obtain ⟨q, hq⟩ : ∃ q, q = (p - f) / s := ⟨_, rfl⟩
      rw [← hq] at HD
      obtain ⟨m, hmm⟩ : ∃ m, m = q * s := ⟨_, rfl⟩
      rw [← hmm] at HD
      have hd2 := HD.out
      have q0 : 0 ≤ q := by rw [hq]; exact Int.ediv_nonneg hpf (by omega)
      have q1 : q ≤ p - f := by rw [hq]; exact Int.ediv_le_self _ hpf
      have w1 : IntKind.i64.wrap (p - f) = p - f := by rw [IntKind.wrap_i64]; omega
      have w2 : (p - f).tdiv s = q := by rw [Int.tdiv_eq_ediv_of_nonneg hpf, hq]
      have w3 : IntKind.i64.wrap q = q := by rw [IntKind.wrap_i64]; omega
      have w4 : IntKind.i64.wrap (q * s) = m := by rw [← hmm, IntKind.wrap_i64]; omega
      have w5 : IntKind.i64.wrap (f + m) = d := by rw [IntKind.wrap_i64]; omega
      have hs0 : ¬ s = 0 := by omega
      have hz : (d < 1 ∧ d = 0 ∧ k = 0) ∨ 1 ≤ d := by
        by_cases h : d < 1
        · exact .inl ⟨h, L3.out h⟩
        · right; omega
      have HB : Hid (Below w.heap.size w wr) := hd.out
      clear hf hs hd hd2 hq hmm q1
      have hback : 0 ≤ (k : Int) - 1 + 1 := by omega
      rcases hnext with hn | ⟨hn, f', q0', hpn, hfn⟩
      · have hnI : ¬ (k : Int) < (len : Int) - 1 := by omega
        have hnd : decide ((k : Int) < (len : Int) - 1) = false := decide_eq_false hnI
        rcases hz with ⟨hz1, hz2⟩ | hz
        · have HZ := Lib.hid hz2
          clear hz2
          go_wp2_with fail
          go_quiet (fail)
          clear w1 w2 w3 w4 w5 hs0
          go_wp2_with fail
          exact ⟨⟨(k : Int) - 1, rfl, .inr ⟨by have := HZ.out.2; omega, HZ.out.1⟩, below_drewN HB.out _⟩, by simp [intOf]⟩
        · go_wp2_with fail
          go_quiet (fail)
          clear w1 w2 w3 w4 w5 hs0
          go_wp2_with fail
          go_ret2
          rw [decide_eq_true (show 0 < d by omega)]
          exact ⟨rfl, below_drewN HB.out _⟩
      · have hnI : (k : Int) < (len : Int) - 1 := by omega
        have hnI2 : (k : Int) + 1 < (len : Int) := by omega
        have hnp : ¬ f' - 1 < p := by omega
        rcases hz with ⟨hz1, hz2⟩ | hz
        · have HZ := Lib.hid hz2
          clear hz2
          go_wp2_with fail
          go_quiet (fail)
          clear w1 w2 w3 w4 w5 hs0
          go_wp2_with fail
          exact ⟨⟨(k : Int) - 1, rfl, .inr ⟨by have := HZ.out.2; omega, HZ.out.1⟩, below_drewN HB.out _⟩, by simp [intOf]⟩
        · go_wp2_with fail
          go_quiet (fail)
          clear w1 w2 w3 w4 w5 hs0
          go_wp2_with fail
          go_ret2
          rw [decide_eq_true (show 0 < d by omega)]
          exact ⟨rfl, below_drewN HB.out _⟩
    · subst hd0
      clear hi
      go_wp2_with fail
      go_ret2
      exact ⟨rfl, hd.out⟩
set_option maxHeartbeats 4000000 in
set_option maxRecDepth 100000 in
theorem rDown_c (p : Int) (a : Option Addr) (len cap : Nat) (t : List Tk) (w : World) (h : Tks w a len t) :
    Calls Try.prog 20 #[.slice a len cap, .int .i64 p] w (Got w (.tuple #[.int .i64 (downN t p), .bool (downB t p)])) := by
  by_cases hm : May t p
  · rw [show downB t p = decide (0 < dn t p) by unfold downB; rw [if_pos hm], show downN t p = dn t p by unfold downN; rw [if_pos hm]]
    exact rDown_yes p a len cap t w h hm
  · rw [show downB t p = false by unfold downB; rw [if_neg hm], show downN t p = 0 by unfold downN; rw [if_neg hm]]
    have M := Lib.hid (rmay_c p a len cap t w h false (decide_eq_false hm).symm)
    clear h hm
    go_enter Try.func20, Try.ntmps20
    go_wp2_with fail
    ((with_reducible refine M.out.mono ?_); rintro e w1 ⟨rfl, b1⟩)
    go_wp2_with fail
    go_ret2
    exact ⟨rfl, b1⟩
end Go.Proofs.Ytacfboopkcaobab
