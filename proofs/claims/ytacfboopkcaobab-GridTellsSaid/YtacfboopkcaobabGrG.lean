/- grid: the next price above; how many lie between. -/
import Derived.Test.YtacfboopkcaobabGrF
namespace Go.Proofs.Ytacfboopkcaobab
open Go.RowKit

set_option maxHeartbeats 4000000 in
set_option maxRecDepth 100000 in
theorem up_no (p : Int) (a : Option Addr) (len cap : Nat) (t : List Tk) (w : World) (h : Tks w a len t) (hm : ¬ May t p) :
    Calls Try.prog 21 #[.slice a len cap, .int .i64 p] w (Got w (.tuple #[.int .i64 0, .bool false])) := by
  have HR := Lib.hid (rowOf_no p a len cap t w h hm)
  clear h hm
  go_enter Try.func21, Try.ntmps21
  go_wp2_with fail
  ((with_reducible refine HR.out.mono ?_); rintro e w1 ⟨rfl, hd1⟩)
  clear HR
  have H1 := Lib.hid (TC.made hd1 hd1.size 0 0)
  obtain ⟨c0, c1⟩ := H1.out.2.2.all
  obtain ⟨c, hc⟩ : ∃ c, c = w1.heap.size := ⟨_, rfl⟩
  rw [← hc] at H1 c0 c1
  have HK := Lib.hid (fun W hW => none_k w.heap.size w W c 0 0 hW)
  go_wp2_with fail
  rw [← hc]
  clear hc hd1
  go_region_held3 (fun w' => w'.cell? ⟨c, 0, none⟩ = some (.int .i64 0) ∧ w'.cell? ⟨c, 1, none⟩ = some (.int .i64 0)) (go_keep)
    (first | ((with_reducible refine (HK.out _ H1.out).mono ?_); rintro e y1 ⟨rfl, ⟨c0, c1⟩, H2⟩; clear H1 HK) | fail)
  all_goals
    go_wp2_with fail
    go_ret2
    exact ⟨rfl, H2.out.1⟩

set_option maxHeartbeats 8000000 in
set_option maxRecDepth 100000 in
theorem up_yes (p : Int) (a : Option Addr) (len cap : Nat) (t : List Tk) (w : World) (h : Tks w a len t) (hm : May t p) :
    Calls Try.prog 21 #[.slice a len cap, .int .i64 p] w (Got w (.tuple #[.int .i64 (upN t p), .bool (upB t p)])) := by
  have HR := Lib.hid (rowOf_yes p a len cap t w h hm)
  obtain ⟨b1, b2, b3, b4, b5⟩ := hm.bounds
  obtain ⟨_, r2, _, _⟩ := hm.row
  have hl := h.1
  have hl8 := hm.1.2.1
  have hen := hm.1.row r2
  have HX := fun (W : World) (hW : Below w.heap.size w W) => index_c (ri t p) a len cap t W (h.below hW) hm.1 (by omega)
  have HE := fun (W : World) (hW : Below w.heap.size w W) => end_c (ri t p) a len cap t W (h.below hW) (by omega)
  have hup : up t p = min (if 0 < (p - F t (ri t p)) % S t (ri t p) then p + (S t (ri t p) - (p - F t (ri t p)) % S t (ri t p)) else p) (endN t (ri t p)) := rfl
  rw [show upN t p = (if up t p ≤ 1099511627776 then up t p else 0) by unfold upN; rw [if_pos hm], show upB t p = decide (up t p ≤ 1099511627776) by unfold upB; rw [if_pos hm]]
  obtain ⟨d, hd⟩ : ∃ d, d = up t p := ⟨_, rfl⟩
  rw [← hd] at hup ⊢
  obtain ⟨f, hf⟩ : ∃ f, f = F t (ri t p) := ⟨_, rfl⟩
  obtain ⟨s, hs⟩ : ∃ s, s = S t (ri t p) := ⟨_, rfl⟩
  obtain ⟨E, hE⟩ : ∃ E, E = endN t (ri t p) := ⟨_, rfl⟩
  rw [← hf, ← hs] at HR HX hup
  rw [← hf] at b1 b2 hen
  rw [← hs] at b3 b4
  rw [← hE] at HE hup hen
  have hb0 : (s == 0) = false := by simp; omega
  have hb1 : (s != 0) = true := by simp; omega
  have hpf : 0 ≤ p - f := by omega
  have hpf2 : p - f ≤ 1099511627776 := by omega
  obtain ⟨m, hmm⟩ : ∃ m, (p - f) % s = m := ⟨_, rfl⟩
  have hmb := mod_bd (a := p - f) b3
  rw [hmm] at hmb hup
  have hm0 := hmb.1
  have hm1 : m < s := hmb.2
  have hE0 : 0 ≤ E := by omega
  have hE1 : E ≤ 1099511627777 := by omega
  obtain ⟨u, hu⟩ : ∃ u, u = (if 0 < m then p + (s - m) else p) := ⟨_, rfl⟩
  rw [← hu] at hup
  have hmn : (if E < u then E else u) = d := by rw [hup]; split <;> omega
  have hu0 : 0 ≤ u := by rw [hu]; split <;> omega
  have HXa := Lib.hid HX
  have HEa := Lib.hid HE
  have hd0 : 0 ≤ d := by omega
  have hdu : d ≤ u := by omega
  have hd1 : d ≤ 1099511627777 := by omega
  obtain ⟨k, hk⟩ : ∃ k, k = ri t p := ⟨_, rfl⟩
  rw [← hk] at HXa HEa
  clear h hf hs hd hup hmb hE HX HE hen hl hl8 r2 hm hk
  have hcase : (0 < m ∧ u = p + (s - m)) ∨ (m = 0 ∧ u = p) := by
    rcases Int.lt_or_le 0 m with h | h
    · left; rw [hu, if_pos h]; exact ⟨h, rfl⟩
    · right; rw [hu, if_neg (by omega)]; exact ⟨by omega, rfl⟩
  clear hu
  rcases hcase with ⟨hc1, rfl⟩ | ⟨rfl, rfl⟩ <;> rcases Int.lt_or_le 1099511627776 d with hdd | hdd
  all_goals (try (exfalso; omega))
  all_goals
    clear hdu
    go_enter Try.func21, Try.ntmps21
    go_wp2_with fail
    ((with_reducible refine HR.out.mono ?_); rintro e w1 ⟨rfl, hd1⟩)
    clear HR
    have H1 := Lib.hid (TC.made hd1 hd1.size f s)
    obtain ⟨c0, c1⟩ := H1.out.2.2.all
    obtain ⟨c, hc⟩ : ∃ c, c = w1.heap.size := ⟨_, rfl⟩
    rw [← hc] at H1 c0 c1
    have HK := Lib.hid (fun W hW => none_k w.heap.size w W c f s hW)
    go_wp2_with fail
    rw [← hc]
    clear hc hd1
    go_region_held3 (fun w' => w'.cell? ⟨c, 0, none⟩ = some (.int .i64 f) ∧ w'.cell? ⟨c, 1, none⟩ = some (.int .i64 s)) (go_keep)
      (first | ((with_reducible refine (HK.out _ H1.out).mono ?_); rintro e y1 ⟨rfl, ⟨c0, c1⟩, H2⟩; clear H1 HK) | fail)
  all_goals
    have HXb := Lib.hid (HXa.out y1 H2.out.1)
    go_wp2_with fail
    ((with_reducible refine HXb.out.mono ?_); rintro e y2 ⟨rfl, hd2⟩)
    have HB2 : Hid (Below w.heap.size w y2) := H2.out.1.trans (hd2.mono H2.out.2.1)
    have HEb := Lib.hid (HEa.out y2 HB2.out)
    clear HXb HXa HEa hd2
    go_wp2_with fail
    ((with_reducible refine HEb.out.mono ?_); rintro e y3 ⟨rfl, rfl⟩)
    clear HEb
    go_wp2_with fail
    go_ret2
    exact ⟨rfl, HB2.out⟩

theorem up_c (p : Int) (a : Option Addr) (len cap : Nat) (t : List Tk) (w : World) (h : Tks w a len t) :
    Calls Try.prog 21 #[.slice a len cap, .int .i64 p] w (Got w (.tuple #[.int .i64 (upN t p), .bool (upB t p)])) := by
  by_cases hm : May t p
  · exact up_yes p a len cap t w h hm
  · rw [show upB t p = false by unfold upB; rw [if_neg hm], show upN t p = 0 by unfold upN; rw [if_neg hm]]
    exact up_no p a len cap t w h hm

theorem Got.after {w w1 w' : World} {v : Value} {e : Ending} (h : Got w1 v e w') (hb : Below w.heap.size w w1) : Got w v e w' := ⟨h.1, hb.trans (h.2.mono hb.size)⟩

set_option maxHeartbeats 8000000 in
set_option maxRecDepth 100000 in
theorem count_no1 (low high : Int) (a : Option Addr) (len cap : Nat) (t : List Tk) (w : World) (h : Tks w a len t) (hm : ¬ May t low) :
    Calls Try.prog 30 #[.slice a len cap, .int .i64 low, .int .i64 high] w (Got w (.int .i64 0)) := by
  have HR := Lib.hid (rowOf_no low a len cap t w h hm)
  clear h hm
  go_enter Try.func30, Try.ntmps30
  go_wp2_with fail
  ((with_reducible refine HR.out.mono ?_); rintro e w1 ⟨rfl, hd1⟩)
  clear HR
  go_wp2_with fail
  ((with_reducible refine (none_c _).mono ?_); rintro e w2 ⟨rfl, hd2⟩)
  have HB : Hid (Below w.heap.size w w2) := hd1.trans (hd2.mono hd1.size)
  clear hd1 hd2
  go_wp2_with fail
  go_ret
  exact ⟨rfl, HB.out⟩

set_option maxHeartbeats 8000000 in
set_option maxRecDepth 100000 in
theorem count_no2 (low high : Int) (a : Option Addr) (len cap : Nat) (t : List Tk) (w : World) (h : Tks w a len t) (hl : May t low) (hm : ¬ May t high) :
    Calls Try.prog 30 #[.slice a len cap, .int .i64 low, .int .i64 high] w (Got w (.int .i64 0)) := by
  have HR := Lib.hid (rowOf_yes low a len cap t w h hl)
  have HQ := Lib.hid (fun (W : World) (hW : Below w.heap.size w W) => rowOf_no high a len cap t W (h.below hW) hm)
  obtain ⟨_, _, b3, b4, _⟩ := hl.bounds
  obtain ⟨f, hf⟩ : ∃ f, f = F t (ri t low) := ⟨_, rfl⟩
  obtain ⟨s, hs⟩ : ∃ s, s = S t (ri t low) := ⟨_, rfl⟩
  rw [← hf, ← hs] at HR
  rw [← hs] at b3 b4
  have hb0 : (s == 0) = false := by simp; omega
  clear h hm hl hf hs
  go_enter Try.func30, Try.ntmps30
  go_wp2_with fail
  ((with_reducible refine HR.out.mono ?_); rintro e w1 ⟨rfl, hd1⟩)
  clear HR
  go_wp2_with fail
  ((with_reducible refine (none_c _).mono ?_); rintro e w2 ⟨rfl, hd2⟩)
  have HB2 : Hid (Below w.heap.size w w2) := hd1.trans (hd2.mono hd1.size)
  have HQ2 := Lib.hid (HQ.out w2 HB2.out)
  clear hd1 hd2 HQ
  go_wp2_with fail
  ((with_reducible refine HQ2.out.mono ?_); rintro e w3 ⟨rfl, hd3⟩)
  have HB3 : Hid (Below w.heap.size w w3) := HB2.out.trans (hd3.mono HB2.out.size)
  clear hd3 HQ2 HB2
  go_wp2_with fail
  ((with_reducible refine (none_c _).mono ?_); rintro e w4 ⟨rfl, hd4⟩)
  have HB4 : Hid (Below w.heap.size w w4) := HB3.out.trans (hd4.mono HB3.out.size)
  clear hd4 HB3
  go_wp2_with fail
  go_ret
  exact ⟨rfl, HB4.out⟩

set_option maxHeartbeats 8000000 in
set_option maxRecDepth 100000 in
theorem count_yes (low high : Int) (a : Option Addr) (len cap : Nat) (t : List Tk) (w : World) (h : Tks w a len t) (hl : May t low) (hm : May t high) :
    Calls Try.prog 30 #[.slice a len cap, .int .i64 low, .int .i64 high] w (Got w (.int .i64 (countN t low high))) := by
  have HR := Lib.hid (rowOf_yes low a len cap t w h hl)
  have HQ := Lib.hid (fun (W : World) (hW : Below w.heap.size w W) => rowOf_yes high a len cap t W (h.below hW) hm)
  obtain ⟨_, _, b3, b4, b5⟩ := hl.bounds
  obtain ⟨_, _, b6, b7, b8⟩ := hm.bounds
  have hl1 := hl.2.1
  have hm1 := hm.2.1
  have HU := Lib.hid (fun (W : World) (hW : Below w.heap.size w W) => upTo_c high a len cap t W (h.below hW) hl.1 (by omega) (by omega))
  have HV := Lib.hid (fun (W : World) (hW : Below w.heap.size w W) => upTo_c (low - 1) a len cap t W (h.below hW) hl.1 (by omega) (by omega))
  have u1 := upS_bound hl.1 high _ (Nat.le_refl _)
  have u2 := upS_bound hl.1 (low - 1) _ (Nat.le_refl _)
  have ul := hl.1.2.1
  have hcn : countN t low high = if low ≤ high then upS t high t.length - upS t (low - 1) t.length else 0 := by
    unfold countN
    by_cases h : low ≤ high
    · rw [if_pos ⟨hl, hm, h⟩, if_pos h]
    · rw [if_neg (fun x => h x.2.2), if_neg h]
  have hlen := h.1
  rw [← hlen] at HU HV
  obtain ⟨f, hf⟩ : ∃ f, f = F t (ri t low) := ⟨_, rfl⟩
  obtain ⟨s, hs⟩ : ∃ s, s = S t (ri t low) := ⟨_, rfl⟩
  obtain ⟨f', hf'⟩ : ∃ f, f = F t (ri t high) := ⟨_, rfl⟩
  obtain ⟨s', hs'⟩ : ∃ s, s = S t (ri t high) := ⟨_, rfl⟩
  obtain ⟨x, hx⟩ : ∃ x, x = upS t high t.length := ⟨_, rfl⟩
  obtain ⟨y, hy⟩ : ∃ y, y = upS t (low - 1) t.length := ⟨_, rfl⟩
  rw [← hf, ← hs] at HR
  rw [← hf', ← hs'] at HQ
  rw [← hs] at b3 b4
  rw [← hs'] at b6 b7
  rw [← hx] at HU u1 hcn
  rw [← hy] at HV u2 hcn
  rw [hcn]
  have hb0 : (s == 0) = false := by simp; omega
  have hb1 : (s' == 0) = false := by simp; omega
  have x0 : -1 ≤ x := u1.1
  have x1 : x ≤ 10000000000000 := by omega
  have y0 : -1 ≤ y := u2.1
  have y1 : y ≤ 10000000000000 := by omega
  rw [hlen] at HU HV
  clear h hm hl hf hs hf' hs' hx hy hcn u1 u2 ul hlen
  rcases Int.lt_or_le high low with hlh | hlh
  · rw [if_neg (by omega)]
    clear HU HV
    go_enter Try.func30, Try.ntmps30
    go_wp2_with fail
    ((with_reducible refine HR.out.mono ?_); rintro e w1 ⟨rfl, hd1⟩)
    clear HR
    go_wp2_with fail
    ((with_reducible refine (none_c _).mono ?_); rintro e w2 ⟨rfl, hd2⟩)
    have HB2 : Hid (Below w.heap.size w w2) := hd1.trans (hd2.mono hd1.size)
    have HQ2 := Lib.hid (HQ.out w2 HB2.out)
    clear hd1 hd2 HQ
    go_wp2_with fail
    ((with_reducible refine HQ2.out.mono ?_); rintro e w3 ⟨rfl, hd3⟩)
    have HB3 : Hid (Below w.heap.size w w3) := HB2.out.trans (hd3.mono HB2.out.size)
    clear hd3 HQ2 HB2
    go_wp2_with fail
    ((with_reducible refine (none_c _).mono ?_); rintro e w4 ⟨rfl, hd4⟩)
    have HB4 : Hid (Below w.heap.size w w4) := HB3.out.trans (hd4.mono HB3.out.size)
    clear hd4 HB3
    go_wp2_with fail
    go_ret
    exact ⟨rfl, HB4.out⟩
  · rw [if_pos hlh]
    go_enter Try.func30, Try.ntmps30
    go_wp2_with fail
    ((with_reducible refine HR.out.mono ?_); rintro e w1 ⟨rfl, hd1⟩)
    clear HR
    go_wp2_with fail
    ((with_reducible refine (none_c _).mono ?_); rintro e w2 ⟨rfl, hd2⟩)
    have HB2 : Hid (Below w.heap.size w w2) := hd1.trans (hd2.mono hd1.size)
    have HQ2 := Lib.hid (HQ.out w2 HB2.out)
    clear hd1 hd2 HQ
    go_wp2_with fail
    ((with_reducible refine HQ2.out.mono ?_); rintro e w3 ⟨rfl, hd3⟩)
    have HB3 : Hid (Below w.heap.size w w3) := HB2.out.trans (hd3.mono HB2.out.size)
    clear hd3 HQ2 HB2
    go_wp2_with fail
    ((with_reducible refine (none_c _).mono ?_); rintro e w4 ⟨rfl, hd4⟩)
    have HB4 : Hid (Below w.heap.size w w4) := HB3.out.trans (hd4.mono HB3.out.size)
    have HU2 := Lib.hid (HU.out w4 HB4.out)
    clear hd4 HB3 HU
    go_wp2_with fail
    ((with_reducible refine HU2.out.mono ?_); rintro e w5 ⟨rfl, hd5⟩)
    have HB5 : Hid (Below w.heap.size w w5) := HB4.out.trans (hd5.mono HB4.out.size)
    have HV2 := Lib.hid (HV.out w5 HB5.out)
    clear hd5 HB4 HU2 HV
    go_wp2_with fail
    ((with_reducible refine HV2.out.mono ?_); rintro e w6 ⟨rfl, hd6⟩)
    have HB6 : Hid (Below w.heap.size w w6) := HB5.out.trans (hd6.mono HB5.out.size)
    clear hd6 HB5 HV2
    go_wp2_with fail
    go_ret
    exact ⟨rfl, HB6.out⟩
theorem count_c (low high : Int) (a : Option Addr) (len cap : Nat) (t : List Tk) (w : World) (h : Tks w a len t) :
    Calls Try.prog 30 #[.slice a len cap, .int .i64 low, .int .i64 high] w (Got w (.int .i64 (countN t low high))) := by
  by_cases hl : May t low
  · by_cases hm : May t high
    · exact count_yes low high a len cap t w h hl hm
    · rw [show countN t low high = 0 by unfold countN; rw [if_neg (fun x => hm x.2.1)]]
      exact count_no2 low high a len cap t w h hl hm
  · rw [show countN t low high = 0 by unfold countN; rw [if_neg (fun x => hl x.1)]]
    exact count_no1 low high a len cap t w h hl
end Go.Proofs.Ytacfboopkcaobab
