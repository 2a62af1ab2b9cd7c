/- limits: the code's Band, Edges; the reference's. -/
import Derived.Test.YtghpafbgjbhohaaLiA
import Derived.Test.YtghpafbgjbhohaaRefO
import Derived.Test.YtghpafbgjbhohaaRefM
namespace Go.Proofs.Ytghpafbgjbhohaa
open Go.RowKit

set_option maxHeartbeats 4000000 in
set_option maxRecDepth 100000 in
theorem band_c (last price band : Int) (hl : InR last) (hb : InR band) (w : World) :
    Calls Try.prog 13 #[.int .i64 last, .int .i64 price, .int .i64 band] w (Got w (.int .i64 (bandN last price band))) := by
  have HB := Lib.hid (LB.new w last band)
  have H0 : Hid (Below w.heap.size w ((w.alloc (.cells #[.int .i64 last] 2)).alloc (.cells #[.int .i64 band] 2))) := ((Below.refl _ w).alloc (Nat.le_refl _) _).alloc (by simp) _
  obtain ⟨r, hr⟩ : ∃ r, r = bandN last price band := ⟨_, rfl⟩
  rw [← hr]
  unfold bandN at hr
  have k0 := HB.out.1.c0
  have k1 := HB.out.2.c0
  by_cases hw : WrongL last band
  · have HW := Lib.hid (lwrong_c last band true (decide_eq_true hw).symm)
    have h : Hid (r = 2) := by show r = 2; rw [hr, if_pos (.inl hw)]
    clear hr hw hl hb
    go_enter Try.func13, Try.ntmps13
    go_wp2_with fail
    ((with_reducible refine (HW.out _).mono ?_); rintro e w1 ⟨rfl, rfl⟩)
    go_wp2_with fail
    go_ret
    rw [h.out]; exact ⟨rfl, H0.out⟩
  have HW := Lib.hid (lwrong_c last band false (decide_eq_false hw).symm)
  by_cases hp1 : price < 1
  · have h : Hid (r = 2) := by show r = 2; rw [hr, if_pos (.inr (.inl hp1))]
    clear hr hw hl hb
    go_enter Try.func13, Try.ntmps13
    go_wp2_with fail
    ((with_reducible refine (HW.out _).mono ?_); rintro e w1 ⟨rfl, rfl⟩)
    go_wp2_with fail
    go_ret
    rw [h.out]; exact ⟨rfl, H0.out⟩
  by_cases hp2 : 1099511627776 < price
  · have h : Hid (r = 2) := by show r = 2; rw [hr, if_pos (.inr (.inr hp2))]
    clear hr hw hl hb
    go_enter Try.func13, Try.ntmps13
    go_wp2_with fail
    ((with_reducible refine (HW.out _).mono ?_); rintro e w1 ⟨rfl, rfl⟩)
    go_wp2_with fail
    go_ret
    rw [h.out]; exact ⟨rfl, H0.out⟩
  have g1 : 1 ≤ price := by omega
  have g2 : price ≤ 1099511627776 := by omega
  rw [if_neg (fun hx : WrongL last band ∨ price < 1 ∨ 1099511627776 < price => hx.elim hw (by omega))] at hr
  by_cases ho : last = 0 ∨ band = 0
  · have HO := Lib.hid (lopen_c last band true (decide_eq_true ho).symm)
    have h : Hid (r = 0) := by show r = 0; rw [hr, if_pos ho]
    clear hr hw hl hb ho hp1 hp2
    go_enter Try.func13, Try.ntmps13
    go_wp2_with fail
    ((with_reducible refine (HW.out _).mono ?_); rintro e w1 ⟨rfl, rfl⟩)
    go_wp2_with fail
    ((with_reducible refine (HO.out _).mono ?_); rintro e w1 ⟨rfl, rfl⟩)
    go_wp2_with fail
    go_ret
    rw [h.out]; exact ⟨rfl, H0.out⟩
  have HO := Lib.hid (lopen_c last band false (decide_eq_false ho).symm)
  rw [if_neg ho] at hr
  unfold WrongL at hw
  have l0 : 0 ≤ last := by omega
  have l1 : last ≤ 1099511627776 := by omega
  have i1 : InR (price - last) := by unfold InR; omega
  have i2 : InR (last - price) := by unfold InR; omega
  have hr2 : r = if decide (last * band < (price - last) * 1000000) then 42 else if decide (last * band < (last - price) * 1000000) then 42 else 0 := by
    rw [hr]
    by_cases c1 : last * band < (price - last) * 1000000 <;> by_cases c2 : last * band < (last - price) * 1000000 <;> simp [c1, c2]
  obtain ⟨b1, hb1⟩ : ∃ b1, b1 = decide (last * band < (price - last) * 1000000) := ⟨_, rfl⟩
  obtain ⟨b2, hb2⟩ : ∃ b2, b2 = decide (last * band < (last - price) * 1000000) := ⟨_, rfl⟩
  have C1 := Lib.hid (fun (W : World) (h : LB W w.heap.size last band) => lbeyond_c w.heap.size last band (price - last) hl hb i1 W h b1 hb1)
  have C2 := Lib.hid (fun (W : World) (h : LB W w.heap.size last band) => lbeyond_c w.heap.size last band (last - price) hl hb i2 W h b2 hb2)
  rw [← hb1, ← hb2] at hr2
  have Hr := Lib.hid hr2
  have N1 := Lib.hid (C1.out _ HB.out)
  clear hr hr2 hb1 hb2 hw hl hb ho hp1 hp2 i1 i2 C1
  go_enter Try.func13, Try.ntmps13
  go_wp2_with fail
  ((with_reducible refine (HW.out _).mono ?_); rintro e w1 ⟨rfl, rfl⟩)
  go_wp2_with fail
  ((with_reducible refine (HO.out _).mono ?_); rintro e w1 ⟨rfl, rfl⟩)
  go_wp2_with fail
  ((with_reducible refine N1.out.mono ?_); rintro e w1 ⟨rfl, d1⟩)
  have B1 : Hid (Below w.heap.size w w1) := H0.out.trans (d1.mono H0.out.size)
  have HB1 : Hid (LB w1 w.heap.size last band) := HB.out.below d1
  have N2 := Lib.hid (C2.out _ HB1.out)
  clear k0 k1 N1 d1 HB H0 C2
  cases b1
  · have k0 := HB1.out.1.c0
    have k1 := HB1.out.2.c0
    go_wp2_with fail
    ((with_reducible refine N2.out.mono ?_); rintro e w2 ⟨rfl, d2⟩)
    have B2 : Hid (Below w.heap.size w w2) := B1.out.trans (d2.mono B1.out.size)
    clear k0 k1 N2 d2 B1 HB1
    cases b2
    · have h : Hid (r = 0) := by show r = 0; rw [Hr.out]; rfl
      clear Hr
      go_wp2_with fail
      go_ret
      rw [h.out]; exact ⟨rfl, B2.out⟩
    · have h : Hid (r = 42) := by show r = 42; rw [Hr.out]; rfl
      clear Hr
      go_wp2_with fail
      go_ret
      rw [h.out]; exact ⟨rfl, B2.out⟩
  · have h : Hid (r = 42) := by show r = 42; rw [Hr.out]; rfl
    clear Hr N2
    go_wp2_with fail
    go_ret
    rw [h.out]; exact ⟨rfl, B1.out⟩

set_option maxHeartbeats 4000000 in
set_option maxRecDepth 100000 in
theorem edges_c (last band : Int) (hl : InR last) (hb : InR band) (w : World) :
    Calls Try.prog 16 #[.int .i64 last, .int .i64 band] w (Got w (.tuple #[.int .i64 (lowN last band), .int .i64 (highN last band)])) := by
  obtain ⟨r, hr⟩ : ∃ r, r = lowN last band := ⟨_, rfl⟩
  obtain ⟨s, hs⟩ : ∃ s, s = highN last band := ⟨_, rfl⟩
  rw [← hr, ← hs]
  unfold lowN at hr
  unfold highN at hs
  by_cases hw : WrongL last band
  · have HW := Lib.hid (lwrong_c last band true (decide_eq_true hw).symm)
    rw [if_pos hw] at hr hs
    subst hr; subst hs
    clear hw hl hb
    go_enter Try.func16, Try.ntmps16
    go_wp2_with fail
    ((with_reducible refine (HW.out _).mono ?_); rintro e w1 ⟨rfl, rfl⟩)
    go_wp2_with fail
    go_ret2
    exact ⟨rfl, Below.refl _ _⟩
  have HW := Lib.hid (lwrong_c last band false (decide_eq_false hw).symm)
  rw [if_neg hw] at hr hs
  by_cases ho : last = 0 ∨ band = 0
  · have HO := Lib.hid (lopen_c last band true (decide_eq_true ho).symm)
    rw [if_pos ho] at hr hs
    subst hr; subst hs
    clear hw hl hb ho
    go_enter Try.func16, Try.ntmps16
    go_wp2_with fail
    ((with_reducible refine (HW.out _).mono ?_); rintro e w1 ⟨rfl, rfl⟩)
    go_wp2_with fail
    ((with_reducible refine (HO.out _).mono ?_); rintro e w1 ⟨rfl, rfl⟩)
    go_wp2_with fail
    go_ret2
    exact ⟨rfl, Below.refl _ _⟩
  have HO := Lib.hid (lopen_c last band false (decide_eq_false ho).symm)
  rw [if_neg ho] at hr hs
  have hd := way_bd hw
  have hdv := Div_any last band 1000000 1 hl hb (by unfold InR; omega)
  rw [dv_down hd.2.2.1 (by omega)] at hdv
  obtain ⟨x, hx⟩ : ∃ x, x = wayN last band := ⟨_, rfl⟩
  obtain ⟨y, hy⟩ : ∃ y, y = de last band 1000000 1 := ⟨_, rfl⟩
  rw [show last * band / 1000000 = x from hx.symm, ← hy] at hdv
  rw [← hx] at hd hr hs
  have HD := Lib.hid hdv
  obtain ⟨x0, x1, _, _⟩ := hd
  unfold WrongL at hw
  have l0 : 0 ≤ last := by omega
  have l1 : last ≤ 1099511627776 := by omega
  have r1 : max (last - x) 1 = r := hr.symm
  have s1 : min (last + x) 1099511627776 = s := hs.symm
  clear hx hy hr hs hw hl hb ho hdv
  go_enter Try.func16, Try.ntmps16
  go_wp2_with fail
  ((with_reducible refine (HW.out _).mono ?_); rintro e w1 ⟨rfl, rfl⟩)
  go_wp2_with fail
  ((with_reducible refine (HO.out _).mono ?_); rintro e w1 ⟨rfl, rfl⟩)
  go_wp2_with fail
  ((with_reducible refine (HD.out _).mono ?_); rintro e w1 ⟨rfl, d1⟩)
  go_wp2_with fail
  go_ret2
  exact ⟨rfl, d1⟩

set_option maxHeartbeats 4000000 in
set_option maxRecDepth 100000 in
theorem rLot_c (lot qty : Int) (w : World) :
    Calls Try.prog 10 #[.int .i64 lot, .int .i64 qty] w fun e w' => e = .returned (.int .i64 (lotN lot qty)) ∧ w = w' := by
  obtain ⟨r, hr⟩ : ∃ r, r = lotN lot qty := ⟨_, rfl⟩
  rw [← hr]
  unfold lotN at hr
  by_cases h1 : lot < 1
  · have h : Hid (r = 2) := by show r = 2; rw [hr, if_pos (.inl h1)]
    clear hr
    go_enter Try.func10, Try.ntmps10
    go_wp2_with fail
    go_ret
    rw [h.out]; exact ⟨rfl, rfl⟩
  by_cases h2 : 1099511627776 < lot
  · have h : Hid (r = 2) := by show r = 2; rw [hr, if_pos (.inr h2)]
    clear hr
    go_enter Try.func10, Try.ntmps10
    go_wp2_with fail
    go_ret
    rw [h.out]; exact ⟨rfl, rfl⟩
  rw [if_neg (by omega)] at hr
  by_cases h3 : qty < 1
  · have h : Hid (r = 41) := by show r = 41; rw [hr, if_pos (.inl h3)]
    clear hr
    go_enter Try.func10, Try.ntmps10
    go_wp2_with fail
    go_ret
    rw [h.out]; exact ⟨rfl, rfl⟩
  by_cases h4 : 1099511627776 < qty
  · have h : Hid (r = 41) := by show r = 41; rw [hr, if_pos (.inr (.inl h4))]
    clear hr
    go_enter Try.func10, Try.ntmps10
    go_wp2_with fail
    go_ret
    rw [h.out]; exact ⟨rfl, rfl⟩
  have g1 : 1 ≤ lot := by omega
  have g2 : lot ≤ 1099511627776 := by omega
  have g3 : 1 ≤ qty := by omega
  have g4 : qty ≤ 1099511627776 := by omega
  have g5 : (lot == 0) = false := by simp; omega
  have g6 : 0 ≤ qty := by omega
  by_cases h5 : qty % lot = 0
  · have h : Hid (r = 0) := by show r = 0; rw [hr, if_neg (by omega)]
    have f5 : (qty % lot == 0) = true := by simp [h5]
    have f6 : (qty % lot != 0) = false := by simp [h5]
    clear hr h1 h2 h3 h4 h5
    go_enter Try.func10, Try.ntmps10
    go_wp2_with fail
    go_ret
    rw [h.out]; exact ⟨rfl, rfl⟩
  · have h : Hid (r = 41) := by show r = 41; rw [hr, if_pos (.inr (.inr h5))]
    have f5 : (qty % lot == 0) = false := by simp [h5]
    have f6 : (qty % lot != 0) = true := by simp [h5]
    clear hr h1 h2 h3 h4 h5
    go_enter Try.func10, Try.ntmps10
    go_wp2_with fail
    go_ret
    rw [h.out]; exact ⟨rfl, rfl⟩

set_option maxHeartbeats 4000000 in
set_option maxRecDepth 100000 in
theorem rTrim_c (lot qty : Int) (hq : InR qty) (hl : InR lot) (w : World) :
    Calls Try.prog 12 #[.int .i64 lot, .int .i64 qty] w fun e w' => e = .returned (.int .i64 (trimN lot qty)) ∧ w = w' := by
  by_cases h1 : lot < 1
  · have h : Hid (trimN lot qty = 0) := by show _ = _; unfold trimN; rw [if_pos (.inl h1)]
    go_enter Try.func12, Try.ntmps12
    go_wp2_with fail
    go_ret
    rw [h.out]; exact ⟨rfl, rfl⟩
  by_cases h2 : qty < 1
  · have h : Hid (trimN lot qty = 0) := by show _ = _; unfold trimN; rw [if_pos (.inr h2)]
    go_enter Try.func12, Try.ntmps12
    go_wp2_with fail
    go_ret
    rw [h.out]; exact ⟨rfl, rfl⟩
  have ht := trim_bd (lot := lot) (qty := qty) (by omega) (by omega)
  obtain ⟨t, htt⟩ : ∃ t, t = trimN lot qty := ⟨_, rfl⟩
  rw [← htt] at ht ⊢
  obtain ⟨t0, t1, _, _, t4⟩ := ht
  have H5 : Hid (qty - qty % lot = t) := t4.symm
  have hq2 : qty / lot ≤ qty := Int.ediv_le_self _ (by omega)
  have hq3 : 0 ≤ qty / lot := Int.ediv_nonneg (by omega) (by omega)
  have g1 : 1 ≤ lot := by omega
  have g3 : 1 ≤ qty := by omega
  have g5 : (lot == 0) = false := by simp; omega
  have g6 : 0 ≤ qty := by omega
  have g7 : qty ≤ 9223372036854775807 := hq.2
  have g8 : lot ≤ 9223372036854775807 := hl.2
  have e1 : IntKind.i64.wrap (qty / lot * lot) = qty - qty % lot := by
    have hm := Int.mul_ediv_add_emod qty lot
    rw [Int.mul_comm] at hm
    have h0 := H5.out
    generalize qty / lot * lot = y at *
    generalize qty % lot = z at *
    rw [IntKind.wrap_i64]; omega
  clear h1 h2 hq hl htt t4
  go_enter Try.func12, Try.ntmps12
  go_wp2_with fail
  go_ret
  refine ⟨?_, rfl⟩
  show Ending.returned (Value.int IntKind.i64 (qty - qty % lot)) = _
  rw [H5.out]

set_option maxHeartbeats 4000000 in
set_option maxRecDepth 100000 in
theorem rlwrong_c (last band : Int) (r : Bool) (hr : r = decide (WrongL last band)) (w : World) :
    Calls Try.prog 34 #[.int .i64 last, .int .i64 band] w fun e w' => e = .returned (.bool r) ∧ w = w' := by
  unfold WrongL at hr
  by_cases h1 : last < 0
  · have h : r = true := by rw [hr]; exact decide_eq_true (.inl h1)
    subst h; clear hr
    go_enter Try.func34, Try.ntmps34
    go_wp2_with fail
    go_ret
    exact ⟨rfl, rfl⟩
  by_cases h3 : band < 0
  · have h : r = true := by rw [hr]; exact decide_eq_true (.inr (.inr (.inl h3)))
    subst h; clear hr
    go_enter Try.func34, Try.ntmps34
    go_wp2_with fail
    go_ret
    exact ⟨rfl, rfl⟩
  by_cases h2 : 1099511627776 < last
  · have h : r = true := by rw [hr]; exact decide_eq_true (.inr (.inl h2))
    subst h; clear hr
    go_enter Try.func34, Try.ntmps34
    go_wp2_with fail
    go_ret
    exact ⟨rfl, rfl⟩
  by_cases h4 : 1000000 < band
  · have h : r = true := by rw [hr]; exact decide_eq_true (.inr (.inr (.inr h4)))
    subst h; clear hr
    go_enter Try.func34, Try.ntmps34
    go_wp2_with fail
    go_ret
    exact ⟨rfl, rfl⟩
  · have h : r = false := by rw [hr]; exact decide_eq_false (by omega)
    subst h; clear hr
    have d1 : decide (1000000 < band) = false := decide_eq_false (by omega)
    have d2 : decide (band < 0) = false := decide_eq_false (by omega)
    have d3 : decide (1099511627776 < last) = false := decide_eq_false (by omega)
    have d4 : decide (last < 0) = false := decide_eq_false (by omega)
    go_enter Try.func34, Try.ntmps34
    go_wp2_with fail
    go_ret
    exact ⟨rfl, rfl⟩

set_option maxHeartbeats 4000000 in
set_option maxRecDepth 100000 in
theorem rBand_c (last price band : Int) (hl : InR last) (hb : InR band) (w : World) :
    Calls Try.prog 14 #[.int .i64 last, .int .i64 price, .int .i64 band] w (Got w (.int .i64 (bandN last price band))) := by
  obtain ⟨r, hr⟩ : ∃ r, r = bandN last price band := ⟨_, rfl⟩
  rw [← hr]
  unfold bandN at hr
  by_cases hw : WrongL last band
  · have HW := Lib.hid (rlwrong_c last band true (decide_eq_true hw).symm)
    have h : Hid (r = 2) := by show r = 2; rw [hr, if_pos (.inl hw)]
    clear hr hw hl hb
    go_enter Try.func14, Try.ntmps14
    go_wp2_with fail
    ((with_reducible refine (HW.out _).mono ?_); rintro e w1 ⟨rfl, rfl⟩)
    go_wp2_with fail
    go_ret
    rw [h.out]; exact ⟨rfl, Below.refl _ _⟩
  have HW := Lib.hid (rlwrong_c last band false (decide_eq_false hw).symm)
  by_cases hp1 : price < 1
  · have h : Hid (r = 2) := by show r = 2; rw [hr, if_pos (.inr (.inl hp1))]
    clear hr hw hl hb
    go_enter Try.func14, Try.ntmps14
    go_wp2_with fail
    ((with_reducible refine (HW.out _).mono ?_); rintro e w1 ⟨rfl, rfl⟩)
    go_wp2_with fail
    go_ret
    rw [h.out]; exact ⟨rfl, Below.refl _ _⟩
  by_cases hp2 : 1099511627776 < price
  · have h : Hid (r = 2) := by show r = 2; rw [hr, if_pos (.inr (.inr hp2))]
    clear hr hw hl hb
    go_enter Try.func14, Try.ntmps14
    go_wp2_with fail
    ((with_reducible refine (HW.out _).mono ?_); rintro e w1 ⟨rfl, rfl⟩)
    go_wp2_with fail
    go_ret
    rw [h.out]; exact ⟨rfl, Below.refl _ _⟩
  have g1 : 1 ≤ price := by omega
  have g2 : price ≤ 1099511627776 := by omega
  rw [if_neg (fun hx : WrongL last band ∨ price < 1 ∨ 1099511627776 < price => hx.elim hw (by omega))] at hr
  by_cases h1 : last = 0
  · have h : Hid (r = 0) := by show r = 0; rw [hr, if_pos (.inl h1)]
    subst h1
    clear hr hw hl hb hp1 hp2
    go_enter Try.func14, Try.ntmps14
    go_wp2_with fail
    ((with_reducible refine (HW.out _).mono ?_); rintro e w1 ⟨rfl, rfl⟩)
    go_wp2_with fail
    go_ret
    rw [h.out]; exact ⟨rfl, Below.refl _ _⟩
  have e1 : (last == 0) = false := by simp [h1]
  by_cases h2 : band = 0
  · have h : Hid (r = 0) := by show r = 0; rw [hr, if_pos (.inr h2)]
    subst h2
    clear hr hw hl hb hp1 hp2 h1
    go_enter Try.func14, Try.ntmps14
    go_wp2_with fail
    ((with_reducible refine (HW.out _).mono ?_); rintro e w1 ⟨rfl, rfl⟩)
    go_wp2_with fail
    go_ret
    rw [h.out]; exact ⟨rfl, Below.refl _ _⟩
  have e2 : (band == 0) = false := by simp [h2]
  rw [if_neg (by omega)] at hr
  have hq := way_bd hw
  unfold WrongL at hw
  have l0 : 0 ≤ last := by omega
  have l1 : last ≤ 1099511627776 := by omega
  obtain ⟨d, hd⟩ : ∃ d, d = if price - last < 0 then -(price - last) else price - last := ⟨_, rfl⟩
  have id : InR d := by unfold InR; rw [hd]; split <;> omega
  have hr2 : r = if decide (last * band < d * 1000000) then 42 else 0 := by
    rw [hr, hd]
    have hp := hq.2.2.1
    generalize last * band = P at *
    by_cases c : price - last < 0
    · rw [if_pos c]
      by_cases c2 : P < -(price - last) * 1000000
      · rw [if_pos (by omega), decide_eq_true c2]; rfl
      · rw [if_neg (by omega), decide_eq_false c2]; rfl
    · rw [if_neg c]
      by_cases c2 : P < (price - last) * 1000000
      · rw [if_pos (by omega), decide_eq_true c2]; rfl
      · rw [if_neg (by omega), decide_eq_false c2]; rfl
  obtain ⟨b1, hb1⟩ : ∃ b1, b1 = decide (last * band < d * 1000000) := ⟨_, rfl⟩
  have HL : Hid (∀ w, Calls Try.prog 35 #[.int .i64 last, .int .i64 band, .int .i64 d, .int .i64 1000000] w fun e w' => e = .returned (.bool b1) ∧ Below w.heap.size w w') := by
    intro w
    rw [hb1]
    exact refLess_c last band d 1000000 hl hb id (by unfold InR; omega) w
  rw [← hb1] at hr2
  have Hr := Lib.hid hr2
  clear hr hr2 hb1 hw hl hb hp1 hp2 id hq h1 h2
  by_cases c : price - last < 0
  · have cc : decide (price - last < 0) = true := decide_eq_true c
    have dd : last - price = d := by rw [hd, if_pos c]; omega
    have dd2 : -(price - last) = d := by rw [hd, if_pos c]
    have c3 : price < last := by omega
    clear hd c
    go_enter Try.func14, Try.ntmps14
    go_wp2_with fail
    ((with_reducible refine (HW.out _).mono ?_); rintro e w1 ⟨rfl, rfl⟩)
    go_wp2_with fail
    ((with_reducible refine (HL.out _).mono ?_); rintro e w1 ⟨rfl, d1⟩)
    cases b1
    · have h : Hid (r = 0) := by show r = 0; rw [Hr.out]; rfl
      clear Hr
      go_wp2_with fail
      go_ret
      rw [h.out]; exact ⟨rfl, d1⟩
    · have h : Hid (r = 42) := by show r = 42; rw [Hr.out]; rfl
      clear Hr
      go_wp2_with fail
      go_ret
      rw [h.out]; exact ⟨rfl, d1⟩
  · have cc : decide (price - last < 0) = false := decide_eq_false c
    have dd : price - last = d := by rw [hd, if_neg c]
    have c3 : last ≤ price := by omega
    clear hd c
    go_enter Try.func14, Try.ntmps14
    go_wp2_with fail
    ((with_reducible refine (HW.out _).mono ?_); rintro e w1 ⟨rfl, rfl⟩)
    go_wp2_with fail
    ((with_reducible refine (HL.out _).mono ?_); rintro e w1 ⟨rfl, d1⟩)
    cases b1
    · have h : Hid (r = 0) := by show r = 0; rw [Hr.out]; rfl
      clear Hr
      go_wp2_with fail
      go_ret
      rw [h.out]; exact ⟨rfl, d1⟩
    · have h : Hid (r = 42) := by show r = 42; rw [Hr.out]; rfl
      clear Hr
      go_wp2_with fail
      go_ret
      rw [h.out]; exact ⟨rfl, d1⟩

set_option maxHeartbeats 4000000 in
set_option maxRecDepth 100000 in
theorem rEdges_c (last band : Int) (hl : InR last) (hb : InR band) (w : World) :
    Calls Try.prog 17 #[.int .i64 last, .int .i64 band] w (Got w (.tuple #[.int .i64 (lowN last band), .int .i64 (highN last band)])) := by
  obtain ⟨r, hr⟩ : ∃ r, r = lowN last band := ⟨_, rfl⟩
  obtain ⟨s, hs⟩ : ∃ s, s = highN last band := ⟨_, rfl⟩
  rw [← hr, ← hs]
  unfold lowN at hr
  unfold highN at hs
  by_cases hw : WrongL last band
  · have HW := Lib.hid (rlwrong_c last band true (decide_eq_true hw).symm)
    rw [if_pos hw] at hr hs
    subst hr; subst hs
    clear hw hl hb
    go_enter Try.func17, Try.ntmps17
    go_wp2_with fail
    ((with_reducible refine (HW.out _).mono ?_); rintro e w1 ⟨rfl, rfl⟩)
    go_wp2_with fail
    go_ret2
    exact ⟨rfl, Below.refl _ _⟩
  have HW := Lib.hid (rlwrong_c last band false (decide_eq_false hw).symm)
  rw [if_neg hw] at hr hs
  by_cases h1 : last = 0
  · rw [if_pos (.inl h1)] at hr hs
    subst hr; subst hs; subst h1
    clear hw hl hb
    go_enter Try.func17, Try.ntmps17
    go_wp2_with fail
    ((with_reducible refine (HW.out _).mono ?_); rintro e w1 ⟨rfl, rfl⟩)
    go_wp2_with fail
    go_ret2
    exact ⟨rfl, Below.refl _ _⟩
  have e1 : (last == 0) = false := by simp [h1]
  by_cases h2 : band = 0
  · rw [if_pos (.inr h2)] at hr hs
    subst hr; subst hs; subst h2
    clear hw hl hb h1
    go_enter Try.func17, Try.ntmps17
    go_wp2_with fail
    ((with_reducible refine (HW.out _).mono ?_); rintro e w1 ⟨rfl, rfl⟩)
    go_wp2_with fail
    go_ret2
    exact ⟨rfl, Below.refl _ _⟩
  have e2 : (band == 0) = false := by simp [h2]
  rw [if_neg (by omega)] at hr hs
  have hd := way_bd hw
  have hdv := refDiv_any last band 1000000 1 hl hb (by unfold InR; omega)
  rw [dv_down hd.2.2.1 (by omega)] at hdv
  obtain ⟨x, hx⟩ : ∃ x, x = wayN last band := ⟨_, rfl⟩
  obtain ⟨y, hy⟩ : ∃ y, y = de last band 1000000 1 := ⟨_, rfl⟩
  rw [show last * band / 1000000 = x from hx.symm, ← hy] at hdv
  rw [← hx] at hd hr hs
  have HD := Lib.hid hdv
  obtain ⟨x0, x1, _, _⟩ := hd
  unfold WrongL at hw
  have l0 : 0 ≤ last := by omega
  have l1 : last ≤ 1099511627776 := by omega
  have hr2 : (last - x < 1 ∧ r = 1) ∨ (1 ≤ last - x ∧ last - x = r) := by omega
  have hs2 : (1099511627776 < last + x ∧ s = 1099511627776) ∨ (last + x ≤ 1099511627776 ∧ last + x = s) := by omega
  clear hx hy hr hs hw hl hb h1 h2 hdv
  rcases hr2 with ⟨r1, rfl⟩ | ⟨r1, r2⟩ <;> rcases hs2 with ⟨s1, rfl⟩ | ⟨s1, s2⟩
  all_goals
    go_enter Try.func17, Try.ntmps17
    go_wp2_with fail
    ((with_reducible refine (HW.out _).mono ?_); rintro e w1 ⟨rfl, rfl⟩)
    go_wp2_with fail
    ((with_reducible refine (HD.out _).mono ?_); rintro e w1 ⟨rfl, d1⟩)
    go_wp2_with fail
    go_ret2
    exact ⟨rfl, d1⟩
end Go.Proofs.Ytghpafbgjbhohaa
