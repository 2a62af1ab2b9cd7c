/- own: Reach; the reference's. (By mkowe.py.) -/
import Derived.Test.YtjfpbphdhgkccaaOwD
namespace Go.Proofs.Ytjfpbphdhgkccaa
open Go.RowKit Go.Lib Go.Sort
set_option linter.unusedVariables false

def capN (a b : Int) : Int := if a < 0 ∨ b < 0 ∨ 4611686018427387904 < a ∨ 4611686018427387904 < b then 0 else if 4611686018427387904 < a + b then 4611686018427387904 else a + b
/-- How much of one order. -/
def partO (lot : Int) (x : Od) : Int := min (trimN lot x.qty) 4611686018427387904
theorem trim_in (lot q : Int) (hq : q ≤ 9223372036854775807) : 0 ≤ trimN lot q ∧ trimN lot q ≤ 9223372036854775807 := by
  unfold trimN
  split
  · omega
  · rename_i h
    have h1 : 1 ≤ lot := by omega
    have h2 : 1 ≤ q := by omega
    have := trim_bd (lot := lot) (qty := q) h1 h2
    unfold trimN at this
    rw [if_neg h] at this
    omega
theorem part_in {lot : Int} {x : Od} (hq : x.qty ≤ 9223372036854775807) : 0 ≤ partO lot x ∧ partO lot x ≤ 4611686018427387904 := by
  have := trim_in lot x.qty hq
  unfold partO
  omega
theorem cap_in {a b : Int} : 0 ≤ capN a b ∧ capN a b ≤ 4611686018427387904 := by unfold capN; split <;> (try split) <;> omega
theorem cap_mono {a a' b : Int} (h : a ≤ a') (h0 : 0 ≤ a) (h1 : a' ≤ 4611686018427387904) (hb : 0 ≤ b) (hb1 : b ≤ 4611686018427387904) : capN a b ≤ capN a' b := by
  have e1 : capN a b = if 4611686018427387904 < a + b then 4611686018427387904 else a + b := if_neg (by omega)
  have e2 : capN a' b = if 4611686018427387904 < a' + b then 4611686018427387904 else a' + b := if_neg (by omega)
  rw [e1, e2]
  split <;> split <;> omega
theorem cap_up {a b : Int} (h0 : 0 ≤ a) (h1 : a ≤ 4611686018427387904) (hb : 0 ≤ b) (hb1 : b ≤ 4611686018427387904) : a ≤ capN a b := by
  unfold capN
  rw [if_neg (by omega)]
  split <;> omega
/-- How much could be traded; whether it is stopped. -/
def rch (p a lot : Int) : Int → List Od → Int × Bool
  | q, [] => (q, false)
  | q, x :: l => if isOwn p a x = true then (if stN p = true then (q, true) else rch p a lot q l) else rch p a lot (capN q (partO lot x)) l
theorem rch_cons (p a lot q : Int) (x : Od) (l : List Od) : rch p a lot q (x :: l) = if isOwn p a x = true then (if stN p = true then (q, true) else rch p a lot q l) else rch p a lot (capN q (partO lot x)) l := rfl
theorem rch_allow (a lot : Int) : ∀ (l : List Od) (q : Int), (rch 1 a lot q l).2 = false
  | [], q => rfl
  | x :: l, q => by
    rw [rch_cons, if_neg (by unfold isOwn; simp)]
    exact rch_allow a lot l _
theorem rch_up (a lot : Int) : ∀ (l : List Od) (q : Int), (∀ x ∈ l, x.qty ≤ 9223372036854775807) → 0 ≤ q → q ≤ 4611686018427387904 → q ≤ (rch 1 a lot q l).1
  | [], q, _, _, _ => Int.le_refl _
  | x :: l, q, hx, h0, h1 => by
    rw [rch_cons, if_neg (by unfold isOwn; simp)]
    have hp := part_in (lot := lot) (hx x List.mem_cons_self)
    have := cap_in (a := q) (b := partO lot x)
    exact Int.le_trans (cap_up h0 h1 hp.1 hp.2) (rch_up a lot l _ (fun y hy => hx y (List.mem_cons_of_mem _ hy)) this.1 this.2)
theorem rch_le (p a lot : Int) : ∀ (l : List Od) (q q' : Int), (∀ x ∈ l, x.qty ≤ 9223372036854775807) → 0 ≤ q → q ≤ q' → q' ≤ 4611686018427387904 → (rch p a lot q l).1 ≤ (rch 1 a lot q' l).1
  | [], q, q', _, _, h, _ => h
  | x :: l, q, q', hx, h0, h, h1 => by
    have hp := part_in (lot := lot) (hx x List.mem_cons_self)
    have hl := fun y hy => hx y (List.mem_cons_of_mem x hy)
    have hc := cap_in (a := q') (b := partO lot x)
    have hcq := cap_in (a := q) (b := partO lot x)
    have hup := cap_up (a := q') (b := partO lot x) (by omega) h1 hp.1 hp.2
    have e : rch 1 a lot q' (x :: l) = rch 1 a lot (capN q' (partO lot x)) l := by
      rw [rch_cons, if_neg (by unfold isOwn; simp)]
    rw [e, rch_cons]
    split
    · split
      · exact Int.le_trans (Int.le_trans h hup) (rch_up a lot l _ hl hc.1 hc.2)
      · exact rch_le p a lot l q _ hl h0 (Int.le_trans h hup) hc.2
    · exact rch_le p a lot l _ _ hl hcq.1 (cap_mono h h0 h1 hp.1 hp.2) hc.2
def rchN (p a lot : Int) (L : List Od) : Int × Bool := if isPol p = true then rch p a lot 0 L else (0, true)
theorem drop_get {L : List Od} {k : Nat} (h : k < L.length) : L.drop k = L[k]! :: L.drop (k + 1) := by
  rw [getElem!_pos L k h, ← List.drop_eq_getElem_cons h]
theorem rch_own {p a lot q : Int} {L : List Od} {k : Nat} {x : Od} (hk : k < L.length) (hx : L[k]! = x) (h : isOwn p a x = true) (hs : stN p = false) : rch p a lot q (L.drop k) = rch p a lot q (L.drop (k + 1)) := by
  rw [drop_get hk, hx]
  rw [rch_cons, if_pos h, hs]; rfl
theorem rch_stop {p a lot q : Int} {L : List Od} {k : Nat} {x : Od} (hk : k < L.length) (hx : L[k]! = x) (h : isOwn p a x = true) (hs : stN p = true) : rch p a lot q (L.drop k) = (q, true) := by
  rw [drop_get hk, hx]
  rw [rch_cons, if_pos h, if_pos hs]
theorem rch_more {p a lot q : Int} {L : List Od} {k : Nat} {x : Od} (hk : k < L.length) (hx : L[k]! = x) (h : isOwn p a x = false) : rch p a lot q (L.drop k) = rch p a lot (capN q (partO lot x)) (L.drop (k + 1)) := by
  rw [drop_get hk, hx]
  rw [rch_cons, if_neg (by rw [h]; decide)]
theorem rch_end {p a lot q : Int} {L : List Od} {k : Nat} (hk : L.length ≤ k) : rch p a lot q (L.drop k) = (q, false) := by
  rw [List.drop_eq_nil_of_le hk]; rfl
theorem fin2 {q r : Int} {s t : Bool} {F : Int × Bool} (h : F = (q, s)) : Ending.returned (.tuple #[.int .i64 q, .bool s]) = .returned (.tuple #[.int .i64 F.1, .bool F.2]) := by rw [h]

set_option maxHeartbeats 4000000 in
set_option maxRecDepth 100000 in
theorem reach_c (p a : Int) (A : Option Addr) (n c : Nat) (L : List Od) (lot : Int) (hlot : InR lot) (w : World) (H : Ods w A n L) (hn : n ≤ 1000) :
    Calls Try.prog 15 #[.int .i64 p, .int .i64 a, .slice A n c, .int .i64 lot] w fun e w' => e = .returned (.tuple #[.int .i64 (rchN p a lot L).1, .bool (rchN p a lot L).2]) ∧ Below w.heap.size w w' := by
  obtain ⟨F, hF⟩ : ∃ F, F = rchN p a lot L := ⟨_, rfl⟩
  rw [← hF]
  unfold rchN at hF
  have HL := Lib.hid H.1
  have HH := Lib.hid H
  have HLot := Lib.hid hlot
  have HD : Hid (Calls Try.prog 17 #[.int .i64 p] w fun e w' => e = .returned (.tuple #[.agg #[.bool (drN p), .bool (stN p)], .bool (isPol p)]) ∧ Below w.heap.size w w') := Lib.hid (deeds_c p w)
  have HS : Hid (∀ w, Calls Try.prog 12 #[.int .i64 p] w fun e w' => e = .returned (.bool (stN p)) ∧ Below w.heap.size w w') := Lib.hid (stops_c p)
  clear H hlot
  cases hp : isPol p with
  | false =>
    rw [hp] at HD hF
    obtain rfl : F = (0, true) := hF
    generalize drN p = d at HD
    generalize stN p = s at HD
    clear HL HH hp HS HLot
    go_enter Try.func15, Try.ntmps15
    go_wp2_with fail
    ((with_reducible refine HD.out.mono ?_); rintro e w1 ⟨rfl, b1⟩)
    go_wp2_with fail
    go_ret2
    exact ⟨rfl, b1.alloc b1.size _⟩
  | true =>
    rw [hp] at HD hF
    rw [if_pos rfl] at hF
    have HF := Lib.hid hF
    clear hp hF
    generalize drN p = d at HD
    obtain ⟨s, hs⟩ : ∃ s, s = stN p := ⟨_, rfl⟩
    rw [← hs] at HD HS
    have Hs := Lib.hid hs
    clear hs
    go_enter Try.func15, Try.ntmps15
    go_wp2_with fail
    ((with_reducible refine HD.out.mono ?_); rintro e w1 ⟨rfl, b1⟩)
    have b1' := b1.alloc b1.size (.cells #[.bool d, .bool s] 43)
    clear HD b1
    go_wp2_with fail
    ((with_reducible refine (ownOf_c p a _).mono ?_); rintro e w2 ⟨g, rfl, h2⟩)
    have B2 := Lib.hid (b1'.trans (h2.out.2.mono b1'.size))
    have X2 := Lib.hid h2.out.1
    clear h2 b1'
    go_wp2_with fail
    go_loopg [8, 27] n (fun kx s8 s27 wr => ∃ (k : Nat) (q : Int), s27 = .int .i64 (k : Int) ∧ s8 = .int .i64 q ∧ k ≤ n ∧ n - k ≤ kx ∧ 0 ≤ q ∧ q ≤ 4611686018427387904 ∧ Hid (rch p a lot q (L.drop k) = F ∧ Below w2.heap.size w2 wr))
    case atStart => exact ⟨0, 0, rfl, rfl, by omega, by omega, by omega, by omega, Lib.hid ⟨by rw [HF.out]; rfl, Below.refl _ _⟩⟩
    case round =>
      obtain ⟨k, q, rfl, rfl, hk, hkx, q0, q1, hd⟩ := hrel
      by_cases hlt : k < n
      · have hltI : (k : Int) < (n : Int) := by omega
        have hk0 : (0 : Int) ≤ (k : Int) := by omega
        have hB := hd.out.2
        have HW2 := B2.out.trans (hB.mono B2.out.size)
        have HO2 := HH.out.below HW2
        obtain ⟨b, off, rfl, hb, hc⟩ : ∃ b off, A = some ⟨b, off, none⟩ ∧ b < wr.heap.size ∧ ∀ i, i < n → (L[i]!).at wr b (off + i * 6) := by
          rcases HO2.2.2.2 with h | h
          · omega
          · exact h
        have hx := hc k hlt
        have hmem : L[k]! ∈ L := by rw [getElem!_pos L k (by rw [HL.out]; exact hlt)]; exact List.getElem_mem _
        have hok := HO2.2.2.1 _ hmem
        obtain ⟨x, ex⟩ : ∃ x, L[k]! = x := ⟨_, rfl⟩
        rw [ex] at hx hok
        have HX := Lib.hid ex
        have hgb : g + 1 < w2.heap.size := blk_lt X2.out.2
        have hqr : InR x.qty := hok.2.2.2.2.1
        have HW := Lib.hid (own1_c g p a x (wr.alloc (.cells #[.int .u64 x.id, .int .i64 x.acc, .int .i64 x.side, .int .i64 x.price, .int .i64 x.qty, .int .u64 x.seq] 35)) (X2.out.below (hB.alloc hB.size _) hgb))
        have hBA := Lib.hid (hB.alloc hB.size (.cells #[.int .u64 x.id, .int .i64 x.acc, .int .i64 x.side, .int .i64 x.price, .int .i64 x.qty, .int .u64 x.seq] 35))
        have hQ := Lib.hid (show ((wr.alloc (.cells #[.int .u64 x.id, .int .i64 x.acc, .int .i64 x.side, .int .i64 x.price, .int .i64 x.qty, .int .u64 x.seq] 35)).cell? ⟨wr.heap.size, 4, none⟩ = some (.int .i64 x.qty)) by rw [cell_of_row _ _ _ _ _ _ (heap_alloc_new wr _)]; rfl)
        clear ex hc HO2 HW2 hB hmem hok hgb
        obtain ⟨x0, x1, x2, x3, x4, x5⟩ := hx
        have hN : isOwn p a x = false → Hid (rch p a lot (capN q (partO lot x)) (L.drop (k + 1)) = F) := fun h => Lib.hid (by rw [← rch_more (by rw [HL.out]; exact hlt) HX.out h]; exact hd.out.1)
        have hY : isOwn p a x = true → s = false → Hid (rch p a lot q (L.drop (k + 1)) = F) := fun h h2 => Lib.hid (by rw [← rch_own (by rw [HL.out]; exact hlt) HX.out h (Hs.out ▸ h2)]; exact hd.out.1)
        have hZ : isOwn p a x = true → s = true → Hid (F = (q, true)) := fun h h2 => Lib.hid (by rw [← hd.out.1]; exact rch_stop (by rw [HL.out]; exact hlt) HX.out h (Hs.out ▸ h2))
        cases hbd : isOwn p a x with
        | false =>
          rw [hbd] at HW
          have HN := hN hbd
          have hcap := cap_in (a := q) (b := partO lot x)
          have hpin := part_in (lot := lot) (x := x) hqr.2
          have htin := trim_in lot x.qty hqr.2
          have HT : Hid (∀ w, Calls Try.prog 21 #[.int .i64 lot, .int .i64 x.qty] w fun e w' => e = .returned (.int .i64 (trimN lot x.qty)) ∧ w = w') := Lib.hid (trim_c lot x.qty hqr HLot.out)
          have HC : Hid (∀ w, Calls Try.prog 20 #[.int .i64 q, .int .i64 (partO lot x)] w fun e w' => e = .returned (.int .i64 (capN q (partO lot x))) ∧ w = w') := Lib.hid (Capped_c q (partO lot x) ⟨by omega, by omega⟩ ⟨by omega, by omega⟩ _ rfl)
          have HM := Lib.hid (show (if (4611686018427387904 : Int) < trimN lot x.qty then (4611686018427387904 : Int) else trimN lot x.qty) = partO lot x by unfold partO; split <;> omega)
          generalize capN q (partO lot x) = q' at HN hcap HC
          generalize partO lot x = pt at HC hpin HM
          generalize trimN lot x.qty = t at HT HM htin
          have hmin := HM.out
          clear HM hN hY hZ hbd hd
          go_wp2_with fail
          ((with_reducible refine HW.out.mono ?_); rintro e w4 ⟨rfl, b4⟩)
          have hB4 := Lib.hid (hBA.out.trans (b4.mono hBA.out.size))
          have hq4 := (b4.cell (p := ⟨wr.heap.size, 4, none⟩) (by simp)).trans hQ.out
          clear HW b4 hBA hQ
          go_wp2_with fail
          ((with_reducible refine (HT.out _).mono ?_); rintro e w5 ⟨rfl, rfl⟩)
          go_wp2_with fail
          ((with_reducible refine (HC.out _).mono ?_); rintro e w6 ⟨rfl, rfl⟩)
          go_wp2_with fail
          go_roundg (n - (k + 1))
          case measure => omega
          case rel => exact ⟨k + 1, q', by go_num, rfl, by omega, by omega, hcap.1, hcap.2, Lib.hid ⟨HN.out, hB4.out⟩⟩
        | true =>
          rw [hbd] at HW
          cases s with
          | false =>
            have HN := hY hbd rfl
            clear hN hY hZ hbd hd hQ
            go_wp2_with fail
            ((with_reducible refine HW.out.mono ?_); rintro e w4 ⟨rfl, b4⟩)
            have hB4 := hBA.out.trans (b4.mono hBA.out.size)
            clear HW b4 hBA
            go_wp2_with fail
            ((with_reducible refine (HS.out _).mono ?_); rintro e w5 ⟨rfl, b5⟩)
            have hB5 := Lib.hid (hB4.trans (b5.mono hB4.size))
            clear hB4 b5
            go_wp2_with fail
            go_roundg (n - (k + 1))
            case measure => omega
            case rel => exact ⟨k + 1, q, by go_num, rfl, by omega, by omega, q0, q1, Lib.hid ⟨HN.out, hB5.out⟩⟩
          | true =>
            have HN := hZ hbd rfl
            clear hN hY hZ hbd hd hQ
            go_wp2_with fail
            ((with_reducible refine HW.out.mono ?_); rintro e w4 ⟨rfl, b4⟩)
            have hB4 := hBA.out.trans (b4.mono hBA.out.size)
            clear HW b4 hBA
            go_wp2_with fail
            ((with_reducible refine (HS.out _).mono ?_); rintro e w5 ⟨rfl, b5⟩)
            have hB5 := hB4.trans (b5.mono hB4.size)
            clear hB4 b5
            go_wp2_with fail
            go_ret2
            rw [HN.out]
            exact ⟨rfl, B2.out.trans (hB5.mono B2.out.size)⟩
      · have hltI : ¬ (k : Int) < (n : Int) := by omega
        have HN : Hid (F = (q, false)) := Lib.hid (by rw [← hd.out.1]; exact rch_end (by rw [HL.out]; omega))
        go_wp2_with fail
        go_ret2
        rw [HN.out]
        exact ⟨rfl, B2.out.trans (hd.out.2.mono B2.out.size)⟩

set_option maxHeartbeats 4000000 in
set_option maxRecDepth 100000 in
theorem rReach_c (p a : Int) (A : Option Addr) (n c : Nat) (L : List Od) (lot : Int) (hlot : InR lot) (w : World) (H : Ods w A n L) (hn : n ≤ 1000) :
    Calls Try.prog 16 #[.int .i64 p, .int .i64 a, .slice A n c, .int .i64 lot] w fun e w' => e = .returned (.tuple #[.int .i64 (rchN p a lot L).1, .bool (rchN p a lot L).2]) ∧ Below w.heap.size w w' := by
  obtain ⟨F, hF⟩ : ∃ F, F = rchN p a lot L := ⟨_, rfl⟩
  rw [← hF]
  unfold rchN at hF
  have HL := Lib.hid H.1
  have HH := Lib.hid H
  have HLot := Lib.hid hlot
  have HS : Hid (∀ w, Calls Try.prog 13 #[.int .i64 p] w fun e w' => e = .returned (.bool (stN p)) ∧ w = w') := Lib.hid (rstops_c p)
  clear H hlot
  by_cases l1 : p < 1
  · obtain rfl : F = (0, true) := by rw [hF, if_neg]; unfold isPol; simp; omega
    clear hF HL HH HS HLot
    have g1 : decide (p < 1) = true := decide_eq_true l1
    go_enter Try.func16, Try.ntmps16
    go_wp2_with fail
    go_ret2
    exact ⟨rfl, Below.refl _ _⟩
  by_cases l2 : 4 < p
  · obtain rfl : F = (0, true) := by rw [hF, if_neg]; unfold isPol; simp; omega
    clear hF HL HH HS HLot
    go_enter Try.func16, Try.ntmps16
    go_wp2_with fail
    go_ret2
    exact ⟨rfl, Below.refl _ _⟩
  have hpol : isPol p = true := by unfold isPol; simp; omega
  rw [if_pos hpol] at hF
  have HF := Lib.hid hF
  clear hF hpol
  obtain ⟨s, hs⟩ : ∃ s, s = stN p := ⟨_, rfl⟩
  rw [← hs] at HS
  have Hs := Lib.hid hs
  clear hs
  go_enter Try.func16, Try.ntmps16
  go_wp2_with fail
  go_loopg [10, 11] n (fun kx s10 s11 wr => ∃ (k : Nat) (q : Int), s11 = .int .i64 (k : Int) ∧ s10 = .int .i64 q ∧ k ≤ n ∧ n - k ≤ kx ∧ 0 ≤ q ∧ q ≤ 4611686018427387904 ∧ w = wr ∧ Hid (rch p a lot q (L.drop k) = F))
  case atStart => exact ⟨0, 0, rfl, rfl, by omega, by omega, by omega, by omega, rfl, Lib.hid (by rw [HF.out]; rfl)⟩
  case round =>
    obtain ⟨k, q, rfl, rfl, hk, hkx, q0, q1, rfl, hd⟩ := hrel
    by_cases hlt : k < n
    · have hltI : (k : Int) < (n : Int) := by omega
      have hk0 : (0 : Int) ≤ (k : Int) := by omega
      obtain ⟨b, off, rfl, hb, hc⟩ : ∃ b off, A = some ⟨b, off, none⟩ ∧ b < w.heap.size ∧ ∀ i, i < n → (L[i]!).at w b (off + i * 6) := by
        rcases HH.out.2.2.2 with h | h
        · omega
        · exact h
      have hx := hc k hlt
      have hmem : L[k]! ∈ L := by rw [getElem!_pos L k (by rw [HL.out]; exact hlt)]; exact List.getElem_mem _
      have hok := HH.out.2.2.1 _ hmem
      obtain ⟨x, ex⟩ : ∃ x, L[k]! = x := ⟨_, rfl⟩
      rw [ex] at hx hok
      have HX := Lib.hid ex
      have hqr : InR x.qty := hok.2.2.2.2.1
      clear ex hc hmem hok
      obtain ⟨x0, x1, x2, x3, x4, x5⟩ := hx
      clear x0 x2 x3 x5
      have hN : isOwn p a x = false → Hid (rch p a lot (capN q (partO lot x)) (L.drop (k + 1)) = F) := fun h => Lib.hid (by rw [← rch_more (by rw [HL.out]; exact hlt) HX.out h]; exact hd.out)
      have hY : isOwn p a x = true → s = false → Hid (rch p a lot q (L.drop (k + 1)) = F) := fun h h2 => Lib.hid (by rw [← rch_own (by rw [HL.out]; exact hlt) HX.out h (Hs.out ▸ h2)]; exact hd.out)
      have hZ : isOwn p a x = true → s = true → Hid (F = (q, true)) := fun h h2 => Lib.hid (by rw [← hd.out]; exact rch_stop (by rw [HL.out]; exact hlt) HX.out h (Hs.out ▸ h2))
      have hcap := cap_in (a := q) (b := partO lot x)
      have hpin := part_in (lot := lot) (x := x) hqr.2
      have htin := trim_in lot x.qty hqr.2
      have HT : Hid (∀ w, Calls Try.prog 23 #[.int .i64 lot, .int .i64 x.qty] w fun e w' => e = .returned (.int .i64 (trimN lot x.qty)) ∧ w = w') := Lib.hid (rTrim_c lot x.qty hqr HLot.out)
      have HC : Hid (∀ w, Calls Try.prog 22 #[.int .i64 q, .int .i64 (partO lot x)] w fun e w' => e = .returned (.int .i64 (capN q (partO lot x))) ∧ w = w') := Lib.hid (refCapped_c q (partO lot x) ⟨by omega, by omega⟩ ⟨by omega, by omega⟩ _ rfl)
      have HM := Lib.hid (show (if (4611686018427387904 : Int) < trimN lot x.qty then (4611686018427387904 : Int) else trimN lot x.qty) = partO lot x by unfold partO; split <;> omega)
      generalize capN q (partO lot x) = q' at hN hcap HC
      generalize partO lot x = pt at HC hpin HM
      generalize trimN lot x.qty = t at HT HM htin
      have hmin := HM.out
      clear HM hd
      unfold isOwn at hN hY hZ
      generalize x.acc = ac at x1 hN hY hZ
      by_cases p1 : p = 1
      · have e2 : (p != 1) = false := by simp [p1]
        have HN := hN (by rw [p1]; rfl)
        clear hN hY hZ p1
        go_wp2_with fail
        ((with_reducible refine (HT.out _).mono ?_); rintro e w5 ⟨rfl, rfl⟩)
        go_wp2_with fail
        ((with_reducible refine (HC.out _).mono ?_); rintro e w6 ⟨rfl, rfl⟩)
        go_wp2_with fail
        go_roundg (n - (k + 1))
        case measure => omega
        case rel => exact ⟨k + 1, q', by go_num, rfl, by omega, by omega, hcap.1, hcap.2, rfl, HN⟩
      · have e1 : (p == 1) = false := by simp [p1]
        have e2 : (p != 1) = true := by simp [p1]
        by_cases aa : ac = a
        · have e3 : (ac == a) = true := by simp [aa]
          cases s with
          | false =>
            have HN := hY (by rw [e1]; simp [aa]) rfl
            clear hN hY hZ HT HC hmin
            go_wp2_with fail
            ((with_reducible refine (HS.out _).mono ?_); rintro e w5 ⟨rfl, rfl⟩)
            go_wp2_with fail
            go_roundg (n - (k + 1))
            case measure => omega
            case rel => exact ⟨k + 1, q, by go_num, rfl, by omega, by omega, q0, q1, rfl, HN⟩
          | true =>
            have HN := hZ (by rw [e1]; simp [aa]) rfl
            clear hN hY hZ HT HC hmin
            go_wp2_with fail
            ((with_reducible refine (HS.out _).mono ?_); rintro e w5 ⟨rfl, rfl⟩)
            go_wp2_with fail
            go_ret2
            rw [HN.out]
            exact ⟨rfl, Below.refl _ _⟩
        · have e3 : (ac == a) = false := by simp [aa]
          have HN := hN (by rw [e1, e3]; rfl)
          clear hN hY hZ
          go_wp2_with fail
          ((with_reducible refine (HT.out _).mono ?_); rintro e w5 ⟨rfl, rfl⟩)
          go_wp2_with fail
          ((with_reducible refine (HC.out _).mono ?_); rintro e w6 ⟨rfl, rfl⟩)
          go_wp2_with fail
          go_roundg (n - (k + 1))
          case measure => omega
          case rel => exact ⟨k + 1, q', by go_num, rfl, by omega, by omega, hcap.1, hcap.2, rfl, HN⟩
    · have hltI : ¬ (k : Int) < (n : Int) := by omega
      have HN : Hid (F = (q, false)) := Lib.hid (by rw [← hd.out]; exact rch_end (by rw [HL.out]; omega))
      go_wp2_with fail
      go_ret2
      rw [HN.out]
      exact ⟨rfl, Below.refl _ _⟩
end Go.Proofs.Ytjfpbphdhgkccaa
