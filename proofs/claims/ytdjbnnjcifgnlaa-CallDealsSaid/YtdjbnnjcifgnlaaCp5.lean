/- What the laws lean on, in a few texts (by shake.py): number 5 of 5. -/
import Derived.Test.YtdjbnnjcifgnlaaCp1
import Derived.Test.YtdjbnnjcifgnlaaCp2
import Derived.Test.YtdjbnnjcifgnlaaCp3
import Derived.Test.YtdjbnnjcifgnlaaCp4
import Derived.Deep.OwnRows
import Derived.Deep.DeepCutAuto
import Derived.Shelf.SlSortCmp.QuietGrown
import Derived.Maps.AppendAt
import Derived.Deep.RegionHeld3
import Derived.Deep.AppendLies

namespace Go.Proofs.Ytdjbnnjcifgnlaa
open Go.RowKit Go.Lib Go.Maps Go.Deep
set_option linter.unusedVariables false

theorem take_bang {L : List Od} {m i : Nat} (h : i < m) : (L.take m)[i]! = L[i]! := by
  rw [List.getElem!_eq_getElem?_getD, List.getElem!_eq_getElem?_getD, List.getElem?_take, if_pos h]
/-- Some of a slice of orders. -/
theorem ods_sub {w : World} {b off n i m : Nat} {L : List Od} (h : Ods w (some ⟨b, off, none⟩) n L) (hm : i + m ≤ n) : Ods w (some ⟨b, off + i * 6, none⟩) m ((L.drop i).take m) := by
  have h1 := h.1
  refine ⟨by rw [List.length_take, List.length_drop]; omega, by have := h.2.1; omega, fun x hx => h.2.2.1 x (List.mem_of_mem_drop (List.mem_of_mem_take hx)), ?_⟩
  rcases h.2.2.2 with h0 | ⟨b', off', ha, hb, hc⟩
  · exact .inl (by omega)
  · injection ha with ha; injection ha with e1 e2; subst e1; subst e2
    refine .inr ⟨b, off + i * 6, rfl, hb, fun j hj => ?_⟩
    rw [take_bang hj, drop_bang, show off + i * 6 + j * 6 = off + (i + j) * 6 by omega]
    exact hc (i + j) (by omega)
theorem ods_drop {w : World} {b off n i : Nat} {L : List Od} (h : Ods w (some ⟨b, off, none⟩) n L) (hi : i ≤ n) : Ods w (some ⟨b, off + i * 6, none⟩) (n - i) (L.drop i) := by
  have := ods_sub (i := i) (m := n - i) h (by omega)
  rw [List.take_of_length_le (by rw [List.length_drop, h.1]; exact Nat.le_refl _)] at this
  exact this
/-- What each one gets, in a row of the call's own; nothing. -/
def SidR (w : World) : Bool → Nat → (Nat → Int) → Ending → World → Prop
  | true, n, f, e, w' => ∃ b, e = .returned (.slice (some ⟨b, 0, none⟩) n n) ∧ w.heap.size ≤ b ∧ Hid (Below w.heap.size w w' ∧ w'.rowIs b 2 n (fun i => .int .i64 (f i)))
  | false, _, _, e, w' => e = .returned (.slice none 0 0) ∧ Below w.heap.size w w'
/-- What the loops keep: the row. -/
def SdIn (w wr : World) (g n : Nat) (f : Nat → Int) : Prop := (w.heap.size ≤ g ∧ g < wr.heap.size) ∧ Below w.heap.size w wr ∧ wr.rowIs g 2 n (fun i => .int .i64 (f i))
theorem SdIn.below {w wr w' : World} {g n : Nat} {f : Nat → Int} (h : SdIn w wr g n f) (hb : Below wr.heap.size wr w') : SdIn w w' g n f :=
  ⟨⟨h.1.1, Nat.lt_of_lt_of_le h.1.2 hb.size⟩, h.2.1.trans (hb.mono h.2.1.size), h.2.2.of_block (hb.block g h.1.2)⟩
theorem SdIn.set {w wr : World} {g n i j : Nat} {f h : Nat → Int} {v : Int} (H : SdIn w wr g n (ovr f i j h)) (hv : v = h j) : SdIn w (wr.setCell ⟨g, i + j, none⟩ (.int .i64 v)) g n (ovr f i (j + 1) h) := by
  refine ⟨⟨H.1.1, by simpa [World.setCell] using H.1.2⟩, H.2.1.setCell H.1.1 _, (H.2.2.set (i + j) (.int .i64 v)).congr (fun k hk => ?_)⟩
  show (if k = i + j then Value.int .i64 v else .int .i64 (ovr f i j h k)) = .int .i64 (ovr f i (j + 1) h k)
  unfold ovr
  by_cases e : k = i + j
  · rw [if_pos e, if_pos (by omega), hv, e, show i + j - i = j by omega]
  · rw [if_neg e]
    by_cases e2 : i ≤ k ∧ k < i + j
    · rw [if_pos e2, if_pos (by omega)]
    · rw [if_neg e2, if_neg (by omega)]
/-- A run's shares turn the state. -/
theorem stp_end {L : List Od} {s p mode lot : Int} {i m : Nat} {S : Sta} (hi : i < L.length) (hst : stO L s p i = true) (h : (m = 0 ∧ NoSh mode (Qat L i) S.2 lot) ∨ (m = rlA L i ∧ (mode = 1 ∨ mode = 2) ∧ ShOk (Qat L i) S.2 lot)) :
    stp L s p mode lot i S = (ovr S.1 i m (gtN mode lot S.2 (Qat L i)), S.2 - gtS mode lot S.2 (Qat L i) m) := by
  rcases h with ⟨rfl, hno⟩ | ⟨rfl, hmd, hok⟩
  · rw [stp_none hno, ovr_zero]
    show S = (S.1, S.2 - 0)
    rw [Int.sub_zero]
  · have hno : ¬ NoSh mode (Qat L i) S.2 lot := by
      rintro (a | a | a | a)
      · exact a hmd
      · have := hok.t; have := hok.t1; omega
      · have := hok.y1; omega
      · have := hok.y2; omega
    have := gtS_all (mode := mode) hok
    rw [Qat_len hi] at this
    rw [stp_yes hst hno, this]
/-- What a share tells: a row of its own, or nothing. -/
def ShNew (w : World) (mode : Int) (n : Nat) (Q : List Int) (qty lot : Int) (e : Ending) (w' : World) : Prop :=
  ∃ A m c, e = .returned (.slice A m c) ∧ m ≤ n ∧ Hid (Below w.heap.size w w' ∧ (m = 0 ∨ ∃ b, A = some ⟨b, 0, none⟩ ∧ w.heap.size ≤ b ∧ w'.rowIs b 2 m (fun i => .int .i64 (gtN mode lot qty Q i))) ∧ ((m = 0 ∧ NoSh mode Q qty lot) ∨ (m = n ∧ (mode = 1 ∨ mode = 2) ∧ ShOk Q qty lot)))
theorem share_new (mode : Int) (A : Option Addr) (n c : Nat) (L : List Od) (qty lot : Int) (hlot : InR lot) (w : World) (HO : Ods w A n L) (hn : n ≤ 1000) :
    Calls Try.prog 27 #[.int .i64 mode, .slice A n c, .int .i64 qty, .int .i64 lot] w (ShNew w mode n (qs L) qty lot) := by
  by_cases h : NoSh mode (qs L) qty lot
  · exact (share_no mode A n c L qty lot hlot w HO hn h).mono fun e w' hh => ⟨none, 0, 0, hh.1, by omega, Lib.hid ⟨hh.2, .inl rfl, .inl ⟨rfl, h⟩⟩⟩
  · obtain ⟨hm, hok⟩ := shOk h
    rcases hm with rfl | rfl
    · exact (share_1 A n c L qty lot hlot w HO hn hok).mono fun e w' ⟨b, h1, h2, h3, h4⟩ => ⟨_, n, n, h1, Nat.le_refl _, Lib.hid ⟨h3, .inr ⟨b, rfl, h2, h4⟩, .inr ⟨rfl, .inl rfl, hok⟩⟩⟩
    · exact (share_2 A n c L qty lot hlot w HO hn hok).mono fun e w' ⟨b, h1, h2, h3, h4⟩ => ⟨_, n, n, h1, Nat.le_refl _, Lib.hid ⟨h3, .inr ⟨b, rfl, h2, h4⟩, .inr ⟨rfl, .inr rfl, hok⟩⟩⟩
theorem rShare_new (mode : Int) (A : Option Addr) (n c : Nat) (L : List Od) (qty lot : Int) (hlot : InR lot) (w : World) (HO : Ods w A n L) (hn : n ≤ 1000) :
    Calls Try.prog 29 #[.int .i64 mode, .slice A n c, .int .i64 qty, .int .i64 lot] w (ShNew w mode n (qs L) qty lot) := by
  by_cases h : NoSh mode (qs L) qty lot
  · exact (rShare_no mode A n c L qty lot hlot w HO hn h).mono fun e w' hh => ⟨none, 0, 0, hh.1, by omega, Lib.hid ⟨hh.2, .inl rfl, .inl ⟨rfl, h⟩⟩⟩
  · obtain ⟨hm, hok⟩ := shOk h
    rcases hm with rfl | rfl
    · exact (rShare_1 A n c L qty lot hlot w HO hn hok).mono fun e w' ⟨b, h1, h2, h3, h4⟩ => ⟨_, n, n, h1, Nat.le_refl _, Lib.hid ⟨h3, .inr ⟨b, rfl, h2, h4⟩, .inr ⟨rfl, .inl rfl, hok⟩⟩⟩
    · exact (rShare_2 A n c L qty lot hlot w HO hn hok).mono fun e w' ⟨b, h1, h2, h3, h4⟩ => ⟨_, n, n, h1, Nat.le_refl _, Lib.hid ⟨h3, .inr ⟨b, rfl, h2, h4⟩, .inr ⟨rfl, .inr rfl, hok⟩⟩⟩
/-- The parts' row, as long as the loop goes over it. -/
def PtIn (wr : World) (A : Option Addr) (m g : Nat) (h : Nat → Int) : Prop := m = 0 ∨ ∃ b, A = some ⟨b, 0, none⟩ ∧ b ≠ g ∧ wr.rowIs b 2 m (fun i => .int .i64 (h i))
theorem PtIn.set {wr : World} {A : Option Addr} {m g k : Nat} {h : Nat → Int} {v : Value} (H : PtIn wr A m g h) : PtIn (wr.setCell ⟨g, k, none⟩ v) A m g h := by
  rcases H with H | ⟨b, e, hb, hr⟩
  · exact .inl H
  · exact .inr ⟨b, e, hb, hr.setOther hb v⟩
theorem part_rng {mode lot v : Int} {Q : List Int} {m n : Nat} (hn : n = Q.length) (h : (m = 0 ∧ NoSh mode Q v lot) ∨ (m = n ∧ (mode = 1 ∨ mode = 2) ∧ ShOk Q v lot)) {j : Nat} (hj : j < m) :
    0 ≤ gtN mode lot v Q j ∧ gtN mode lot v Q j ≤ v - gtS mode lot v Q j := by
  rcases h with ⟨rfl, _⟩ | ⟨rfl, _, hok⟩
  · omega
  · have h1 := (gt_rng (mode := mode) hok (k := j) (by omega)).1
    have h2 := (gtS_rng (mode := mode) hok (k := j + 1) (by omega)).2
    have h3 := (all_rng (mode := mode) hok).2.1
    have e : gtS mode lot v Q (j + 1) = gtS mode lot v Q j + gtN mode lot v Q j := rfl
    omega
set_option maxHeartbeats 4000000 in
set_option maxRecDepth 100000 in
theorem side_c (A : Option Addr) (n c : Nat) (L : List Od) (s p v mode lot : Int) (w : World) (HO : Ods w A n L) (hnc : n ≤ c) (hlot : InR lot) :
    Calls Try.prog 12 #[.slice A n c, .int .i64 s, .int .i64 p, .int .i64 v, .int .i64 mode, .int .i64 lot] w (SidR w (bookO L && mayS v mode lot) n (sdT L s p mode lot v n).1) := by
  have HK := Lib.hid (bookAny_c A n c L w HO)
  have HM := Lib.hid (may_c v mode lot)
  cases hbk : bookO L with
  | false =>
    rw [hbk] at HK
    rw [Bool.false_and]
    clear HO hlot hbk
    go_enter Try.func12, Try.ntmps12
    go_wp2_with fail
    ((with_reducible refine HK.out.mono ?_); rintro e w1 ⟨rfl, b1⟩)
    go_wp2_with fail
    go_ret
    exact ⟨rfl, b1⟩
  | true =>
    rw [hbk] at HK
    rw [Bool.true_and]
    cases hmy : mayS v mode lot with
    | false =>
      rw [hmy] at HM
      clear HO hlot hbk
      go_enter Try.func12, Try.ntmps12
      go_wp2_with fail
      ((with_reducible refine HK.out.mono ?_); rintro e w1 ⟨rfl, b1⟩)
      go_wp2_with ((with_reducible refine (HM.out _).mono ?_); rintro e w' ⟨rfl, rfl⟩)
      go_ret
      exact ⟨rfl, b1⟩
    | true =>
      rw [hmy] at HM
      obtain ⟨h64, hg, -, -⟩ := (book_iff L).1 hbk
      have hn : n ≤ 64 := by rw [← HO.1]; exact h64
      have hmv : 1 ≤ v ∧ v ≤ 4611686018427387904 := by
        unfold mayS at hmy; simp only [Bool.and_eq_true, decide_eq_true_eq] at hmy; exact ⟨hmy.1, hmy.2.1⟩
      have HL := Lib.hid HO.1
      have HH := Lib.hid HO
      have HG := Lib.hid hg
      have HLot := Lib.hid hlot
      have hv0 : 0 ≤ v := by omega
      have HRG := Lib.hid (fun k hk => (sdT_rng (L := L) (s := s) (p := p) (mode := mode) (lot := lot) hv0 k hk).1)
      have HV2 := Lib.hid hmv.2
      clear HO hlot hg hbk h64 hmy hmv hv0
      have hmk := run_make_row' (P := Try.prog) 31 2 (.int .i64 0) 8 Try.underlying31 info_i64 rfl .i64 .i64 n (by omega) (by omega)
      go_enter Try.func12, Try.ntmps12
      go_wp2_with fail
      ((with_reducible refine HK.out.mono ?_); rintro e w1 ⟨rfl, b1⟩)
      have HB1 := Lib.hid b1
      clear HK b1
      go_wp2_with ((with_reducible refine (HM.out _).mono ?_); rintro e w' ⟨rfl, rfl⟩)
      go_loopg [3, 14, 15] n (fun kx s3 s14 s15 wr => ∃ (i : Nat) (v' r : Int), s3 = .int .i64 v' ∧ s14 = .int .i64 (i : Int) ∧ s15 = .int .i64 r ∧ i ≤ n ∧ n - i ≤ kx ∧ 0 ≤ v' ∧ Hid (v' ≤ 4611686018427387904) ∧ Hid (v' = (sdT L s p mode lot v i).2 ∧ (i = n ∨ Bnd L i)) ∧ Hid (SdIn w1 wr w1.heap.size n (sdT L s p mode lot v i).1))
      case atStart => exact ⟨0, v, 0, rfl, rfl, rfl, by omega, by omega, by have := (HRG.out 0 (Nat.zero_le _)).1; exact this, HV2, Lib.hid ⟨rfl, .inr (.inl rfl)⟩, Lib.hid ⟨⟨Nat.le_refl _, by simp⟩, (Below.refl _ _).alloc (Nat.le_refl _) _, World.rowIs_made _ _ _ _⟩⟩
      case round =>
        obtain ⟨i, v', r, rfl, rfl, rfl, hi, hkx, v0, v1, hS, hI⟩ := hrel
        by_cases hlt : i < n
        · have hltI : (i : Int) < (n : Int) := by omega
          have hi0 : (0 : Int) ≤ (i : Int) := by omega
          have hBw := HB1.out.trans (hI.out.2.1.mono HB1.out.size)
          have hO := HH.out.below hBw
          obtain ⟨b, off, rfl, hb, hc⟩ : ∃ b off, A = some ⟨b, off, none⟩ ∧ b < wr.heap.size ∧ ∀ i, i < n → (L[i]!).at wr b (off + i * 6) := by
            rcases hO.2.2.2 with h | h
            · omega
            · exact h
          have hx := hc i hlt
          obtain ⟨x, ex⟩ : ∃ x, L[i]! = x := ⟨_, rfl⟩
          rw [ex] at hx
          have HX := Lib.hid ex
          have HIL : Hid (i < L.length) := Lib.hid (by rw [HL.out]; exact hlt)
          have HBnd : Hid (Bnd L i) := Lib.hid (by rcases hS.out.2 with h | h; omega; exact h)
          have hrl := rlA_le L HIL.out
          rw [HL.out] at hrl
          have HRun := Lib.hid (run_c _ _ (c - i) _ wr (ods_drop hO hi) (by omega) (by omega))
          have HO := Lib.hid hO
          rw [show (rlN (L.drop i)) = rlA L i from rfl] at HRun
          have HSK := Lib.hid (sdT_skip (s := s) (p := p) (mode := mode) (lot := lot) (v := v) HIL.out)
          have HNX : Hid (i + rlA L i = n ∨ Bnd L (i + rlA L i)) := Lib.hid (by
            by_cases e : i + rlA L i = n
            · exact .inl e
            · exact .inr (Bnd.next HIL.out (by rw [HL.out]; omega)))
          have HRL : Hid (rlA L i = (Qat L i).length) := Lib.hid (Qat_len HIL.out).symm
          have hcI : (i : Int) ≤ (c : Int) := by omega
          have hci : ¬ c = i := by omega
          obtain ⟨m, hm⟩ : ∃ m, m = rlA L i := ⟨_, rfl⟩
          rw [← hm] at hrl HRun HSK HNX HRL
          have HMR := Lib.hid hm
          clear ex hc hO hm
          obtain ⟨x0, x1, x2, x3, x4, x5⟩ := hx
          have HST := Lib.hid (stO_bnd (L := L) (s := s) (p := p) HBnd.out)
          rw [HX.out] at HST
          go_wp2_with fail
          ((with_reducible refine HRun.out.mono ?_); rintro e w2 ⟨rfl, k2⟩)
          have x0 := (k2.cell (p := ⟨b, off + i * 6, none⟩) hb).trans x0
          have x1 := (k2.cell (p := ⟨b, off + i * 6 + 1, none⟩) hb).trans x1
          have x2 := (k2.cell (p := ⟨b, off + i * 6 + 2, none⟩) hb).trans x2
          have x3 := (k2.cell (p := ⟨b, off + i * 6 + 3, none⟩) hb).trans x3
          have x4 := (k2.cell (p := ⟨b, off + i * 6 + 4, none⟩) hb).trans x4
          have x5 := (k2.cell (p := ⟨b, off + i * 6 + 5, none⟩) hb).trans x5
          have hI2 := Lib.hid (hI.out.below k2)
          have HO2 := Lib.hid (HO.out.below k2)
          clear HRun k2 hI HO hb
          by_cases es : x.side = s
          · have g1 : (x.side != s) = false := by simp [es]
            have e1 : (x.side == s) = true := by simp [es]
            rw [e1, Bool.true_and] at HST
            have HW := Lib.hid (wants_c x p w2)
            clear es e1
            cases hbd : wnO x p with
            | false =>
              rw [hbd] at HW HST
              clear hbd
              go_wp2_with ((with_reducible refine HW.out.mono ?_); rintro e w3 ⟨rfl, k3⟩)
              have hI3 : Hid (SdIn w1 w3 w1.heap.size n (sdT L s p mode lot v (i + m)).1) := Lib.hid (by rw [HSK.out, stp_no HST.out]; exact hI2.out.below k3.b)
              have hS3 : Hid (v' = (sdT L s p mode lot v (i + m)).2 ∧ (i + m = n ∨ Bnd L (i + m))) := Lib.hid ⟨by rw [HSK.out, stp_no HST.out]; exact hS.out.1, HNX.out⟩
              clear k3 HW
              go_roundg (n - (i + m))
              case measure => omega
              case rel => exact ⟨i + m, v', (m : Int), rfl, by simp, rfl, by omega, by omega, v0, v1, hS3, hI3⟩
            | true =>
              rw [hbd] at HW HST
              clear hbd
              go_wp2_with ((with_reducible refine HW.out.mono ?_); rintro e w3 ⟨rfl, k3⟩)
              have HSh : Hid (Calls Try.prog 27 #[.int .i64 mode, .slice (some ⟨b, off + i * 6, none⟩) m (c - i), .int .i64 v', .int .i64 lot] w3 (ShNew w3 mode m (Qat L i) v' lot)) := Lib.hid (by
                have h := share_new mode (some ⟨b, off + i * 6, none⟩) m (c - i) ((L.drop i).take m) v' lot HLot.out w3 (ods_sub (HO2.out.below k3.b) (by omega)) (by omega)
                rw [show qs ((L.drop i).take m) = Qat L i by rw [HMR.out]; rfl] at h
                exact h)
              have hI3 := Lib.hid (hI2.out.below k3.b)
              have HGS := Lib.hid (fun m1 h => stp_end (L := L) (s := s) (p := p) (mode := mode) (lot := lot) (i := i) (m := m1) (S := sdT L s p mode lot v i) HIL.out HST.out h)
              obtain ⟨f, hf⟩ : ∃ f, f = (sdT L s p mode lot v i).1 := ⟨_, rfl⟩
              rw [← hf] at hI3
              rw [← hf, ← hS.out.1, ← HSK.out, ← HMR.out] at HGS
              clear k3 HW hI2 HO2 hf
              ((with_reducible refine HSh.out.mono ?_); rintro e w4 ⟨A1, m1, c1, rfl, hm1, h4⟩)
              have HPt : Hid (PtIn w4 A1 m1 w1.heap.size (gtN mode lot v' (Qat L i))) := Lib.hid (by
                rcases h4.out.2.1 with h | ⟨b1, e1, h1, h2⟩
                · exact .inl h
                · exact .inr ⟨b1, e1, by have := hI3.out.1.2; omega, h2⟩)
              have hI4 := Lib.hid (hI3.out.below h4.out.1)
              have H4 := Lib.hid h4.out.2.2
              have HRG2 := Lib.hid (fun j (hj : j < m1) => part_rng HRL.out h4.out.2.2 (j := j) hj)
              clear HSh hI3 h4
              go_wp2_with fail
              go_loopg [3, 69] m1 (fun kx s3 s69 wr => ∃ (j : Nat) (vj : Int), s3 = .int .i64 vj ∧ s69 = .int .i64 (j : Int) ∧ j ≤ m1 ∧ m1 - j ≤ kx ∧ 0 ≤ vj ∧ Hid (vj ≤ 4611686018427387904) ∧ Hid (vj = v' - gtS mode lot v' (Qat L i) j) ∧ Hid (SdIn w1 wr w1.heap.size n (ovr f i j (gtN mode lot v' (Qat L i))) ∧ PtIn wr A1 m1 w1.heap.size (gtN mode lot v' (Qat L i))))
              case atStart => exact ⟨0, v', rfl, rfl, by omega, by omega, v0, v1, Lib.hid (by show v' = v' - 0; omega), Lib.hid ⟨by rw [ovr_zero]; exact hI4.out, HPt.out⟩⟩
              case round =>
                obtain ⟨j, vj, rfl, rfl, hj, hjx, vj0, vj1, hV, hII⟩ := hrel
                clear HPt hI4
                by_cases hjl : j < m1
                · have hjI : (j : Int) < (m1 : Int) := by omega
                  have hj0 : (0 : Int) ≤ (j : Int) := by omega
                  have hr := HRG2.out j hjl
                  rw [← hV.out] at hr
                  obtain ⟨b1, rfl, hb1, hr1⟩ : ∃ b1, A1 = some ⟨b1, 0, none⟩ ∧ b1 ≠ w1.heap.size ∧ wr.rowIs b1 2 m1 (fun i_1 => .int .i64 (gtN mode lot v' (Qat L i) i_1)) := by
                    rcases hII.out.2 with h | h
                    · omega
                    · exact h
                  have c1' := hr1.cell hjl
                  obtain ⟨z, hz⟩ : ∃ z, z = gtN mode lot v' (Qat L i) j := ⟨_, rfl⟩
                  have c1 : wr.cell? ⟨b1, j, none⟩ = some (.int .i64 z) := by rw [hz]; exact c1'
                  rw [← hz] at hr
                  have HZ := Lib.hid hz
                  have c2 : wr.cell? ⟨w1.heap.size, i + j, none⟩ = some (.int .i64 (ovr f i j (gtN mode lot v' (Qat L i)) (i + j))) := hII.out.1.2.2.cell (by omega)
                  have c3 : wr.frozen? ⟨w1.heap.size, i + j, none⟩ = false := hII.out.1.2.2.frozen (i + j)
                  have hN : Hid (SdIn w1 (wr.setCell ⟨w1.heap.size, i + j, none⟩ (.int .i64 z)) w1.heap.size n (ovr f i (j + 1) (gtN mode lot v' (Qat L i))) ∧ PtIn (wr.setCell ⟨w1.heap.size, i + j, none⟩ (.int .i64 z)) (some ⟨b1, 0, none⟩) m1 w1.heap.size (gtN mode lot v' (Qat L i))) := Lib.hid ⟨hII.out.1.set hz, hII.out.2.set⟩
                  have HV1 : Hid (vj - z = v' - gtS mode lot v' (Qat L i) (j + 1)) := Lib.hid (by
                    have e : gtS mode lot v' (Qat L i) (j + 1) = gtS mode lot v' (Qat L i) j + gtN mode lot v' (Qat L i) j := rfl
                    rw [e, hV.out, hz]; omega)
                  have HV3 : Hid (vj - z ≤ 4611686018427387904) := Lib.hid (by have := vj1.out; omega)
                  have ew : IntKind.i64.wrap (vj - z) = vj - z := by have := vj1.out; rw [IntKind.wrap_i64]; omega
                  generalize ovr f i j (gtN mode lot v' (Qat L i)) (i + j) = old at c2
                  clear hr1 c1' hz
                  go_wp2_with fail
                  go_roundg (m1 - (j + 1))
                  case measure => omega
                  case rel => exact ⟨j + 1, vj - z, rfl, by go_num, by omega, by omega, by omega, HV3, HV1, hN⟩
                · have hjI : ¬ (j : Int) < (m1 : Int) := by omega
                  obtain rfl : j = m1 := by omega
                  have HE := HGS.out j H4.out
                  have hI5 : Hid (SdIn w1 wr w1.heap.size n (sdT L s p mode lot v (i + m)).1) := Lib.hid (by rw [HE]; exact hII.out.1)
                  have hS5 : Hid (vj = (sdT L s p mode lot v (i + m)).2 ∧ (i + m = n ∨ Bnd L (i + m))) := Lib.hid ⟨by rw [HE]; exact hV.out, HNX.out⟩
                  clear HE hII hV HGS HRG2
                  go_wp2_with fail
                  go_roundg (n - (i + m))
                  case measure => omega
                  case rel => exact ⟨i + m, vj, (m : Int), rfl, by simp, rfl, by omega, by omega, vj0, vj1, hS5, hI5⟩
          · have g1 : (x.side != s) = true := by simp [es]
            have e1 : (x.side == s) = false := by simp [es]
            rw [e1, Bool.false_and] at HST
            clear es e1
            go_wp2_with fail
            have hI3 : Hid (SdIn w1 w2 w1.heap.size n (sdT L s p mode lot v (i + m)).1) := Lib.hid (by rw [HSK.out, stp_no HST.out]; exact hI2.out)
            have hS3 : Hid (v' = (sdT L s p mode lot v (i + m)).2 ∧ (i + m = n ∨ Bnd L (i + m))) := Lib.hid ⟨by rw [HSK.out, stp_no HST.out]; exact hS.out.1, HNX.out⟩
            go_roundg (n - (i + m))
            case measure => omega
            case rel => exact ⟨i + m, v', (m : Int), rfl, by simp, rfl, by omega, by omega, v0, v1, hS3, hI3⟩
        · have hltI : ¬ (i : Int) < (n : Int) := by omega
          obtain rfl : i = n := by omega
          have hB := HB1.out.trans (hI.out.2.1.mono HB1.out.size)
          go_wp2_with fail
          go_ret
          exact ⟨_, rfl, HB1.out.size, Lib.hid ⟨hB, hI.out.2.2⟩⟩
end Go.Proofs.Ytdjbnnjcifgnlaa

namespace Go.Proofs.Ytdjbnnjcifgnlaa
open Go.RowKit Go.Lib Go.Maps Go.Deep Go.Sort
set_option linter.unusedVariables false

theorem rWantsG (x : Od) (p : Int) (W : World) : Calls Try.prog 28 #[.agg (OC x), .int .i64 p] W fun e w' => e = .returned (.bool (wnO x p)) ∧ ∃ q os, w' = Go.Sort.grow (W.drewN q) os :=
  (rWants_c x p W).mono fun e w' ⟨h, g⟩ => ⟨h, g.grow⟩
theorem may_not {v mode lot : Int} (h : mode < 1 ∨ 2 < mode ∨ lot < 1 ∨ 1099511627776 < lot ∨ v < 1 ∨ 4611686018427387904 < v) : mayS v mode lot = false := by
  cases e : mayS v mode lot with
  | false => rfl
  | true => exfalso; unfold mayS at e; simp only [Bool.and_eq_true, decide_eq_true_eq] at e; omega
theorem may_yes {v mode lot : Int} (h : ¬ (mode < 1 ∨ 2 < mode ∨ lot < 1 ∨ 1099511627776 < lot ∨ v < 1 ∨ 4611686018427387904 < v)) : mayS v mode lot = true := by
  unfold mayS; simp only [Bool.and_eq_true, decide_eq_true_eq]; omega
set_option maxHeartbeats 4000000 in
set_option maxRecDepth 100000 in
theorem rSide_c19 (A : Option Addr) (n c : Nat) (L : List Od) (s p v mode lot : Int) (w : World) (HO : Ods w A n L) (hnc : n ≤ c) (hlot : InR lot) (hn1 : n ≤ 1000) :
    Calls Try.prog 13 #[.slice A n c, .int .i64 s, .int .i64 p, .int .i64 v, .int .i64 mode, .int .i64 lot] w (SidR w (bookO L && mayS v mode lot) n (sdT L s p mode lot v n).1) := by
  have mixed : Try.prog.follows .mixedOrders = true := by kernel_rfl
  have HK := Lib.hid (rBook_c A n c L w HO hn1)
  cases hbk : bookO L with
  | false =>
    rw [hbk] at HK
    rw [Bool.false_and]
    clear HO hlot hbk
    go_enter Try.func13, Try.ntmps13
    go_wp2_with fail
    ((with_reducible refine HK.out.mono ?_); rintro e w1 ⟨rfl, b1⟩)
    go_wp2_with fail
    go_ret
    exact ⟨rfl, b1⟩
  | true =>
    rw [hbk] at HK
    rw [Bool.true_and]
    by_cases h0 : mode < 1
    · rw [may_not (.inl h0)]
      have g0 : decide (mode < 1) = true := decide_eq_true h0
      clear HO hlot hbk h0
      go_enter Try.func13, Try.ntmps13
      go_wp2_with fail
      ((with_reducible refine HK.out.mono ?_); rintro e w1 ⟨rfl, b1⟩)
      go_wp2_with fail
      go_ret
      exact ⟨rfl, b1⟩
    have g0 : decide (mode < 1) = false := decide_eq_false h0
    by_cases h1 : 2 < mode
    · rw [may_not (.inr (.inl h1))]
      have g1 : decide (2 < mode) = true := decide_eq_true h1
      clear HO hlot hbk h1
      go_enter Try.func13, Try.ntmps13
      go_wp2_with fail
      ((with_reducible refine HK.out.mono ?_); rintro e w1 ⟨rfl, b1⟩)
      go_wp2_with fail
      go_ret
      exact ⟨rfl, b1⟩
    have g1 : decide (2 < mode) = false := decide_eq_false h1
    by_cases h2 : lot < 1
    · rw [may_not (.inr (.inr (.inl h2)))]
      have g2 : decide (lot < 1) = true := decide_eq_true h2
      clear HO hlot hbk h2
      go_enter Try.func13, Try.ntmps13
      go_wp2_with fail
      ((with_reducible refine HK.out.mono ?_); rintro e w1 ⟨rfl, b1⟩)
      go_wp2_with fail
      go_ret
      exact ⟨rfl, b1⟩
    have g2 : decide (lot < 1) = false := decide_eq_false h2
    by_cases h3 : 1099511627776 < lot
    · rw [may_not (.inr (.inr (.inr (.inl h3))))]
      have g3 : decide (1099511627776 < lot) = true := decide_eq_true h3
      clear HO hlot hbk h3
      go_enter Try.func13, Try.ntmps13
      go_wp2_with fail
      ((with_reducible refine HK.out.mono ?_); rintro e w1 ⟨rfl, b1⟩)
      go_wp2_with fail
      go_ret
      exact ⟨rfl, b1⟩
    have g3 : decide (1099511627776 < lot) = false := decide_eq_false h3
    by_cases h4 : v < 1
    · rw [may_not (.inr (.inr (.inr (.inr (.inl h4)))))]
      have g4 : decide (v < 1) = true := decide_eq_true h4
      clear HO hlot hbk h4
      go_enter Try.func13, Try.ntmps13
      go_wp2_with fail
      ((with_reducible refine HK.out.mono ?_); rintro e w1 ⟨rfl, b1⟩)
      go_wp2_with fail
      go_ret
      exact ⟨rfl, b1⟩
    have g4 : decide (v < 1) = false := decide_eq_false h4
    by_cases h5 : 4611686018427387904 < v
    · rw [may_not (.inr (.inr (.inr (.inr (.inr h5)))))]
      have g5 : decide (4611686018427387904 < v) = true := decide_eq_true h5
      clear HO hlot hbk h5
      go_enter Try.func13, Try.ntmps13
      go_wp2_with fail
      ((with_reducible refine HK.out.mono ?_); rintro e w1 ⟨rfl, b1⟩)
      go_wp2_with fail
      go_ret
      exact ⟨rfl, b1⟩
    have g5 : decide (4611686018427387904 < v) = false := decide_eq_false h5
    have hmy := may_yes (v := v) (mode := mode) (lot := lot) (by omega)
    rw [hmy]
    obtain ⟨h64, hg, -, -⟩ := (book_iff L).1 hbk
    have hn : n ≤ 64 := by rw [← HO.1]; exact h64
    have HL := Lib.hid HO.1
    have HH := Lib.hid HO
    have HG := Lib.hid hg
    have HLot := Lib.hid hlot
    have hv0 : 0 ≤ v := by omega
    have HRG := Lib.hid (fun k hk => (sdT_rng (L := L) (s := s) (p := p) (mode := mode) (lot := lot) hv0 k hk).1)
    have HV2 : Hid (v ≤ 4611686018427387904) := Lib.hid (by omega)
    clear HO hlot hg hbk h64 hmy h0 h1 h2 h3 h4 h5
    have hmk := run_make_row' (P := Try.prog) 31 2 (.int .i64 0) 8 Try.underlying31 info_i64 rfl .i64 .i64 n (by omega) (by omega)
    go_enter Try.func13, Try.ntmps13
    go_wp2_with fail
    ((with_reducible refine HK.out.mono ?_); rintro e w1 ⟨rfl, b1⟩)
    have HB1 := Lib.hid b1
    clear HK b1
    go_wp2_with fail
    clear g0 g1 g2 g3 g4 g5
    go_loopg [14, 15] n (fun kx s14 s15 wr => ∃ (i : Nat) (v' : Int), s14 = .int .i64 v' ∧ s15 = .int .i64 (i : Int) ∧ i ≤ n ∧ n - i ≤ kx ∧ 0 ≤ v' ∧ Hid (v' ≤ 4611686018427387904) ∧ Hid (v' = (sdT L s p mode lot v i).2) ∧ Hid (SdIn w1 wr w1.heap.size n (sdT L s p mode lot v i).1))
    case atStart => exact ⟨0, v, rfl, rfl, by omega, by omega, by have := (HRG.out 0 (Nat.zero_le _)).1; exact this, HV2, Lib.hid rfl, Lib.hid ⟨⟨Nat.le_refl _, by simp⟩, (Below.refl _ _).alloc (Nat.le_refl _) _, World.rowIs_made _ _ _ _⟩⟩
    case round =>
      obtain ⟨i, v', rfl, rfl, hi, hkx, v0, v1, hS, hI⟩ := hrel
      by_cases hlt : i < n
      · have hltI : (i : Int) < (n : Int) := by omega
        have hi0 : (0 : Int) ≤ (i : Int) := by omega
        have hBw := HB1.out.trans (hI.out.2.1.mono HB1.out.size)
        have hO := HH.out.below hBw
        obtain ⟨b, off, rfl, hb, hc⟩ : ∃ b off, A = some ⟨b, off, none⟩ ∧ b < wr.heap.size ∧ ∀ i, i < n → (L[i]!).at wr b (off + i * 6) := by
          rcases hO.2.2.2 with h | h
          · omega
          · exact h
        have hx := hc i hlt
        obtain ⟨x, ex⟩ : ∃ x, L[i]! = x := ⟨_, rfl⟩
        rw [ex] at hx
        have HX := Lib.hid ex
        have HIL : Hid (i < L.length) := Lib.hid (by rw [HL.out]; exact hlt)
        have HC := Lib.hid hc
        have HB := Lib.hid hb
        have HOr := Lib.hid hO
        have HSK : Hid (sdT L s p mode lot v (i + 1) = stp L s p mode lot i (sdT L s p mode lot v i)) := Lib.hid rfl
        clear hc ex hO hBw
        obtain ⟨x0, x1, x2, x3, x4, x5⟩ := hx
        obtain ⟨tb, htb⟩ : ∃ tb, tb = stO L s p i := ⟨_, rfl⟩
        have TB := Lib.hid htb
        clear htb
        go_upto_region 8 with fail
        go_cut [99] (fun s99 wx => s99 = .bool (!tb) ∧ Hid (Below wr.heap.size wr wx))
        case first =>
          as_aux_lemma =>
          have HT : Hid (tb = (((x.side == s) && wnO x p) && !(decide (0 < i) && (((L[i - 1]!).side == s) && ((L[i - 1]!).price == x.price))))) := Lib.hid (by rw [TB.out]; unfold stO; rw [HX.out])
          cases e1 : (x.side == s) with
          | false =>
            have g1 : (x.side != s) = true := by simp at e1; simp [e1]
            have ht : (!tb) = true := by rw [HT.out, e1]; rfl
            have HTB := Lib.hid ht
            clear e1 ht
            go_wp2_with fail
            go_quiet (fail)
            go_wp2_with fail
            go_meet
            case rel => exact ⟨by rw [HTB.out], Lib.hid (below_drewN (Below.refl _ _) _)⟩
          | true =>
            have g1 : (x.side != s) = false := by simp at e1; simp [e1]
            have hcg := fun W => rWantsG x p W
            have X0 := fun n os => cell_grown (a := ⟨b, _, none⟩) hb x0 n os
            have X1 := fun n os => cell_grown (a := ⟨b, _, none⟩) hb x1 n os
            have X2 := fun n os => cell_grown (a := ⟨b, _, none⟩) hb x2 n os
            have X3 := fun n os => cell_grown (a := ⟨b, _, none⟩) hb x3 n os
            have X4 := fun n os => cell_grown (a := ⟨b, _, none⟩) hb x4 n os
            have X5 := fun n os => cell_grown (a := ⟨b, _, none⟩) hb x5 n os
            clear x0 x1 x2 x3 x4 x5
            cases e2 : wnO x p with
            | false =>
              have ht : (!tb) = true := by rw [HT.out, e1, e2]; rfl
              have HTB := Lib.hid ht
              rw [e2] at hcg
              clear e1 e2 ht
              refine wp_region_quiet_grown (by assumption) (by kernel_rfl) ?_
              iterate 13 (quiet_step (fail))
              (quiet_step ((go_at_call 28; with_reducible refine Calls.grown_of (hcg _))))
              iterate 3 (quiet_step (fail))
              iterate 26 (go_big_quiet_skip)
              go_big_quiet_step (fail)
              refine wpQuiet_nil ?_
              intro _ hw'
              obtain ⟨⟨nq, osq⟩, hw''⟩ := hw'
              subst hw''
              go_wp2_with fail
              go_meet
              case rel => exact ⟨by rw [HTB.out], Lib.hid (gw_grow wr nq osq).b⟩
            | true =>
              rw [e2] at hcg
              by_cases hi1 : 0 < i
              · have g2 : decide (0 < i) = true := decide_eq_true hi1
                have hi1I : (0 : Int) < (i : Int) := by omega
                have hy := HC.out (i - 1) (by omega)
                obtain ⟨y, ey⟩ : ∃ y, L[i - 1]! = y := ⟨_, rfl⟩
                rw [ey] at hy
                have ei : ((i - 1 : Nat) : Int) = (i : Int) - 1 := by omega
                obtain ⟨_, _, y2, y3, _, _⟩ := hy
                have Y2 := fun n os => cell_grown (a := ⟨b, _, none⟩) hb y2 n os
                have Y3 := fun n os => cell_grown (a := ⟨b, _, none⟩) hb y3 n os
                have ht0 : tb = !((y.side == s) && (y.price == x.price)) := by rw [HT.out, e1, e2, ey, decide_eq_true hi1]; rfl
                obtain ⟨j, hj⟩ : ∃ j, j = i - 1 := ⟨_, rfl⟩
                rw [← hj] at Y2 Y3 ei
                have g5 : (i : Int) - 1 = (j : Int) := ei.symm
                have g6 : IntKind.i64.wrap ((i : Int) - 1) = (j : Int) := by rw [IntKind.wrap_i64]; omega
                have g9 : IntKind.i64.wrap (j : Int) = (j : Int) := by rw [IntKind.wrap_i64]; omega
                have g7 : (0 : Int) ≤ (j : Int) := by omega
                have g8 : (j : Int) < (n : Int) := by omega
                clear hj
                clear y2 y3 ey ei e1 e2 hi1
                cases e3 : (y.side == s) with
                | false =>
                  have ht : (!tb) = false := by rw [ht0, e3]; rfl
                  have HTB := Lib.hid ht
                  clear ht ht0
                  refine wp_region_quiet_grown (by assumption) (by kernel_rfl) ?_
                  iterate 13 (quiet_step (fail))
                  (quiet_step ((go_at_call 28; with_reducible refine Calls.grown_of (hcg _))))
                  iterate 3 (quiet_step (fail))
                  iterate 13 (quiet_step (fail))
                  iterate 12 (go_big_quiet_skip)
                  iterate 1 (quiet_step (fail))
                  go_big_quiet_step (fail)
                  refine wpQuiet_nil ?_
                  intro _ hw'
                  obtain ⟨⟨nq, osq⟩, hw''⟩ := hw'
                  subst hw''
                  go_wp2_with fail
                  go_meet
                  case rel => exact ⟨by rw [HTB.out], Lib.hid (gw_grow wr nq osq).b⟩
                | true =>
                  cases e4 : (y.price == x.price) with
                  | false =>
                    have ht : (!tb) = false := by rw [ht0, e3, e4]; rfl
                    have HTB := Lib.hid ht
                    clear ht ht0
                    refine wp_region_quiet_grown (by assumption) (by kernel_rfl) ?_
                    iterate 13 (quiet_step (fail))
                    (quiet_step ((go_at_call 28; with_reducible refine Calls.grown_of (hcg _))))
                    iterate 3 (quiet_step (fail))
                    iterate 26 (quiet_step (fail))
                    go_big_quiet_step (fail)
                    refine wpQuiet_nil ?_
                    intro _ hw'
                    obtain ⟨⟨nq, osq⟩, hw''⟩ := hw'
                    subst hw''
                    go_wp2_with fail
                    go_meet
                    case rel => exact ⟨by rw [HTB.out], Lib.hid (gw_grow wr nq osq).b⟩
                  | true =>
                    have ht : (!tb) = true := by rw [ht0, e3, e4]; rfl
                    have HTB := Lib.hid ht
                    clear ht ht0
                    refine wp_region_quiet_grown (by assumption) (by kernel_rfl) ?_
                    iterate 13 (quiet_step (fail))
                    (quiet_step ((go_at_call 28; with_reducible refine Calls.grown_of (hcg _))))
                    iterate 3 (quiet_step (fail))
                    iterate 26 (quiet_step (fail))
                    go_big_quiet_step (fail)
                    refine wpQuiet_nil ?_
                    intro _ hw'
                    obtain ⟨⟨nq, osq⟩, hw''⟩ := hw'
                    subst hw''
                    go_wp2_with fail
                    go_meet
                    case rel => exact ⟨by rw [HTB.out], Lib.hid (gw_grow wr nq osq).b⟩
              · have g2 : decide (0 < i) = false := decide_eq_false hi1
                have ht : (!tb) = false := by rw [HT.out, e1, e2, decide_eq_false hi1]; rfl
                clear hi1
                have HTB := Lib.hid ht
                clear e1 e2 ht
                refine wp_region_quiet_grown (by assumption) (by kernel_rfl) ?_
                iterate 13 (quiet_step (fail))
                (quiet_step ((go_at_call 28; with_reducible refine Calls.grown_of (hcg _))))
                iterate 3 (quiet_step (fail))
                iterate 3 (quiet_step (fail))
                iterate 8 (go_big_quiet_skip)
                iterate 2 (quiet_step (fail))
                iterate 12 (go_big_quiet_skip)
                iterate 1 (quiet_step (fail))
                go_big_quiet_step (fail)
                refine wpQuiet_nil ?_
                intro _ hw'
                obtain ⟨⟨nq, osq⟩, hw''⟩ := hw'
                subst hw''
                go_wp2_with fail
                go_meet
                case rel => exact ⟨by rw [HTB.out], Lib.hid (gw_grow wr nq osq).b⟩
        case rest =>
          obtain ⟨rfl, HWc⟩ := hcut
          as_aux_lemma =>
          have hI2 := Lib.hid (hI.out.below HWc.out)
          have HOc := Lib.hid (HOr.out.below HWc.out)
          have hbc : b < wc.heap.size := Nat.lt_of_lt_of_le hb HWc.out.size
          clear x0 x1 x2 x3 x4 x5 HC HB HOr hI hb
          cases tb with
          | false =>
            have hs := stp_no (mode := mode) (lot := lot) (S := sdT L s p mode lot v i) TB.out.symm
            have hI3 : Hid (SdIn w1 wc w1.heap.size n (sdT L s p mode lot v (i + 1)).1) := Lib.hid (by rw [HSK.out, hs]; exact hI2.out)
            have hS3 : Hid (v' = (sdT L s p mode lot v (i + 1)).2) := Lib.hid (by rw [HSK.out, hs]; exact hS.out)
            clear hs
            go_wp2_with fail
            go_roundg (n - (i + 1))
            case measure => omega
            case rel => exact ⟨i + 1, v', rfl, by go_num, by omega, by omega, v0, v1, hS3, hI3⟩
          | true =>
            have HSD : Hid (x.side = s) := Lib.hid (by
              have h := TB.out
              unfold stO at h
              rw [HX.out] at h
              have h2 := h.symm
              simp only [Bool.and_eq_true, beq_iff_eq] at h2
              exact h2.1.1)
            go_wp2_with fail
            go_loopg [16] n (fun kx s16 wr => ∃ k : Nat, s16 = .int .i64 (k : Int) ∧ i ≤ k ∧ k ≤ n ∧ n - k ≤ kx ∧ Hid (∀ j, j < k - i → smO L[i + j]! L[i]! = true) ∧ Hid (Below wc.heap.size wc wr))
            case atStart => exact ⟨i, rfl, by omega, by omega, by omega, Lib.hid (fun j hj => absurd hj (by omega)), Lib.hid (Below.refl _ _)⟩
            case round =>
              obtain ⟨k, rfl, hik, hk, hkk, hM, hBk⟩ := hrel
              have hk0 : (0 : Int) ≤ (k : Int) := by omega
              have HOk := Lib.hid (HOc.out.below hBk.out)
              have hbk : b < wr.heap.size := Nat.lt_of_lt_of_le hbc hBk.out.size
              obtain ⟨tc, htc⟩ : ∃ tc, tc = (decide (k < n) && (((L[k]!).side == s) && ((L[k]!).price == x.price))) := ⟨_, rfl⟩
              have TC := Lib.hid htc
              clear htc
              go_upto_region 10 with fail
              go_cut [126] (fun s126 wx => s126 = .bool tc ∧ Hid (Below wr.heap.size wr wx))
              case first =>
                as_aux_lemma =>
                by_cases hkl : k < n
                · have hkI : (k : Int) < (n : Int) := by omega
                  have gk : decide ((k : Int) < (n : Int)) = true := decide_eq_true hkI
                  have hc : ∀ i, i < n → (L[i]!).at wr b (off + i * 6) := by
                    rcases HOk.out.2.2.2 with h | ⟨b', off', e', _, h⟩
                    · omega
                    · injection e' with e'; injection e' with q1 q2; subst q1; subst q2; exact h
                  have hy := hc k hkl
                  have hx := hc i hlt
                  rw [HX.out] at hx
                  obtain ⟨y, ey⟩ : ∃ y, L[k]! = y := ⟨_, rfl⟩
                  rw [ey] at hy
                  have ht0 : tc = ((y.side == s) && (y.price == x.price)) := by rw [TC.out, ey, decide_eq_true hkl]; rfl
                  obtain ⟨_, _, y2, y3, _, _⟩ := hy
                  obtain ⟨_, _, x2, x3, _, _⟩ := hx
                  clear hc ey
                  cases e1 : (y.side == s) with
                  | false =>
                    have HTC : Hid (tc = false) := Lib.hid (by rw [ht0, e1]; rfl)
                    clear ht0
                    go_wp2_with fail
                    go_quiet (fail)
                    go_wp2_with fail
                    go_meet
                    case rel => exact ⟨by rw [HTC.out], Lib.hid (below_drewN (Below.refl _ _) _)⟩
                  | true =>
                    cases e2 : (y.price == x.price) with
                    | false =>
                      have HTC : Hid (tc = false) := Lib.hid (by rw [ht0, e1, e2]; rfl)
                      clear ht0
                      go_wp2_with fail
                      go_quiet (fail)
                      go_wp2_with fail
                      go_meet
                      case rel => exact ⟨by rw [HTC.out], Lib.hid (below_drewN (Below.refl _ _) _)⟩
                    | true =>
                      have HTC : Hid (tc = true) := Lib.hid (by rw [ht0, e1, e2]; rfl)
                      clear ht0
                      go_wp2_with fail
                      go_quiet (fail)
                      go_wp2_with fail
                      go_meet
                      case rel => exact ⟨by rw [HTC.out], Lib.hid (below_drewN (Below.refl _ _) _)⟩
                · have hkI : ¬ (k : Int) < (n : Int) := by omega
                  have gk : decide ((k : Int) < (n : Int)) = false := decide_eq_false hkI
                  have HTC : Hid (tc = false) := Lib.hid (by rw [TC.out, decide_eq_false hkl]; rfl)
                  go_wp2_with fail
                  go_quiet (fail)
                  go_wp2_with fail
                  go_meet
                  case rel => exact ⟨by rw [HTC.out], Lib.hid (below_drewN (Below.refl _ _) _)⟩
              case rest =>
                obtain ⟨rfl, HWk⟩ := hcut
                have hB3 := Lib.hid (hBk.out.trans (HWk.out.mono hBk.out.size))
                clear hBk HWk HOk hbk
                cases tc with
                | true =>
                  have hkl : k < n := by
                    have h := TC.out; cases e : decide (k < n) with
                    | true => exact of_decide_eq_true e
                    | false => rw [e] at h; cases h
                  have hM2 : Hid (∀ j, j < k + 1 - i → smO L[i + j]! L[i]! = true) := Lib.hid (fun j hj => by
                    by_cases e : j < k - i
                    · exact hM.out j e
                    · obtain rfl : j = k - i := by omega
                      have h := TC.out.symm
                      simp only [Bool.and_eq_true, beq_iff_eq] at h
                      rw [show i + (k - i) = k by omega, HX.out]
                      exact smO_iff.2 ⟨h.2.1.trans HSD.out.symm, h.2.2⟩)
                  go_wp2_with fail
                  go_roundg (n - (k + 1))
                  case measure => omega
                  case rel => exact ⟨k + 1, by go_num, by omega, by omega, by omega, hM2, hB3⟩
                | false =>
                  obtain ⟨m, hkm⟩ : ∃ m, k - i = m := ⟨_, rfl⟩
                  have hkm2 : k = i + m := by omega
                  have hx2 : ∀ k', k' < n → (((L[k']!).side == s) && ((L[k']!).price == x.price)) = smO L[k']! L[i]! := fun k' _ => by
                    unfold smO; rw [HX.out, HSD.out]
                  have htc := TC.out.symm
                  have hm1 : 1 ≤ m := by
                    refine Classical.byContradiction fun h => ?_
                    obtain rfl : k = i := by omega
                    rw [hx2 k hlt, smO_refl, decide_eq_true hlt] at htc
                    cases htc
                  have HMR : Hid (m = rlA L i) := Lib.hid (by
                    refine (rlA_eq hm1 (by rw [HL.out]; omega) (fun j hj => hM.out j (by omega)) (fun h => ?_)).symm
                    rw [HL.out] at h
                    rw [← hkm2]
                    rw [hx2 k (by omega), decide_eq_true (show k < n by omega), Bool.true_and] at htc
                    exact htc)
                  have hik2 : i ≤ k := hik
                  have hmn : m ≤ 64 := by omega
                  have HSh : Hid (Calls Try.prog 29 #[.int .i64 mode, .slice (some ⟨b, off + i * 6, none⟩) m (c - i), .int .i64 v', .int .i64 lot] wc (ShNew wc mode m (Qat L i) v' lot)) := Lib.hid (by
                    have h := rShare_new mode (some ⟨b, off + i * 6, none⟩) m (c - i) ((L.drop i).take m) v' lot HLot.out wc (ods_sub (HOc.out.below hB3.out) (by omega)) (by omega)
                    rw [show qs ((L.drop i).take m) = Qat L i by rw [HMR.out]; rfl] at h
                    exact h)
                  have hI3 := Lib.hid (hI2.out.below hB3.out)
                  have HGS := Lib.hid (fun m1 h => stp_end (L := L) (s := s) (p := p) (mode := mode) (lot := lot) (i := i) (m := m1) (S := sdT L s p mode lot v i) HIL.out TB.out.symm h)
                  obtain ⟨f, hf⟩ : ∃ f, f = (sdT L s p mode lot v i).1 := ⟨_, rfl⟩
                  rw [← hf] at hI3
                  rw [← hf, ← hS.out, ← HSK.out, ← HMR.out] at HGS
                  have HRL : Hid (m = (Qat L i).length) := Lib.hid (by rw [HMR.out]; exact (Qat_len HIL.out).symm)
                  clear hx2 htc hf hI2 HOc hM hkm2
                  go_wp2_with fail
                  ((with_reducible refine HSh.out.mono ?_); rintro e w4 ⟨A1, m1, c1, rfl, hm1', h4⟩)
                  have HPt : Hid (PtIn w4 A1 m1 w1.heap.size (gtN mode lot v' (Qat L i))) := Lib.hid (by
                    rcases h4.out.2.1 with h | ⟨b1, e1, h1, h2⟩
                    · exact .inl h
                    · exact .inr ⟨b1, e1, by have := hI3.out.1.2; omega, h2⟩)
                  have hI4 := Lib.hid (hI3.out.below h4.out.1)
                  have H4 := Lib.hid h4.out.2.2
                  have HRG2 := Lib.hid (fun j (hj : j < m1) => part_rng HRL.out h4.out.2.2 (j := j) hj)
                  clear HSh hI3 h4
                  go_wp2_with fail
                  go_loopg [14, 18] m1 (fun kx s14 s18 wr => ∃ (j : Nat) (vj : Int), s14 = .int .i64 vj ∧ s18 = .int .i64 (j : Int) ∧ j ≤ m1 ∧ m1 - j ≤ kx ∧ 0 ≤ vj ∧ Hid (vj ≤ 4611686018427387904) ∧ Hid (vj = v' - gtS mode lot v' (Qat L i) j) ∧ Hid (SdIn w1 wr w1.heap.size n (ovr f i j (gtN mode lot v' (Qat L i))) ∧ PtIn wr A1 m1 w1.heap.size (gtN mode lot v' (Qat L i))))
                  case atStart => exact ⟨0, v', rfl, rfl, by omega, by omega, v0, v1, Lib.hid (by show v' = v' - 0; omega), Lib.hid ⟨by rw [ovr_zero]; exact hI4.out, HPt.out⟩⟩
                  case round =>
                    obtain ⟨j, vj, rfl, rfl, hj, hjx, vj0, vj1, hV, hII⟩ := hrel
                    clear HPt hI4
                    by_cases hjl : j < m1
                    · have hjI : (j : Int) < (m1 : Int) := by omega
                      have hj0 : (0 : Int) ≤ (j : Int) := by omega
                      have hr := HRG2.out j hjl
                      rw [← hV.out] at hr
                      obtain ⟨b1, rfl, hb1, hr1⟩ : ∃ b1, A1 = some ⟨b1, 0, none⟩ ∧ b1 ≠ w1.heap.size ∧ wr.rowIs b1 2 m1 (fun i_1 => .int .i64 (gtN mode lot v' (Qat L i) i_1)) := by
                        rcases hII.out.2 with h | h
                        · omega
                        · exact h
                      have c1' := hr1.cell hjl
                      obtain ⟨z, hz⟩ : ∃ z, z = gtN mode lot v' (Qat L i) j := ⟨_, rfl⟩
                      have c1 : wr.cell? ⟨b1, j, none⟩ = some (.int .i64 z) := by rw [hz]; exact c1'
                      rw [← hz] at hr
                      have HZ := Lib.hid hz
                      have c2 : wr.cell? ⟨w1.heap.size, i + j, none⟩ = some (.int .i64 (ovr f i j (gtN mode lot v' (Qat L i)) (i + j))) := hII.out.1.2.2.cell (by omega)
                      have c3 : wr.frozen? ⟨w1.heap.size, i + j, none⟩ = false := hII.out.1.2.2.frozen (i + j)
                      have hb2 : ¬ b1 = w1.heap.size := hb1
                      have hN : Hid (SdIn w1 (wr.setCell ⟨w1.heap.size, i + j, none⟩ (.int .i64 z)) w1.heap.size n (ovr f i (j + 1) (gtN mode lot v' (Qat L i))) ∧ PtIn (wr.setCell ⟨w1.heap.size, i + j, none⟩ (.int .i64 z)) (some ⟨b1, 0, none⟩) m1 w1.heap.size (gtN mode lot v' (Qat L i))) := Lib.hid ⟨hII.out.1.set hz, hII.out.2.set⟩
                      have c5 : (wr.setCell ⟨w1.heap.size, i + j, none⟩ (.int .i64 z)).cell? ⟨b1, j, none⟩ = some (.int .i64 z) := by
                        rcases hN.out.2 with h | ⟨b', e', _, h⟩
                        · omega
                        · injection e' with e'; injection e' with q1 q2; subst q1
                          exact (h.cell hjl).trans (by rw [HZ.out])
                      have HV1 : Hid (vj - z = v' - gtS mode lot v' (Qat L i) (j + 1)) := Lib.hid (by
                        have e : gtS mode lot v' (Qat L i) (j + 1) = gtS mode lot v' (Qat L i) j + gtN mode lot v' (Qat L i) j := rfl
                        rw [e, hV.out, hz]; omega)
                      have HV3 : Hid (vj - z ≤ 4611686018427387904) := Lib.hid (by have := vj1.out; omega)
                      have ew : IntKind.i64.wrap (vj - z) = vj - z := by have := vj1.out; rw [IntKind.wrap_i64]; omega
                      generalize ovr f i j (gtN mode lot v' (Qat L i)) (i + j) = old at c2
                      clear hr1 c1' hz
                      go_wp2_with fail
                      go_roundg (m1 - (j + 1))
                      case measure => omega
                      case rel => exact ⟨j + 1, vj - z, rfl, by go_num, by omega, by omega, by omega, HV3, HV1, hN⟩
                    · have hjI : ¬ (j : Int) < (m1 : Int) := by omega
                      obtain rfl : j = m1 := by omega
                      have HE := HGS.out j H4.out
                      have hI5 : Hid (SdIn w1 wr w1.heap.size n (sdT L s p mode lot v (i + 1)).1) := Lib.hid (by rw [HE]; exact hII.out.1)
                      have hS5 : Hid (vj = (sdT L s p mode lot v (i + 1)).2) := Lib.hid (by rw [HE]; exact hV.out)
                      clear HE hII hV HGS HRG2
                      go_wp2_with fail
                      go_roundg (n - (i + 1))
                      case measure => omega
                      case rel => exact ⟨i + 1, vj, rfl, by go_num, by omega, by omega, vj0, vj1, hS5, hI5⟩
      · have hltI : ¬ (i : Int) < (n : Int) := by omega
        obtain rfl : i = n := by omega
        have hB := HB1.out.trans (hI.out.2.1.mono HB1.out.size)
        go_wp2_with fail
        go_ret
        exact ⟨_, rfl, HB1.out.size, Lib.hid ⟨hB, hI.out.2.2⟩⟩
end Go.Proofs.Ytdjbnnjcifgnlaa

namespace Go.Proofs.Ytdjbnnjcifgnlaa
set_option linter.unusedVariables false

def upF (f : Nat → Int) (k : Nat) (v : Int) : Nat → Int := fun j => if j = k then v else f j
/-- What is left of both sides; the trades: a buyer, a seller, how much. -/
structure DS where
  f : Nat → Int
  g : Nat → Int
  D : List (Nat × Nat × Int)
def dst (b s : Nat) (S : DS) : DS := if min (S.f b) (S.g s) = 0 then S else ⟨upF S.f b (S.f b - min (S.f b) (S.g s)), upF S.g s (S.g s - min (S.f b) (S.g s)), S.D ++ [(b, s, min (S.f b) (S.g s))]⟩
def dIn (b : Nat) (S : DS) : Nat → DS
  | 0 => S
  | s + 1 => dst b s (dIn b S s)
def dOut (S : DS) (m : Nat) : Nat → DS
  | 0 => S
  | b + 1 => dIn b (dOut S m b) m
/-- What holds of both sides all the time: of what there was, f0 and g0. -/
structure DsOk (f0 g0 : Nat → Int) (S : DS) : Prop where
  f1 : ∀ k, 0 ≤ S.f k ∧ S.f k ≤ f0 k
  g1 : ∀ k, 0 ≤ S.g k ∧ S.g k ≤ g0 k
  d : ∀ x ∈ S.D, 1 ≤ x.2.2 ∧ x.2.2 ≤ f0 x.1 ∧ x.2.2 ≤ g0 x.2.1
theorem dst_ok {f0 g0 : Nat → Int} {S : DS} (h : DsOk f0 g0 S) (b s : Nat) : DsOk f0 g0 (dst b s S) := by
  unfold dst
  have hb := h.f1 b
  have hs := h.g1 s
  split
  · exact h
  · rename_i hm
    refine ⟨fun k => ?_, fun k => ?_, fun x hx => ?_⟩
    · show 0 ≤ upF S.f b _ k ∧ upF S.f b _ k ≤ f0 k
      unfold upF; split
      · rename_i e; subst e; omega
      · exact h.f1 k
    · show 0 ≤ upF S.g s _ k ∧ upF S.g s _ k ≤ g0 k
      unfold upF; split
      · rename_i e; subst e; omega
      · exact h.g1 k
    · rcases List.mem_append.1 hx with hx | hx
      · exact h.d x hx
      · obtain rfl := List.mem_singleton.1 hx
        show 1 ≤ min (S.f b) (S.g s) ∧ min (S.f b) (S.g s) ≤ f0 b ∧ min (S.f b) (S.g s) ≤ g0 s
        omega
theorem dIn_ok {f0 g0 : Nat → Int} {S : DS} (h : DsOk f0 g0 S) (b : Nat) : ∀ s, DsOk f0 g0 (dIn b S s)
  | 0 => h
  | s + 1 => dst_ok (dIn_ok h b s) b s
theorem dOut_ok {f0 g0 : Nat → Int} {S : DS} (h : DsOk f0 g0 S) (m : Nat) : ∀ b, DsOk f0 g0 (dOut S m b)
  | 0 => h
  | b + 1 => dIn_ok (dOut_ok h m b) b m
/-- How many trades there are at most. -/
theorem dst_len (b s : Nat) (S : DS) : (dst b s S).D.length ≤ S.D.length + 1 := by
  unfold dst; split
  · omega
  · simp
theorem dIn_len (b : Nat) (S : DS) : ∀ s, (dIn b S s).D.length ≤ S.D.length + s
  | 0 => Nat.le_refl _
  | s + 1 => by have := dIn_len b S s; have := dst_len b s (dIn b S s); show (dst b s (dIn b S s)).D.length ≤ _; omega
theorem dOut_len (S : DS) (m : Nat) : ∀ b, (dOut S m b).D.length ≤ S.D.length + b * m
  | 0 => by simp [dOut]
  | b + 1 => by
    have := dOut_len S m b; have := dIn_len b (dOut S m b) m
    show (dIn b (dOut S m b) m).D.length ≤ _
    rw [Nat.add_mul]; omega
end Go.Proofs.Ytdjbnnjcifgnlaa

namespace Go.Proofs.Ytdjbnnjcifgnlaa
open Go.RowKit Go.Lib Go.Maps Go.Deep Go.Sort
set_option linter.unusedVariables false

/-- A trade, as it lies. -/
def encT (x y : Od) (q : Int) : List Value := encO x ++ encO y ++ [.int .i64 q]
def dl (L : List Od) (D : List (Nat × Nat × Int)) : List Value := D.flatMap fun x => encT L[x.1]! L[x.2.1]! x.2.2
theorem encT_one (x y : Od) (q : Int) : ∀ u ∈ encT x y q, u.oneCell' = true := by
  intro u hu
  unfold encT at hu
  rcases List.mem_append.1 hu with hu | hu
  · rcases List.mem_append.1 hu with hu | hu
    · exact enc_one x u hu
    · exact enc_one y u hu
  · obtain rfl := List.mem_singleton.1 hu; rfl
theorem dl_app (L : List Od) (D : List (Nat × Nat × Int)) (b s : Nat) (q : Int) : dl L (D ++ [(b, s, q)]) = dl L D ++ encT L[b]! L[s]! q := by
  unfold dl
  rw [List.flatMap_append]
  simp
/-- What the loops keep: both rows, the trades. -/
structure DlIn (T : TypeId) (w2 wr : World) (b1 b2 n : Nat) (L : List Od) (vD : Value) (S : DS) : Prop where
  fr : Fr (fun k => k = b1 ∨ k = b2) w2 wr
  lt : b1 < w2.heap.size ∧ b2 < w2.heap.size ∧ b1 ≠ b2
  r1 : wr.rowIs b1 2 n (fun i => .int .i64 (S.f i))
  r2 : wr.rowIs b2 2 n (fun i => .int .i64 (S.g i))
  d : wr.ownsRow w2.heap.size T 13 vD S.D.length (dl L S.D)
theorem DlIn.drewN {T : TypeId} {w2 wr : World} {b1 b2 n : Nat} {L : List Od} {vD : Value} {S : DS} (h : DlIn T w2 wr b1 b2 n L vD S) (k : Nat) : DlIn T w2 (wr.drewN k) b1 b2 n L vD S := ⟨h.fr.drewN k, h.lt, h.r1, h.r2, h.d⟩
theorem DlIn.ods {T : TypeId} {w2 wr : World} {b1 b2 n : Nat} {L : List Od} {vD : Value} {S : DS} (h : DlIn T w2 wr b1 b2 n L vD S) {w : World} {A : Option Addr} {m : Nat} {M : List Od} (H : Ods w A m M) (hw : Below w.heap.size w w2) (h1 : w.heap.size ≤ b1) (h2 : w.heap.size ≤ b2) : Ods wr A m M := by
  by_cases m0 : m = 0
  · exact ⟨H.1, H.2.1, H.2.2.1, .inl m0⟩
  obtain ⟨b', off', e', hb', _⟩ : ∃ b off, A = some ⟨b, off, none⟩ ∧ b < w.heap.size ∧ ∀ i, i < m → (M[i]!).at w b (off + i * 6) := by
    rcases H.2.2.2 with h0 | h0
    · exact absurd h0 m0
    · exact h0
  refine (H.below hw).keep h.fr.size (fun b off e hb => ?_)
  rw [e] at e'; injection e' with e'; injection e' with q1 q2; subst q1
  exact h.fr.block b hb (fun hk => by rcases hk with hk | hk <;> omega)
/-- A trade is put behind the others. -/
theorem DlIn.more {T : TypeId} {w2 wr w3 : World} {b1 b2 n b s : Nat} {L : List Od} {vD vE : Value} {S : DS} {q : Int} (h : DlIn T w2 wr b1 b2 n L vD S) (o : Obj)
    (hown : w3.ownsRow w2.heap.size T 13 vE (S.D.length + 1) (dl L S.D ++ encT L[b]! L[s]! q)) (hg : (wr.alloc o).grownBy w3 vD.ownBlock) (hq : q = min (S.f b) (S.g s)) (hm : ¬ q = 0) (hb : b < n) (hs : s < n) :
    DlIn T w2 ((w3.setCell ⟨b1, b, none⟩ (.int .i64 (S.f b - q))).setCell ⟨b2, s, none⟩ (.int .i64 (S.g s - q))) b1 b2 n L vE (dst b s S) := by
  have e : dst b s S = ⟨upF S.f b (S.f b - q), upF S.g s (S.g s - q), S.D ++ [(b, s, q)]⟩ := by
    unfold dst; rw [← hq, if_neg hm]
  have hl := fun k hk => (h.d.lt k hk).1
  have hne : ∀ k, k < w2.heap.size → vD.ownBlock ≠ some k := fun k hk e => by have := hl k e; omega
  have hb1 := h.r1.lt; have hb2 := h.r2.lt
  have q1 : w3.rowIs b1 2 n (fun i => .int .i64 (S.f i)) := (h.r1.alloc o).of_block (World.grownBy.block hg b1 (by simp; omega) (fun e => hne b1 h.lt.1 e.symm))
  have q2 : w3.rowIs b2 2 n (fun i => .int .i64 (S.g i)) := (h.r2.alloc o).of_block (World.grownBy.block hg b2 (by simp; omega) (fun e => hne b2 h.lt.2.1 e.symm))
  have hf3 : Fr (fun k => k = b1 ∨ k = b2) w2 w3 := (h.fr.alloc o).grown hg (fun j hj => .inr (hl j hj))
  rw [e]
  refine ⟨(hf3.set (.inl (.inl rfl)) _).set (.inl (.inr rfl)) _, h.lt, ?_, ?_, ?_⟩
  · refine ((q1.set b _).setOther (a := ⟨b2, s, none⟩) h.lt.2.2 _).congr (fun k hk => ?_)
    show (if k = b then Value.int .i64 (S.f b - q) else .int .i64 (S.f k)) = .int .i64 (upF S.f b (S.f b - q) k)
    unfold upF; split <;> rfl
  · refine ((q2.setOther (a := ⟨b1, b, none⟩) (fun e => h.lt.2.2 e.symm) _).set s _).congr (fun k hk => ?_)
    show (if k = s then Value.int .i64 (S.g s - q) else .int .i64 (S.g k)) = .int .i64 (upF S.g s (S.g s - q) k)
    unfold upF; split <;> rfl
  · show ((w3.setCell _ _).setCell _ _).ownsRow w2.heap.size T 13 vE (S.D ++ [(b, s, q)]).length (dl L (S.D ++ [(b, s, q)]))
    rw [dl_app, List.length_append]
    have hv := fun k hk => (hown.lt k hk).1
    refine own_fr (S := fun k => k = b1 ∨ k = b2) hown (((Fr.refl _ w3).set (.inl (.inl rfl)) _).set (.inl (.inr rfl)) _) (fun k hk hk2 => ?_)
    have := hv k hk
    have := h.lt
    rcases hk2 with rfl | rfl <;> omega
theorem DlIn.rows3 {T : TypeId} {w2 wr w3 : World} {b1 b2 n b s : Nat} {L : List Od} {vD : Value} {S : DS} {q : Value} (h : DlIn T w2 wr b1 b2 n L vD S) (o : Obj) (hg : (wr.alloc o).grownBy w3 vD.ownBlock) (hb : b < n) (hs : s < n) :
    w3.cell? ⟨b1, b, none⟩ = some (.int .i64 (S.f b)) ∧ w3.frozen? ⟨b1, b, none⟩ = false ∧ (w3.setCell ⟨b1, b, none⟩ q).cell? ⟨b2, s, none⟩ = some (.int .i64 (S.g s)) ∧ (w3.setCell ⟨b1, b, none⟩ q).frozen? ⟨b2, s, none⟩ = false := by
  have hl := fun k hk => (h.d.lt k hk).1
  have hne : ∀ k, k < w2.heap.size → vD.ownBlock ≠ some k := fun k hk e => by have := hl k e; omega
  have hb1 := h.r1.lt; have hb2 := h.r2.lt
  have q1 : w3.rowIs b1 2 n (fun i => .int .i64 (S.f i)) := (h.r1.alloc o).of_block (World.grownBy.block hg b1 (by simp; omega) (fun e => hne b1 h.lt.1 e.symm))
  have q2 : w3.rowIs b2 2 n (fun i => .int .i64 (S.g i)) := (h.r2.alloc o).of_block (World.grownBy.block hg b2 (by simp; omega) (fun e => hne b2 h.lt.2.1 e.symm))
  have q3 := q2.setOther (a := ⟨b1, b, none⟩) (fun e => h.lt.2.2 e.symm) q
  exact ⟨q1.cell hb, q1.frozen b, q3.cell hs, q3.frozen s⟩
theorem grown_of_drew {w w' : World} {row : Option Nat} (h : w.drew.grownBy w' row) : w.grownBy w' row :=
  World.grownBy.trans (show w.grownBy w.drew row from ⟨rfl, rfl, rfl, Nat.le_refl _, fun _ _ _ => rfl⟩) h
theorem own_down {w : World} {base base' n size : Nat} {e : TypeId} {v : Value} {xs : List Value} (h : w.ownsRow base e size v n xs) (hb : base' ≤ base) : w.ownsRow base' e size v n xs := by
  obtain ⟨h1, h2⟩ := h
  refine ⟨h1, ?_⟩
  rcases h2 with h2 | ⟨k, cap, cur, hv, hk, rest⟩
  · exact .inl h2
  · exact .inr ⟨k, cap, cur, hv, Nat.le_trans hb hk, rest⟩
theorem at_grown {x : Od} {w w' : World} {b o : Nat} {row : Option Nat} (h : x.at w b o) (hl : b < w.heap.size) (hg : w.grownBy w' row) (hne : some b ≠ row) : x.at w' b o := by
  have e := World.grownBy.block hg b hl hne
  have c : ∀ j, w'.cell? ⟨b, j, none⟩ = w.cell? ⟨b, j, none⟩ := fun j => World.cell?_of_block (w := w) (a := ⟨b, j, none⟩) e
  unfold Od.at at h ⊢
  simpa only [c] using h
theorem own_alloc_drew {w : World} {base n size : Nat} {e : TypeId} {v : Value} {xs : List Value} (h : w.ownsRow base e size v n xs) (o : Obj) : (w.drew.alloc o).ownsRow base e size v n xs := World.ownsRow.alloc (show w.drew.ownsRow base e size v n xs from h) o
theorem at_two_alloc {x y : Od} {w : World} {b o o' : Nat} (h : x.at w b o ∧ y.at w b o') (hb : b < w.heap.size) (ob : Obj) : x.at (w.drew.alloc ob) b o ∧ y.at (w.drew.alloc ob) b o' :=
  have hB : Below w.heap.size w (w.drew.alloc ob) := ((Below.refl _ _).drew).alloc (Nat.le_refl _) ob
  ⟨Od.at_below h.1 hb hB, Od.at_below h.2 hb hB⟩
theorem at_two_grown {x y : Od} {w w3 : World} {b o o' : Nat} {ob : Obj} {row : Option Nat} (h : x.at w b o ∧ y.at w b o') (hb : b < w.heap.size) (hg : (w.drew.alloc ob).grownBy w3 row) (hne : some b ≠ row) : x.at w3 b o ∧ y.at w3 b o' :=
  have h2 := at_two_alloc h hb ob
  have hb2 : b < (w.drew.alloc ob).heap.size := Nat.lt_of_lt_of_le hb (by simp)
  ⟨at_grown h2.1 hb2 hg hne, at_grown h2.2 hb2 hg hne⟩
theorem trade_news (T : TypeId) (w : World) (x y : Od) (q : Int) : ∀ (j : Nat) (u : Value), (encT x y q)[j]? = some u → (w.alloc (Obj.cells (encT x y q).toArray T)).cell? ((⟨w.heap.size, 0, none⟩ : Addr).add j) = some u := by
  intro j u hu
  rw [addr_add, Nat.zero_add, cell_of_row _ _ _ _ _ _ (heap_alloc_new w _)]
  simpa using hu
/-- Who trades with whom. -/
noncomputable def dlS (L : List Od) (p v mode lot : Int) : List (Nat × Nat × Int) := if (bookO L && mayS v mode lot) = true then (dOut ⟨(sdT L 1 p mode lot v L.length).1, (sdT L 2 p mode lot v L.length).1, []⟩ L.length L.length).D else []
/-- Trades in a row of the call's own. -/
def DlR (T : TypeId) (w : World) (L : List Od) (D : List (Nat × Nat × Int)) (e : Ending) (w' : World) : Prop := ∃ vD, e = .returned vD ∧ Hid (Below w.heap.size w w' ∧ w'.ownsRow w.heap.size T 13 vD D.length (dl L D))
theorem sd_ok {L : List Od} {p v mode lot : Int} (hb : bookO L = true) (hv : 0 ≤ v) : DsOk (sdT L 1 p mode lot v L.length).1 (sdT L 2 p mode lot v L.length).1 ⟨(sdT L 1 p mode lot v L.length).1, (sdT L 2 p mode lot v L.length).1, []⟩ ∧ ∀ k, (sdT L 1 p mode lot v L.length).1 k ≤ 1099511627776 ∧ (sdT L 2 p mode lot v L.length).1 k ≤ 1099511627776 := by
  obtain ⟨_, hg, _, _⟩ := (book_iff L).1 hb
  have R := fun s => (sdT_rng (L := L) (s := s) (p := p) (mode := mode) (lot := lot) hv L.length (Nat.le_refl _)).2
  have Q : ∀ s k, (sdT L s p mode lot v L.length).1 k ≤ 1099511627776 := fun s k => by
    rcases (R s k).2 with h | ⟨hk, h, _⟩
    · omega
    · have := (good_qty (hg (L[k]!) (by rw [getElem!_pos L k hk]; exact List.getElem_mem _))).2.2.2; omega
  exact ⟨⟨fun k => ⟨(R 1 k).1, Int.le_refl _⟩, fun k => ⟨(R 2 k).1, Int.le_refl _⟩, fun x hx => absurd hx List.not_mem_nil⟩, fun k => ⟨Q 1 k, Q 2 k⟩⟩
theorem info_td : (Try.prog.info? 44).map (fun i => (i.zero, i.size, i.bytes)) = some (some (.agg (encT ⟨0, 0, 0, 0, 0, 0⟩ ⟨0, 0, 0, 0, 0, 0⟩ 0).toArray), 13, 104) := by kernel_rfl
set_option maxHeartbeats 4000000 in
set_option maxRecDepth 100000 in
theorem deals_c (A : Option Addr) (n c : Nat) (L : List Od) (p v mode lot : Int) (w : World) (HO : Ods w A n L) (hnc : n ≤ c) (hlot : InR lot) (hn1 : n ≤ 1000) :
    Calls Try.prog 14 #[.slice A n c, .int .i64 p, .int .i64 v, .int .i64 mode, .int .i64 lot] w (DlR 44 w L (dlS L p v mode lot)) := by
  have mixed : Try.prog.follows .mixedOrders = true := by kernel_rfl
  obtain ⟨i0, hi0, hz0, hz1, hz2⟩ := info_parts info_td
  have H1 := Lib.hid (side_c A n c L 1 p v mode lot w HO hnc hlot)
  have H2 := Lib.hid (fun w1 (hb : Below w.heap.size w w1) => side_c A n c L 2 p v mode lot w1 (HO.below hb) hnc hlot)
  cases hok : (bookO L && mayS v mode lot) with
  | false =>
    rw [hok] at H1 H2
    have e : dlS L p v mode lot = [] := by unfold dlS; rw [hok]; rfl
    rw [e]
    clear HO hlot hok e
    go_enter Try.func14, Try.ntmps14
    go_wp2_with fail
    ((with_reducible refine H1.out.mono ?_); rintro e w1 ⟨rfl, b1⟩)
    have H3 := Lib.hid (H2.out w1 b1)
    go_wp2_with fail
    ((with_reducible refine H3.out.mono ?_); rintro e w2 ⟨rfl, b2⟩)
    have B2 := Lib.hid (b1.trans (b2.mono b1.size))
    clear b1 b2 H1 H2 H3
    go_wp2_with fail
    go_loopg [13, 31] 0 (fun kx s13 s wr => s13 = .slice none 0 0 ∧ s = .int .i64 0 ∧ Hid (Below w.heap.size w wr))
    case atStart => exact ⟨rfl, rfl, B2⟩
    case round =>
      obtain ⟨rfl, rfl, hB⟩ := hrel
      go_wp2_with fail
      go_ret
      exact ⟨_, rfl, Lib.hid ⟨hB.out, World.ownsRow_nil _ _ _ _⟩⟩
  | true =>
    rw [hok] at H1 H2
    have hbk : bookO L = true := by cases h : bookO L with
      | true => rfl
      | false => rw [h] at hok; cases hok
    have hmy : mayS v mode lot = true := by rw [hbk] at hok; exact hok
    have hv0 : 0 ≤ v := by unfold mayS at hmy; simp only [Bool.and_eq_true, decide_eq_true_eq] at hmy; omega
    have hn : n ≤ 64 := by rw [← HO.1]; exact ((book_iff L).1 hbk).1
    have HL := Lib.hid HO.1
    have HH := Lib.hid HO
    have hso := sd_ok (p := p) (mode := mode) (lot := lot) hbk hv0
    have e : dlS L p v mode lot = (dOut ⟨(sdT L 1 p mode lot v n).1, (sdT L 2 p mode lot v n).1, []⟩ n n).D := by unfold dlS; rw [hok, HO.1]; rfl
    rw [HO.1] at hso
    obtain ⟨f0, hf0⟩ : ∃ f, f = (sdT L 1 p mode lot v n).1 := ⟨_, rfl⟩
    obtain ⟨g0, hg0⟩ : ∃ g, g = (sdT L 2 p mode lot v n).1 := ⟨_, rfl⟩
    rw [← hf0, ← hg0] at hso e
    rw [← hf0] at H1
    rw [← hg0] at H2
    have HOK := Lib.hid hso
    rw [e]
    clear HO hlot hok hbk hmy hv0 hso e hf0 hg0
    go_enter Try.func14, Try.ntmps14
    go_wp2_with fail
    ((with_reducible refine H1.out.mono ?_); rintro e w1 ⟨b1, rfl, hb1, h1⟩)
    have H3 := Lib.hid (H2.out w1 h1.out.1)
    go_wp2_with fail
    ((with_reducible refine H3.out.mono ?_); rintro e w2 ⟨b2, rfl, hb2, h2⟩)
    have B2 := Lib.hid (h1.out.1.trans (h2.out.1.mono h1.out.1.size))
    have HS0 : Hid (DlIn 44 w2 w2 b1 b2 n L (.slice none 0 0) ⟨f0, g0, []⟩) := Lib.hid ⟨Fr.refl _ _, ⟨Nat.lt_of_lt_of_le h1.out.2.lt h2.out.1.size, h2.out.2.lt, by have := h1.out.2.lt; omega⟩, h1.out.2.of_block (h2.out.1.block b1 h1.out.2.lt), h2.out.2, World.ownsRow_nil _ _ _ _⟩
    have hw1 : w.heap.size ≤ b1 := hb1
    have hw2 : w.heap.size ≤ b2 := Nat.le_trans h1.out.1.size hb2
    clear h1 h2 H1 H2 H3 hb1 hb2
    go_wp2_with fail
    go_loopg [13, 31] n (fun kx s13 so wr => ∃ (b : Nat) (vD : Value), vD = s13 ∧ so = .int .i64 (b : Int) ∧ b ≤ n ∧ n - b ≤ kx ∧ Hid (DlIn 44 w2 wr b1 b2 n L vD (dOut ⟨f0, g0, []⟩ n b)))
    case atStart => exact ⟨0, _, rfl, rfl, by omega, by omega, HS0⟩
    case round =>
      obtain ⟨b, vD0, rfl, rfl, hb, hbx, hI0⟩ := hrel
      clear HS0
      by_cases hbl : b < n
      · have hbI : (b : Int) < (n : Int) := by omega
        have hb0 : (0 : Int) ≤ (b : Int) := by omega
        go_wp2_with fail
        go_loopg [13, 36] n (fun kx s13 si wr => ∃ (s : Nat) (vD : Value), vD = s13 ∧ si = .int .i64 (s : Int) ∧ s ≤ n ∧ n - s ≤ kx ∧ Hid (DlIn 44 w2 wr b1 b2 n L vD (dIn b (dOut ⟨f0, g0, []⟩ n b) s)))
        case atStart => exact ⟨0, _, rfl, rfl, by omega, by omega, hI0⟩
        case round =>
          obtain ⟨s, vD, rfl, rfl, hs, hsx, HI⟩ := hrel
          clear hI0
          by_cases hsl : s < n
          · have hsI : (s : Int) < (n : Int) := by omega
            have hs0 : (0 : Int) ≤ (s : Int) := by omega
            have hok := dIn_ok (dOut_ok HOK.out.1 n b) b s
            have hfb := hok.f1 b
            have hgs := hok.g1 s
            have hfq := (HOK.out.2 b).1
            have hgq := (HOK.out.2 s).2
            obtain ⟨S, hS⟩ : ∃ S, S = dIn b (dOut ⟨f0, g0, []⟩ n b) s := ⟨_, rfl⟩
            have HN : Hid (dIn b (dOut ⟨f0, g0, []⟩ n b) (s + 1) = dst b s S) := Lib.hid (by rw [hS]; rfl)
            have HLen : Hid (S.D.length ≤ 8192) := Lib.hid (by
              have h1 := dIn_len b (dOut ⟨f0, g0, []⟩ n b) s
              have h2 := dOut_len ⟨f0, g0, []⟩ n b
              have h3 : b * n ≤ 64 * 64 := Nat.mul_le_mul (by omega) hn
              rw [hS]
              simp only [List.length_nil] at h2
              omega)
            rw [← hS] at HI hfb hgs
            have c1 : wr.cell? ⟨b1, b, none⟩ = some (.int .i64 (S.f b)) := HI.out.r1.cell hbl
            have c2 : wr.cell? ⟨b2, s, none⟩ = some (.int .i64 (S.g s)) := HI.out.r2.cell hsl
            obtain ⟨fb, hfb'⟩ : ∃ z, z = S.f b := ⟨_, rfl⟩
            obtain ⟨gs, hgs'⟩ : ∃ z, z = S.g s := ⟨_, rfl⟩
            rw [← hfb'] at c1 hfb
            rw [← hgs'] at c2 hgs
            obtain ⟨q, hq⟩ : ∃ q, min fb gs = q := ⟨_, rfl⟩
            have HQ : Hid (q = min (S.f b) (S.g s)) := Lib.hid (by rw [← hfb', ← hgs', hq])
            have HFG : Hid (fb = S.f b ∧ gs = S.g s) := Lib.hid ⟨hfb', hgs'⟩
            have hqb : 0 ≤ q ∧ q ≤ fb ∧ q ≤ gs := by omega
            have hfu : fb ≤ 1099511627776 := by omega
            have hgu : gs ≤ 1099511627776 := by omega
            have HRG := Lib.hid (And.intro hfb.1 (And.intro hgs.1 (And.intro hqb (And.intro hfu hgu))))
            clear hok hfq hgq hS hfb' hgs' hfb hgs hqb hfu hgu
            by_cases q0 : q = 0
            · have gq : (q == 0) = true := by simp [q0]
              have gq2 : decide (0 < q) = false := decide_eq_false (by omega)
              have hN : Hid (∀ k, DlIn 44 w2 (wr.drewN k) b1 b2 n L vD (dIn b (dOut ⟨f0, g0, []⟩ n b) (s + 1))) := Lib.hid (fun k => by
                rw [HN.out]
                unfold dst
                rw [if_pos (by rw [← HQ.out]; exact q0)]
                exact HI.out.drewN k)
              clear q0
              go_wp2_with fail
              go_quiet (fail)
              have hN2 := Lib.hid (hN.out nq)
              clear hN
              go_wp2_with fail
              go_roundg (n - (s + 1))
              case measure => omega
              case rel => exact ⟨s + 1, vD, rfl, by go_num, by omega, by omega, hN2⟩
            · have gq : (q == 0) = false := by simp [q0]
              have gq2 : decide (0 < q) = true := decide_eq_true (by have := HRG.out; omega)
              have hlenb : s < n := hsl
              have HO := HI.out.ods HH.out B2.out hw1 hw2
              obtain ⟨bb, off, rfl, hbb, hc⟩ : ∃ bb off, A = some ⟨bb, off, none⟩ ∧ bb < wr.heap.size ∧ ∀ i, i < n → (L[i]!).at wr bb (off + i * 6) := by
                rcases HO.2.2.2 with h | h
                · omega
                · exact h
              obtain ⟨x, ex⟩ : ∃ x, L[b]! = x := ⟨_, rfl⟩
              obtain ⟨y, ey⟩ : ∃ y, L[s]! = y := ⟨_, rfl⟩
              have HXY : Hid (x.at wr bb (off + b * 6) ∧ y.at wr bb (off + s * 6)) := Lib.hid ⟨by rw [← ex]; exact hc b hbl, by rw [← ey]; exact hc s hsl⟩
              have HEX := Lib.hid (And.intro ex ey)
              have HBB := Lib.hid hbb
              have HNO : Hid (some bb ≠ vD.ownBlock) := Lib.hid (fun e => by
                have h1 := (HI.out.d.lt bb e.symm).1
                obtain ⟨bb', off', e', h2, _⟩ : ∃ b' off', (some (⟨bb, off, none⟩ : Addr)) = some ⟨b', off', none⟩ ∧ b' < w.heap.size ∧ ∀ i, i < n → (L[i]!).at w b' (off' + i * 6) := by
                  rcases HH.out.2.2.2 with h | h
                  · omega
                  · exact h
                injection e' with e'; injection e' with e1 e2; subst e1
                have := B2.out.size; omega)
              have HQ0 := Lib.hid q0
              clear q0 HO hc ex ey hbb
              go_upto_region 10 with fail
              go_quiet (fail)
              have HZ : Hid (DlIn 44 w2 (wr.drewN nq) b1 b2 n L vD S ∧ (x.at (wr.drewN nq) bb (off + b * 6) ∧ y.at (wr.drewN nq) bb (off + s * 6)) ∧ bb < (wr.drewN nq).heap.size) := Lib.hid ⟨HI.out.drewN nq, HXY.out, HBB.out⟩
              clear HI HXY HBB c1 c2
              generalize wr.drewN nq = wz at HZ ⊢
              go_upto_region 12 with fail
              refine wp_region_held_drew (S := (fun w' => x.at w' bb (off + b * 6) ∧ y.at w' bb (off + s * 6))) (by kernel_rfl) (by first | assumption | exact HZ.out.2.1 | (dsimp only; exact HZ.out.2.1)) (fun hHeld => ?_)
              refine wpAnyH_take (i := 0) (oi := ⟨some 50, _, _, _, _, _⟩) (v := ?_) rfl (by kernel_rfl) (by kernel_rfl) (by kernel_rfl) (fun _ _ _ h => h) (Or.inl ⟨by kernel_rfl, ?_⟩) (by assumption) ?_
              rotate_left
              · (intro w hSw; (try dsimp only at hSw); go_simp; try with_reducible rfl)
              (repeat (first | simp only [Act.put] | simp only [List.setIfInBounds_toArray] | simp only [List.set_cons_succ] | simp only [List.set_cons_zero]))
              refine wpAnyH_take (i := 1) (oi := ⟨some 51, _, _, _, _, _⟩) (v := ?_) rfl (by kernel_rfl) (by kernel_rfl) (by kernel_rfl) (fun _ _ _ h => h) (Or.inl ⟨by kernel_rfl, ?_⟩) (by assumption) ?_
              rotate_left
              · (intro w hSw; (try dsimp only at hSw); go_simp; try with_reducible rfl)
              (repeat (first | simp only [Act.put] | simp only [List.setIfInBounds_toArray] | simp only [List.set_cons_succ] | simp only [List.set_cons_zero]))
              refine wpAnyH_take (i := 2) (oi := ⟨some 52, _, _, _, _, _⟩) (v := ?_) rfl (by kernel_rfl) (by kernel_rfl) (by kernel_rfl) (fun _ _ _ h => h) (Or.inl ⟨by kernel_rfl, ?_⟩) (by assumption) ?_
              rotate_left
              · (intro w hSw; (try dsimp only at hSw); go_simp; try with_reducible rfl)
              (repeat (first | simp only [Act.put] | simp only [List.setIfInBounds_toArray] | simp only [List.set_cons_succ] | simp only [List.set_cons_zero]))
              refine wpAnyH_take (i := 3) (oi := ⟨some 53, _, _, _, _, _⟩) (v := ?_) rfl (by kernel_rfl) (by kernel_rfl) (by kernel_rfl) (fun _ _ _ h => h) (Or.inl ⟨by kernel_rfl, ?_⟩) (by assumption) ?_
              rotate_left
              · (intro w hSw; (try dsimp only at hSw); go_simp; try with_reducible rfl)
              (repeat (first | simp only [Act.put] | simp only [List.setIfInBounds_toArray] | simp only [List.set_cons_succ] | simp only [List.set_cons_zero]))
              refine wpAnyH_take (i := 4) (oi := ⟨some 54, _, _, _, _, _⟩) (v := ?_) rfl (by kernel_rfl) (by kernel_rfl) (by kernel_rfl) (fun _ _ _ h => h) (Or.inl ⟨by kernel_rfl, ?_⟩) (by assumption) ?_
              rotate_left
              · (intro w hSw; obtain ⟨⟨q0, q1, q2, q3, q4, q5⟩, _⟩ := hSw; (try dsimp only at hSw); go_simp; try with_reducible rfl)
              (repeat (first | simp only [Act.put] | simp only [List.setIfInBounds_toArray] | simp only [List.set_cons_succ] | simp only [List.set_cons_zero]))
              refine wpAnyH_take (i := 5) (oi := ⟨some 55, _, _, _, _, _⟩) (v := ?_) rfl (by kernel_rfl) (by kernel_rfl) (by kernel_rfl) (fun _ _ _ h => h) (Or.inl ⟨by kernel_rfl, ?_⟩) (by assumption) ?_
              rotate_left
              · (intro w hSw; (try dsimp only at hSw); go_simp; try with_reducible rfl)
              (repeat (first | simp only [Act.put] | simp only [List.setIfInBounds_toArray] | simp only [List.set_cons_succ] | simp only [List.set_cons_zero]))
              refine wpAnyH_take (i := 6) (oi := ⟨some 56, _, _, _, _, _⟩) (v := ?_) rfl (by kernel_rfl) (by kernel_rfl) (by kernel_rfl) (fun _ _ _ h => h) (Or.inl ⟨by kernel_rfl, ?_⟩) (by assumption) ?_
              rotate_left
              · (intro w hSw; (try dsimp only at hSw); go_simp; try with_reducible rfl)
              (repeat (first | simp only [Act.put] | simp only [List.setIfInBounds_toArray] | simp only [List.set_cons_succ] | simp only [List.set_cons_zero]))
              refine wpAnyH_take (i := 7) (oi := ⟨some 57, _, _, _, _, _⟩) (v := ?_) rfl (by kernel_rfl) (by kernel_rfl) (by kernel_rfl) (fun _ _ _ h => h) (Or.inl ⟨by kernel_rfl, ?_⟩) (by assumption) ?_
              rotate_left
              · (intro w hSw; (try dsimp only at hSw); go_simp; try with_reducible rfl)
              (repeat (first | simp only [Act.put] | simp only [List.setIfInBounds_toArray] | simp only [List.set_cons_succ] | simp only [List.set_cons_zero]))
              refine wpAnyH_take (i := 8) (oi := ⟨some 58, _, _, _, _, _⟩) (v := ?_) rfl (by kernel_rfl) (by kernel_rfl) (by kernel_rfl) (fun _ _ _ h => h) (Or.inl ⟨by kernel_rfl, ?_⟩) (by assumption) ?_
              rotate_left
              · (intro w hSw; obtain ⟨_, q0, q1, q2, q3, q4, q5⟩ := hSw; (try dsimp only at hSw); go_simp; try with_reducible rfl)
              (repeat (first | simp only [Act.put] | simp only [List.setIfInBounds_toArray] | simp only [List.set_cons_succ] | simp only [List.set_cons_zero]))
              refine wpAnyH_take (i := 9) (oi := ⟨some 59, _, _, _, _, _⟩) (v := ?_) rfl (by kernel_rfl) (by kernel_rfl) (by kernel_rfl) (fun _ _ _ h => h) (Or.inl ⟨by kernel_rfl, ?_⟩) (by assumption) ?_
              rotate_left
              · (intro w hSw; (try dsimp only at hSw); go_simp; try with_reducible rfl)
              (repeat (first | simp only [Act.put] | simp only [List.setIfInBounds_toArray] | simp only [List.set_cons_succ] | simp only [List.set_cons_zero]))
              refine wpAnyH_take (i := 10) (oi := ⟨some 60, _, _, _, _, _⟩) (v := ?_) rfl (by kernel_rfl) (by kernel_rfl) (by kernel_rfl) (fun _ _ _ h => h) (Or.inl ⟨by kernel_rfl, ?_⟩) (by assumption) ?_
              rotate_left
              · (intro w hSw; (try dsimp only at hSw); go_simp; try with_reducible rfl)
              (repeat (first | simp only [Act.put] | simp only [List.setIfInBounds_toArray] | simp only [List.set_cons_succ] | simp only [List.set_cons_zero]))
              refine wpAnyH_ready (rs := [11]) (by kernel_rfl) (by simp) ?_
              refine AllReadyH.cons (o := ⟨some 61, _, _, _, _, _⟩) rfl (fun K hK => ?_) AllReadyH.nil
              go_simp
              refine hK.out _ _ (by first | assumption | exact at_two_alloc HZ.out.2.1 HZ.out.2.2 _) (fun hHeld => ?_)
              clear hK K
              (repeat (first | simp only [Act.put] | simp only [List.setIfInBounds_toArray] | simp only [List.set_cons_succ] | simp only [List.set_cons_zero]))
              refine wpAnyH_ready (rs := [12]) (by kernel_rfl) (by simp) ?_
              refine AllReadyH.cons (o := ⟨some 62, _, _, _, _, _⟩) rfl (fun K hK => ?_) AllReadyH.nil
              refine step_append_lies _ rfl _ _ 35 rfl w2.heap.size 44 i0 (.agg (encT ⟨0, 0, 0, 0, 0, 0⟩ ⟨0, 0, 0, 0, 0, 0⟩ 0).toArray) 13 104 Try.underlying35 hi0 hz0 hz1 hz2 rfl (by decide) vD _ _ rfl (own_alloc_drew HZ.out.1.d _) ⟨wz.heap.size, 0, none⟩ 1 1 (encT x y q) rfl rfl ?a1 (encT_one x y q) (by decide) ?a2 ?a3 ?a4 _ rfl ?_
              case a1 => exact trade_news _ _ x y q
              case a2 => unfold maxLen; have := HLen.out; omega
              case a3 => have := HLen.out; omega
              case a4 => have := HZ.out.1.fr.size; simp; omega
              intro gE cE w3 hown3 hg3 _ _
              have HG3 := Lib.hid hg3
              have HO3 := Lib.hid hown3
              clear hown3 hg3
              refine hK.out _ _ (by exact at_two_grown HZ.out.2.1 HZ.out.2.2 HG3.out HNO.out) (fun hHeld => ?_)
              clear hK K
              (repeat (first | simp only [Act.put] | simp only [List.setIfInBounds_toArray] | simp only [List.set_cons_succ] | simp only [List.set_cons_zero]))
              refine wpAnyH_take (i := 13) (oi := ⟨some 13, _, _, _, _, _⟩) (v := ?_) rfl (by kernel_rfl) (by kernel_rfl) (by kernel_rfl) (fun _ _ _ h => h) (Or.inl ⟨by kernel_rfl, ?_⟩) (by assumption) ?_
              rotate_left
              · (intro w hSw; (try dsimp only at hSw); go_simp; try with_reducible rfl)
              (repeat (first | simp only [Act.put] | simp only [List.setIfInBounds_toArray] | simp only [List.set_cons_succ] | simp only [List.set_cons_zero]))
              refine wpAnyH_done (by kernel_rfl) ?_ _
              obtain ⟨d1, d2, d3, d4⟩ := HZ.out.1.rows3 (q := .int .i64 (S.f b - q)) _ (grown_of_drew HG3.out) hbl hsl
              have ew1 : IntKind.i64.wrap (fb - q) = fb - q := by have := HRG.out; rw [IntKind.wrap_i64]; omega
              have ew2 : IntKind.i64.wrap (gs - q) = gs - q := by have := HRG.out; rw [IntKind.wrap_i64]; omega
              have hN : Hid (DlIn 44 w2 ((w3.setCell ⟨b1, b, none⟩ (.int .i64 (fb - q))).setCell ⟨b2, s, none⟩ (.int .i64 (gs - q))) b1 b2 n L (.slice (some ⟨gE, 0, none⟩) (S.D.length + 1) cE) (dIn b (dOut ⟨f0, g0, []⟩ n b) (s + 1))) := Lib.hid (by
                rw [HN.out, HFG.out.1, HFG.out.2]
                refine HZ.out.1.more _ ?_ (grown_of_drew HG3.out) HQ.out HQ0.out hbl hsl
                rw [HEX.out.1, HEX.out.2]; exact HO3.out)
              rw [← HFG.out.1] at d1 d3 d4
              rw [← HFG.out.2] at d3
              have hr1 := HRG.out
              obtain ⟨r1, r2, ⟨r3, r4, r5⟩, r6, r7⟩ := hr1
              clear HG3 HO3 HZ
              go_wp2_with fail
              go_roundg (n - (s + 1))
              case measure => omega
              case rel => exact ⟨s + 1, _, rfl, by go_num, by omega, by omega, hN⟩
          · have hsI : ¬ (s : Int) < (n : Int) := by omega
            obtain rfl : s = n := by omega
            go_wp2_with fail
            go_roundg (s - (b + 1))
            case measure => omega
            case rel => exact ⟨b + 1, vD, rfl, by go_num, by omega, by omega, HI⟩
      · have hbI : ¬ (b : Int) < (n : Int) := by omega
        obtain rfl : b = n := by omega
        have hF := Lib.hid (And.intro (B2.out.trans (hI0.out.fr.below (B := w.heap.size) (fun k hk => by rcases hk with rfl | rfl <;> omega) B2.out.size)) (own_down hI0.out.d B2.out.size))
        go_wp2_with fail
        go_ret
        exact ⟨_, rfl, Lib.hid hF.out⟩
end Go.Proofs.Ytdjbnnjcifgnlaa

namespace Go.Proofs.Ytdjbnnjcifgnlaa
open Go.RowKit Go.Lib Go.Maps Go.Deep Go.Sort
set_option linter.unusedVariables false

def ca1 : Od := ⟨1, 0, 1, 12, 5, 1⟩
def ca2 : Od := ⟨2, 0, 1, 10, 5, 2⟩
def ca3 : Od := ⟨3, 0, 2, 9, 4, 3⟩
def ca4 : Od := ⟨4, 0, 2, 11, 4, 4⟩
def exCa : List Od := [ca1, ca2, ca3, ca4]
theorem exCa_stays : sortO exCa = exCa := by
  refine (sortO_eq (D := [(ca1, 0), (ca2, 1), (ca3, 2), (ca4, 3)]) (List.Perm.refl _) ?_)
  decide +kernel
theorem exCa_book : bookO exCa = true := by
  unfold bookO
  rw [exCa_stays]
  decide +kernel
theorem exCa_price : priS exCa 0 = (11, 5) := by
  unfold priS
  rw [if_pos exCa_book]
  decide +kernel
theorem exCa_may : mayS 5 1 1 = true := by decide +kernel
theorem exCa_f : (sdT exCa 1 11 1 1 5 4).1 = fun k => if k = 0 then 5 else 0 := by
  have e1 : stO exCa 1 11 0 = true := by decide +kernel
  have e2 : stO exCa 1 11 1 = false := by decide +kernel
  have e3 : stO exCa 1 11 2 = false := by decide +kernel
  have e4 : stO exCa 1 11 3 = false := by decide +kernel
  have n1 : ¬ NoSh 1 (Qat exCa 0) 5 1 := by unfold NoSh; decide +kernel
  show (stp exCa 1 11 1 1 3 (stp exCa 1 11 1 1 2 (stp exCa 1 11 1 1 1 (stp exCa 1 11 1 1 0 (fun _ => 0, 5))))).1 = _
  rw [stp_no e4, stp_no e3, stp_no e2, stp_yes e1 n1]
  funext k
  show ovr (fun _ => 0) 0 (rlA exCa 0) (gtN 1 1 5 (Qat exCa 0)) k = _
  unfold ovr
  have r1 : rlA exCa 0 = 1 := by decide +kernel
  have g1 : gtN 1 1 5 (Qat exCa 0) 0 = 5 := by decide +kernel
  rw [r1]
  by_cases h : k = 0
  · subst h; rw [if_pos (by omega), if_pos rfl]; exact g1
  · rw [if_neg (by omega), if_neg h]
theorem exCa_g : (sdT exCa 2 11 1 1 5 4).1 = fun k => if k = 2 then 4 else if k = 3 then 1 else 0 := by
  have e1 : stO exCa 2 11 0 = false := by decide +kernel
  have e2 : stO exCa 2 11 1 = false := by decide +kernel
  have e3 : stO exCa 2 11 2 = true := by decide +kernel
  have e4 : stO exCa 2 11 3 = true := by decide +kernel
  have n1 : ¬ NoSh 1 (Qat exCa 2) 5 1 := by unfold NoSh; decide +kernel
  have a1 : (5 : Int) - allN 1 5 (sumT 1 (Qat exCa 2)) = 1 := by decide +kernel
  have n2 : ¬ NoSh 1 (Qat exCa 3) 1 1 := by unfold NoSh; decide +kernel
  have r1 : rlA exCa 2 = 1 := by decide +kernel
  have r2 : rlA exCa 3 = 1 := by decide +kernel
  have g1 : gtN 1 1 5 (Qat exCa 2) 0 = 4 := by decide +kernel
  have g2 : gtN 1 1 1 (Qat exCa 3) 0 = 1 := by decide +kernel
  show (stp exCa 2 11 1 1 3 (stp exCa 2 11 1 1 2 (stp exCa 2 11 1 1 1 (stp exCa 2 11 1 1 0 (fun _ => 0, 5))))).1 = _
  rw [stp_no e1, stp_no e2, stp_yes e3 n1]
  show (stp exCa 2 11 1 1 3 (ovr (fun _ => 0) 2 (rlA exCa 2) (gtN 1 1 5 (Qat exCa 2)), 5 - allN 1 5 (sumT 1 (Qat exCa 2)))).1 = _
  rw [a1, stp_yes e4 n2]
  funext k
  show ovr (ovr (fun _ => 0) 2 (rlA exCa 2) (gtN 1 1 5 (Qat exCa 2))) 3 (rlA exCa 3) (gtN 1 1 1 (Qat exCa 3)) k = _
  unfold ovr
  rw [r1, r2]
  by_cases h : k = 3
  · subst h; rw [if_pos (by omega), if_neg (by omega), if_pos rfl]; exact g2
  · rw [if_neg (by omega)]
    by_cases h2 : k = 2
    · subst h2; rw [if_pos (by omega), if_pos rfl]; exact g1
    · rw [if_neg (by omega), if_neg h2, if_neg h]
theorem exCa_deals : dlS exCa 11 5 1 1 = [(0, 2, 4), (0, 3, 1)] := by
  unfold dlS
  rw [if_pos (by rw [exCa_book, exCa_may]; rfl), show exCa.length = 4 from rfl, exCa_f, exCa_g]
  decide +kernel
/-- A row of the call's own, cell by cell. -/
theorem own_cells {w : World} {base n size : Nat} {T : TypeId} {v : Value} {xs : List Value} (h : w.ownsRow base T size v n xs) (hn : 0 < n) :
    ∃ k cap, v = .slice (some ⟨k, 0, none⟩) n cap ∧ base ≤ k ∧ k < w.heap.size ∧ n ≤ cap ∧ ∀ j u, xs[j]? = some u → w.cell? ⟨k, j, none⟩ = some u := by
  obtain ⟨h1, h2⟩ := h
  rcases h2 with ⟨hv, h0⟩ | ⟨k, cap, cur, hv, hb, hk, hc, hm, hs, ht⟩
  · omega
  · refine ⟨k, cap, hv, hb, blk_lt hk, hc, fun j u hj => ?_⟩
    rw [← ht, List.getElem?_take] at hj
    split at hj
    · rw [Array.getElem?_toList] at hj
      rw [cell_of_row _ _ _ _ _ _ hk, hj]
    · cases hj
theorem exCa_ok (w : World) : ∀ x ∈ exCa, Od.ok w x := by
  intro x hx
  unfold exCa at hx
  simp only [List.mem_cons, List.not_mem_nil, or_false] at hx
  rcases hx with rfl | rfl | rfl | rfl <;> (unfold Od.ok; decide)
theorem exCa_row {w : World} {b : Nat} {t : TypeId} (h : w.heap[b]? = some (.cells #[.int .u64 1, .int .i64 0, .int .i64 1, .int .i64 12, .int .i64 5, .int .u64 1, .int .u64 2, .int .i64 0, .int .i64 1, .int .i64 10, .int .i64 5, .int .u64 2, .int .u64 3, .int .i64 0, .int .i64 2, .int .i64 9, .int .i64 4, .int .u64 3, .int .u64 4, .int .i64 0, .int .i64 2, .int .i64 11, .int .i64 4, .int .u64 4] t (0, 0))) : Ods w (some ⟨b, 0, none⟩) 4 exCa := by
  refine ⟨rfl, by omega, exCa_ok w, .inr ⟨b, 0, rfl, blk_lt h, fun i hi => ?_⟩⟩
  have e : i = 0 ∨ i = 1 ∨ i = 2 ∨ i = 3 := by omega
  rcases e with rfl | rfl | rfl | rfl <;>
  · refine at_of fun c u hu => ?_
    have hc : c < 6 := (List.getElem?_eq_some_iff.1 hu).1
    rw [cell_of_row _ _ _ _ _ _ h, ← hu]
    have e : c = 0 ∨ c = 1 ∨ c = 2 ∨ c = 3 ∨ c = 4 ∨ c = 5 := by omega
    rcases e with rfl | rfl | rfl | rfl | rfl | rfl <;> rfl
set_option maxHeartbeats 4000000 in
set_option maxRecDepth 100000 in
theorem lives19_c (w : World) : Calls Try.prog 7 #[] w fun e w' => e = .returned (.bool true) ∧ Below w.heap.size w w' := by
  have HP : Aside (∀ (A : Option Addr) (W : World), Ods W A 4 exCa → Calls Try.prog 8 #[.slice A 4 4, .int .i64 0] W fun e w' => e = .returned (.tuple #[.int .i64 11, .int .i64 5]) ∧ Below W.heap.size W w') := fun A W h => by
    have := price_c A 4 4 exCa 0 W h ⟨by omega, by omega⟩
    rw [exCa_price] at this
    exact this
  have HD : Aside (∀ (A : Option Addr) (W : World), Ods W A 4 exCa → Calls Try.prog 14 #[.slice A 4 4, .int .i64 11, .int .i64 5, .int .i64 1, .int .i64 1] W (DlR 44 W exCa [(0, 2, 4), (0, 3, 1)])) := fun A W h => by
    have := deals_c A 4 4 exCa 11 5 1 1 W h (Nat.le_refl _) ⟨by omega, by omega⟩ (by omega)
    rw [exCa_deals] at this
    exact this
  go_enter Try.func7, Try.ntmps7
  go_wp2_with fail
  have HO := Lib.hid (exCa_row (heap_alloc_new w (.cells #[.int .u64 1, .int .i64 0, .int .i64 1, .int .i64 12, .int .i64 5, .int .u64 1, .int .u64 2, .int .i64 0, .int .i64 1, .int .i64 10, .int .i64 5, .int .u64 2, .int .u64 3, .int .i64 0, .int .i64 2, .int .i64 9, .int .i64 4, .int .u64 3, .int .u64 4, .int .i64 0, .int .i64 2, .int .i64 11, .int .i64 4, .int .u64 4] 42)))
  refine (HP.out _ _ HO.out).mono ?_
  rintro e w1 ⟨rfl, b1⟩
  have B1 : Hid (Below w.heap.size w w1) := Lib.hid (((Below.refl _ _).alloc (Nat.le_refl _) _).trans (b1.mono (by simp)))
  have HO1 := Lib.hid (HO.out.below b1)
  clear HO b1
  go_wp2_with fail
  refine (HD.out _ _ HO1.out).mono ?_
  rintro e w2 ⟨vD, rfl, h2⟩
  obtain ⟨k, cap, rfl, _, _, _, hc⟩ := own_cells h2.out.2 (by decide)
  have B2 := Lib.hid (B1.out.trans (h2.out.1.mono B1.out.size))
  have d1 : w2.cell? ⟨k, 12, none⟩ = some (.int .i64 4) := hc 12 _ rfl
  have d2 : w2.cell? ⟨k, 6, none⟩ = some (.int .u64 3) := hc 6 _ rfl
  have d3 : w2.cell? ⟨k, 25, none⟩ = some (.int .i64 1) := hc 25 _ rfl
  have d4 : w2.cell? ⟨k, 13, none⟩ = some (.int .u64 1) := hc 13 _ rfl
  clear hc h2 HD HP HO1 B1
  go_wp2_with fail
  go_ret
  exact ⟨rfl, B2.out⟩
set_option maxHeartbeats 4000000 in
set_option maxRecDepth 100000 in
theorem prices_w (A : Option Addr) (n c : Nat) (L : List Od) (last : Int) (hl : InR last) (w : World) (HO : Ods w A n L) :
    Calls Try.prog 3 #[.slice A n c, .int .i64 last] w fun e w' => e = .returned (.bool true) ∧ Below w.heap.size w w' := by
  by_cases h1 : 100 < n
  · have h1I : (100 : Int) < (n : Int) := by omega
    clear HO
    go_enter Try.func3, Try.ntmps3
    go_wp2_with ((with_reducible refine (lives19_c _).mono ?_); rintro e w5 ⟨rfl, b5⟩)
    go_ret
    exact ⟨rfl, b5⟩
  have h1I : ¬ (100 : Int) < (n : Int) := by omega
  have H1 := Lib.hid (price_c A n c L last w HO hl)
  have HP := Lib.hid (fun w1 (hb : Below w.heap.size w w1) => plain_c A n c L w1 (HO.below hb) (by omega))
  have HL := Lib.hid hl
  have HLn := Lib.hid HO.1
  clear HO h1 hl
  have H2 := Lib.hid (fun (B : Option Addr) (c' : Nat) (w2 : World) (h : Ods w2 B n L) => rPrice_c B n c' L last w2 h HL.out (by have := HLn.out; omega))
  obtain ⟨p1, hp1⟩ : ∃ r, r = (priS L last).1 := ⟨_, rfl⟩
  obtain ⟨p2, hp2⟩ : ∃ r, r = (priS L last).2 := ⟨_, rfl⟩
  rw [← hp1, ← hp2] at H1 H2
  have e1 : (p1 == p1) = true := by simp
  have e2 : (p2 == p2) = true := by simp
  clear hp1 hp2
  go_enter Try.func3, Try.ntmps3
  go_wp2_with fail
  ((with_reducible refine H1.out.mono ?_); rintro e w1 ⟨rfl, b1⟩)
  have H3 := Lib.hid (HP.out w1 b1)
  have B1 := Lib.hid b1
  clear b1 H1 HP
  go_wp2_with fail
  ((with_reducible refine H3.out.mono ?_); rintro e w2 ⟨B, n', c', rfl, h2⟩)
  obtain rfl : n = n' := by rw [← HLn.out]; exact h2.out.2.1.1
  have H4 := Lib.hid (H2.out B c' w2 h2.out.2.1)
  have B2 := Lib.hid (B1.out.trans (h2.out.1.mono B1.out.size))
  clear h2 H2 H3
  go_wp2_with fail
  ((with_reducible refine H4.out.mono ?_); rintro e w3 ⟨rfl, b3⟩)
  have B3 := Lib.hid (B2.out.trans (b3.mono B2.out.size))
  clear b3 H4
  go_wp2_with ((with_reducible refine (lives19_c _).mono ?_); rintro e w5 ⟨rfl, b5⟩)
  go_ret
  exact ⟨rfl, B3.out.trans (b5.mono B3.out.size)⟩
set_option maxHeartbeats 4000000 in
set_option maxRecDepth 100000 in
theorem sides_w (A : Option Addr) (n c : Nat) (L : List Od) (s p v mode lot : Int) (hlot : InR lot) (w : World) (HO : Ods w A n L) (hnc : n ≤ c) :
    Calls Try.prog 4 #[.slice A n c, .int .i64 s, .int .i64 p, .int .i64 v, .int .i64 mode, .int .i64 lot] w fun e w' => e = .returned (.bool true) ∧ Below w.heap.size w w' := by
  by_cases h1 : 100 < n
  · have h1I : (100 : Int) < (n : Int) := by omega
    clear HO
    go_enter Try.func4, Try.ntmps4
    go_wp2_with ((with_reducible refine (lives19_c _).mono ?_); rintro e w5 ⟨rfl, b5⟩)
    go_ret
    exact ⟨rfl, b5⟩
  have h1I : ¬ (100 : Int) < (n : Int) := by omega
  have hn : n ≤ 100 := by omega
  have H1 := Lib.hid (side_c A n c L s p v mode lot w HO hnc hlot)
  have HP := Lib.hid (fun w1 (hb : Below w.heap.size w w1) => plain_c A n c L w1 (HO.below hb) (by omega))
  have HLn := Lib.hid HO.1
  have H2 := Lib.hid (fun (B : Option Addr) (c' : Nat) (w2 : World) (h : Ods w2 B n L) (hc : n ≤ c') => rSide_c19 B n c' L s p v mode lot w2 h hc hlot (by omega))
  clear HO h1 hlot
  generalize (sdT L s p mode lot v n).1 = f at H1 H2
  cases hok : (bookO L && mayS v mode lot) with
  | false =>
    rw [hok] at H1 H2
    clear hok
    go_enter Try.func4, Try.ntmps4
    go_wp2_with fail
    ((with_reducible refine H1.out.mono ?_); rintro e w1 ⟨rfl, b1⟩)
    have H3 := Lib.hid (HP.out w1 b1)
    have B1 := Lib.hid b1
    clear b1 H1 HP
    go_wp2_with fail
    ((with_reducible refine H3.out.mono ?_); rintro e w2 ⟨B, n', c', rfl, h2⟩)
    obtain rfl : n = n' := by rw [← HLn.out]; exact h2.out.2.1.1
    have H4 := Lib.hid (H2.out B c' w2 h2.out.2.1 h2.out.2.2.1)
    have B2 := Lib.hid (B1.out.trans (h2.out.1.mono B1.out.size))
    clear h2 H2 H3
    go_wp2_with fail
    ((with_reducible refine H4.out.mono ?_); rintro e w3 ⟨rfl, b3⟩)
    have B3 := Lib.hid (B2.out.trans (b3.mono B2.out.size))
    have H5 := Lib.hid (same16_c none none 0 0 0 (fun _ => 0) (fun _ => 0) w3 (.inl rfl) (.inl rfl) (by omega) (fun i hi => rfl))
    clear b3 H4
    go_wp2_with fail
    ((with_reducible refine H5.out.mono ?_); rintro e w4 ⟨rfl, b4⟩)
    have B4 := Lib.hid (B3.out.trans (b4.mono B3.out.size))
    clear b4 H5
    go_wp2_with ((with_reducible refine (lives19_c _).mono ?_); rintro e w5 ⟨rfl, b5⟩)
    go_ret
    exact ⟨rfl, B4.out.trans (b5.mono B4.out.size)⟩
  | true =>
    rw [hok] at H1 H2
    clear hok
    go_enter Try.func4, Try.ntmps4
    go_wp2_with fail
    ((with_reducible refine H1.out.mono ?_); rintro e w1 ⟨b1, rfl, _, h1⟩)
    have H3 := Lib.hid (HP.out w1 h1.out.1)
    have B1 := Lib.hid h1.out.1
    have R1 := Lib.hid (RowN.of h1.out.2)
    clear h1 H1 HP
    go_wp2_with fail
    ((with_reducible refine H3.out.mono ?_); rintro e w2 ⟨B, n', c', rfl, h2⟩)
    obtain rfl : n = n' := by rw [← HLn.out]; exact h2.out.2.1.1
    have H4 := Lib.hid (H2.out B c' w2 h2.out.2.1 h2.out.2.2.1)
    have B2 := Lib.hid (B1.out.trans (h2.out.1.mono B1.out.size))
    have R2 := Lib.hid (R1.out.below h2.out.1)
    clear h2 H2 H3 R1
    go_wp2_with fail
    ((with_reducible refine H4.out.mono ?_); rintro e w3 ⟨b2, rfl, _, h3⟩)
    have B3 := Lib.hid (B2.out.trans (h3.out.1.mono B2.out.size))
    have H5 := Lib.hid (same16_c (some ⟨b1, 0, none⟩) (some ⟨b2, 0, none⟩) n n n f f w3 (R2.out.below h3.out.1) (RowN.of h3.out.2) (by omega) (fun i hi => rfl))
    clear h3 H4
    go_wp2_with fail
    ((with_reducible refine H5.out.mono ?_); rintro e w4 ⟨rfl, b4⟩)
    have B4 := Lib.hid (B3.out.trans (b4.mono B3.out.size))
    clear b4 H5
    go_wp2_with ((with_reducible refine (lives19_c _).mono ?_); rintro e w5 ⟨rfl, b5⟩)
    go_ret
    exact ⟨rfl, B4.out.trans (b5.mono B4.out.size)⟩
end Go.Proofs.Ytdjbnnjcifgnlaa
