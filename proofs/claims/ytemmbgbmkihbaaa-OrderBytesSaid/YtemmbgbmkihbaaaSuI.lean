/- slices.Sort at uint64, of 64 or fewer: pdqsort's own loop. (By mksui.py.) -/
import Derived.Test.YtemmbgbmkihbaaaSuH
import Derived.Test.YtemmbgbmkihbaaaSuD
import Derived.Test.YtemmbgbmkihbaaaSuB
namespace Go.Proofs.Ytemmbgbmkihbaaa
open Go.RowKit Go.Sort Go.Lib Go.Shelf

/-- Whatever sorts [a, b) of d from here sorts [a0, b0) of d0. -/
def OkU (a0 b0 : Nat) (d0 : Array Int) (a b : Nat) (d : Array Int) : Prop := ∀ R, PermIn a b d R → SortedIn ltInt a b R → PermIn a0 b0 d0 R ∧ SortedIn ltInt a0 b0 R
def StU (a0 b0 : Nat) (d0 : Array Int) (a b : Nat) (d : Array Int) : Prop := d.size = d0.size ∧ Below ltInt a b d ∧ OkU a0 b0 d0 a b d
theorem StU.perm {a0 b0 a b : Nat} {d0 d d' : Array Int} (h : StU a0 b0 d0 a b d) (hb : b ≤ d0.size) (hp : PermIn a b d d') : StU a0 b0 d0 a b d' :=
  ⟨hp.1.trans h.1, h.2.1.perm (by rw [h.1]; exact hb) hp, fun R hR hs => h.2.2 R (permIn_trans _ _ _ a b hp hR) hs⟩
theorem ltI {x y : Int} : ltInt x y = true ↔ x < y := by simp [ltInt]
theorem ltI' {x y : Int} : ltInt x y = false ↔ y ≤ x := by simp [ltInt]
theorem StU.eq {a0 b0 a b m pv : Nat} {d0 d d' : Array Int} (h : StU a0 b0 d0 a b d) (hb : b ≤ d0.size) (h0 : 0 < a) (hn : ltInt d[a - 1]! d[pv]! = false) (hP : PEq a b m d[pv]! d d') :
    StU a0 b0 d0 m b d' := by
  obtain ⟨hs, hB, hO⟩ := h
  obtain ⟨hp, ha, hm, hle, hgt⟩ := hP
  have hbd : b ≤ d.size := by rw [hs]; exact hb
  have hbd' : b ≤ d'.size := by rw [hp.1]; exact hbd
  have hge : ∀ i, a ≤ i → i < b → d[pv]! ≤ d'[i]! := fun i hi hi' => by
    refine permIn_all d d' a b (fun x => d[pv]! ≤ x) hbd hp (fun k hk hk' => ?_) i hi hi'
    rcases hB with h1 | hB
    · omega
    · have k1 := ltI'.1 (hB k hk hk')
      have k2 := ltI'.1 hn
      omega
  have hlt : ∀ i, m ≤ i → i < b → d[pv]! < d'[i]! := fun i hi hi' => ltI.1 (hgt i hi hi')
  have heq : ∀ i, a ≤ i → i < m → d'[i]! = d[pv]! := fun i hi hi' => by
    have k1 := hge i hi (by omega)
    have k2 := ltI'.1 (hle i hi hi')
    omega
  refine ⟨hp.1.trans hs, .inr fun i hi hi' => ?_, fun R hR hsR => hO R ?_ ?_⟩
  · rw [heq (m - 1) (by omega) (by omega)]
    have := hlt i hi hi'
    exact ltI'.2 (by omega)
  · exact permIn_trans _ _ _ a b hp (permIn_mono _ _ m b a b (by omega) (Nat.le_refl _) hbd' hR)
  · intro i j hi hij hj
    by_cases h1 : m ≤ i
    · exact hsR i j h1 hij hj
    · have e1 : R[i]! = d[pv]! := by rw [hR.2.1 i (.inl (by omega))]; exact heq i hi (by omega)
      rw [e1]
      by_cases h2 : m ≤ j
      · have := permIn_all d' R m b (fun x => d[pv]! < x) hbd' hR hlt j h2 hj
        exact ltI'.2 (by omega)
      · have e2 : R[j]! = d[pv]! := by rw [hR.2.1 j (.inl (by omega))]; exact heq j (by omega) (by omega)
        rw [e2]
        exact ltI'.2 (Int.le_refl _)
theorem StU.left {a0 b0 a b m : Nat} {d0 d d' L : Array Int} (h : StU a0 b0 d0 a b d) (hb : b ≤ d0.size) (hP : PPart a b m d d') (hL : PermIn a m d' L) (hsL : SortedIn ltInt a m L) : StU a0 b0 d0 (m + 1) b L := by
  obtain ⟨hs, hB, hO⟩ := h
  obtain ⟨hp, ha, hm, hlo, hhi⟩ := hP
  have hbd' : b ≤ d'.size := by rw [hp.1, hs]; exact hb
  have hbL : b ≤ L.size := by rw [hL.1]; exact hbd'
  have eL : ∀ i, m ≤ i → L[i]! = d'[i]! := fun i hi => hL.2.1 i (.inr hi)
  have kL : ∀ i, a ≤ i → i < m → ltInt L[i]! d'[m]! = true := permIn_all d' L a m (fun x => ltInt x d'[m]! = true) (by omega) hL hlo
  have kR : ∀ i, m < i → i < b → ltInt L[i]! d'[m]! = false := fun i hi hi' => by rw [eL i (by omega)]; exact hhi i hi hi'
  refine ⟨hL.1.trans (hp.1.trans hs), .inr fun i hi hi' => ?_, fun R hR hsR => hO R ?_ ?_⟩
  · rw [show m + 1 - 1 = m by omega, eL m (Nat.le_refl _)]
    exact kR i (by omega) hi'
  · exact permIn_trans _ _ _ a b hp (permIn_trans _ _ _ a b (permIn_mono _ _ a m a b (Nat.le_refl _) (by omega) hbd' hL) (permIn_mono _ _ (m + 1) b a b (by omega) (Nat.le_refl _) hbL hR))
  · have eR : ∀ i, i ≤ m → R[i]! = L[i]! := fun i hi => hR.2.1 i (.inl (by omega))
    have em : R[m]! = d'[m]! := (eR m (Nat.le_refl _)).trans (eL m (Nat.le_refl _))
    refine sorted_glue swo_ltInt (mid := m) (fun i j hi hij hj => ?_) hsR (fun i hi hi' => ?_) fun i hi hi' => ?_
    · rw [eR i (by omega), eR j (by omega)]
      exact hsL i j hi hij hj
    · rw [em, eR i (by omega)]
      exact kL i hi hi'
    · rw [em]
      exact permIn_all L R (m + 1) b (fun x => ltInt x d'[m]! = false) hbL hR (fun k hk hk' => kR k (by omega) hk') i (by omega) hi'
theorem StU.right {a0 b0 a b m : Nat} {d0 d d' L : Array Int} (h : StU a0 b0 d0 a b d) (hb : b ≤ d0.size) (hP : PPart a b m d d') (hL : PermIn (m + 1) b d' L) (hsL : SortedIn ltInt (m + 1) b L) : StU a0 b0 d0 a m L := by
  obtain ⟨hs, hB, hO⟩ := h
  obtain ⟨hp, ha, hm, hlo, hhi⟩ := hP
  have hbd : b ≤ d.size := by rw [hs]; exact hb
  have hbd' : b ≤ d'.size := by rw [hp.1]; exact hbd
  have hbL : b ≤ L.size := by rw [hL.1]; exact hbd'
  have eL : ∀ i, i ≤ m → L[i]! = d'[i]! := fun i hi => hL.2.1 i (.inl (by omega))
  have kR : ∀ i, m < i → i < b → ltInt L[i]! d'[m]! = false := fun i hi hi' => permIn_all d' L (m + 1) b (fun x => ltInt x d'[m]! = false) hbd' hL (fun k hk hk' => hhi k (by omega) hk') i (by omega) hi'
  refine ⟨hL.1.trans (hp.1.trans hs), ?_, fun R hR hsR => hO R ?_ ?_⟩
  · rcases hB.perm hbd hp with h1 | h1
    · exact .inl h1
    · by_cases h0 : a = 0
      · exact .inl h0
      · refine .inr fun i hi hi' => ?_
        rw [eL i (by omega), eL (a - 1) (by omega)]
        exact h1 i hi (by omega)
  · exact permIn_trans _ _ _ a b hp (permIn_trans _ _ _ a b (permIn_mono _ _ (m + 1) b a b (by omega) (Nat.le_refl _) hbd' hL) (permIn_mono _ _ a m a b (Nat.le_refl _) (by omega) hbL hR))
  · have eR : ∀ i, m ≤ i → R[i]! = L[i]! := fun i hi => hR.2.1 i (.inr hi)
    have em : R[m]! = d'[m]! := (eR m (Nat.le_refl _)).trans (eL m (Nat.le_refl _))
    refine sorted_glue swo_ltInt (mid := m) hsR (fun i j hi hij hj => ?_) (fun i hi hi' => ?_) fun i hi hi' => ?_
    · rw [eR i (by omega), eR j (by omega)]
      exact hsL i j hi hij hj
    · rw [em]
      exact permIn_all L R a m (fun x => ltInt x d'[m]! = true) (by omega) hR (fun k hk hk' => by rw [eL k (by omega)]; exact hlo k hk hk') i hi hi'
    · rw [em, eR i (by omega)]
      exact kR i hi hi'
theorem below_left {a b m : Nat} {d d' : Array Int} (hB : Below ltInt a b d) (hb : b ≤ d.size) (hP : PPart a b m d d') : Below ltInt a m d' :=
  (hB.perm hb hP.1).mono (by have := hP.2.2.1; omega)
theorem below_right {a b m : Nat} {d d' : Array Int} (hP : PPart a b m d d') : Below ltInt (m + 1) b d' :=
  .inr fun i hi hi' => by rw [show m + 1 - 1 = m by omega]; exact hP.2.2.2.2 i (by omega) hi'

theorem pins2_c (blk off cap : Nat) (a b : Nat) (d0 d : Array Int) (w0 w : World) (n : Nat) (hn : n = d.size) (R : Row1 eU w0 blk off d0) (hs : d0.size = d.size) (S : SW eU w0 blk off d w) (hsz : d.size < 4611686018427387904) (hab : a < b) (hb : b ≤ d.size) (hB : Below ltInt a b d) :
    Calls Try.prog 113 #[.slice (some ⟨blk, off, none⟩) n cap, .int .i64 a, .int .i64 b] w fun e w' => ∃ (t : Bool) (d' : Array Int), e = .returned (.bool t) ∧ SW eU w0 blk off d' w' ∧ PermIn a b d d' ∧ (t = true → SortedIn ltInt a b d') := by
  refine (pins_c blk off cap a b a b rfl rfl d0 d w0 w n hn R hs S hsz hab hb).mono ?_
  rintro e w' ⟨rfl, S'⟩
  have H := partialInsertionSort_holds swo_ltInt d a b hab hb hB
  exact ⟨_, _, rfl, S', H.1, H.2⟩

set_option maxHeartbeats 4000000 in
set_option maxRecDepth 1000000 in
theorem pdq_c (blk off cap : Nat) (d0 : Array Int) (w0 : World) (R : Row1 eU w0 blk off d0) (h64 : d0.size ≤ 64) : ∀ (N a b lim : Nat) (za zb zl : Int) (d : Array Int) (w : World) (n : Nat), za = a → zb = b → zl = lim → n = d.size → d0.size = d.size → SW eU w0 blk off d w → b - a < N → a ≤ b → b ≤ d.size → lim < 1000 → Below ltInt a b d →
    Calls Try.prog 88 #[.slice (some ⟨blk, off, none⟩) n cap, .int .i64 za, .int .i64 zb, .int .i64 zl] w fun e w' => e = .returned (.tuple #[]) ∧
      ∃ d', SW eU w0 blk off d' w' ∧ PermIn a b d d' ∧ SortedIn ltInt a b d' := by
  intro N
  induction N with
  | zero => intro _ _ _ _ _ _ _ _ _ _ _ _ _ _ _ h; exact absurd h (Nat.not_lt_zero _)
  | succ N ih =>
  intro a b lim za zb zl d w n hza hzb hzl hn hs S hN hab hb hlim hB
  subst hza hzb hzl hn
  have hd64 : d.size ≤ 64 := by omega
  have HS := Lib.hid hs
  have HL := Lib.hid lessU_c
  have HI := Lib.hid (fun a' b' dk W (h : d.size = dk.size) S h1 (h2 : b' ≤ d.size) => insU_c blk off cap a' b' a' b' d0 dk w0 W d.size rfl rfl h R (hs.trans h) S h1 (by omega) (by omega))
  have HH := Lib.hid (fun a' b' dk W (h : d.size = dk.size) S h1 (h2 : b' ≤ d.size) => heap_c blk off cap a' b' a' b' rfl rfl d0 dk w0 W d.size h R (hs.trans h) S (by omega) h1 (by omega))
  have HB := Lib.hid (fun a' b' dk W (h : d.size = dk.size) S h1 (h2 : b' ≤ d.size) => brk_c blk off cap a' b' a' b' rfl rfl d0 dk w0 W d.size h R (hs.trans h) S (by omega) h1 (by omega) (by omega))
  have HP := Lib.hid (fun a' b' dk W (h : d.size = dk.size) S h1 (h2 : b' ≤ d.size) => piv_c blk off cap a' b' a' b' rfl rfl d0 dk w0 W d.size h R (hs.trans h) S (by omega) h1 (by omega))
  have HR := Lib.hid (fun a' b' dk W (h : d.size = dk.size) S h1 (h2 : b' ≤ d.size) => rev_c blk off cap a' b' a' b' rfl rfl d0 dk w0 W d.size h R (hs.trans h) S (by omega) h1 (by omega))
  have HN := Lib.hid (fun a' b' dk W (h : d.size = dk.size) S h1 (h2 : b' ≤ d.size) hB => pins2_c blk off cap a' b' d0 dk w0 W d.size h R (hs.trans h) S (by omega) h1 (by omega) hB)
  have HE := Lib.hid (fun a' b' p dk W (h : d.size = dk.size) S h1 h2 (h3 : b' ≤ d.size) => peq_c blk off cap a' b' p a' b' p rfl rfl rfl d0 dk w0 W d.size h R (hs.trans h) S (by omega) h1 h2 (by omega))
  have HA := Lib.hid (fun a' b' p dk W (h : d.size = dk.size) S h1 h2 (h3 : b' ≤ d.size) => part_c blk off cap a' b' p a' b' p rfl rfl rfl d0 dk w0 W d.size h R (hs.trans h) S (by omega) h1 h2 (by omega))
  have IH := Lib.hid (fun (a' b' l : Nat) (za : Int) (hza : za = a') dk W (h : d.size = dk.size) S h1 h2 (h3 : b' ≤ d.size) hl hB => ih a' b' l za b' l dk W d.size hza rfl rfl h (hs.trans h) S h1 h2 (by omega) hl hB)
  have S0 : Aside (SW eU w0 blk off d w) := S
  have HX0 : Aside (StU a b d a b d) := show StU a b d a b d from ⟨rfl, hB, fun R h1 h2 => ⟨h1, h2⟩⟩
  clear S hs ih hB
  go_enter Try.func88, Try.ntmps88
  go_wp2
  go_loopg [1, 2, 3, 8, 9] (b - a) (fun k s1 s2 s3 s8 s9 wr => ∃ (a' b' l : Nat) (wb wp : Bool) (dk : Array Int), s1 = .int .i64 a' ∧ s2 = .int .i64 b' ∧ s3 = .int .i64 l ∧ s8 = .bool wb ∧ s9 = .bool wp ∧
      a' ≤ b' ∧ b' ≤ d.size ∧ b' - a' ≤ k ∧ k ≤ b - a ∧ l ≤ lim ∧ Aside (StU a b d a' b' dk) ∧ Aside (SW eU w0 blk off dk wr))
  case atStart => exact ⟨a, b, lim, true, true, d, rfl, rfl, rfl, rfl, rfl, hab, hb, Nat.le_refl _, Nat.le_refl _, Nat.le_refl _, HX0, S0⟩
  case round =>
  clear S0 HX0
  obtain ⟨a', b', l, wb, wp, dk, rfl, rfl, rfl, rfl, rfl, hab', hb', hk, hkN, hl, HX, S1⟩ := hrel
  by_cases h12 : b' - a' ≤ 12
  · have h12z : (b' : Int) - (a' : Int) ≤ 12 := by omega
    clear h12
    go_wp2_with fail
    refine (HI.out a' b' dk _ HX.out.1.symm S1.out hab' hb').mono ?_
    rintro e w2 ⟨rfl, d2, S2, P2, O2⟩
    go_wp2_with fail
    (try simp only [Exit.inBlock, Exit.then])
    refine bodyPost_ret (results_none rfl _ _ _) rfl ?_
    exact ⟨rfl, d2, S2, (HX.out.2.2 d2 P2 O2).1, (HX.out.2.2 d2 P2 O2).2⟩
  have h12z : ¬ ((b' : Int) - (a' : Int) ≤ 12) := by omega
  have h13 : a' + 12 < b' := by omega
  clear h12
  by_cases hl0 : l = 0
  · subst hl0
    go_wp2_with fail
    refine (HH.out a' b' dk _ HX.out.1.symm S1.out (by omega) hb').mono ?_
    rintro e w2 ⟨rfl, d2, S2, P2, O2⟩
    go_wp2_with fail
    (try simp only [Exit.inBlock, Exit.then])
    refine bodyPost_ret (results_none rfl _ _ _) rfl ?_
    exact ⟨rfl, d2, S2, (HX.out.2.2 d2 P2 O2).1, (HX.out.2.2 d2 P2 O2).2⟩
  have hl0z : ¬ ((l : Int) = 0) := by omega
  go_upto_if 35 with fail
  go_cut [3] from 19 to 133 (fun s3 wx => ∃ (l1 : Nat) (d1 : Array Int), s3 = .int .i64 l1 ∧ l1 ≤ lim ∧ Aside (PermIn a' b' dk d1) ∧ Aside (SW eU w0 blk off d1 wx))
  case first =>
    cases wb
    · go_wp2_with fail
      refine (HB.out a' b' dk _ HX.out.1.symm S1.out h13 hb').mono ?_
      rintro e w2 ⟨rfl, d1, S2, P2⟩
      go_wp2_with fail
      go_meet
      case rel =>
        refine ⟨l - 1, d1, ?_, by omega, P2, S2⟩
        show Value.int .i64 ((l : Int) - 1) = Value.int .i64 ((l - 1 : Nat) : Int)
        congr 1
        omega
    · go_wp2_with fail
      go_meet
      case rel => exact ⟨l, dk, rfl, hl, permIn_refl _ _ _, S1⟩
  case rest =>
  obtain ⟨l1, d1, rfl, hl1, P1, S2⟩ := hcut
  have HX1 : Aside (StU a b d a' b' d1) := StU.perm HX.out hb' P1.out
  clear S1 HX P1 hl0 hl0z hl
  have HC := Lib.hid (HP.out a' b' d1 _ HX1.out.1.symm S2.out h13 hb')
  go_upto_if 50 with ((with_reducible refine (HC.out).mono ?_); rintro e w3 ⟨p, h, rfl, hp1, hp2, hh, S3'⟩)
  have S3 : Aside (SW eU w0 blk off d1 w3) := S3'
  clear S3' S2 HC
  go_cut [11, 12] from 19 to 133 (fun s11 s12 wx => ∃ (p' h' : Nat) (d2 : Array Int), s11 = .int .i64 p' ∧ s12 = .int .i64 h' ∧ a' ≤ p' ∧ p' < b' ∧ Aside (PermIn a' b' d1 d2) ∧ Aside (SW eU w0 blk off d2 wx))
  case first =>
    by_cases h2 : h = 2
    · subst h2
      go_wp2_with fail
      refine (HR.out a' b' d1 _ HX1.out.1.symm S3.out (by omega) hb').mono ?_
      rintro e w4 ⟨rfl, d2, S4, P4⟩
      go_wp2_with fail
      go_meet
      case rel =>
        refine ⟨(b' - 1) - (p - a'), 1, d2, ?_, rfl, by omega, by omega, P4, S4⟩
        congr 1
        omega
    · have h2z : ¬ ((h : Int) = 2) := by omega
      go_wp2_with fail
      go_meet
      case rel => exact ⟨p, h, d1, rfl, rfl, hp1, hp2, permIn_refl _ _ _, S3⟩
  case rest =>
  obtain ⟨p', h', d2, rfl, rfl, hq1, hq2, P2, S4⟩ := hcut
  have HX2 : Aside (StU a b d a' b' d2) := StU.perm HX1.out hb' P2.out
  clear S3 HX1 P2 hp1 hp2 hh
  go_upto_region 15 with fail
  go_cut [12, 68] from 19 to 133 (fun s12 s68 wx => ∃ c : Bool, s12 = .int .i64 h' ∧ s68 = .bool c ∧ wx = wc)
  case first =>
    cases wb <;> cases wp <;> (by_cases h1 : h' = 1
                               · have h1z : (h' : Int) = 1 := by omega
                                 go_wp2_with fail
                                 go_meet
                                 case rel => exact ⟨_, rfl, rfl, rfl⟩
                               · have h1z : ¬ (h' : Int) = 1 := by omega
                                 go_wp2_with fail
                                 go_meet
                                 case rel => exact ⟨_, rfl, rfl, rfl⟩)
  case rest =>
  obtain ⟨c, rfl, rfl, rfl⟩ := hcut
  go_upto_if 68 with fail
  go_cut [] from 19 to 133 (fun wx => ∃ d3 : Array Int, Aside (PermIn a' b' d2 d3) ∧ Aside (SW eU w0 blk off d3 wx))
  case first =>
    cases c
    · go_wp2_with fail
      go_meet
      case rel => exact ⟨d2, permIn_refl _ _ _, S4⟩
    · go_wp2_with fail
      refine (HN.out a' b' d2 _ HX2.out.1.symm S4.out (by omega) hb' HX2.out.2.1).mono ?_
      rintro e w5 ⟨t, d3, rfl, S5, P5, O5⟩
      cases t
      · go_wp2_with fail
        go_meet
        case rel => exact ⟨d3, P5, S5⟩
      · go_wp2_with fail
        (try simp only [Exit.inBlock, Exit.then])
        refine bodyPost_ret (results_none rfl _ _ _) rfl ?_
        exact ⟨rfl, d3, S5, (HX2.out.2.2 d3 P5 (O5 (by trivial))).1, (HX2.out.2.2 d3 P5 (O5 (by trivial))).2⟩
  case rest =>
  obtain ⟨d3, P3, S5⟩ := hcut
  have HX3 : Aside (StU a b d a' b' d3) := StU.perm HX2.out hb' P3.out
  have HD : Hid (d3.size = d.size) := HX3.out.1
  clear S4 HX2 P3
  go_upto_region 17 with fail
  go_cut [87] from 19 to 133 (fun s87 wx => ∃ t : Bool, s87 = .bool t ∧ Aside (t = true → 0 < a' ∧ ltInt d3[a' - 1]! d3[p']! = false) ∧ Aside (SW eU w0 blk off d3 wx))
  case first =>
    rcases Nat.eq_zero_or_pos a' with ha0 | ha0
    · have ha0z : decide ((a' : Int) > 0) = false := decide_eq_false (by omega)
      go_quiet ((go_at_call 114; with_reducible exact Calls.quiet_of_same (HL.out _ _ _)))
      have S6 : Aside (SW eU w0 blk off d3 (wc.drewN nq)) := S5.out.drewN nq
      clear S5
      generalize wc.drewN nq = wq at S6 ⊢
      go_wp2_with fail
      go_meet
      case rel =>
        refine ⟨false, rfl, ?_, S6⟩
        show _ → _
        intro h
        cases h
    · have ha0z : (a' : Int) > 0 := by omega
      obtain ⟨q, hq⟩ : ∃ q, q = a' - 1 := ⟨_, rfl⟩
      have zq : (a' : Int) - 1 = (q : Int) := by omega
      have lq : q < a' := by omega
      have HQ := Lib.hid hq
      clear hq
      have hsz2 := HD.out
      obtain ⟨x, hx⟩ : ∃ x, d3[q]! = x := ⟨_, rfl⟩
      have cx := S5.out.c1 R (by rw [HD.out]; exact HS.out.symm) (q) (by omega)
      rw [hx] at cx
      replace cx : wc.cell? ⟨blk, off + q, none⟩ = some (.int .u64 x) := cx
      have Xx := Lib.hid hx
      clear hx
      have bbx : (q : Int) < (d.size : Int) := by omega
      obtain ⟨y, hy⟩ : ∃ x, d3[p']! = x := ⟨_, rfl⟩
      have cy := S5.out.c1 R (by rw [HD.out]; exact HS.out.symm) (p') (by omega)
      rw [hy] at cy
      replace cy : wc.cell? ⟨blk, off + p', none⟩ = some (.int .u64 y) := cy
      have Xy := Lib.hid hy
      clear hy
      have bby : (p' : Int) < (d.size : Int) := by omega
      clear hsz2
      go_quiet ((go_at_call 114; with_reducible exact Calls.quiet_of_same (HL.out _ _ _)))
      have S6 : Aside (SW eU w0 blk off d3 (wc.drewN nq)) := S5.out.drewN nq
      clear cx bbx cy bby S5
      generalize wc.drewN nq = wq at S6 ⊢
      go_wp2_with fail
      go_meet
      case rel =>
        refine ⟨!ltInt x y, rfl, ?_, S6⟩
        show _ → _
        intro h
        rw [← HQ.out, Xx.out, Xy.out]
        exact ⟨ha0, by simpa using h⟩
  case rest =>
  obtain ⟨t, rfl, HT, S6⟩ := hcut
  clear S5
  cases t
  · have HC := Lib.hid (HA.out a' b' p' d3 _ HX3.out.1.symm S6.out hq1 hq2 hb')
    go_upto_if 113 with ((with_reducible refine (HC.out).mono ?_); rintro e w7 ⟨mid, ap, rfl, d4, S7', P7'⟩; have r1 : a' ≤ mid := P7'.2.1; have r2 : mid < b' := P7'.2.2.1)
    have S7 : Aside (SW eU w0 blk off d4 w7) := S7'
    have P7 : Aside (PPart a' b' mid d3 d4) := P7'
    have H4 : Hid (d.size = d4.size) := by show _ = _; rw [P7'.1.1]; exact HX3.out.1.symm
    clear S7' P7' S6 HC HT
    by_cases h4 : mid - a' < b' - mid
    · have h4z : (mid : Int) - (a' : Int) < (b' : Int) - (mid : Int) := by omega
      go_wp2_with fail
      refine (IH.out a' mid l1 a' rfl d4 _ H4.out S7.out (by omega) r1 (by omega) (by omega) (below_left HX3.out.2.1 (by rw [HD.out]; exact hb') P7.out)).mono ?_
      rintro e w8 ⟨rfl, d5, S8', P8', O8'⟩
      have S8 : Aside (SW eU w0 blk off d5 w8) := S8'
      have HX5 : Aside (StU a b d (mid + 1) b' d5) := StU.left HX3.out hb' P7.out P8' O8'
      clear S8' P8' O8' S7 P7 HX3 H4
      go_wp2_with fail
      go_roundg (b' - (mid + 1))
      case measure => omega
      case rel => exact ⟨mid + 1, b', l1, _, ap, d5, by go_num, rfl, rfl, rfl, rfl, by omega, hb', Nat.le_refl _, by omega, hl1, HX5, S8⟩
    · have h4z : ¬ ((mid : Int) - (a' : Int) < (b' : Int) - (mid : Int)) := by omega
      go_wp2_with fail
      refine (IH.out (mid + 1) b' l1 ((mid : Int) + 1) rfl d4 _ H4.out S7.out (by omega) (by omega) hb' (by omega) (below_right P7.out)).mono ?_
      rintro e w8 ⟨rfl, d5, S8', P8', O8'⟩
      have S8 : Aside (SW eU w0 blk off d5 w8) := S8'
      have HX5 : Aside (StU a b d a' mid d5) := StU.right HX3.out hb' P7.out P8' O8'
      clear S8' P8' O8' S7 P7 HX3 H4
      go_wp2_with fail
      go_roundg (mid - a')
      case measure => omega
      case rel => exact ⟨a', mid, l1, _, ap, d5, rfl, rfl, rfl, rfl, rfl, r1, by omega, Nat.le_refl _, by omega, hl1, HX5, S8⟩
  · have HTT := HT.out rfl
    go_wp2_with fail
    refine (HE.out a' b' p' d3 _ HX3.out.1.symm S6.out hq1 hq2 hb').mono ?_
    rintro e w7 ⟨m, rfl, d4, S7', P7'⟩
    have S7 : Aside (SW eU w0 blk off d4 w7) := S7'
    have HX5 : Aside (StU a b d m b' d4) := StU.eq HX3.out hb' HTT.1 HTT.2 P7'
    have r1 : a' < m := P7'.2.1
    have r2 : m ≤ b' := P7'.2.2.1
    clear S7' P7' S6 HX3 HT HTT
    go_wp2_with fail
    go_roundg (b' - m)
    case measure => omega
    case rel => exact ⟨m, b', l1, wb, wp, d4, rfl, rfl, rfl, rfl, rfl, r2, hb', Nat.le_refl _, by omega, hl1, HX5, S7⟩

theorem bl_small : ∀ n : Fin 65, Lib.bitLen n.val < 1000 := by decide +kernel
set_option maxHeartbeats 4000000 in
theorem sort64_c (n : Nat) (h64 : n ≤ 64) : SortsU n := by
  intro blk off cap d w hn hH hb
  have R : Row1 eU w blk off d := ⟨eU_one, hH, hb⟩
  have HP := Lib.hid (fun lim hl => pdq_c blk off cap d w R (by omega) (n + 1) 0 n lim 0 n lim d w n rfl rfl rfl hn rfl (SW.start hH) (by omega) (Nat.zero_le _) (by omega) hl (.inl rfl))
  have hl1 : Lib.bitLen n < 1000 := bl_small ⟨n, by omega⟩
  have hl2 : Lib.bitLen (n : Int).toNat < 1000 := by rw [Int.toNat_natCast]; exact hl1
  have HL := Lib.hid (len_c (n : Int) w (by omega) (by omega))
  have wz : IntKind.u64.wrap (n : Int) = (n : Int) := by rw [IntKind.wrap_u64]; omega
  clear hn hH R
  go_enter Try.func63, Try.ntmps63
  go_wp2_with (first | ((with_reducible refine (HL.out).mono ?_); rintro e w2 ⟨rfl, rfl⟩) | ((with_reducible refine (HP.out _ hl2).mono ?_); rintro e w2 ⟨rfl, d2, S2, P2, O2⟩) | ((with_reducible refine (HP.out _ hl1).mono ?_); rintro e w2 ⟨rfl, d2, S2, P2, O2⟩))
  go_end0
  exact ⟨rfl, d2, S2, P2, O2⟩
end Go.Proofs.Ytemmbgbmkihbaaa
