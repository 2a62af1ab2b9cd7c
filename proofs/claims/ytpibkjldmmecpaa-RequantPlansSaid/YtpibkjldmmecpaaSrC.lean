/- slices.symMergeCmpFunc, whole. (By mksym.py.) -/
import Derived.Test.YtpibkjldmmecpaaSrB
import Derived.Deep.CutRange
import Derived.Deep.DeepCutAuto
namespace Go.Proofs.Ytpibkjldmmecpaa
open Go.RowKit Go.Sort Go.Lib Go.Shelf

theorem rotate_z (k : Nat) (aE : ∀ w, (isAgg 29).run Try.prog w = .ok true w) (zE : ∀ w, (Go.sizeOf 29).run Try.prog w = .ok k w) (enc : Dd → List Value) (f : Value) (blk off cap : Nat) (d0 : Array Dd) (w0 : World) (R : RowK enc k w0 blk off d0)
    (a m b : Nat) (za zm zb : Int) (ha : za = a) (hm : zm = m) (hzb : zb = b) (d : Array Dd) (w : World) (N : Nat) (hN : N = d.size) (hs : d0.size = d.size) (S : SWK enc k w0 blk off d w) (ham : a < m) (hmb : m < b) (hb : b ≤ d.size) (hsz : d.size < 4611686018427387904) :
    Calls Try.prog 36 #[.slice (some ⟨blk, off, none⟩) N cap, .int .i64 za, .int .i64 zm, .int .i64 zb, f] w fun e w' => e = .returned (.tuple #[]) ∧
      ∃ d', SWK enc k w0 blk off d' w' ∧ PermIn a b d d' ∧ ∀ p, d'[p]! = d[rho a m b p]! := by
  subst ha hzb hm hN
  exact rotate_c k aE zE enc f blk off cap a m b d0 d w0 w R hs S ham hmb hb hsz
def CutB (a b m n lo hi : Nat) : Prop := (m > (a + b) / 2 ∧ lo = n - b ∧ hi = (a + b) / 2) ∨ (m ≤ (a + b) / 2 ∧ lo = a ∧ hi = m)
variable (k : Nat) (aE : ∀ w, (isAgg 29).run Try.prog w = .ok true w) (zE : ∀ w, (Go.sizeOf 29).run Try.prog w = .ok k w) (enc : Dd → List Value) (lt : Od → Od → Bool) (cf : Dd → Dd → Int) (hcf : ∀ x y, decide (cf x y < 0) = lt x.1 y.1) (hO : SWO lt)
  (g : Nat) (cb : Array Value) (blk off cap : Nat) (d0 : Array Dd) (w0 : World) (eg : ∀ args w, (callFunc g args).run Try.prog w = .ok (.enter g args) w) (R : RowK enc k w0 blk off d0) (hC : CmpLays Try.prog g cb enc k cf blk off d0.size w0)

set_option maxHeartbeats 4000000 in
set_option maxRecDepth 1000000 in
include aE zE hcf hO eg R hC in
/-- Both runs are more than one element; hi. -/
theorem sym_hi (a m b : Nat) (d : Array Dd) (w : World) (hs : d0.size = d.size) (S : SWK enc k w0 blk off d w) (U : Runs lt a m b d) (ham : a + 1 < m) (hmb : m + 1 < b) (hb : b ≤ d.size) (hsz : d.size < 4611686018427387904)
    (IH : ∀ (a' m' b' : Nat) (za zm zb : Int) (d' : Array Dd) (w' : World) (N : Nat), za = a' → zm = m' → zb = b' → N = d'.size → b' - a' < b - a → d0.size = d'.size → SWK enc k w0 blk off d' w' → Runs lt a' m' b' d' → a' < m' → m' < b' → b' ≤ d'.size →
      Calls Try.prog 30 #[.slice (some ⟨blk, off, none⟩) N cap, .int .i64 za, .int .i64 zm, .int .i64 zb, .func (.func g) #[] cb] w' fun e w'' => e = .returned (.tuple #[]) ∧ ∃ d'', SWK enc k w0 blk off d'' w'' ∧ Merged lt a' b' d' d'')
    (mid : Nat) (hmid : mid = (a + b) / 2) (hm : mid < m) :
    Calls Try.prog 30 #[.slice (some ⟨blk, off, none⟩) d.size cap, .int .i64 a, .int .i64 m, .int .i64 b, .func (.func g) #[] cb] w fun e w' => e = .returned (.tuple #[]) ∧
      ∃ d', SWK enc k w0 blk off d' w' ∧ Merged lt a b d d' := by
  have mixed : Try.prog.follows .mixedOrders = true := by kernel_rfl
  have S0 : Aside (SWK enc k w0 blk off d w) := S
  have HU := Lib.hid U
  have HC : Aside (CmpLays Try.prog g cb enc k cf blk off d0.size w0) := hC
  have HF := Lib.hid hcf
  have HS := Lib.hid hs
  have HI0 : Aside _ := IH
  have e0 : ((m : Int) - (a : Int) == 1) = false := by rw [beq_eq_false_iff_ne]; omega
  have e1 : ((b : Int) - (m : Int) == 1) = false := by rw [beq_eq_false_iff_ne]; omega
  have hz : ((a : Int) + (b : Int)) / 2 = (mid : Int) := by omega
  have hmz : (mid : Int) < (m : Int) := by omega
  obtain ⟨n, hn⟩ : ∃ n, n = mid + m := ⟨_, rfl⟩
  have HN := Lib.hid hn
  have hnz : (mid : Int) + (m : Int) = (n : Int) := by omega
  obtain ⟨p, hp⟩ : ∃ p, n = p + 1 := ⟨n - 1, by omega⟩
  have HP := Lib.hid hp
  have hpz : (n : Int) - 1 = (p : Int) := by omega
  obtain ⟨lo, hlo⟩ : ∃ lo, lo = n - b := ⟨_, rfl⟩
  have hloz : (n : Int) - (b : Int) = (lo : Int) := by omega
  have HB : CutB a b m n lo mid := by unfold CutB; omega
  have lo1 : a ≤ lo := by omega
  have lo2 : lo ≤ mid := by omega
  have hi2 : mid ≤ m := by omega
  have p1 : ∀ c, lo ≤ c → c < mid → m ≤ p - c ∧ p - c < b ∧ c ≤ p := fun c h1 h2 => by omega
  have HP1 := Lib.hid p1
  have HROT := Lib.hid (rotate_z k aE zE enc (.func (.func g) #[] cb) blk off cap d0 w0 R)
  have HMD := Lib.hid hmid
  have HLO := Lib.hid hlo
  have MB : a < mid ∧ mid < b := by omega
  obtain ⟨mb1, mb2⟩ := MB
  have nb : n < 9223372036854775807 := by omega
  clear S hC hcf hs U IH hn hp hlo p1 hmid
  go_enter Try.func30, Try.ntmps30
  go_wp2
  go_loopg [20, 21] b (fun kx s20 s21 wr => ∃ (s r : Nat), s20 = .int .i64 s ∧ s21 = .int .i64 r ∧ lo ≤ s ∧ s ≤ r ∧ r ≤ mid ∧ r - s ≤ kx ∧ Aside (SWK enc k w0 blk off d wr) ∧ Hid ((∀ c, lo ≤ c → c < s → lt (d[p - c]!).1 (d[c]!).1 = false) ∧ ∀ c, r ≤ c → c < mid → lt (d[p - c]!).1 (d[c]!).1 = true))
  case atStart => exact ⟨lo, mid, by first | rfl | rw [HLO.out], rfl, by omega, by omega, by omega, by omega, S0, Lib.hid ⟨fun q h1 h2 => by omega, fun q h1 h2 => by omega⟩⟩
  case round =>
    clear S0
    obtain ⟨s, r, rfl, rfl, hi1, hij, hjb, hkx, S1, HI⟩ := hrel
    by_cases hlt : s < r
    · as_aux_lemma =>
      have hltz : (s : Int) < (r : Int) := by omega
      obtain ⟨c, hh⟩ : ∃ c, c = (s + r) / 2 := ⟨_, rfl⟩
      have hcz : ((s : Int) + (r : Int)) / 2 = (c : Int) := by omega
      have h1 : s ≤ c := by omega
      have h2 : c < r := by omega
      clear hh
      obtain ⟨pc1, pc2, pc3⟩ := HP1.out c (by omega) (by omega)
      obtain ⟨q, hq⟩ : ∃ q, q = p - c := ⟨_, rfl⟩
      have hqz : IntKind.i64.wrap ((p : Int) - (c : Int)) = (q : Int) := by rw [IntKind.wrap_i64]; omega
      rw [← hq] at pc1 pc2
      have HQ := Lib.hid hq
      clear hq
      obtain ⟨x, hx⟩ : ∃ x, d[q]! = x := ⟨_, rfl⟩
      obtain ⟨y, hy⟩ : ∃ y, d[c]! = y := ⟨_, rfl⟩
      have lx := fun n' os' => S1.out.ld R (by first | exact HS.out.symm | rw [HS.out]) Try.prog (q) (by omega) n' os'
      have ly := fun n' os' => S1.out.ld R (by first | exact HS.out.symm | rw [HS.out]) Try.prog (c) (by omega) n' os'
      rw [hx] at lx
      rw [hy] at ly
      have hcg := fun n' os' => S1.out.cmp HC.out (by first | exact HS.out.symm | rw [HS.out]) x y n' os'
      have XY : Hid (d[q]! = x ∧ d[c]! = y) := ⟨hx, hy⟩
      clear hx hy
      have bp : ((q : Nat) : Int) < (d.size : Int) := by omega
      have bq : ((c : Nat) : Int) < (d.size : Int) := by omega
      by_cases hlv : cf x y < 0
      · as_aux_lemma =>
        have HNN : Hid (∀ c', c ≤ c' → c' < mid → lt (d[p - c']!).1 (d[c']!).1 = true) := Lib.hid (fun c' h1' h2' => runs_yes hO HU.out (by omega : a ≤ c) h1' (by omega) (HP1.out c' (by omega) h2').1 (by have := HQ.out; omega : p - c' ≤ q) pc2 (by rw [XY.out.1, XY.out.2]; exact runs_w (r := fun x y : Dd => lt x.1 y.1) (HF.out x y) hlv))
        have hd : decide (cf x y < 0) = true := decide_eq_true hlv
        go_wp2_with fail
        go_quiet_grown (first | (go_at_fn g; refine Calls.grown_of (hcg _ _)))
        have S2 : Aside (SWK enc k w0 blk off d (grow (wr.drewN nq) osq)) := S1.out.grown nq osq
        clear lx ly hcg S1
        generalize grow (wr.drewN nq) osq = w2 at S2 ⊢
        go_wp2
        go_roundg (c - s)
        case measure => omega
        case rel => exact ⟨s, c, rfl, rfl, by omega, by omega, by omega, by omega, S2, Lib.hid ⟨HI.out.1, HNN.out⟩⟩
      · as_aux_lemma =>
        have HNN : Hid (∀ c', lo ≤ c' → c' < c + 1 → lt (d[p - c']!).1 (d[c']!).1 = false) := Lib.hid (fun c' h1' h2' => runs_no hO HU.out (by omega : a ≤ c') (by omega : c' ≤ c) (by omega) pc1 (by have := HQ.out; omega : q ≤ p - c') (HP1.out c' h1' (by omega)).2.1 (by rw [XY.out.1, XY.out.2]; exact runs_n (r := fun x y : Dd => lt x.1 y.1) (HF.out x y) hlv))
        have hd : decide (cf x y < 0) = false := decide_eq_false hlv
        go_wp2_with fail
        go_quiet_grown (first | (go_at_fn g; refine Calls.grown_of (hcg _ _)))
        have S2 : Aside (SWK enc k w0 blk off d (grow (wr.drewN nq) osq)) := S1.out.grown nq osq
        clear lx ly hcg S1
        generalize grow (wr.drewN nq) osq = w2 at S2 ⊢
        go_wp2
        go_roundg (r - (c + 1))
        case measure => omega
        case rel => exact ⟨c + 1, r, by go_num, rfl, by omega, by omega, by omega, by omega, S2, Lib.hid ⟨HNN.out, HI.out.2⟩⟩
    · as_aux_lemma =>
      have hltz : ¬ (s : Int) < (r : Int) := by omega
      obtain rfl : s = r := by omega
      clear hij
      have hpe : ∀ c, n - 1 - c = p - c := fun c => by have := HP.out; omega
      obtain ⟨c1, c2, c3, c4, c5, CUT⟩ := cut_of hO HU.out (s := s) (n := n) (lo := lo) (hi := mid) (by rw [HN.out, HMD.out]) (by omega) (by omega) HB hi1 hjb (fun c h1 h2 => by rw [hpe]; exact HI.out.1 c h1 h2) (fun c h1 h2 => by rw [hpe]; exact HI.out.2 c h1 h2)
      rw [← HMD.out] at c5
      obtain ⟨e, he⟩ : ∃ e, e = n - s := ⟨_, rfl⟩
      rw [← he] at c3 c4 c5 CUT
      have hez : (n : Int) - (s : Int) = (e : Int) := by have := HN.out; omega
      have HCUT := Lib.hid CUT
      clear hpe he CUT HI HB HP1 hkx hjb lo1 lo2 hi1 hltz
      obtain ⟨tb, htb⟩ : ∃ tb : Bool, tb = decide (s < m ∧ m < e) := ⟨_, rfl⟩
      have TB := Lib.hid htb
      clear htb
      go_upto_region 39 with fail
      go_cut [185] (fun sx wx => sx = .bool tb ∧ wx = wr)
      case first =>
        by_cases hr1 : s < m
        · have z1 : (s : Int) < (m : Int) := by omega
          by_cases hr2 : m < e
          · have z2 : (m : Int) < (e : Int) := by omega
            have et : tb = true := by rw [TB.out]; exact decide_eq_true ⟨hr1, hr2⟩
            have ET := Lib.hid et
            clear et
            go_wp2_with fail
            go_meet
            case rel => exact ⟨by rw [ET.out], rfl⟩
          · have z2 : ¬ (m : Int) < (e : Int) := by omega
            have et : tb = false := by rw [TB.out]; exact decide_eq_false (fun h => hr2 h.2)
            have ET := Lib.hid et
            clear et
            go_wp2_with fail
            go_meet
            case rel => exact ⟨by rw [ET.out], rfl⟩
        · have z1 : ¬ (s : Int) < (m : Int) := by omega
          have et : tb = false := by rw [TB.out]; exact decide_eq_false (fun h => hr1 h.1)
          have ET := Lib.hid et
          clear et
          go_wp2_with fail
          go_meet
          case rel => exact ⟨by rw [ET.out], rfl⟩
      case rest =>
      obtain ⟨rfl, rfl⟩ := hcut
      go_upto_if 185 with fail
      go_cut [24] (fun s24 wx => s24 = .int .i64 e ∧ ∃ d1, Aside (SWK enc k w0 blk off d1 wx) ∧ PermIn a b d d1 ∧ Hid (Turned lt a s mid e b d1))
      case first =>
       as_aux_lemma =>
        cases tb with
        | true =>
          have hr := of_decide_eq_true TB.out.symm
          go_wp2_with (((with_reducible refine (HROT.out s m e _ _ _ rfl rfl rfl d _ d.size rfl ?_ ?_ ?_ ?_ ?_ ?_).mono ?_); exact HS.out; exact S1.out; omega; omega; omega; omega); rintro e w2 ⟨rfl, d1, S2, P2, Q2⟩)
          go_meet
          case rel => exact ⟨rfl, d1, S2, permIn_mono _ _ _ _ _ _ (by omega) (by omega) (by omega) P2, Lib.hid (after_rot hO HU.out HCUT.out (by omega) (by omega) (by omega) (by omega) (by omega) Q2)⟩
        | false =>
          have hr : ¬ (s < m ∧ m < e) := of_decide_eq_false TB.out.symm
          have HT : Hid (Turned lt a s mid e b d) := Lib.hid (after_rot hO HU.out HCUT.out (by omega) (by omega) (by omega) (by omega) (by omega) (fun p => by rw [rho_none hr (by omega) (by omega)]))
          go_wp2_with fail
          go_meet
          case rel => exact ⟨rfl, d, S1, permIn_refl _ _ _, HT⟩
      case rest =>
       as_aux_lemma =>
        obtain ⟨rfl, d1, S2, P1, HT⟩ := hcut
        clear S1 HCUT TB
        clear tb
        have D1 : Hid (d1.size = d.size) := P1.1
        obtain ⟨tb, htb⟩ : ∃ tb : Bool, tb = decide (a < s ∧ s < mid) := ⟨_, rfl⟩
        have TB := Lib.hid htb
        clear htb
        go_upto_region 41 with fail
        go_cut [199] (fun sx wx => sx = .bool tb ∧ wx = _)
        case first =>
          by_cases hr1 : a < s
          · have z1 : (a : Int) < (s : Int) := by omega
            by_cases hr2 : s < mid
            · have z2 : (s : Int) < (mid : Int) := by omega
              have et : tb = true := by rw [TB.out]; exact decide_eq_true ⟨hr1, hr2⟩
              have ET := Lib.hid et
              clear et
              go_wp2_with fail
              go_meet
              case rel => exact ⟨by rw [ET.out], rfl⟩
            · have z2 : ¬ (s : Int) < (mid : Int) := by omega
              have et : tb = false := by rw [TB.out]; exact decide_eq_false (fun h => hr2 h.2)
              have ET := Lib.hid et
              clear et
              go_wp2_with fail
              go_meet
              case rel => exact ⟨by rw [ET.out], rfl⟩
          · have z1 : ¬ (a : Int) < (s : Int) := by omega
            have et : tb = false := by rw [TB.out]; exact decide_eq_false (fun h => hr1 h.1)
            have ET := Lib.hid et
            clear et
            go_wp2_with fail
            go_meet
            case rel => exact ⟨by rw [ET.out], rfl⟩
        case rest =>
        obtain ⟨rfl, rfl⟩ := hcut
        go_upto_if 199 with fail
        go_cut [24] (fun s24 wx => s24 = .int .i64 e ∧ ∃ d2, Aside (SWK enc k w0 blk off d2 wx) ∧ Hid (Merged lt a mid d1 d2))
        case first =>
         as_aux_lemma =>
          cases tb with
          | true =>
            have hr := of_decide_eq_true TB.out.symm
            go_wp2_with (((with_reducible refine (HI0.out a s mid _ _ _ d1 _ d.size rfl rfl rfl ?_ ?_ ?_ ?_ ?_ ?_ ?_ ?_).mono ?_); exact D1.out.symm; omega; (rw [D1.out]; exact HS.out); exact S2.out; exact HT.out.l; omega; omega; (rw [D1.out]; omega)); rintro e w2 ⟨rfl, d2, S3, M2⟩)
            go_meet
            case rel => exact ⟨rfl, d2, S3, Lib.hid M2⟩
          | false =>
            have HM := Lib.hid (runs_one HT.out.l (of_decide_eq_false TB.out.symm) (by omega) (by omega))
            go_wp2_with fail
            go_meet
            case rel => exact ⟨rfl, d1, S2, HM⟩
        case rest =>
         as_aux_lemma =>
          obtain ⟨rfl, d2, S3, HM⟩ := hcut
          have D2 : Hid (d2.size = d.size) := by show _ = _; rw [HM.out.1.1, D1.out]
          have HT2 : Hid (Runs lt mid e b d2) := Lib.hid (HT.out.r.next HM.out.1 (by omega))
          clear S2 TB
          by_cases hr : mid < e ∧ e < b
          · obtain ⟨hr1, hr2⟩ := hr
            have z1 : (mid : Int) < (e : Int) := by omega
            have z2 : (e : Int) < (b : Int) := by omega
            go_wp2_with (((with_reducible refine (HI0.out mid e b _ _ _ d2 _ d.size rfl rfl rfl ?_ ?_ ?_ ?_ ?_ ?_ ?_ ?_).mono ?_); exact D2.out.symm; omega; (rw [D2.out]; exact HS.out); exact S3.out; exact HT2.out; omega; omega; (rw [D2.out]; omega)); rintro e w2 ⟨rfl, d3, S4, M3⟩)
            go_end0
            exact ⟨rfl, d3, S4, merge_all HT.out P1 HM.out M3 (by omega) (by omega) hb⟩
          · have HMF : Hid (Merged lt a b d d2) := Lib.hid (merge_all HT.out P1 HM.out (runs_one HT2.out hr (by omega) (by omega)) (by omega) (by omega) hb)
            by_cases hr1 : mid < e
            · have z1 : (mid : Int) < (e : Int) := by omega
              have z2 : ¬ (e : Int) < (b : Int) := by omega
              go_wp2_with fail
              go_end0
              exact ⟨rfl, d2, S3.out, HMF.out⟩
            · have z1 : ¬ (mid : Int) < (e : Int) := by omega
              go_wp2_with fail
              go_end0
              exact ⟨rfl, d2, S3.out, HMF.out⟩

set_option maxHeartbeats 4000000 in
set_option maxRecDepth 1000000 in
include aE zE hcf hO eg R hC in
/-- Both runs are more than one element; lo. -/
theorem sym_lo (a m b : Nat) (d : Array Dd) (w : World) (hs : d0.size = d.size) (S : SWK enc k w0 blk off d w) (U : Runs lt a m b d) (ham : a + 1 < m) (hmb : m + 1 < b) (hb : b ≤ d.size) (hsz : d.size < 4611686018427387904)
    (IH : ∀ (a' m' b' : Nat) (za zm zb : Int) (d' : Array Dd) (w' : World) (N : Nat), za = a' → zm = m' → zb = b' → N = d'.size → b' - a' < b - a → d0.size = d'.size → SWK enc k w0 blk off d' w' → Runs lt a' m' b' d' → a' < m' → m' < b' → b' ≤ d'.size →
      Calls Try.prog 30 #[.slice (some ⟨blk, off, none⟩) N cap, .int .i64 za, .int .i64 zm, .int .i64 zb, .func (.func g) #[] cb] w' fun e w'' => e = .returned (.tuple #[]) ∧ ∃ d'', SWK enc k w0 blk off d'' w'' ∧ Merged lt a' b' d' d'')
    (mid : Nat) (hmid : mid = (a + b) / 2) (hm : m ≤ mid) :
    Calls Try.prog 30 #[.slice (some ⟨blk, off, none⟩) d.size cap, .int .i64 a, .int .i64 m, .int .i64 b, .func (.func g) #[] cb] w fun e w' => e = .returned (.tuple #[]) ∧
      ∃ d', SWK enc k w0 blk off d' w' ∧ Merged lt a b d d' := by
  have mixed : Try.prog.follows .mixedOrders = true := by kernel_rfl
  have S0 : Aside (SWK enc k w0 blk off d w) := S
  have HU := Lib.hid U
  have HC : Aside (CmpLays Try.prog g cb enc k cf blk off d0.size w0) := hC
  have HF := Lib.hid hcf
  have HS := Lib.hid hs
  have HI0 : Aside _ := IH
  have e0 : ((m : Int) - (a : Int) == 1) = false := by rw [beq_eq_false_iff_ne]; omega
  have e1 : ((b : Int) - (m : Int) == 1) = false := by rw [beq_eq_false_iff_ne]; omega
  have hz : ((a : Int) + (b : Int)) / 2 = (mid : Int) := by omega
  have hmz : ¬ (mid : Int) < (m : Int) := by omega
  obtain ⟨n, hn⟩ : ∃ n, n = mid + m := ⟨_, rfl⟩
  have HN := Lib.hid hn
  have hnz : (mid : Int) + (m : Int) = (n : Int) := by omega
  obtain ⟨p, hp⟩ : ∃ p, n = p + 1 := ⟨n - 1, by omega⟩
  have HP := Lib.hid hp
  have hpz : (n : Int) - 1 = (p : Int) := by omega
  obtain ⟨lo, hlo⟩ : ∃ lo, lo = a := ⟨_, rfl⟩
  have HB : CutB a b m n lo m := by unfold CutB; omega
  have lo1 : a ≤ lo := by omega
  have lo2 : lo ≤ m := by omega
  have hi2 : m ≤ m := by omega
  have p1 : ∀ c, lo ≤ c → c < m → m ≤ p - c ∧ p - c < b ∧ c ≤ p := fun c h1 h2 => by omega
  have HP1 := Lib.hid p1
  have HROT := Lib.hid (rotate_z k aE zE enc (.func (.func g) #[] cb) blk off cap d0 w0 R)
  have HMD := Lib.hid hmid
  have HLO := Lib.hid hlo
  have MB : a < mid ∧ mid < b := by omega
  obtain ⟨mb1, mb2⟩ := MB
  have nb : n < 9223372036854775807 := by omega
  clear S hC hcf hs U IH hn hp hlo p1 hmid
  go_enter Try.func30, Try.ntmps30
  go_wp2
  go_loopg [20, 21] b (fun kx s20 s21 wr => ∃ (s r : Nat), s20 = .int .i64 s ∧ s21 = .int .i64 r ∧ lo ≤ s ∧ s ≤ r ∧ r ≤ m ∧ r - s ≤ kx ∧ Aside (SWK enc k w0 blk off d wr) ∧ Hid ((∀ c, lo ≤ c → c < s → lt (d[p - c]!).1 (d[c]!).1 = false) ∧ ∀ c, r ≤ c → c < m → lt (d[p - c]!).1 (d[c]!).1 = true))
  case atStart => exact ⟨lo, m, by first | rfl | rw [HLO.out], rfl, by omega, by omega, by omega, by omega, S0, Lib.hid ⟨fun q h1 h2 => by omega, fun q h1 h2 => by omega⟩⟩
  case round =>
    clear S0
    obtain ⟨s, r, rfl, rfl, hi1, hij, hjb, hkx, S1, HI⟩ := hrel
    by_cases hlt : s < r
    · as_aux_lemma =>
      have hltz : (s : Int) < (r : Int) := by omega
      obtain ⟨c, hh⟩ : ∃ c, c = (s + r) / 2 := ⟨_, rfl⟩
      have hcz : ((s : Int) + (r : Int)) / 2 = (c : Int) := by omega
      have h1 : s ≤ c := by omega
      have h2 : c < r := by omega
      clear hh
      obtain ⟨pc1, pc2, pc3⟩ := HP1.out c (by omega) (by omega)
      obtain ⟨q, hq⟩ : ∃ q, q = p - c := ⟨_, rfl⟩
      have hqz : IntKind.i64.wrap ((p : Int) - (c : Int)) = (q : Int) := by rw [IntKind.wrap_i64]; omega
      rw [← hq] at pc1 pc2
      have HQ := Lib.hid hq
      clear hq
      obtain ⟨x, hx⟩ : ∃ x, d[q]! = x := ⟨_, rfl⟩
      obtain ⟨y, hy⟩ : ∃ y, d[c]! = y := ⟨_, rfl⟩
      have lx := fun n' os' => S1.out.ld R (by first | exact HS.out.symm | rw [HS.out]) Try.prog (q) (by omega) n' os'
      have ly := fun n' os' => S1.out.ld R (by first | exact HS.out.symm | rw [HS.out]) Try.prog (c) (by omega) n' os'
      rw [hx] at lx
      rw [hy] at ly
      have hcg := fun n' os' => S1.out.cmp HC.out (by first | exact HS.out.symm | rw [HS.out]) x y n' os'
      have XY : Hid (d[q]! = x ∧ d[c]! = y) := ⟨hx, hy⟩
      clear hx hy
      have bp : ((q : Nat) : Int) < (d.size : Int) := by omega
      have bq : ((c : Nat) : Int) < (d.size : Int) := by omega
      by_cases hlv : cf x y < 0
      · as_aux_lemma =>
        have HNN : Hid (∀ c', c ≤ c' → c' < m → lt (d[p - c']!).1 (d[c']!).1 = true) := Lib.hid (fun c' h1' h2' => runs_yes hO HU.out (by omega : a ≤ c) h1' (by omega) (HP1.out c' (by omega) h2').1 (by have := HQ.out; omega : p - c' ≤ q) pc2 (by rw [XY.out.1, XY.out.2]; exact runs_w (r := fun x y : Dd => lt x.1 y.1) (HF.out x y) hlv))
        have hd : decide (cf x y < 0) = true := decide_eq_true hlv
        go_wp2_with fail
        go_quiet_grown (first | (go_at_fn g; refine Calls.grown_of (hcg _ _)))
        have S2 : Aside (SWK enc k w0 blk off d (grow (wr.drewN nq) osq)) := S1.out.grown nq osq
        clear lx ly hcg S1
        generalize grow (wr.drewN nq) osq = w2 at S2 ⊢
        go_wp2
        go_roundg (c - s)
        case measure => omega
        case rel => exact ⟨s, c, rfl, rfl, by omega, by omega, by omega, by omega, S2, Lib.hid ⟨HI.out.1, HNN.out⟩⟩
      · as_aux_lemma =>
        have HNN : Hid (∀ c', lo ≤ c' → c' < c + 1 → lt (d[p - c']!).1 (d[c']!).1 = false) := Lib.hid (fun c' h1' h2' => runs_no hO HU.out (by omega : a ≤ c') (by omega : c' ≤ c) (by omega) pc1 (by have := HQ.out; omega : q ≤ p - c') (HP1.out c' h1' (by omega)).2.1 (by rw [XY.out.1, XY.out.2]; exact runs_n (r := fun x y : Dd => lt x.1 y.1) (HF.out x y) hlv))
        have hd : decide (cf x y < 0) = false := decide_eq_false hlv
        go_wp2_with fail
        go_quiet_grown (first | (go_at_fn g; refine Calls.grown_of (hcg _ _)))
        have S2 : Aside (SWK enc k w0 blk off d (grow (wr.drewN nq) osq)) := S1.out.grown nq osq
        clear lx ly hcg S1
        generalize grow (wr.drewN nq) osq = w2 at S2 ⊢
        go_wp2
        go_roundg (r - (c + 1))
        case measure => omega
        case rel => exact ⟨c + 1, r, by go_num, rfl, by omega, by omega, by omega, by omega, S2, Lib.hid ⟨HNN.out, HI.out.2⟩⟩
    · as_aux_lemma =>
      have hltz : ¬ (s : Int) < (r : Int) := by omega
      obtain rfl : s = r := by omega
      clear hij
      have hpe : ∀ c, n - 1 - c = p - c := fun c => by have := HP.out; omega
      obtain ⟨c1, c2, c3, c4, c5, CUT⟩ := cut_of hO HU.out (s := s) (n := n) (lo := lo) (hi := m) (by rw [HN.out, HMD.out]) (by omega) (by omega) HB hi1 hjb (fun c h1 h2 => by rw [hpe]; exact HI.out.1 c h1 h2) (fun c h1 h2 => by rw [hpe]; exact HI.out.2 c h1 h2)
      rw [← HMD.out] at c5
      obtain ⟨e, he⟩ : ∃ e, e = n - s := ⟨_, rfl⟩
      rw [← he] at c3 c4 c5 CUT
      have hez : (n : Int) - (s : Int) = (e : Int) := by have := HN.out; omega
      have HCUT := Lib.hid CUT
      clear hpe he CUT HI HB HP1 hkx hjb lo1 lo2 hi1 hltz
      obtain ⟨tb, htb⟩ : ∃ tb : Bool, tb = decide (s < m ∧ m < e) := ⟨_, rfl⟩
      have TB := Lib.hid htb
      clear htb
      go_upto_region 39 with fail
      go_cut [185] (fun sx wx => sx = .bool tb ∧ wx = wr)
      case first =>
        by_cases hr1 : s < m
        · have z1 : (s : Int) < (m : Int) := by omega
          by_cases hr2 : m < e
          · have z2 : (m : Int) < (e : Int) := by omega
            have et : tb = true := by rw [TB.out]; exact decide_eq_true ⟨hr1, hr2⟩
            have ET := Lib.hid et
            clear et
            go_wp2_with fail
            go_meet
            case rel => exact ⟨by rw [ET.out], rfl⟩
          · have z2 : ¬ (m : Int) < (e : Int) := by omega
            have et : tb = false := by rw [TB.out]; exact decide_eq_false (fun h => hr2 h.2)
            have ET := Lib.hid et
            clear et
            go_wp2_with fail
            go_meet
            case rel => exact ⟨by rw [ET.out], rfl⟩
        · have z1 : ¬ (s : Int) < (m : Int) := by omega
          have et : tb = false := by rw [TB.out]; exact decide_eq_false (fun h => hr1 h.1)
          have ET := Lib.hid et
          clear et
          go_wp2_with fail
          go_meet
          case rel => exact ⟨by rw [ET.out], rfl⟩
      case rest =>
      obtain ⟨rfl, rfl⟩ := hcut
      go_upto_if 185 with fail
      go_cut [24] (fun s24 wx => s24 = .int .i64 e ∧ ∃ d1, Aside (SWK enc k w0 blk off d1 wx) ∧ PermIn a b d d1 ∧ Hid (Turned lt a s mid e b d1))
      case first =>
       as_aux_lemma =>
        cases tb with
        | true =>
          have hr := of_decide_eq_true TB.out.symm
          go_wp2_with (((with_reducible refine (HROT.out s m e _ _ _ rfl rfl rfl d _ d.size rfl ?_ ?_ ?_ ?_ ?_ ?_).mono ?_); exact HS.out; exact S1.out; omega; omega; omega; omega); rintro e w2 ⟨rfl, d1, S2, P2, Q2⟩)
          go_meet
          case rel => exact ⟨rfl, d1, S2, permIn_mono _ _ _ _ _ _ (by omega) (by omega) (by omega) P2, Lib.hid (after_rot hO HU.out HCUT.out (by omega) (by omega) (by omega) (by omega) (by omega) Q2)⟩
        | false =>
          have hr : ¬ (s < m ∧ m < e) := of_decide_eq_false TB.out.symm
          have HT : Hid (Turned lt a s mid e b d) := Lib.hid (after_rot hO HU.out HCUT.out (by omega) (by omega) (by omega) (by omega) (by omega) (fun p => by rw [rho_none hr (by omega) (by omega)]))
          go_wp2_with fail
          go_meet
          case rel => exact ⟨rfl, d, S1, permIn_refl _ _ _, HT⟩
      case rest =>
       as_aux_lemma =>
        obtain ⟨rfl, d1, S2, P1, HT⟩ := hcut
        clear S1 HCUT TB
        clear tb
        have D1 : Hid (d1.size = d.size) := P1.1
        obtain ⟨tb, htb⟩ : ∃ tb : Bool, tb = decide (a < s ∧ s < mid) := ⟨_, rfl⟩
        have TB := Lib.hid htb
        clear htb
        go_upto_region 41 with fail
        go_cut [199] (fun sx wx => sx = .bool tb ∧ wx = _)
        case first =>
          by_cases hr1 : a < s
          · have z1 : (a : Int) < (s : Int) := by omega
            by_cases hr2 : s < mid
            · have z2 : (s : Int) < (mid : Int) := by omega
              have et : tb = true := by rw [TB.out]; exact decide_eq_true ⟨hr1, hr2⟩
              have ET := Lib.hid et
              clear et
              go_wp2_with fail
              go_meet
              case rel => exact ⟨by rw [ET.out], rfl⟩
            · have z2 : ¬ (s : Int) < (mid : Int) := by omega
              have et : tb = false := by rw [TB.out]; exact decide_eq_false (fun h => hr2 h.2)
              have ET := Lib.hid et
              clear et
              go_wp2_with fail
              go_meet
              case rel => exact ⟨by rw [ET.out], rfl⟩
          · have z1 : ¬ (a : Int) < (s : Int) := by omega
            have et : tb = false := by rw [TB.out]; exact decide_eq_false (fun h => hr1 h.1)
            have ET := Lib.hid et
            clear et
            go_wp2_with fail
            go_meet
            case rel => exact ⟨by rw [ET.out], rfl⟩
        case rest =>
        obtain ⟨rfl, rfl⟩ := hcut
        go_upto_if 199 with fail
        go_cut [24] (fun s24 wx => s24 = .int .i64 e ∧ ∃ d2, Aside (SWK enc k w0 blk off d2 wx) ∧ Hid (Merged lt a mid d1 d2))
        case first =>
         as_aux_lemma =>
          cases tb with
          | true =>
            have hr := of_decide_eq_true TB.out.symm
            go_wp2_with (((with_reducible refine (HI0.out a s mid _ _ _ d1 _ d.size rfl rfl rfl ?_ ?_ ?_ ?_ ?_ ?_ ?_ ?_).mono ?_); exact D1.out.symm; omega; (rw [D1.out]; exact HS.out); exact S2.out; exact HT.out.l; omega; omega; (rw [D1.out]; omega)); rintro e w2 ⟨rfl, d2, S3, M2⟩)
            go_meet
            case rel => exact ⟨rfl, d2, S3, Lib.hid M2⟩
          | false =>
            have HM := Lib.hid (runs_one HT.out.l (of_decide_eq_false TB.out.symm) (by omega) (by omega))
            go_wp2_with fail
            go_meet
            case rel => exact ⟨rfl, d1, S2, HM⟩
        case rest =>
         as_aux_lemma =>
          obtain ⟨rfl, d2, S3, HM⟩ := hcut
          have D2 : Hid (d2.size = d.size) := by show _ = _; rw [HM.out.1.1, D1.out]
          have HT2 : Hid (Runs lt mid e b d2) := Lib.hid (HT.out.r.next HM.out.1 (by omega))
          clear S2 TB
          by_cases hr : mid < e ∧ e < b
          · obtain ⟨hr1, hr2⟩ := hr
            have z1 : (mid : Int) < (e : Int) := by omega
            have z2 : (e : Int) < (b : Int) := by omega
            go_wp2_with (((with_reducible refine (HI0.out mid e b _ _ _ d2 _ d.size rfl rfl rfl ?_ ?_ ?_ ?_ ?_ ?_ ?_ ?_).mono ?_); exact D2.out.symm; omega; (rw [D2.out]; exact HS.out); exact S3.out; exact HT2.out; omega; omega; (rw [D2.out]; omega)); rintro e w2 ⟨rfl, d3, S4, M3⟩)
            go_end0
            exact ⟨rfl, d3, S4, merge_all HT.out P1 HM.out M3 (by omega) (by omega) hb⟩
          · have HMF : Hid (Merged lt a b d d2) := Lib.hid (merge_all HT.out P1 HM.out (runs_one HT2.out hr (by omega) (by omega)) (by omega) (by omega) hb)
            by_cases hr1 : mid < e
            · have z1 : (mid : Int) < (e : Int) := by omega
              have z2 : ¬ (e : Int) < (b : Int) := by omega
              go_wp2_with fail
              go_end0
              exact ⟨rfl, d2, S3.out, HMF.out⟩
            · have z1 : ¬ (mid : Int) < (e : Int) := by omega
              go_wp2_with fail
              go_end0
              exact ⟨rfl, d2, S3.out, HMF.out⟩

include aE zE hcf hO eg R hC in
theorem symMerge_c : ∀ (N a m b : Nat) (za zm zb : Int) (d : Array Dd) (w : World) (n : Nat), b - a ≤ N → za = a → zm = m → zb = b → n = d.size → d0.size = d.size → SWK enc k w0 blk off d w → Runs lt a m b d → a < m → m < b → b ≤ d.size → d.size < 4611686018427387904 →
    Calls Try.prog 30 #[.slice (some ⟨blk, off, none⟩) n cap, .int .i64 za, .int .i64 zm, .int .i64 zb, .func (.func g) #[] cb] w fun e w' => e = .returned (.tuple #[]) ∧
      ∃ d', SWK enc k w0 blk off d' w' ∧ Merged lt a b d d'
  | 0, a, m, b, _, _, _, _, _, _, hN, _, _, _, _, _, _, _, ham, hmb, _, _ => by omega
  | N + 1, a, m, b, za, zm, zb, d, w, n, hN, ha, hm, hb', hn, hs, S, U, ham, hmb, hb, hsz => by
    subst ha hm hb' hn
    by_cases h1 : m = a + 1
    · subst h1
      have := sym_first k aE zE enc lt cf hcf hO g cb blk off cap d0 w0 eg R hC a b d w hs S U hmb hb hsz
      rw [← Int.natCast_add_one] at this
      exact this
    · by_cases h2 : b = m + 1
      · subst h2
        have := sym_last k aE zE enc lt cf hcf hO g cb blk off cap d0 w0 eg R hC a m d w hs S U (by omega) hb hsz
        rw [← Int.natCast_add_one] at this
        exact this
      · have IH : ∀ (a' m' b' : Nat) (za zm zb : Int) (d' : Array Dd) (w' : World) (N' : Nat), za = a' → zm = m' → zb = b' → N' = d'.size → b' - a' < b - a → d0.size = d'.size → SWK enc k w0 blk off d' w' → Runs lt a' m' b' d' → a' < m' → m' < b' → b' ≤ d'.size →
            Calls Try.prog 30 #[.slice (some ⟨blk, off, none⟩) N' cap, .int .i64 za, .int .i64 zm, .int .i64 zb, .func (.func g) #[] cb] w' fun e w'' => e = .returned (.tuple #[]) ∧ ∃ d'', SWK enc k w0 blk off d'' w'' ∧ Merged lt a' b' d' d'' :=
          fun a' m' b' za zm zb d' w' N' q1 q2 q3 q4 q5 q6 q7 q8 q9 q10 q11 => symMerge_c N a' m' b' za zm zb d' w' N' (by omega) q1 q2 q3 q4 q6 q7 q8 q9 q10 q11 (by omega)
        by_cases h3 : (a + b) / 2 < m
        · exact sym_hi k aE zE enc lt cf hcf hO g cb blk off cap d0 w0 eg R hC a m b d w hs S U (by omega) (by omega) hb hsz IH _ rfl h3
        · exact sym_lo k aE zE enc lt cf hcf hO g cb blk off cap d0 w0 eg R hC a m b d w hs S U (by omega) (by omega) hb hsz IH _ rfl (by omega)
end Go.Proofs.Ytpibkjldmmecpaa
