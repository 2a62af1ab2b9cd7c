/- slices.symMergeCmpFunc. (By mksym.py.) -/
import Derived.Test.YtpibkjldmmecpaaSrA
namespace Go.Proofs.Ytpibkjldmmecpaa
open Go.RowKit Go.Sort Go.Lib Go.Shelf

theorem runs_w {α : Type} {r : α → α → Bool} {x y : α} {c : Int} (h : decide (c < 0) = r x y) (hc : c < 0) : r x y = true := by rw [← h]; exact decide_eq_true hc
theorem runs_n {α : Type} {r : α → α → Bool} {x y : α} {c : Int} (h : decide (c < 0) = r x y) (hc : ¬ c < 0) : r x y = false := by rw [← h]; exact decide_eq_false hc
variable (k : Nat) (aE : ∀ w, (isAgg 29).run Try.prog w = .ok true w) (zE : ∀ w, (Go.sizeOf 29).run Try.prog w = .ok k w) (enc : Dd → List Value) (lt : Od → Od → Bool) (cf : Dd → Dd → Int) (hcf : ∀ x y, decide (cf x y < 0) = lt x.1 y.1) (hO : SWO lt)
  (g : Nat) (cb : Array Value) (blk off cap : Nat) (d0 : Array Dd) (w0 : World) (eg : ∀ args w, (callFunc g args).run Try.prog w = .ok (.enter g args) w) (R : RowK enc k w0 blk off d0) (hC : CmpLays Try.prog g cb enc k cf blk off d0.size w0)
set_option maxHeartbeats 4000000 in
set_option maxRecDepth 1000000 in
include aE zE hcf hO eg R hC in
/-- The first run is one element. -/
theorem sym_first (a b : Nat) (d : Array Dd) (w : World) (hs : d0.size = d.size) (S : SWK enc k w0 blk off d w) (U : Runs lt a (a + 1) b d) (hab : a + 1 < b) (hb : b ≤ d.size) (hsz : d.size < 4611686018427387904) :
    Calls Try.prog 30 #[.slice (some ⟨blk, off, none⟩) d.size cap, .int .i64 a, .int .i64 ((a : Int) + 1), .int .i64 b, .func (.func g) #[] cb] w fun e w' => e = .returned (.tuple #[]) ∧
      ∃ d', SWK enc k w0 blk off d' w' ∧ Merged lt a b d d' := by
  have mixed : Try.prog.follows .mixedOrders = true := by kernel_rfl
  have S0 : Aside (SWK enc k w0 blk off d w) := S
  have HU := Lib.hid U
  have HC : Aside (CmpLays Try.prog g cb enc k cf blk off d0.size w0) := hC
  have HF := Lib.hid hcf
  have HS := Lib.hid hs
  have e1 : ((a : Int) + 1 - (a : Int) == 1) = true := by rw [beq_iff_eq]; omega
  clear S hC hcf hs U
  go_enter Try.func30, Try.ntmps30
  go_wp2
  go_loopg [10, 11] b (fun kx s10 s11 wr => ∃ (i j : Nat), s10 = .int .i64 i ∧ s11 = .int .i64 j ∧ a + 1 ≤ i ∧ i ≤ j ∧ j ≤ b ∧ j - i ≤ kx ∧ Aside (SWK enc k w0 blk off d wr) ∧ Hid ((∀ q, a + 1 ≤ q → q < i → lt (d[q]!).1 (d[a]!).1 = true) ∧ ∀ q, j ≤ q → q < b → lt (d[q]!).1 (d[a]!).1 = false))
  case atStart => exact ⟨a + 1, b, by go_num, rfl, by omega, by omega, by omega, by omega, S0, Lib.hid ⟨fun q h1 h2 => by omega, fun q h1 h2 => by omega⟩⟩
  case round =>
    clear S0
    obtain ⟨i, j, rfl, rfl, hi, hij, hjb, hkx, S1, HI⟩ := hrel
    by_cases hlt : i < j
    · have hltz : (i : Int) < (j : Int) := by omega
      obtain ⟨h, hh⟩ : ∃ h, h = (i + j) / 2 := ⟨_, rfl⟩
      have hz : ((i : Int) + (j : Int)) / 2 = (h : Int) := by omega
      have h1 : i ≤ h := by omega
      have h2 : h < j := by omega
      clear hh
      obtain ⟨x, hx⟩ : ∃ x, d[h]! = x := ⟨_, rfl⟩
      obtain ⟨y, hy⟩ : ∃ y, d[a]! = y := ⟨_, rfl⟩
      have lx := fun n' os' => S1.out.ld R (by first | exact HS.out.symm | rw [HS.out]) Try.prog (h) (by omega) n' os'
      have ly := fun n' os' => S1.out.ld R (by first | exact HS.out.symm | rw [HS.out]) Try.prog (a) (by omega) n' os'
      rw [hx] at lx
      rw [hy] at ly
      have hcg := fun n' os' => S1.out.cmp HC.out (by first | exact HS.out.symm | rw [HS.out]) x y n' os'
      have XY : Hid (d[h]! = x ∧ d[a]! = y) := ⟨hx, hy⟩
      clear hx hy
      have bp : ((h : Nat) : Int) < (d.size : Int) := by omega
      have bq : ((a : Nat) : Int) < (d.size : Int) := by omega
      by_cases hlv : cf x y < 0
      · have HN : Hid (∀ q, a + 1 ≤ q → q < h + 1 → lt (d[q]!).1 (d[a]!).1 = true) := Lib.hid (fun q hq hqh => runs_yes hO HU.out (Nat.le_refl _) (Nat.le_refl _) (by omega) hq (by omega) (by omega : h < b) (by rw [XY.out.1, XY.out.2]; exact runs_w (r := fun x y : Dd => lt x.1 y.1) (HF.out x y) hlv))
        go_wp2_with fail
        go_quiet_grown (first | (go_at_fn g; refine Calls.grown_of (hcg _ _)))
        have S2 : Aside (SWK enc k w0 blk off d (grow (wr.drewN nq) osq)) := S1.out.grown nq osq
        clear lx ly hcg S1
        generalize grow (wr.drewN nq) osq = w2 at S2 ⊢
        go_wp2
        go_roundg (j - (h + 1))
        case measure => omega
        case rel => exact ⟨h + 1, j, by go_num, rfl, by omega, by omega, by omega, by omega, S2, Lib.hid ⟨HN.out, HI.out.2⟩⟩
      · have HN : Hid (∀ q, h ≤ q → q < b → lt (d[q]!).1 (d[a]!).1 = false) := Lib.hid (fun q hq hqb => runs_no hO HU.out (Nat.le_refl _) (Nat.le_refl _) (by omega) (by omega : a + 1 ≤ h) hq hqb (by rw [XY.out.1, XY.out.2]; exact runs_n (r := fun x y : Dd => lt x.1 y.1) (HF.out x y) hlv))
        go_wp2_with fail
        go_quiet_grown (first | (go_at_fn g; refine Calls.grown_of (hcg _ _)))
        have S2 : Aside (SWK enc k w0 blk off d (grow (wr.drewN nq) osq)) := S1.out.grown nq osq
        clear lx ly hcg S1
        generalize grow (wr.drewN nq) osq = w2 at S2 ⊢
        go_wp2
        go_roundg (h - i)
        case measure => omega
        case rel => exact ⟨i, h, rfl, rfl, by omega, by omega, by omega, by omega, S2, Lib.hid ⟨HI.out.1, HN.out⟩⟩
    · have hltz : ¬ (i : Int) < (j : Int) := by omega
      obtain rfl : i = j := by omega
      clear hij
      go_wp2
      go_loopg [13] b (fun kx s13 wr => ∃ (c : Nat) (dk : Array Dd), s13 = .int .i64 c ∧ a ≤ c ∧ c + 1 ≤ i ∧ i - c ≤ kx ∧ dk.size = d.size ∧ Aside (SWK enc k w0 blk off dk wr) ∧ Hid (Shl a i c d dk))
      case atStart => exact ⟨a, d, rfl, by omega, by omega, by omega, rfl, S1, Lib.hid (Shl.start a i d)⟩
      case round =>
        clear S1
        obtain ⟨c, dk, rfl, hac, hci, hkx', hds, S1, HSh⟩ := hrel
        by_cases hlt2 : c + 1 < i
        · have hltz2 : (c : Int) < (i : Int) - 1 := by omega
          have HQ : Hid (Shl a i (c + 1) d (swp dk c (c + 1))) := Lib.hid (HSh.out.step hac hlt2 (by omega))
          have HD := Lib.hid hds
          have S2 : Aside (SWK enc k w0 blk off (swp dk (c) (c + 1)) ((wr.drew.setCells blk (off + (c) * k) (enc dk[c + 1]!)).setCells blk (off + (c + 1) * k) (enc dk[c]!))) := S1.out.swapped R (c) (c + 1) (by omega) (by omega)
          have l44a := S1.out.ld1 R (by rw [HD.out]; exact HS.out.symm) Try.prog (c) (by omega)
          have l44b := S1.out.ld1 R (by rw [HD.out]; exact HS.out.symm) Try.prog (c + 1) (by omega)
          have s44a := S1.out.st1 R (by rw [HD.out]; exact HS.out.symm) Try.prog (c) (by omega) dk[c + 1]!
          have s44b := S1.out.st2 R (by rw [HD.out]; exact HS.out.symm) Try.prog (c) (c + 1) (by omega) (by omega) dk[c + 1]! dk[c]!
          have n44a : (enc dk[c]!).length = k := R.hk _
          have n44b : (enc dk[c + 1]!).length = k := R.hk _
          generalize enc dk[c]! = cI44 at S2 l44a s44b n44a
          generalize enc dk[c + 1]! = cJ44 at S2 l44b s44a s44b n44b
          clear S1
          go_wp2_with fail
          go_big_region
          clear l44a l44b s44a s44b
          generalize (wr.drew.setCells blk (off + (c) * k) cJ44).setCells blk (off + (c + 1) * k) cI44 = w2 at S2 ⊢
          go_wp2
          go_roundg (i - (c + 1))
          case measure => omega
          case rel => exact ⟨c + 1, swp dk c (c + 1), by go_num, by omega, by omega, by omega, by rw [size_swp]; exact HD.out, S2, HQ⟩
        · have hltz2 : ¬ (c : Int) < (i : Int) - 1 := by omega
          have HM : Hid (Merged lt a b d dk) := Lib.hid (shl_merged hO HU.out HSh.out (by omega) hjb hb (by omega) HI.out.1 HI.out.2)
          clear hds
          go_wp2
          (try simp only [Exit.inBlock, Exit.then])
          refine bodyPost_ret (results_none rfl _ _ _) rfl ?_
          exact ⟨rfl, dk, S1.out, HM.out⟩
set_option maxHeartbeats 4000000 in
set_option maxRecDepth 1000000 in
include aE zE hcf hO eg R hC in
/-- The second run is one element. -/
theorem sym_last (a m : Nat) (d : Array Dd) (w : World) (hs : d0.size = d.size) (S : SWK enc k w0 blk off d w) (U : Runs lt a m (m + 1) d) (ham : a + 1 < m) (hb : m + 1 ≤ d.size) (hsz : d.size < 4611686018427387904) :
    Calls Try.prog 30 #[.slice (some ⟨blk, off, none⟩) d.size cap, .int .i64 a, .int .i64 m, .int .i64 ((m : Int) + 1), .func (.func g) #[] cb] w fun e w' => e = .returned (.tuple #[]) ∧
      ∃ d', SWK enc k w0 blk off d' w' ∧ Merged lt a (m + 1) d d' := by
  have mixed : Try.prog.follows .mixedOrders = true := by kernel_rfl
  have S0 : Aside (SWK enc k w0 blk off d w) := S
  have HU := Lib.hid U
  have HC : Aside (CmpLays Try.prog g cb enc k cf blk off d0.size w0) := hC
  have HF := Lib.hid hcf
  have HS := Lib.hid hs
  have e0 : ((m : Int) - (a : Int) == 1) = false := by rw [beq_eq_false_iff_ne]; omega
  have e1' : ((m : Int) + 1 - (m : Int) == 1) = true := by rw [beq_iff_eq]; omega
  clear S hC hcf hs U
  go_enter Try.func30, Try.ntmps30
  go_wp2
  go_loopg [14, 15] m (fun kx s14 s15 wr => ∃ (i j : Nat), s14 = .int .i64 i ∧ s15 = .int .i64 j ∧ a ≤ i ∧ i ≤ j ∧ j ≤ m ∧ j - i ≤ kx ∧ Aside (SWK enc k w0 blk off d wr) ∧ Hid ((∀ p, a ≤ p → p < i → lt (d[m]!).1 (d[p]!).1 = false) ∧ ∀ p, j ≤ p → p < m → lt (d[m]!).1 (d[p]!).1 = true))
  case atStart => exact ⟨a, m, rfl, rfl, by omega, by omega, by omega, by omega, S0, Lib.hid ⟨fun q h1 h2 => by omega, fun q h1 h2 => by omega⟩⟩
  case round =>
    clear S0
    obtain ⟨i, j, rfl, rfl, hi, hij, hjb, hkx, S1, HI⟩ := hrel
    by_cases hlt : i < j
    · have hltz : (i : Int) < (j : Int) := by omega
      obtain ⟨h, hh⟩ : ∃ h, h = (i + j) / 2 := ⟨_, rfl⟩
      have hz : ((i : Int) + (j : Int)) / 2 = (h : Int) := by omega
      have h1 : i ≤ h := by omega
      have h2 : h < j := by omega
      clear hh
      obtain ⟨x, hx⟩ : ∃ x, d[m]! = x := ⟨_, rfl⟩
      obtain ⟨y, hy⟩ : ∃ y, d[h]! = y := ⟨_, rfl⟩
      have lx := fun n' os' => S1.out.ld R (by first | exact HS.out.symm | rw [HS.out]) Try.prog (m) (by omega) n' os'
      have ly := fun n' os' => S1.out.ld R (by first | exact HS.out.symm | rw [HS.out]) Try.prog (h) (by omega) n' os'
      rw [hx] at lx
      rw [hy] at ly
      have hcg := fun n' os' => S1.out.cmp HC.out (by first | exact HS.out.symm | rw [HS.out]) x y n' os'
      have XY : Hid (d[m]! = x ∧ d[h]! = y) := ⟨hx, hy⟩
      clear hx hy
      have bp : ((m : Nat) : Int) < (d.size : Int) := by omega
      have bq : ((h : Nat) : Int) < (d.size : Int) := by omega
      by_cases hlv : cf x y < 0
      · have HN : Hid (∀ p, h ≤ p → p < m → lt (d[m]!).1 (d[p]!).1 = true) := Lib.hid (fun p hp hpm => runs_yes hO HU.out (by omega : a ≤ h) hp hpm (Nat.le_refl _) (Nat.le_refl _) (by omega) (by rw [XY.out.1, XY.out.2]; exact runs_w (r := fun x y : Dd => lt x.1 y.1) (HF.out x y) hlv))
        have hd : decide (cf x y < 0) = true := decide_eq_true hlv
        go_wp2_with fail
        go_quiet_grown (first | (go_at_fn g; refine Calls.grown_of (hcg _ _)))
        have S2 : Aside (SWK enc k w0 blk off d (grow (wr.drewN nq) osq)) := S1.out.grown nq osq
        clear lx ly hcg S1
        generalize grow (wr.drewN nq) osq = w2 at S2 ⊢
        go_wp2
        go_roundg (h - i)
        case measure => omega
        case rel => exact ⟨i, h, rfl, rfl, by omega, by omega, by omega, by omega, S2, Lib.hid ⟨HI.out.1, HN.out⟩⟩
      · have HN : Hid (∀ p, a ≤ p → p < h + 1 → lt (d[m]!).1 (d[p]!).1 = false) := Lib.hid (fun p hp hph => runs_no hO HU.out hp (by omega : p ≤ h) (by omega) (Nat.le_refl _) (Nat.le_refl _) (by omega) (by rw [XY.out.1, XY.out.2]; exact runs_n (r := fun x y : Dd => lt x.1 y.1) (HF.out x y) hlv))
        have hd : decide (cf x y < 0) = false := decide_eq_false hlv
        go_wp2_with fail
        go_quiet_grown (first | (go_at_fn g; refine Calls.grown_of (hcg _ _)))
        have S2 : Aside (SWK enc k w0 blk off d (grow (wr.drewN nq) osq)) := S1.out.grown nq osq
        clear lx ly hcg S1
        generalize grow (wr.drewN nq) osq = w2 at S2 ⊢
        go_wp2
        go_roundg (j - (h + 1))
        case measure => omega
        case rel => exact ⟨h + 1, j, by go_num, rfl, by omega, by omega, by omega, by omega, S2, Lib.hid ⟨HN.out, HI.out.2⟩⟩
    · have hltz : ¬ (i : Int) < (j : Int) := by omega
      obtain rfl : i = j := by omega
      clear hij
      go_wp2
      go_loopg [17] m (fun kx s17 wr => ∃ (c : Nat) (dk : Array Dd), s17 = .int .i64 c ∧ i ≤ c ∧ c ≤ m ∧ c - i ≤ kx ∧ dk.size = d.size ∧ Aside (SWK enc k w0 blk off dk wr) ∧ Hid (Shr i m c d dk))
      case atStart => exact ⟨m, d, rfl, by omega, by omega, by omega, rfl, S1, Lib.hid (Shr.start i m d)⟩
      case round =>
        clear S1
        obtain ⟨c1, dk, rfl, hac, hci, hkx', hds, S1, HSh⟩ := hrel
        by_cases hlt2 : i < c1
        · obtain ⟨c, rfl⟩ : ∃ c, c1 = c + 1 := ⟨c1 - 1, by omega⟩
          have hltz2 : (i : Int) < (c : Int) + 1 := by omega
          have HQ : Hid (Shr i m c d (swp dk (c + 1) c)) := Lib.hid (HSh.out.step (by omega) hci (by omega))
          have HD := Lib.hid hds
          have wc : IntKind.i64.wrap (c : Int) = (c : Int) := by rw [IntKind.wrap_i64]; omega
          have wc1 : IntKind.i64.wrap ((c : Int) + 1 - 1) = (c : Int) := by rw [IntKind.wrap_i64]; omega
          have bc1 : (c : Int) + 1 < (d.size : Int) := by omega
          have bc0 : (0 : Int) ≤ (c : Int) + 1 := by omega
          have bt : ((c : Int) + 1).toNat = c + 1 := by omega
          have S2 : Aside (SWK enc k w0 blk off (swp dk (c + 1) (c)) ((wr.drew.setCells blk (off + (c + 1) * k) (enc dk[c]!)).setCells blk (off + (c) * k) (enc dk[c + 1]!))) := S1.out.swapped R (c + 1) (c) (by omega) (by omega)
          have l44a := S1.out.ld1 R (by rw [HD.out]; exact HS.out.symm) Try.prog (c + 1) (by omega)
          have l44b := S1.out.ld1 R (by rw [HD.out]; exact HS.out.symm) Try.prog (c) (by omega)
          have s44a := S1.out.st1 R (by rw [HD.out]; exact HS.out.symm) Try.prog (c + 1) (by omega) dk[c]!
          have s44b := S1.out.st2 R (by rw [HD.out]; exact HS.out.symm) Try.prog (c + 1) (c) (by omega) (by omega) dk[c]! dk[c + 1]!
          have n44a : (enc dk[c + 1]!).length = k := R.hk _
          have n44b : (enc dk[c]!).length = k := R.hk _
          generalize enc dk[c + 1]! = cI44 at S2 l44a s44b n44a
          generalize enc dk[c]! = cJ44 at S2 l44b s44a s44b n44b
          clear S1
          go_wp2_with fail
          go_big_region
          clear l44a l44b s44a s44b
          generalize (wr.drew.setCells blk (off + (c + 1) * k) cJ44).setCells blk (off + (c) * k) cI44 = w2 at S2 ⊢
          go_wp2
          go_roundg (c - i)
          case measure => omega
          case rel => exact ⟨c, swp dk (c + 1) c, by go_num, by omega, by omega, by omega, by rw [size_swp]; exact HD.out, S2, HQ⟩
        · have hltz2 : ¬ (i : Int) < (c1 : Int) := by omega
          obtain rfl : c1 = i := by omega
          have HM : Hid (Merged lt a (m + 1) d dk) := Lib.hid (shr_merged hO HU.out HSh.out hi hjb hb HI.out.1 HI.out.2)
          clear hds
          go_wp2
          (try simp only [Exit.inBlock, Exit.then])
          refine bodyPost_ret (results_none rfl _ _ _) rfl ?_
          exact ⟨rfl, dk, S1.out, HM.out⟩
end Go.Proofs.Ytpibkjldmmecpaa
