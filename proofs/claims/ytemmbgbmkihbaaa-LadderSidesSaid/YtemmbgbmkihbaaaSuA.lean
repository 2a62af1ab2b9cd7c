/- slices.Sort at uint64: rows, cmp.Less, insertion. (By mksu.py.) -/
import Derived.Test.YtemmbgbmkihbaaaSrP
import Derived.Test.YtemmbgbmkihbaaaOrA
import Derived.Shelf.SlSortCmp.Kit1
import Derived.BigRegion
import Derived.Deep.LoopGhost
namespace Go.Proofs.Ytemmbgbmkihbaaa
open Go.RowKit Go.Sort Go.Lib Go.Shelf

def eU (z : Int) : Value := .int .u64 z
theorem eU_one : OneCell eU := fun _ => rfl
set_option maxHeartbeats 4000000 in
set_option maxRecDepth 100000 in
theorem lessU_c (x y : Int) (W : World) : Calls Try.prog 114 #[.int .u64 x, .int .u64 y] W fun e w' => e = .returned (.bool (ltInt x y)) ∧ w' = W := by
  have HN := Lib.hid isNaN_c
  cases h : ltInt x y with
  | true =>
    have h1 : x < y := by unfold ltInt at h; simpa using h
    go_enter Try.func114, Try.ntmps114
    go_wp2_with ((with_reducible refine (HN.out _ _).mono ?_); rintro e w' ⟨rfl, rfl⟩)
    go_ret
    exact ⟨rfl, rfl⟩
  | false =>
    have h1 : ¬ x < y := by unfold ltInt at h; simpa using h
    have g1 : decide (x < y) = false := decide_eq_false h1
    go_enter Try.func114, Try.ntmps114
    go_wp2_with ((with_reducible refine (HN.out _ _).mono ?_); rintro e w' ⟨rfl, rfl⟩)
    go_ret
    exact ⟨rfl, rfl⟩

set_option maxHeartbeats 4000000 in
set_option maxRecDepth 1000000 in
theorem insU_c (blk off cap a b : Nat) (za zb : Int) (d0 d : Array Int) (w0 w : World) (n : Nat) (ha : za = a) (hb' : zb = b) (hn : n = d.size) (R : Row1 eU w0 blk off d0) (hs : d0.size = d.size) (S : SW eU w0 blk off d w) (hab : a ≤ b) (hb : b ≤ d.size) (hsz : d.size < 4611686018427387904) :
    Calls Try.prog 108 #[.slice (some ⟨blk, off, none⟩) n cap, .int .i64 za, .int .i64 zb] w fun e w' => e = .returned (.tuple #[]) ∧
      ∃ d', SW eU w0 blk off d' w' ∧ PermIn a b d d' ∧ SortedIn ltInt a b d' := by
  subst ha hb' hn
  have mixed : Try.prog.follows .mixedOrders = true := by kernel_rfl
  have S0 : Aside (SW eU w0 blk off d w) := S
  have HS := Lib.hid hs
  have HL := Lib.hid lessU_c
  clear S hs
  go_enter Try.func108, Try.ntmps108
  go_wp2
  go_loopg [6] (b - a) (fun kx s6 wr => ∃ (i : Nat) (dk : Array Int), s6 = .int .i64 i ∧ a < i ∧ i ≤ b + 1 ∧ b + 1 - i ≤ kx + 1 ∧ Aside (SW eU w0 blk off dk wr) ∧ PermIn a b d dk ∧ Hid (SortedIn ltInt a i dk))
  case atStart => exact ⟨a + 1, d, by go_num, by omega, by omega, by omega, S0, permIn_refl _ _ _, Lib.hid (fun i j h1 h2 h3 => by omega)⟩
  case round =>
    clear S0
    obtain ⟨i, dk, rfl, hai, hib, hkx, S1, HPm, HO⟩ := hrel
    have HD : Hid (dk.size = d.size) := HPm.1
    by_cases hlt : i < b
    · have hltz : (i : Int) < (b : Int) := by omega
      have HI0 : Hid (Ins ltInt a i i dk) := Lib.hid ⟨fun p q h1 h2 h3 h4 h5 => HO.out p q h1 h2 (by omega), fun q h1 h2 => by omega⟩
      clear HO
      go_wp2
      go_loopg [7] i (fun g2 s7 wr2 => ∃ (j : Nat) (dj : Array Int), s7 = .int .i64 j ∧ a ≤ j ∧ j ≤ i ∧ j ≤ g2 ∧ Aside (SW eU w0 blk off dj wr2) ∧ PermIn a b d dj ∧ Hid (Ins ltInt a j i dj))
      case atStart => exact ⟨i, dk, rfl, by omega, Nat.le_refl _, Nat.le_refl _, S1, HPm, HI0⟩
      case round =>
        clear S1 HI0 HPm HD
        obtain ⟨j1, dj, rfl, haj, hji, hg2, S1, HPm, HI⟩ := hrel
        have HD : Hid (dj.size = d.size) := HPm.1
        by_cases hja : a < j1
        · obtain ⟨j, rfl⟩ : ∃ j, j1 = j + 1 := ⟨j1 - 1, by omega⟩
          have hjz : (a : Int) < (j : Int) + 1 := by omega
          have wc : IntKind.i64.wrap ((j : Int) + 1 - 1) = (j : Int) := by rw [IntKind.wrap_i64]; omega
          have wc' : IntKind.i64.wrap (j : Int) = (j : Int) := by rw [IntKind.wrap_i64]; omega
          have bz : (j : Int) + 1 < (d.size : Int) := by omega
          have bt : ((j : Int) + 1).toNat = j + 1 := by omega
          have b0 : (0 : Int) ≤ (j : Int) + 1 := by omega
          have hsz2 := HD.out
          obtain ⟨x, hx⟩ : ∃ x, dj[j + 1]! = x := ⟨_, rfl⟩
          obtain ⟨y, hy⟩ : ∃ y, dj[j]! = y := ⟨_, rfl⟩
          have cx := S1.out.c1 R (by rw [HD.out]; exact HS.out.symm) (j + 1) (by omega)
          have cy := S1.out.c1 R (by rw [HD.out]; exact HS.out.symm) (j) (by omega)
          rw [hx] at cx
          rw [hy] at cy
          have cx' : wr.cell? ⟨blk, off + (j + 1), none⟩ = some (.int .u64 x) := cx
          have cy' : wr.cell? ⟨blk, off + (j), none⟩ = some (.int .u64 y) := cy
          clear cx cy
          have XY : Hid (dj[j + 1]! = x ∧ dj[j]! = y) := ⟨hx, hy⟩
          clear hx hy
          have bp : ((j + 1 : Nat) : Int) < (d.size : Int) := by omega
          have bq : ((j : Nat) : Int) < (d.size : Int) := by omega
          clear hsz2
          cases hl : ltInt x y with
          | true =>
            have HN : Hid (Ins ltInt a j i (swp dj (j + 1) j)) := Lib.hid (HI.out.step (by rw [XY.out.1, XY.out.2]; exact hl) (by omega) (by rw [HD.out]; omega))
            have HPn : PermIn a b d (swp dj (j + 1) j) := permIn_trans _ _ _ _ _ HPm (swp_permIn dj a b (j + 1) j (by omega) (by omega) (by omega) (by omega) (by rw [HD.out]; omega))
            go_wp2_with fail
            go_quiet ((go_at_call 114; with_reducible exact Calls.quiet_of_same (HL.out _ _ _)))
            go_wp2_with fail
            have S3 : Aside (SW eU w0 blk off dj (wr.drewN nq)) := S1.out.drewN nq
            clear cx' cy' S1 HPm HI hl
            generalize wr.drewN nq = wq at S3 ⊢
            have hsz2 := HD.out
            have S2 := S3.out.swapped R (j + 1) (j) (by omega) (by omega)
            have ca := S3.out.c1 R (by rw [HD.out]; exact HS.out.symm) (j + 1) (by omega)
            have cb := S3.out.c1 R (by rw [HD.out]; exact HS.out.symm) (j) (by omega)
            have fa := S3.out.f1 R (by rw [HD.out]; exact HS.out.symm) (j + 1) (by omega)
            have fb := S3.out.f1 R (by rw [HD.out]; exact HS.out.symm) (j) (by omega)
            obtain ⟨uc, cc⟩ := S3.out.c2 R (by rw [HD.out]; exact HS.out.symm) (j + 1) (j) (by omega) (by omega) (eU dj[j]!)
            generalize dj[j + 1]! = vI at S2 ca cc
            generalize dj[j]! = vJ at S2 cb cc
            replace S2 : Aside (SW eU w0 blk off (swp dj (j + 1) (j)) ((wq.setCell ⟨blk, off + (j + 1), none⟩ (.int .u64 vJ)).setCell ⟨blk, off + (j), none⟩ (.int .u64 vI)).drew) := S2
            replace ca : wq.cell? ⟨blk, off + (j + 1), none⟩ = some (.int .u64 vI) := ca
            replace cb : wq.cell? ⟨blk, off + (j), none⟩ = some (.int .u64 vJ) := cb
            replace cc : (wq.setCell ⟨blk, off + (j + 1), none⟩ (.int .u64 vJ)).cell? ⟨blk, off + (j), none⟩ = some uc := cc
            clear S3
            go_wp2_with fail
            go_big_region
            clear ca cb fa fb cc
            generalize ((wq.setCell ⟨blk, off + (j + 1), none⟩ (.int .u64 vJ)).setCell ⟨blk, off + (j), none⟩ (.int .u64 vI)).drew = w2 at S2 ⊢
            clear hsz2
            all_goals go_wp2
            go_roundg j
            case measure => omega
            case rel => exact ⟨j, swp dj (j + 1) j, by go_num, by omega, by omega, Nat.le_refl _, S2, HPn, HN⟩
          | false =>
            have HN : Hid (SortedIn ltInt a (i + 1) dj) := Lib.hid (HI.out.stop swo_ltInt (.inr (by simp only [Nat.add_sub_cancel]; rw [XY.out.1, XY.out.2]; exact hl)))
            go_wp2_with fail
            go_quiet ((go_at_call 114; with_reducible exact Calls.quiet_of_same (HL.out _ _ _)))
            have S3 : Aside (SW eU w0 blk off dj (wr.drewN nq)) := S1.out.drewN nq
            clear cx' cy' S1 HI
            generalize wr.drewN nq = wq at S3 ⊢
            go_wp2
            go_roundg (b - (i + 1))
            case measure => omega
            case rel => exact ⟨i + 1, dj, by go_num, by omega, by omega, by omega, S3, HPm, HN⟩
        · have hjz : ¬ (a : Int) < (j1 : Int) := by omega
          have hjd : decide ((j1 : Int) > (a : Int)) = false := decide_eq_false (by omega)
          have HN : Hid (SortedIn ltInt a (i + 1) dj) := Lib.hid (HI.out.stop swo_ltInt (.inl (by omega)))
          go_wp2_with fail
          go_quiet ((go_at_call 114; with_reducible exact Calls.quiet_of_same (HL.out _ _ _)))
          have S3 : Aside (SW eU w0 blk off dj (wr.drewN nq)) := S1.out.drewN nq
          clear S1 HI
          generalize wr.drewN nq = wq at S3 ⊢
          go_wp2
          go_roundg (b - (i + 1))
          case measure => omega
          case rel => exact ⟨i + 1, dj, by go_num, by omega, by omega, by omega, S3, HPm, HN⟩
    · have hltz : ¬ (i : Int) < (b : Int) := by omega
      have HF : Hid (SortedIn ltInt a b dk) := Lib.hid (fun p q h1 h2 h3 => HO.out p q h1 h2 (by omega))
      clear HO HD
      go_wp2
      go_end0
      exact ⟨rfl, dk, S1.out, HPm, HF.out⟩
end Go.Proofs.Ytemmbgbmkihbaaa
