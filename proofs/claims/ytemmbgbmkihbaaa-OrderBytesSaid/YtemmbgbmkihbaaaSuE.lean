/- slices.Sort at uint64: the partitions. (By mksue.py.) -/
import Derived.Test.YtemmbgbmkihbaaaSuD
import Derived.Deep.CutRange
import Derived.Deep.CutBlock
import Derived.Deep.DeepCutAuto
namespace Go.Proofs.Ytemmbgbmkihbaaa
open Go.RowKit Go.Sort Go.Lib Go.Shelf

/-- Between a and i the low ones, behind j the others; the pivot at a. -/
structure PInv (L : Int → Bool) (a b i j : Nat) (v : Int) (d dk : Array Int) : Prop where
  i1 : a + 1 ≤ i
  ij : i ≤ j + 1
  jb : j < b
  v : dk[a]! = v
  lo : ∀ p, a < p → p < i → L dk[p]! = true
  hi : ∀ p, j < p → p < b → L dk[p]! = false
  perm : PermIn a b d dk
theorem PInv.start (L : Int → Bool) {a b pv : Nat} {d : Array Int} (h1 : a ≤ pv) (h2 : pv < b) (hb : b ≤ d.size) : PInv L a b (a + 1) (b - 1) d[pv]! d (swp d a pv) :=
  ⟨Nat.le_refl _, by omega, by omega, by
    by_cases e : a = pv
    · subst e; rw [swp_right _ _ _ (by omega)]
    · exact swp_left _ _ _ (by omega) e, fun p h h' => by omega, fun p h h' => by omega, swp_permIn d a b a pv (Nat.le_refl _) (by omega) h1 h2 hb⟩
theorem PInv.up {L : Int → Bool} {a b i j : Nat} {v : Int} {d dk : Array Int} (h : PInv L a b i j v d dk) (hij : i ≤ j) (hl : L dk[i]! = true) : PInv L a b (i + 1) j v d dk :=
  ⟨by have := h.i1; omega, by omega, h.jb, h.v, fun p h1 h2 => by
    by_cases e : p = i
    · rw [e]; exact hl
    · exact h.lo p h1 (by omega), h.hi, h.perm⟩
theorem PInv.down {L : Int → Bool} {a b i j : Nat} {v : Int} {d dk : Array Int} (h : PInv L a b i (j + 1) v d dk) (hij : i ≤ j + 1) (hl : L dk[j + 1]! = false) : PInv L a b i j v d dk :=
  ⟨h.i1, hij, by have := h.jb; omega, h.v, h.lo, fun p h1 h2 => by
    by_cases e : p = j + 1
    · rw [e]; exact hl
    · exact h.hi p (by omega) h2, h.perm⟩
theorem PInv.swap {L : Int → Bool} {a b i j : Nat} {v : Int} {d dk : Array Int} (h : PInv L a b i (j + 1) v d dk) (hij : i ≤ j + 1) (h1 : L dk[i]! = false) (h2 : L dk[j + 1]! = true) (hb : b ≤ d.size) : i ≤ j ∧ PInv L a b (i + 1) j v d (swp dk i (j + 1)) := by
  have hs : dk.size = d.size := h.perm.1
  have hne : i ≠ j + 1 := by rintro rfl; rw [h1] at h2; cases h2
  have b1 := h.i1
  have b2 := h.jb
  refine ⟨by omega, by omega, by omega, by omega, ?_, fun p q1 q2 => ?_, fun p q1 q2 => ?_, permIn_trans _ _ _ _ _ h.perm (swp_permIn dk a b i (j + 1) (by omega) (by omega) (by omega) (by omega) (by omega))⟩
  · rw [swp_other _ _ _ _ (by omega) (by omega)]; exact h.v
  · by_cases e : p = i
    · rw [e, swp_left _ _ _ (by omega) hne]; exact h2
    · rw [swp_other _ _ _ _ e (by omega)]; exact h.lo p q1 (by omega)
  · by_cases e : p = j + 1
    · rw [e, swp_right _ _ _ (by omega)]; exact h1
    · rw [swp_other _ _ _ _ (by omega) e]; exact h.hi p (by omega) q2
theorem PInv.swapj {L : Int → Bool} {a b i j : Nat} {v : Int} {d dk : Array Int} (h : PInv L a b i j v d dk) (hij : i ≤ j) (h1 : L dk[i]! = false) (h2 : L dk[j]! = true) (hb : b ≤ d.size) : i < j ∧ PInv L a b (i + 1) (j - 1) v d (swp dk i j) := by
  have b1 := h.i1
  obtain ⟨j2, rfl⟩ : ∃ j2, j = j2 + 1 := ⟨j - 1, by omega⟩
  have := h.swap hij h1 h2 hb
  exact ⟨by omega, this.2⟩
def lowE (v x : Int) : Bool := !ltInt v x
def lowP (v x : Int) : Bool := ltInt x v
/-- What partitionEqual leaves. -/
def PEq (a b m : Nat) (v : Int) (d d' : Array Int) : Prop := PermIn a b d d' ∧ a < m ∧ m ≤ b ∧ (∀ p, a ≤ p → p < m → ltInt v d'[p]! = false) ∧ ∀ p, m ≤ p → p < b → ltInt v d'[p]! = true
theorem peq_of {a b i j : Nat} {v : Int} {d dk : Array Int} (h : PInv (lowE v) a b i j v d dk) (hij : j < i) : PEq a b i v d dk := by
  have b1 := h.i1; have b2 := h.ij; have b3 := h.jb
  refine ⟨h.perm, by omega, by omega, fun p q1 q2 => ?_, fun p q1 q2 => ?_⟩
  · by_cases e : p = a
    · rw [e, h.v]; exact swo_ltInt.irrefl _
    · have := h.lo p (by omega) q2
      unfold lowE at this; simpa using this
  · have := h.hi p (by omega) q2
    unfold lowE at this; simpa using this
/-- What partition leaves. -/
def PPart (a b m : Nat) (d d' : Array Int) : Prop := PermIn a b d d' ∧ a ≤ m ∧ m < b ∧ (∀ p, a ≤ p → p < m → ltInt d'[p]! d'[m]! = true) ∧ ∀ p, m < p → p < b → ltInt d'[p]! d'[m]! = false
theorem ppart_of {a b i j : Nat} {v : Int} {d dk : Array Int} (h : PInv (lowP v) a b i j v d dk) (hij : j < i) (hb : b ≤ d.size) : PPart a b j d (swp dk j a) := by
  have b1 := h.i1; have b2 := h.ij; have b3 := h.jb
  have hs : dk.size = d.size := h.perm.1
  have hj : (swp dk j a)[j]! = v := by
    by_cases e : j = a
    · rw [e, swp_right _ _ _ (by omega)]; exact h.v
    · rw [swp_left _ _ _ (by omega) e]; exact h.v
  refine ⟨permIn_trans _ _ _ _ _ h.perm (swp_permIn dk a b j a (by omega) (by omega) (by omega) (by omega) (by omega)), by omega, b3, fun p q1 q2 => ?_, fun p q1 q2 => ?_⟩
  · rw [hj]
    by_cases e : p = a
    · rw [e, swp_right _ _ _ (by omega)]
      have := h.lo j (by omega) (by omega)
      exact this
    · rw [swp_other _ _ _ _ (by omega) e]
      exact h.lo p (by omega) (by omega)
  · rw [hj, swp_other _ _ _ _ (by omega) (by omega)]
    exact h.hi p q1 q2

set_option maxHeartbeats 4000000 in
set_option maxRecDepth 1000000 in
theorem peq_c (blk off cap : Nat) (a b pv : Nat) (za zb zp : Int) (hza : za = a) (hzb : zb = b) (hzp : zp = pv) (d0 d : Array Int) (w0 w : World) (n : Nat) (hn : n = d.size) (R : Row1 eU w0 blk off d0) (hs : d0.size = d.size) (S : SW eU w0 blk off d w) (hsz : d.size < 4611686018427387904) (h1 : a ≤ pv) (h2 : pv < b) (hb : b ≤ d.size) :
    Calls Try.prog 115 #[.slice (some ⟨blk, off, none⟩) n cap, .int .i64 za, .int .i64 zb, .int .i64 zp] w fun e w' => ∃ m : Nat, e = .returned (.int .i64 m) ∧ ∃ d', SW eU w0 blk off d' w' ∧ PEq a b m d[pv]! d d' := by
  subst hn hza hzb hzp
  obtain ⟨v, hv⟩ : ∃ v, d[pv]! = v := ⟨_, rfl⟩
  have P0 := PInv.start (lowE v) h1 h2 hb
  rw [hv] at P0
  rw [hv]
  have HP0 := Lib.hid P0
  have HD : Hid (d.size ≤ d.size) := Nat.le_refl _
  clear P0 hv
  have mixed : Try.prog.follows .mixedOrders = true := by kernel_rfl
  have S0 : Aside (SW eU w0 blk off d w) := S
  have HS := Lib.hid hs
  have HL := Lib.hid lessU_c
  clear S hs
  go_enter Try.func115, Try.ntmps115
  go_wp2_with fail
  have hsz2 := HD.out
  have bI : (a : Int) < (d.size : Int) := by omega
  have bJ : (pv : Int) < (d.size : Int) := by omega
  have S2 := S0.out.swapped R (a) (pv) (by omega) (by omega)
  have ca := S0.out.c1 R HS.out.symm (a) (by omega)
  have cb := S0.out.c1 R HS.out.symm (pv) (by omega)
  have fa := S0.out.f1 R HS.out.symm (a) (by omega)
  have fb := S0.out.f1 R HS.out.symm (pv) (by omega)
  obtain ⟨uc, cc⟩ := S0.out.c2 R HS.out.symm (a) (pv) (by omega) (by omega) (eU d[pv]!)
  clear hsz2
  generalize d[a]! = vI at S2 ca cc
  generalize d[pv]! = vJ at S2 cb cc
  replace S2 : Aside (SW eU w0 blk off (swp d (a) (pv)) ((w.setCell ⟨blk, off + a, none⟩ (.int .u64 vJ)).setCell ⟨blk, off + pv, none⟩ (.int .u64 vI)).drew) := S2
  replace ca : w.cell? ⟨blk, off + a, none⟩ = some (.int .u64 vI) := ca
  replace cb : w.cell? ⟨blk, off + pv, none⟩ = some (.int .u64 vJ) := cb
  replace cc : (w.setCell ⟨blk, off + a, none⟩ (.int .u64 vJ)).cell? ⟨blk, off + pv, none⟩ = some uc := cc
  clear S0
  go_wp2_with fail
  go_big_region
  clear ca cb fa fb cc bI bJ
  generalize ((w.setCell ⟨blk, off + a, none⟩ (.int .u64 vJ)).setCell ⟨blk, off + pv, none⟩ (.int .u64 vI)).drew = w2 at S2 ⊢
  clear HD
  go_wp2_with fail
  go_loopg [9, 10] b (fun kx s9 s10 wr => ∃ (i j : Nat) (dk : Array Int), s9 = .int .i64 i ∧ s10 = .int .i64 j ∧ i ≤ j + 1 ∧ a + 1 ≤ i ∧ j < b ∧ j ≤ kx ∧ Aside (SW eU w0 blk off dk wr) ∧ Hid (PInv (lowE v) a b i j v d dk))
  case atStart => exact ⟨a + 1, b - 1, swp d a pv, by go_num, by rw [Int.ofNat_sub (by omega)]; rfl, by omega, by omega, by omega, by omega, S2, HP0⟩
  case round =>
    clear S2 HP0
    obtain ⟨i0, j0, dk, rfl, rfl, hij0, hi0, hj0, hkx0, S1, PV⟩ := hrel
    have HD : Hid (dk.size = d.size) := PV.out.perm.1
    go_upto_block 2 with fail
    go_cut [9] from 29 to 45 (fun sx wx => ∃ i : Nat, sx = .int .i64 i ∧ i ≤ j0 + 1 ∧ a + 1 ≤ i ∧ Aside (SW eU w0 blk off dk wx) ∧ Hid (PInv (lowE v) a b i j0 v d dk) ∧ Hid (i ≤ j0 → lowE v dk[i]! = false))
    case first =>
      go_wp2_with fail
      go_loopg [9] (j0 + 1 - i0) (fun kx sx wx => ∃ i' : Nat, sx = .int .i64 i' ∧ i' ≤ j0 + 1 ∧ a + 1 ≤ i' ∧ j0 + 1 - i' ≤ kx ∧ Aside (SW eU w0 blk off dk wx) ∧ Hid (PInv (lowE v) a b i' j0 v d dk))
      case atStart => exact ⟨i0, rfl, by omega, by omega, Nat.le_refl _, S1, PV⟩
      case round =>
        clear S1 PV
        obtain ⟨i', rfl, hi1, hi2, hkx, S1, PV⟩ := hrel
        by_cases hij : i' ≤ j0
        · have hz : (i' : Int) ≤ (j0 : Int) := by omega
          have hsz2 := HD.out
          obtain ⟨x, hx⟩ : ∃ x, dk[i']! = x := ⟨_, rfl⟩
          have cx := S1.out.c1 R (by rw [HD.out]; exact HS.out.symm) (i') (by omega)
          rw [hx] at cx
          have cv := S1.out.c1 R (by rw [HD.out]; exact HS.out.symm) a (by omega)
          rw [PV.out.v] at cv
          replace cx : wr.cell? ⟨blk, off + i', none⟩ = some (.int .u64 x) := cx
          replace cv : wr.cell? ⟨blk, off + a, none⟩ = some (.int .u64 v) := cv
          have bx : (i' : Int) < (d.size : Int) := by omega
          have bv : (a : Int) < (d.size : Int) := by omega
          have EX := Lib.hid hx
          clear hx hsz2
          cases hl : ltInt v x with
          | true =>
              have HLx : Hid (lowE v dk[i']! = false) := by
                show _ = _
                rw [EX.out]; unfold lowE; rw [hl]; rfl
              go_wp2_with fail
              go_quiet ((go_at_call 114; with_reducible exact Calls.quiet_of_same (HL.out _ _ _)))
              have S2 : Aside (SW eU w0 blk off dk (wr.drewN nq)) := S1.out.drewN nq
              clear cx cv bx bv S1
              generalize wr.drewN nq = wq at S2 ⊢
              go_wp2
              go_meet
              case rel => exact ⟨i', rfl, by omega, by omega, S2, PV, Lib.hid (fun _ => HLx.out)⟩
          | false =>
              have HLx : Hid (lowE v dk[i']! = true) := by
                show _ = _
                rw [EX.out]; unfold lowE; rw [hl]; rfl
              go_wp2_with fail
              go_quiet ((go_at_call 114; with_reducible exact Calls.quiet_of_same (HL.out _ _ _)))
              have S2 : Aside (SW eU w0 blk off dk (wr.drewN nq)) := S1.out.drewN nq
              clear cx cv bx bv S1
              generalize wr.drewN nq = wq at S2 ⊢
              have HN : Hid (PInv (lowE v) a b (i' + 1) j0 v d dk) := Lib.hid (PV.out.up hij HLx.out)
              clear PV
              go_wp2
              go_roundg (j0 + 1 - (i' + 1))
              case measure => omega
              case rel => exact ⟨i' + 1, by go_num, by omega, by omega, Nat.le_refl _, S2, HN⟩
        · have hz : ¬ (i' : Int) ≤ (j0 : Int) := by omega
          have hzd : decide ((i' : Int) ≤ (j0 : Int)) = false := decide_eq_false hz
          go_wp2_with fail
          go_quiet ((go_at_call 114; with_reducible exact Calls.quiet_of_same (HL.out _ _ _)))
          have S2 : Aside (SW eU w0 blk off dk (wr.drewN nq)) := S1.out.drewN nq
          clear S1
          generalize wr.drewN nq = wq at S2 ⊢
          go_wp2
          go_meet
          case rel => exact ⟨i', rfl, by omega, by omega, S2, PV, Lib.hid (fun h => absurd h hij)⟩
    case rest =>
    obtain ⟨i, rfl, hij1, hi1, S3, PV, NI⟩ := hcut
    go_upto_block 4 with fail
    go_cut [10] from 46 to 61 (fun sx wx => ∃ j : Nat, sx = .int .i64 j ∧ i ≤ j + 1 ∧ j < b ∧ j ≤ j0 ∧ Aside (SW eU w0 blk off dk wx) ∧ Hid (PInv (lowE v) a b i j v d dk) ∧ Hid (i ≤ j → lowE v dk[j]! = true))
    case first =>
      go_wp2_with fail
      go_loopg [10] j0 (fun kx sx wx => ∃ j' : Nat, sx = .int .i64 j' ∧ i ≤ j' + 1 ∧ j' < b ∧ j' ≤ j0 ∧ j' ≤ kx ∧ Aside (SW eU w0 blk off dk wx) ∧ Hid (PInv (lowE v) a b i j' v d dk))
      case atStart => exact ⟨j0, rfl, by omega, by omega, Nat.le_refl _, Nat.le_refl _, S3, PV⟩
      case round =>
        clear S3 PV
        obtain ⟨j', rfl, hj1, hj2, hj3, hkx, S1, PV⟩ := hrel
        by_cases hij : i ≤ j'
        · have hz : (i : Int) ≤ (j' : Int) := by omega
          have hsz2 := HD.out
          obtain ⟨x, hx⟩ : ∃ x, dk[j']! = x := ⟨_, rfl⟩
          have cx := S1.out.c1 R (by rw [HD.out]; exact HS.out.symm) (j') (by omega)
          rw [hx] at cx
          have cv := S1.out.c1 R (by rw [HD.out]; exact HS.out.symm) a (by omega)
          rw [PV.out.v] at cv
          replace cx : wr.cell? ⟨blk, off + j', none⟩ = some (.int .u64 x) := cx
          replace cv : wr.cell? ⟨blk, off + a, none⟩ = some (.int .u64 v) := cv
          have bx : (j' : Int) < (d.size : Int) := by omega
          have bv : (a : Int) < (d.size : Int) := by omega
          have EX := Lib.hid hx
          clear hx hsz2
          cases hl : ltInt v x with
          | true =>
              have HLx : Hid (lowE v dk[j']! = false) := by
                show _ = _
                rw [EX.out]; unfold lowE; rw [hl]; rfl
              go_wp2_with fail
              go_quiet ((go_at_call 114; with_reducible exact Calls.quiet_of_same (HL.out _ _ _)))
              have S2 : Aside (SW eU w0 blk off dk (wr.drewN nq)) := S1.out.drewN nq
              clear cx cv bx bv S1
              generalize wr.drewN nq = wq at S2 ⊢
              obtain ⟨j2, rfl⟩ : ∃ j2, j' = j2 + 1 := ⟨j' - 1, by omega⟩
              have HN : Hid (PInv (lowE v) a b i j2 v d dk) := Lib.hid (PV.out.down hij HLx.out)
              clear PV
              go_wp2
              go_roundg (j2)
              case measure => omega
              case rel => exact ⟨j2, by go_num, by omega, by omega, by omega, Nat.le_refl _, S2, HN⟩
          | false =>
              have HLx : Hid (lowE v dk[j']! = true) := by
                show _ = _
                rw [EX.out]; unfold lowE; rw [hl]; rfl
              go_wp2_with fail
              go_quiet ((go_at_call 114; with_reducible exact Calls.quiet_of_same (HL.out _ _ _)))
              have S2 : Aside (SW eU w0 blk off dk (wr.drewN nq)) := S1.out.drewN nq
              clear cx cv bx bv S1
              generalize wr.drewN nq = wq at S2 ⊢
              go_wp2
              go_meet
              case rel => exact ⟨j', rfl, by omega, by omega, hj3, S2, PV, Lib.hid (fun _ => HLx.out)⟩
        · have hz : ¬ (i : Int) ≤ (j' : Int) := by omega
          have hzd : decide ((i : Int) ≤ (j' : Int)) = false := decide_eq_false hz
          go_wp2_with fail
          go_quiet ((go_at_call 114; with_reducible exact Calls.quiet_of_same (HL.out _ _ _)))
          have S2 : Aside (SW eU w0 blk off dk (wr.drewN nq)) := S1.out.drewN nq
          clear S1
          generalize wr.drewN nq = wq at S2 ⊢
          go_wp2
          go_meet
          case rel => exact ⟨j', rfl, by omega, by omega, hj3, S2, PV, Lib.hid (fun h => absurd h hij)⟩
    case rest =>
    obtain ⟨j, rfl, hij2, hj2, hj3, S4, PV, NJ⟩ := hcut
    by_cases hgt : j < i
    · have hz : (j : Int) < (i : Int) := by omega
      have HF := Lib.hid (peq_of PV.out hgt)
      clear PV NI NJ
      go_wp2_with fail
      go_ret
      exact ⟨i, rfl, dk, S4.out, HF.out⟩
    · have hz : ¬ (j : Int) < (i : Int) := by omega
      obtain ⟨hlt, PN0⟩ := PV.out.swapj (by omega) (NI.out (by omega)) (NJ.out (by omega)) hb
      have PN := Lib.hid PN0
      clear PN0 PV NI NJ
      go_wp2_with fail
      have hsz2 := HD.out
      have bI : (i : Int) < (d.size : Int) := by omega
      have bJ : (j : Int) < (d.size : Int) := by omega
      have S2 := S4.out.swapped R (i) (j) (by omega) (by omega)
      have ca := S4.out.c1 R (by rw [HD.out]; exact HS.out.symm) (i) (by omega)
      have cb := S4.out.c1 R (by rw [HD.out]; exact HS.out.symm) (j) (by omega)
      have fa := S4.out.f1 R (by rw [HD.out]; exact HS.out.symm) (i) (by omega)
      have fb := S4.out.f1 R (by rw [HD.out]; exact HS.out.symm) (j) (by omega)
      obtain ⟨uc, cc⟩ := S4.out.c2 R (by rw [HD.out]; exact HS.out.symm) (i) (j) (by omega) (by omega) (eU dk[j]!)
      clear hsz2
      generalize dk[i]! = vI at S2 ca cc
      generalize dk[j]! = vJ at S2 cb cc
      replace S2 : Aside (SW eU w0 blk off (swp dk (i) (j)) ((wc.setCell ⟨blk, off + i, none⟩ (.int .u64 vJ)).setCell ⟨blk, off + j, none⟩ (.int .u64 vI)).drew) := S2
      replace ca : wc.cell? ⟨blk, off + i, none⟩ = some (.int .u64 vI) := ca
      replace cb : wc.cell? ⟨blk, off + j, none⟩ = some (.int .u64 vJ) := cb
      replace cc : (wc.setCell ⟨blk, off + i, none⟩ (.int .u64 vJ)).cell? ⟨blk, off + j, none⟩ = some uc := cc
      clear S4
      go_wp2_with fail
      go_big_region
      clear ca cb fa fb cc bI bJ
      generalize ((wc.setCell ⟨blk, off + i, none⟩ (.int .u64 vJ)).setCell ⟨blk, off + j, none⟩ (.int .u64 vI)).drew = w2 at S2 ⊢
      go_wp2_with fail
      go_roundg (j - 1)
      case measure => omega
      case rel => exact ⟨i + 1, j - 1, swp dk i j, by go_num, by rw [Int.ofNat_sub (by omega)]; rfl, by omega, by omega, by omega, Nat.le_refl _, S2, PN⟩

set_option maxHeartbeats 4000000 in
set_option maxRecDepth 1000000 in
theorem part_c (blk off cap : Nat) (a b pv : Nat) (za zb zp : Int) (hza : za = a) (hzb : zb = b) (hzp : zp = pv) (d0 d : Array Int) (w0 w : World) (n : Nat) (hn : n = d.size) (R : Row1 eU w0 blk off d0) (hs : d0.size = d.size) (S : SW eU w0 blk off d w) (hsz : d.size < 4611686018427387904) (h1 : a ≤ pv) (h2 : pv < b) (hb : b ≤ d.size) :
    Calls Try.prog 116 #[.slice (some ⟨blk, off, none⟩) n cap, .int .i64 za, .int .i64 zb, .int .i64 zp] w fun e w' => ∃ (m : Nat) (t : Bool), e = .returned (.tuple #[.int .i64 m, .bool t]) ∧ ∃ d', SW eU w0 blk off d' w' ∧ PPart a b m d d' := by
  subst hn hza hzb hzp
  obtain ⟨v, hv⟩ : ∃ v, d[pv]! = v := ⟨_, rfl⟩
  have P0 := PInv.start (lowP v) h1 h2 hb
  rw [hv] at P0
  have HP0 := Lib.hid P0
  have HD : Hid (d.size ≤ d.size) := Nat.le_refl _
  clear P0 hv
  have mixed : Try.prog.follows .mixedOrders = true := by kernel_rfl
  have S0 : Aside (SW eU w0 blk off d w) := S
  have HS := Lib.hid hs
  have HL := Lib.hid lessU_c
  clear S hs
  go_enter Try.func116, Try.ntmps116
  go_wp2_with fail
  have hsz2 := HD.out
  have bI : (a : Int) < (d.size : Int) := by omega
  have bJ : (pv : Int) < (d.size : Int) := by omega
  have S2 := S0.out.swapped R (a) (pv) (by omega) (by omega)
  have ca := S0.out.c1 R HS.out.symm (a) (by omega)
  have cb := S0.out.c1 R HS.out.symm (pv) (by omega)
  have fa := S0.out.f1 R HS.out.symm (a) (by omega)
  have fb := S0.out.f1 R HS.out.symm (pv) (by omega)
  obtain ⟨uc, cc⟩ := S0.out.c2 R HS.out.symm (a) (pv) (by omega) (by omega) (eU d[pv]!)
  clear hsz2
  generalize d[a]! = vI at S2 ca cc
  generalize d[pv]! = vJ at S2 cb cc
  replace S2 : Aside (SW eU w0 blk off (swp d (a) (pv)) ((w.setCell ⟨blk, off + a, none⟩ (.int .u64 vJ)).setCell ⟨blk, off + pv, none⟩ (.int .u64 vI)).drew) := S2
  replace ca : w.cell? ⟨blk, off + a, none⟩ = some (.int .u64 vI) := ca
  replace cb : w.cell? ⟨blk, off + pv, none⟩ = some (.int .u64 vJ) := cb
  replace cc : (w.setCell ⟨blk, off + a, none⟩ (.int .u64 vJ)).cell? ⟨blk, off + pv, none⟩ = some uc := cc
  clear S0
  go_wp2_with fail
  go_big_region
  clear ca cb fa fb cc bI bJ
  generalize ((w.setCell ⟨blk, off + a, none⟩ (.int .u64 vJ)).setCell ⟨blk, off + pv, none⟩ (.int .u64 vI)).drew = w2 at S2 ⊢
  clear HD
  obtain ⟨dk, hdk⟩ : ∃ x, x = swp d a pv := ⟨_, rfl⟩
  rw [← hdk] at S2 HP0
  clear hdk
  have PV := HP0
  have HD : Hid (dk.size = d.size) := PV.out.perm.1
  clear HP0
  obtain ⟨i0, hi0e⟩ : ∃ x, x = a + 1 := ⟨_, rfl⟩
  obtain ⟨j0, hj0e⟩ : ∃ x, x = b - 1 := ⟨_, rfl⟩
  have z1 : (a : Int) + 1 = (i0 : Int) := by omega
  have z2 : (b : Int) - 1 = (j0 : Int) := by omega
  rw [← hi0e, ← hj0e] at PV
  have hij0 : i0 ≤ j0 + 1 := by omega
  have hi0 : a + 1 ≤ i0 := by omega
  have hj0 : j0 < b := by omega
  have hj0' : b ≤ j0 + 1 := by omega
  clear hi0e hj0e
  go_upto_block 0 with fail
  go_cut [10]  (fun sx wx => ∃ i : Nat, sx = .int .i64 i ∧ i ≤ j0 + 1 ∧ a + 1 ≤ i ∧ Aside (SW eU w0 blk off dk wx) ∧ Hid (PInv (lowP v) a b i j0 v d dk) ∧ Hid (i ≤ j0 → lowP v dk[i]! = false))
  case first =>
    go_wp2_with fail
    go_loopg [10] (j0 + 1 - i0) (fun kx sx wx => ∃ i' : Nat, sx = .int .i64 i' ∧ i' ≤ j0 + 1 ∧ a + 1 ≤ i' ∧ j0 + 1 - i' ≤ kx ∧ Aside (SW eU w0 blk off dk wx) ∧ Hid (PInv (lowP v) a b i' j0 v d dk))
    case atStart => exact ⟨i0, rfl, by omega, by omega, Nat.le_refl _, S2, PV⟩
    case round =>
      clear S2 PV
      obtain ⟨i', rfl, hi1, hi2, hkx, S1, PV⟩ := hrel
      by_cases hij : i' ≤ j0
      · have hz : (i' : Int) ≤ (j0 : Int) := by omega
        have hsz2 := HD.out
        obtain ⟨x, hx⟩ : ∃ x, dk[i']! = x := ⟨_, rfl⟩
        have cx := S1.out.c1 R (by rw [HD.out]; exact HS.out.symm) (i') (by omega)
        rw [hx] at cx
        have cv := S1.out.c1 R (by rw [HD.out]; exact HS.out.symm) a (by omega)
        rw [PV.out.v] at cv
        replace cx : wr.cell? ⟨blk, off + i', none⟩ = some (.int .u64 x) := cx
        replace cv : wr.cell? ⟨blk, off + a, none⟩ = some (.int .u64 v) := cv
        have bx : (i' : Int) < (d.size : Int) := by omega
        have bv : (a : Int) < (d.size : Int) := by omega
        have EX := Lib.hid hx
        clear hx hsz2
        cases hl : ltInt x v with
        | true =>
            have HLx : Hid (lowP v dk[i']! = true) := by
              show _ = _
              rw [EX.out]; unfold lowP; rw [hl]
            go_wp2_with fail
            go_quiet ((go_at_call 114; with_reducible exact Calls.quiet_of_same (HL.out _ _ _)))
            have S2 : Aside (SW eU w0 blk off dk (wr.drewN nq)) := S1.out.drewN nq
            clear cx cv bx bv S1
            generalize wr.drewN nq = wq at S2 ⊢
            have HN : Hid (PInv (lowP v) a b (i' + 1) j0 v d dk) := Lib.hid (PV.out.up hij HLx.out)
            clear PV
            go_wp2
            go_roundg (j0 + 1 - (i' + 1))
            case measure => omega
            case rel => exact ⟨i' + 1, by go_num, by omega, by omega, Nat.le_refl _, S2, HN⟩
        | false =>
            have HLx : Hid (lowP v dk[i']! = false) := by
              show _ = _
              rw [EX.out]; unfold lowP; rw [hl]
            go_wp2_with fail
            go_quiet ((go_at_call 114; with_reducible exact Calls.quiet_of_same (HL.out _ _ _)))
            have S2 : Aside (SW eU w0 blk off dk (wr.drewN nq)) := S1.out.drewN nq
            clear cx cv bx bv S1
            generalize wr.drewN nq = wq at S2 ⊢
            go_wp2
            go_meet
            case rel => exact ⟨i', rfl, by omega, by omega, S2, PV, Lib.hid (fun _ => HLx.out)⟩
      · have hz : ¬ (i' : Int) ≤ (j0 : Int) := by omega
        have hzd : decide ((i' : Int) ≤ (j0 : Int)) = false := decide_eq_false hz
        go_wp2_with fail
        go_quiet ((go_at_call 114; with_reducible exact Calls.quiet_of_same (HL.out _ _ _)))
        have S2 : Aside (SW eU w0 blk off dk (wr.drewN nq)) := S1.out.drewN nq
        clear S1
        generalize wr.drewN nq = wq at S2 ⊢
        go_wp2
        go_meet
        case rel => exact ⟨i', rfl, by omega, by omega, S2, PV, Lib.hid (fun h => absurd h hij)⟩
  case rest =>
  obtain ⟨i, rfl, hij1, hi1, S3, PV, NI⟩ := hcut
  go_upto_block 2 with fail
  go_cut [11]  (fun sx wx => ∃ j : Nat, sx = .int .i64 j ∧ i ≤ j + 1 ∧ j < b ∧ j ≤ j0 ∧ Aside (SW eU w0 blk off dk wx) ∧ Hid (PInv (lowP v) a b i j v d dk) ∧ Hid (i ≤ j → lowP v dk[j]! = true))
  case first =>
    go_wp2_with fail
    go_loopg [11] j0 (fun kx sx wx => ∃ j' : Nat, sx = .int .i64 j' ∧ i ≤ j' + 1 ∧ j' < b ∧ j' ≤ j0 ∧ j' ≤ kx ∧ Aside (SW eU w0 blk off dk wx) ∧ Hid (PInv (lowP v) a b i j' v d dk))
    case atStart => exact ⟨j0, rfl, by omega, by omega, Nat.le_refl _, Nat.le_refl _, S3, PV⟩
    case round =>
      clear S3 PV
      obtain ⟨j', rfl, hj1, hj2, hj3, hkx, S1, PV⟩ := hrel
      by_cases hij : i ≤ j'
      · have hz : (i : Int) ≤ (j' : Int) := by omega
        have hsz2 := HD.out
        obtain ⟨x, hx⟩ : ∃ x, dk[j']! = x := ⟨_, rfl⟩
        have cx := S1.out.c1 R (by rw [HD.out]; exact HS.out.symm) (j') (by omega)
        rw [hx] at cx
        have cv := S1.out.c1 R (by rw [HD.out]; exact HS.out.symm) a (by omega)
        rw [PV.out.v] at cv
        replace cx : wr.cell? ⟨blk, off + j', none⟩ = some (.int .u64 x) := cx
        replace cv : wr.cell? ⟨blk, off + a, none⟩ = some (.int .u64 v) := cv
        have bx : (j' : Int) < (d.size : Int) := by omega
        have bv : (a : Int) < (d.size : Int) := by omega
        have EX := Lib.hid hx
        clear hx hsz2
        cases hl : ltInt x v with
        | true =>
            have HLx : Hid (lowP v dk[j']! = true) := by
              show _ = _
              rw [EX.out]; unfold lowP; rw [hl]
            go_wp2_with fail
            go_quiet ((go_at_call 114; with_reducible exact Calls.quiet_of_same (HL.out _ _ _)))
            have S2 : Aside (SW eU w0 blk off dk (wr.drewN nq)) := S1.out.drewN nq
            clear cx cv bx bv S1
            generalize wr.drewN nq = wq at S2 ⊢
            go_wp2
            go_meet
            case rel => exact ⟨j', rfl, by omega, by omega, hj3, S2, PV, Lib.hid (fun _ => HLx.out)⟩
        | false =>
            have HLx : Hid (lowP v dk[j']! = false) := by
              show _ = _
              rw [EX.out]; unfold lowP; rw [hl]
            go_wp2_with fail
            go_quiet ((go_at_call 114; with_reducible exact Calls.quiet_of_same (HL.out _ _ _)))
            have S2 : Aside (SW eU w0 blk off dk (wr.drewN nq)) := S1.out.drewN nq
            clear cx cv bx bv S1
            generalize wr.drewN nq = wq at S2 ⊢
            obtain ⟨j2, rfl⟩ : ∃ j2, j' = j2 + 1 := ⟨j' - 1, by omega⟩
            have HN : Hid (PInv (lowP v) a b i j2 v d dk) := Lib.hid (PV.out.down hij HLx.out)
            clear PV
            go_wp2
            go_roundg (j2)
            case measure => omega
            case rel => exact ⟨j2, by go_num, by omega, by omega, by omega, Nat.le_refl _, S2, HN⟩
      · have hz : ¬ (i : Int) ≤ (j' : Int) := by omega
        have hzd : decide ((i : Int) ≤ (j' : Int)) = false := decide_eq_false hz
        go_wp2_with fail
        go_quiet ((go_at_call 114; with_reducible exact Calls.quiet_of_same (HL.out _ _ _)))
        have S2 : Aside (SW eU w0 blk off dk (wr.drewN nq)) := S1.out.drewN nq
        clear S1
        generalize wr.drewN nq = wq at S2 ⊢
        go_wp2
        go_meet
        case rel => exact ⟨j', rfl, by omega, by omega, hj3, S2, PV, Lib.hid (fun h => absurd h hij)⟩
  case rest =>
  obtain ⟨j, rfl, hij2, hj2, hj3, S4, PV, NJ⟩ := hcut
  by_cases hgt : j < i
  · have hz : (j : Int) < (i : Int) := by omega
    have HF := Lib.hid (ppart_of PV.out hgt hb)
    have hja : a ≤ j := by have := PV.out.i1; omega
    clear PV NI NJ
    go_wp2_with fail
    have hsz2 := HD.out
    have bI : (j : Int) < (d.size : Int) := by omega
    have bJ : (a : Int) < (d.size : Int) := by omega
    have S2 := S4.out.swapped R (j) (a) (by omega) (by omega)
    have ca := S4.out.c1 R (by rw [HD.out]; exact HS.out.symm) (j) (by omega)
    have cb := S4.out.c1 R (by rw [HD.out]; exact HS.out.symm) (a) (by omega)
    have fa := S4.out.f1 R (by rw [HD.out]; exact HS.out.symm) (j) (by omega)
    have fb := S4.out.f1 R (by rw [HD.out]; exact HS.out.symm) (a) (by omega)
    obtain ⟨uc, cc⟩ := S4.out.c2 R (by rw [HD.out]; exact HS.out.symm) (j) (a) (by omega) (by omega) (eU dk[a]!)
    clear hsz2
    generalize dk[j]! = vI at S2 ca cc
    generalize dk[a]! = vJ at S2 cb cc
    replace S2 : Aside (SW eU w0 blk off (swp dk (j) (a)) ((wc.setCell ⟨blk, off + j, none⟩ (.int .u64 vJ)).setCell ⟨blk, off + a, none⟩ (.int .u64 vI)).drew) := S2
    replace ca : wc.cell? ⟨blk, off + j, none⟩ = some (.int .u64 vI) := ca
    replace cb : wc.cell? ⟨blk, off + a, none⟩ = some (.int .u64 vJ) := cb
    replace cc : (wc.setCell ⟨blk, off + j, none⟩ (.int .u64 vJ)).cell? ⟨blk, off + a, none⟩ = some uc := cc
    clear S4
    go_wp2_with fail
    go_big_region
    clear ca cb fa fb cc bI bJ
    generalize ((wc.setCell ⟨blk, off + j, none⟩ (.int .u64 vJ)).setCell ⟨blk, off + a, none⟩ (.int .u64 vI)).drew = w2 at S2 ⊢
    go_wp2_with fail
    go_ret2
    exact ⟨j, true, rfl, _, S2, HF.out⟩
  · have hz : ¬ (j : Int) < (i : Int) := by omega
    obtain ⟨hlt, PN0⟩ := PV.out.swapj (by omega) (NI.out (by omega)) (NJ.out (by omega)) hb
    have PN := Lib.hid PN0
    clear PN0 PV NI NJ
    go_wp2_with fail
    have hsz2 := HD.out
    have bI : (i : Int) < (d.size : Int) := by omega
    have bJ : (j : Int) < (d.size : Int) := by omega
    have S2 := S4.out.swapped R (i) (j) (by omega) (by omega)
    have ca := S4.out.c1 R (by rw [HD.out]; exact HS.out.symm) (i) (by omega)
    have cb := S4.out.c1 R (by rw [HD.out]; exact HS.out.symm) (j) (by omega)
    have fa := S4.out.f1 R (by rw [HD.out]; exact HS.out.symm) (i) (by omega)
    have fb := S4.out.f1 R (by rw [HD.out]; exact HS.out.symm) (j) (by omega)
    obtain ⟨uc, cc⟩ := S4.out.c2 R (by rw [HD.out]; exact HS.out.symm) (i) (j) (by omega) (by omega) (eU dk[j]!)
    clear hsz2
    generalize dk[i]! = vI at S2 ca cc
    generalize dk[j]! = vJ at S2 cb cc
    replace S2 : Aside (SW eU w0 blk off (swp dk (i) (j)) ((wc.setCell ⟨blk, off + i, none⟩ (.int .u64 vJ)).setCell ⟨blk, off + j, none⟩ (.int .u64 vI)).drew) := S2
    replace ca : wc.cell? ⟨blk, off + i, none⟩ = some (.int .u64 vI) := ca
    replace cb : wc.cell? ⟨blk, off + j, none⟩ = some (.int .u64 vJ) := cb
    replace cc : (wc.setCell ⟨blk, off + i, none⟩ (.int .u64 vJ)).cell? ⟨blk, off + j, none⟩ = some uc := cc
    clear S4
    go_wp2_with fail
    go_big_region
    clear ca cb fa fb cc bI bJ
    generalize ((wc.setCell ⟨blk, off + i, none⟩ (.int .u64 vJ)).setCell ⟨blk, off + j, none⟩ (.int .u64 vI)).drew = w2 at S2 ⊢
    clear HD
    go_wp2_with fail
    go_loopg [10, 11] b (fun kx s10 s11 wr => ∃ (i j : Nat) (dk : Array Int), s10 = .int .i64 i ∧ s11 = .int .i64 j ∧ i ≤ j + 1 ∧ a + 1 ≤ i ∧ j < b ∧ j ≤ kx ∧ Aside (SW eU w0 blk off dk wr) ∧ Hid (PInv (lowP v) a b i j v d dk))
    case atStart => exact ⟨i + 1, j - 1, swp dk i j, by go_num, by rw [Int.ofNat_sub (by omega)]; rfl, by omega, by omega, by omega, by omega, S2, PN⟩
    case round =>
      clear S2 PN hlt hz hgt hij2 hj2 hj3 hij1 hi1 hij0 hi0 hj0 hj0' z1 z2
      obtain ⟨i0, j0, dk, rfl, rfl, hij0, hi0, hj0, hkx0, S1, PV⟩ := hrel
      have HD : Hid (dk.size = d.size) := PV.out.perm.1
      go_upto_block 6 with fail
      go_cut [10] from 99 to 114 (fun sx wx => ∃ i : Nat, sx = .int .i64 i ∧ i ≤ j0 + 1 ∧ a + 1 ≤ i ∧ Aside (SW eU w0 blk off dk wx) ∧ Hid (PInv (lowP v) a b i j0 v d dk) ∧ Hid (i ≤ j0 → lowP v dk[i]! = false))
      case first =>
        go_wp2_with fail
        go_loopg [10] (j0 + 1 - i0) (fun kx sx wx => ∃ i' : Nat, sx = .int .i64 i' ∧ i' ≤ j0 + 1 ∧ a + 1 ≤ i' ∧ j0 + 1 - i' ≤ kx ∧ Aside (SW eU w0 blk off dk wx) ∧ Hid (PInv (lowP v) a b i' j0 v d dk))
        case atStart => exact ⟨i0, rfl, by omega, by omega, Nat.le_refl _, S1, PV⟩
        case round =>
          clear S1 PV
          obtain ⟨i', rfl, hi1, hi2, hkx, S1, PV⟩ := hrel
          by_cases hij : i' ≤ j0
          · have hz : (i' : Int) ≤ (j0 : Int) := by omega
            have hsz2 := HD.out
            obtain ⟨x, hx⟩ : ∃ x, dk[i']! = x := ⟨_, rfl⟩
            have cx := S1.out.c1 R (by rw [HD.out]; exact HS.out.symm) (i') (by omega)
            rw [hx] at cx
            have cv := S1.out.c1 R (by rw [HD.out]; exact HS.out.symm) a (by omega)
            rw [PV.out.v] at cv
            replace cx : wr.cell? ⟨blk, off + i', none⟩ = some (.int .u64 x) := cx
            replace cv : wr.cell? ⟨blk, off + a, none⟩ = some (.int .u64 v) := cv
            have bx : (i' : Int) < (d.size : Int) := by omega
            have bv : (a : Int) < (d.size : Int) := by omega
            have EX := Lib.hid hx
            clear hx hsz2
            cases hl : ltInt x v with
            | true =>
                have HLx : Hid (lowP v dk[i']! = true) := by
                  show _ = _
                  rw [EX.out]; unfold lowP; rw [hl]
                go_wp2_with fail
                go_quiet ((go_at_call 114; with_reducible exact Calls.quiet_of_same (HL.out _ _ _)))
                have S2 : Aside (SW eU w0 blk off dk (wr.drewN nq)) := S1.out.drewN nq
                clear cx cv bx bv S1
                generalize wr.drewN nq = wq at S2 ⊢
                have HN : Hid (PInv (lowP v) a b (i' + 1) j0 v d dk) := Lib.hid (PV.out.up hij HLx.out)
                clear PV
                go_wp2
                go_roundg (j0 + 1 - (i' + 1))
                case measure => omega
                case rel => exact ⟨i' + 1, by go_num, by omega, by omega, Nat.le_refl _, S2, HN⟩
            | false =>
                have HLx : Hid (lowP v dk[i']! = false) := by
                  show _ = _
                  rw [EX.out]; unfold lowP; rw [hl]
                go_wp2_with fail
                go_quiet ((go_at_call 114; with_reducible exact Calls.quiet_of_same (HL.out _ _ _)))
                have S2 : Aside (SW eU w0 blk off dk (wr.drewN nq)) := S1.out.drewN nq
                clear cx cv bx bv S1
                generalize wr.drewN nq = wq at S2 ⊢
                go_wp2
                go_meet
                case rel => exact ⟨i', rfl, by omega, by omega, S2, PV, Lib.hid (fun _ => HLx.out)⟩
          · have hz : ¬ (i' : Int) ≤ (j0 : Int) := by omega
            have hzd : decide ((i' : Int) ≤ (j0 : Int)) = false := decide_eq_false hz
            go_wp2_with fail
            go_quiet ((go_at_call 114; with_reducible exact Calls.quiet_of_same (HL.out _ _ _)))
            have S2 : Aside (SW eU w0 blk off dk (wr.drewN nq)) := S1.out.drewN nq
            clear S1
            generalize wr.drewN nq = wq at S2 ⊢
            go_wp2
            go_meet
            case rel => exact ⟨i', rfl, by omega, by omega, S2, PV, Lib.hid (fun h => absurd h hij)⟩
      case rest =>
      obtain ⟨i, rfl, hij1, hi1, S3, PV, NI⟩ := hcut
      go_upto_block 8 with fail
      go_cut [11] from 115 to 131 (fun sx wx => ∃ j : Nat, sx = .int .i64 j ∧ i ≤ j + 1 ∧ j < b ∧ j ≤ j0 ∧ Aside (SW eU w0 blk off dk wx) ∧ Hid (PInv (lowP v) a b i j v d dk) ∧ Hid (i ≤ j → lowP v dk[j]! = true))
      case first =>
        go_wp2_with fail
        go_loopg [11] j0 (fun kx sx wx => ∃ j' : Nat, sx = .int .i64 j' ∧ i ≤ j' + 1 ∧ j' < b ∧ j' ≤ j0 ∧ j' ≤ kx ∧ Aside (SW eU w0 blk off dk wx) ∧ Hid (PInv (lowP v) a b i j' v d dk))
        case atStart => exact ⟨j0, rfl, by omega, by omega, Nat.le_refl _, Nat.le_refl _, S3, PV⟩
        case round =>
          clear S3 PV
          obtain ⟨j', rfl, hj1, hj2, hj3, hkx, S1, PV⟩ := hrel
          by_cases hij : i ≤ j'
          · have hz : (i : Int) ≤ (j' : Int) := by omega
            have hsz2 := HD.out
            obtain ⟨x, hx⟩ : ∃ x, dk[j']! = x := ⟨_, rfl⟩
            have cx := S1.out.c1 R (by rw [HD.out]; exact HS.out.symm) (j') (by omega)
            rw [hx] at cx
            have cv := S1.out.c1 R (by rw [HD.out]; exact HS.out.symm) a (by omega)
            rw [PV.out.v] at cv
            replace cx : wr.cell? ⟨blk, off + j', none⟩ = some (.int .u64 x) := cx
            replace cv : wr.cell? ⟨blk, off + a, none⟩ = some (.int .u64 v) := cv
            have bx : (j' : Int) < (d.size : Int) := by omega
            have bv : (a : Int) < (d.size : Int) := by omega
            have EX := Lib.hid hx
            clear hx hsz2
            cases hl : ltInt x v with
            | true =>
                have HLx : Hid (lowP v dk[j']! = true) := by
                  show _ = _
                  rw [EX.out]; unfold lowP; rw [hl]
                go_wp2_with fail
                go_quiet ((go_at_call 114; with_reducible exact Calls.quiet_of_same (HL.out _ _ _)))
                have S2 : Aside (SW eU w0 blk off dk (wr.drewN nq)) := S1.out.drewN nq
                clear cx cv bx bv S1
                generalize wr.drewN nq = wq at S2 ⊢
                go_wp2
                go_meet
                case rel => exact ⟨j', rfl, by omega, by omega, hj3, S2, PV, Lib.hid (fun _ => HLx.out)⟩
            | false =>
                have HLx : Hid (lowP v dk[j']! = false) := by
                  show _ = _
                  rw [EX.out]; unfold lowP; rw [hl]
                go_wp2_with fail
                go_quiet ((go_at_call 114; with_reducible exact Calls.quiet_of_same (HL.out _ _ _)))
                have S2 : Aside (SW eU w0 blk off dk (wr.drewN nq)) := S1.out.drewN nq
                clear cx cv bx bv S1
                generalize wr.drewN nq = wq at S2 ⊢
                obtain ⟨j2, rfl⟩ : ∃ j2, j' = j2 + 1 := ⟨j' - 1, by omega⟩
                have HN : Hid (PInv (lowP v) a b i j2 v d dk) := Lib.hid (PV.out.down hij HLx.out)
                clear PV
                go_wp2
                go_roundg (j2)
                case measure => omega
                case rel => exact ⟨j2, by go_num, by omega, by omega, by omega, Nat.le_refl _, S2, HN⟩
          · have hz : ¬ (i : Int) ≤ (j' : Int) := by omega
            have hzd : decide ((i : Int) ≤ (j' : Int)) = false := decide_eq_false hz
            go_wp2_with fail
            go_quiet ((go_at_call 114; with_reducible exact Calls.quiet_of_same (HL.out _ _ _)))
            have S2 : Aside (SW eU w0 blk off dk (wr.drewN nq)) := S1.out.drewN nq
            clear S1
            generalize wr.drewN nq = wq at S2 ⊢
            go_wp2
            go_meet
            case rel => exact ⟨j', rfl, by omega, by omega, hj3, S2, PV, Lib.hid (fun h => absurd h hij)⟩
      case rest =>
      obtain ⟨j, rfl, hij2, hj2, hj3, S4, PV, NJ⟩ := hcut
      by_cases hgt : j < i
      · have hz : (j : Int) < (i : Int) := by omega
        have HF := Lib.hid (ppart_of PV.out hgt hb)
        have hja : a ≤ j := by have := PV.out.i1; omega
        clear PV NI NJ
        go_wp2_with fail
        have hsz2 := HD.out
        have bI : (j : Int) < (d.size : Int) := by omega
        have bJ : (a : Int) < (d.size : Int) := by omega
        have S2 := S4.out.swapped R (j) (a) (by omega) (by omega)
        have ca := S4.out.c1 R (by rw [HD.out]; exact HS.out.symm) (j) (by omega)
        have cb := S4.out.c1 R (by rw [HD.out]; exact HS.out.symm) (a) (by omega)
        have fa := S4.out.f1 R (by rw [HD.out]; exact HS.out.symm) (j) (by omega)
        have fb := S4.out.f1 R (by rw [HD.out]; exact HS.out.symm) (a) (by omega)
        obtain ⟨uc, cc⟩ := S4.out.c2 R (by rw [HD.out]; exact HS.out.symm) (j) (a) (by omega) (by omega) (eU dk[a]!)
        clear hsz2
        generalize dk[j]! = vI at S2 ca cc
        generalize dk[a]! = vJ at S2 cb cc
        replace S2 : Aside (SW eU w0 blk off (swp dk (j) (a)) ((wc.setCell ⟨blk, off + j, none⟩ (.int .u64 vJ)).setCell ⟨blk, off + a, none⟩ (.int .u64 vI)).drew) := S2
        replace ca : wc.cell? ⟨blk, off + j, none⟩ = some (.int .u64 vI) := ca
        replace cb : wc.cell? ⟨blk, off + a, none⟩ = some (.int .u64 vJ) := cb
        replace cc : (wc.setCell ⟨blk, off + j, none⟩ (.int .u64 vJ)).cell? ⟨blk, off + a, none⟩ = some uc := cc
        clear S4
        go_wp2_with fail
        go_big_region
        clear ca cb fa fb cc bI bJ
        generalize ((wc.setCell ⟨blk, off + j, none⟩ (.int .u64 vJ)).setCell ⟨blk, off + a, none⟩ (.int .u64 vI)).drew = w2 at S2 ⊢
        go_wp2_with fail
        go_ret2
        exact ⟨j, false, rfl, _, S2, HF.out⟩
      · have hz : ¬ (j : Int) < (i : Int) := by omega
        obtain ⟨hlt, PN0⟩ := PV.out.swapj (by omega) (NI.out (by omega)) (NJ.out (by omega)) hb
        have PN := Lib.hid PN0
        clear PN0 PV NI NJ
        go_wp2_with fail
        have hsz2 := HD.out
        have bI : (i : Int) < (d.size : Int) := by omega
        have bJ : (j : Int) < (d.size : Int) := by omega
        have S2 := S4.out.swapped R (i) (j) (by omega) (by omega)
        have ca := S4.out.c1 R (by rw [HD.out]; exact HS.out.symm) (i) (by omega)
        have cb := S4.out.c1 R (by rw [HD.out]; exact HS.out.symm) (j) (by omega)
        have fa := S4.out.f1 R (by rw [HD.out]; exact HS.out.symm) (i) (by omega)
        have fb := S4.out.f1 R (by rw [HD.out]; exact HS.out.symm) (j) (by omega)
        obtain ⟨uc, cc⟩ := S4.out.c2 R (by rw [HD.out]; exact HS.out.symm) (i) (j) (by omega) (by omega) (eU dk[j]!)
        clear hsz2
        generalize dk[i]! = vI at S2 ca cc
        generalize dk[j]! = vJ at S2 cb cc
        replace S2 : Aside (SW eU w0 blk off (swp dk (i) (j)) ((wc.setCell ⟨blk, off + i, none⟩ (.int .u64 vJ)).setCell ⟨blk, off + j, none⟩ (.int .u64 vI)).drew) := S2
        replace ca : wc.cell? ⟨blk, off + i, none⟩ = some (.int .u64 vI) := ca
        replace cb : wc.cell? ⟨blk, off + j, none⟩ = some (.int .u64 vJ) := cb
        replace cc : (wc.setCell ⟨blk, off + i, none⟩ (.int .u64 vJ)).cell? ⟨blk, off + j, none⟩ = some uc := cc
        clear S4
        go_wp2_with fail
        go_big_region
        clear ca cb fa fb cc bI bJ
        generalize ((wc.setCell ⟨blk, off + i, none⟩ (.int .u64 vJ)).setCell ⟨blk, off + j, none⟩ (.int .u64 vI)).drew = w2 at S2 ⊢
        go_wp2_with fail
        go_roundg (j - 1)
        case measure => omega
        case rel => exact ⟨i + 1, j - 1, swp dk i j, by go_num, by rw [Int.ofNat_sub (by omega)]; rfl, by omega, by omega, by omega, Nat.le_refl _, S2, PN⟩
end Go.Proofs.Ytemmbgbmkihbaaa
