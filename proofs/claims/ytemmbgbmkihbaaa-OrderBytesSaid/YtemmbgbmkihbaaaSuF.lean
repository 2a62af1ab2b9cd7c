/- slices.Sort at uint64: reverseRange, partialInsertionSort. (By mksuf.py.) -/
import Derived.Test.YtemmbgbmkihbaaaSuE
namespace Go.Proofs.Ytemmbgbmkihbaaa
open Go.RowKit Go.Sort Go.Lib Go.Shelf


set_option maxHeartbeats 4000000 in
set_option maxRecDepth 1000000 in
theorem rev_c (blk off cap : Nat) (a b : Nat) (za zb : Int) (hza : za = a) (hzb : zb = b) (d0 d : Array Int) (w0 w : World) (n : Nat) (hn : n = d.size) (R : Row1 eU w0 blk off d0) (hs : d0.size = d.size) (S : SW eU w0 blk off d w) (hsz : d.size < 4611686018427387904) (hab : a < b) (hb : b ≤ d.size) :
    Calls Try.prog 112 #[.slice (some ⟨blk, off, none⟩) n cap, .int .i64 za, .int .i64 zb] w fun e w' => e = .returned (.tuple #[]) ∧ ∃ d', SW eU w0 blk off d' w' ∧ PermIn a b d d' := by
  subst hn hza hzb
  have mixed : Try.prog.follows .mixedOrders = true := by kernel_rfl
  have S0 : Aside (SW eU w0 blk off d w) := S
  have HS := Lib.hid hs
  have HL := Lib.hid lessU_c
  clear S hs
  go_enter Try.func112, Try.ntmps112
  obtain ⟨j0, hj0⟩ : ∃ j, j = b - 1 := ⟨_, rfl⟩
  have z1 : (b : Int) - 1 = (j0 : Int) := by omega
  have l1 : j0 < b := by omega
  have l2 : a ≤ j0 := by omega
  clear hj0
  go_wp2
  go_loopg [6, 7] b (fun kx s6 s7 wr => ∃ (i j : Nat) (dk : Array Int), s6 = .int .i64 i ∧ s7 = .int .i64 j ∧ a ≤ i ∧ i ≤ j + 1 ∧ j < b ∧ j ≤ kx ∧ Aside (SW eU w0 blk off dk wr) ∧ PermIn a b d dk)
  case atStart => exact ⟨a, j0, d, rfl, rfl, by omega, by omega, by omega, by omega, S0, permIn_refl _ _ _⟩
  case round =>
    clear S0
    obtain ⟨i, j, dk, rfl, rfl, hai, hij, hjb, hkx, S1, HPm⟩ := hrel
    have HD : Hid (dk.size = d.size) := HPm.1
    by_cases hlt : i < j
    · have hz : (i : Int) < (j : Int) := by omega
      have HPn : PermIn a b d (swp dk i j) := permIn_trans _ _ _ _ _ HPm (swp_permIn dk a b i j (by omega) (by omega) (by omega) (by omega) (by rw [HD.out]; omega))
      clear HPm
      go_wp2_with fail
      have hsz2 := HD.out
      have bI : (i : Int) < (d.size : Int) := by omega
      have bJ : (j : Int) < (d.size : Int) := by omega
      have S2 := S1.out.swapped R (i) (j) (by omega) (by omega)
      have ca := S1.out.c1 R (by rw [HD.out]; exact HS.out.symm) (i) (by omega)
      have cb := S1.out.c1 R (by rw [HD.out]; exact HS.out.symm) (j) (by omega)
      have fa := S1.out.f1 R (by rw [HD.out]; exact HS.out.symm) (i) (by omega)
      have fb := S1.out.f1 R (by rw [HD.out]; exact HS.out.symm) (j) (by omega)
      obtain ⟨uc, cc⟩ := S1.out.c2 R (by rw [HD.out]; exact HS.out.symm) (i) (j) (by omega) (by omega) (eU dk[j]!)
      clear hsz2
      generalize dk[i]! = vI at S2 ca cc
      generalize dk[j]! = vJ at S2 cb cc
      replace S2 : Aside (SW eU w0 blk off (swp dk (i) (j)) ((wr.setCell ⟨blk, off + i, none⟩ (.int .u64 vJ)).setCell ⟨blk, off + j, none⟩ (.int .u64 vI)).drew) := S2
      replace ca : wr.cell? ⟨blk, off + i, none⟩ = some (.int .u64 vI) := ca
      replace cb : wr.cell? ⟨blk, off + j, none⟩ = some (.int .u64 vJ) := cb
      replace cc : (wr.setCell ⟨blk, off + i, none⟩ (.int .u64 vJ)).cell? ⟨blk, off + j, none⟩ = some uc := cc
      clear S1
      go_wp2_with fail
      go_big_region
      clear ca cb fa fb cc bI bJ
      generalize ((wr.setCell ⟨blk, off + i, none⟩ (.int .u64 vJ)).setCell ⟨blk, off + j, none⟩ (.int .u64 vI)).drew = w2 at S2 ⊢
      go_wp2_with fail
      go_roundg (j - 1)
      case measure => omega
      case rel => exact ⟨i + 1, j - 1, swp dk i j, by go_num, by rw [Int.ofNat_sub (by omega)]; rfl, by omega, by omega, by omega, Nat.le_refl _, S2, HPn⟩
    · have hz : ¬ (i : Int) < (j : Int) := by omega
      clear HD
      go_wp2
      go_end0
      exact ⟨rfl, dk, S1.out, HPm⟩

theorem ss_go {d : Array Int} {b i : Nat} (h : i < b) (hl : ltInt d[i]! d[i - 1]! = false) : scanSorted ltInt d b i = scanSorted ltInt d b (i + 1) := by
  conv => lhs; rw [scanSorted]
  rw [if_pos (by rw [hl]; simpa using h)]
theorem ss_stop {d : Array Int} {b i : Nat} (h : ¬ i < b ∨ ltInt d[i]! d[i - 1]! = true) : scanSorted ltInt d b i = i := by
  rw [scanSorted, if_neg (by
    intro hc
    rw [Bool.and_eq_true, decide_eq_true_iff] at hc
    rcases h with h | h
    · exact h hc.1
    · rw [h] at hc; cases hc.2)]
theorem sdn_go {d : Array Int} {j : Nat} (hl : ltInt d[j + 1]! d[j]! = true) : shiftDown ltInt (j + 1) d = shiftDown ltInt j (swp d (j + 1) j) := by
  show (if (!ltInt d[j + 1]! d[j]!) = true then d else _) = _
  rw [hl, if_neg (by decide)]
theorem sdn_stop {d : Array Int} {j : Nat} (hl : ltInt d[j + 1]! d[j]! = false) : shiftDown ltInt (j + 1) d = d := by
  show (if (!ltInt d[j + 1]! d[j]!) = true then d else _) = _
  rw [hl, if_pos (by decide)]
theorem sup_go {d : Array Int} {b j : Nat} (h : j < b) (hl : ltInt d[j]! d[j - 1]! = true) : shiftUp ltInt b j d = shiftUp ltInt b (j + 1) (swp d j (j - 1)) := by
  conv => lhs; rw [shiftUp]
  rw [if_pos h, hl, if_neg (by decide)]
theorem sup_stop {d : Array Int} {b j : Nat} (h : ¬ j < b ∨ ltInt d[j]! d[j - 1]! = false) : shiftUp ltInt b j d = d := by
  rw [shiftUp]
  by_cases h1 : j < b
  · rw [if_pos h1]
    rcases h with h | h
    · exact absurd h1 h
    · rw [h, if_pos (by decide)]
  · rw [if_neg h1]
theorem size_sdn : ∀ (j : Nat) (d : Array Int), (shiftDown ltInt j d).size = d.size
  | 0, _ => rfl
  | j + 1, d => by
    cases h : ltInt d[j + 1]! d[j]! with
    | true => rw [sdn_go h, size_sdn j, size_swp]
    | false => rw [sdn_stop h]
theorem size_sup (b : Nat) : ∀ (n j : Nat) (d : Array Int), b - j ≤ n → (shiftUp ltInt b j d).size = d.size
  | 0, j, d, h => by rw [sup_stop (.inl (by omega))]
  | n + 1, j, d, h => by
    by_cases h1 : j < b
    · cases h2 : ltInt d[j]! d[j - 1]! with
      | true => rw [sup_go h1 h2, size_sup b n (j + 1) _ (by omega), size_swp]
      | false => rw [sup_stop (.inr h2)]
    · rw [sup_stop (.inl h1)]
def dnOf (a i : Nat) (d : Array Int) : Array Int := if i - a ≥ 2 then shiftDown ltInt (i - 1) d else d
def upOf (b i : Nat) (d : Array Int) : Array Int := if b - i ≥ 2 then shiftUp ltInt b (i + 1) d else d
theorem size_dn (a i : Nat) (d : Array Int) : (dnOf a i d).size = d.size := by unfold dnOf; split; exact size_sdn _ _; rfl
theorem size_up (b i : Nat) (d : Array Int) : (upOf b i d).size = d.size := by unfold upOf; split; exact size_sup b _ _ _ (Nat.le_refl _); rfl
theorem pi_done {a b t i : Nat} {d : Array Int} (h : scanSorted ltInt d b i = b) : partialIns ltInt a b (t + 1) i d = (d, true) := by
  show (if scanSorted ltInt d b i = b then _ else _) = _
  rw [if_pos h]
theorem pi_short {a b t i k : Nat} {d : Array Int} (h : scanSorted ltInt d b i = k) (hk : k ≠ b) (hs : b - a < 50) : partialIns ltInt a b (t + 1) i d = (d, false) := by
  show (if scanSorted ltInt d b i = b then _ else if b - a < 50 then _ else _) = _
  rw [if_neg (by rw [h]; exact hk), if_pos hs]
theorem pi_next {a b t i k : Nat} {d : Array Int} (h : scanSorted ltInt d b i = k) (hk : k ≠ b) (hs : ¬ b - a < 50) : partialIns ltInt a b (t + 1) i d = partialIns ltInt a b t k (upOf b k (dnOf a k (swp d k (k - 1)))) := by
  subst h
  show (if scanSorted ltInt d b i = b then _ else if b - a < 50 then _ else _) = _
  rw [if_neg hk, if_neg hs]
  rfl

set_option maxHeartbeats 4000000 in
set_option maxRecDepth 1000000 in
theorem pins_c (blk off cap : Nat) (a b : Nat) (za zb : Int) (hza : za = a) (hzb : zb = b) (d0 d : Array Int) (w0 w : World) (n : Nat) (hn : n = d.size) (R : Row1 eU w0 blk off d0) (hs : d0.size = d.size) (S : SW eU w0 blk off d w) (hsz : d.size < 4611686018427387904) (hab : a < b) (hb : b ≤ d.size) :
    Calls Try.prog 113 #[.slice (some ⟨blk, off, none⟩) n cap, .int .i64 za, .int .i64 zb] w fun e w' => e = .returned (.bool (partialIns ltInt a b 5 (a + 1) d).2) ∧ SW eU w0 blk off (partialIns ltInt a b 5 (a + 1) d).1 w' := by
  subst hn hza hzb
  obtain ⟨res, hres⟩ : ∃ r, r = partialIns ltInt a b 5 (a + 1) d := ⟨_, rfl⟩
  rw [← hres]
  have HR := Lib.hid hres
  clear hres
  have mixed : Try.prog.follows .mixedOrders = true := by kernel_rfl
  have S0 : Aside (SW eU w0 blk off d w) := S
  have HS := Lib.hid hs
  have HL := Lib.hid lessU_c
  clear S hs
  go_enter Try.func113, Try.ntmps113
  go_wp2
  go_loopg [7, 8] 5 (fun kx s7 s8 wr => ∃ (i s : Nat) (dk : Array Int), s7 = .int .i64 i ∧ s8 = .int .i64 s ∧ s ≤ 5 ∧ 5 - s ≤ kx ∧ a < i ∧ i ≤ b ∧ dk.size = d.size ∧ Aside (SW eU w0 blk off dk wr) ∧ Hid (partialIns ltInt a b (5 - s) i dk = res))
  case atStart => exact ⟨a + 1, 0, d, by go_num, rfl, by omega, by omega, by omega, by omega, rfl, S0, Lib.hid HR.out.symm⟩
  case round =>
    clear S0 HR
    obtain ⟨i0, s, dk, rfl, rfl, hs5, hkx0, hai, hib, hds, S1, HE⟩ := hrel
    have HD := Lib.hid hds
    clear hds
    by_cases hs : s < 5
    rotate_left
    · obtain rfl : s = 5 := by omega
      have HF : Hid (res = (dk, false)) := by show _ = _; rw [← HE.out]; rfl
      clear HE hs hs5
      go_wp2
      go_ret
      rw [HF.out]
      exact ⟨rfl, S1.out⟩
    · have hsz1 : (s : Int) < 5 := by omega
      obtain ⟨t, ht⟩ : ∃ t, 5 - s = t + 1 := ⟨5 - s - 1, by omega⟩
      have HT : Hid (5 - s = t + 1) := ht
      rw [ht] at HE
      clear ht
      go_upto_block 2 with fail
      go_cut [7] from 17 to 34 (fun sx wx => ∃ i : Nat, sx = .int .i64 i ∧ a < i ∧ i ≤ b ∧ Aside (SW eU w0 blk off dk wx) ∧ Hid (scanSorted ltInt dk b i0 = i))
      case first =>
        go_wp2_with fail
        go_loopg [7] (b - i0) (fun kx sx wx => ∃ i' : Nat, sx = .int .i64 i' ∧ a < i' ∧ i' ≤ b ∧ b - i' ≤ kx ∧ Aside (SW eU w0 blk off dk wx) ∧ Hid (scanSorted ltInt dk b i' = scanSorted ltInt dk b i0))
        case atStart => exact ⟨i0, rfl, hai, hib, Nat.le_refl _, S1, Lib.hid rfl⟩
        case round =>
          clear S1
          obtain ⟨i', rfl, hi1, hi2, hkx, S1, HI⟩ := hrel
          by_cases hlt : i' < b
          · have hz : (i' : Int) < (b : Int) := by omega
            obtain ⟨ip, hip⟩ : ∃ x, x = i' - 1 := ⟨_, rfl⟩
            have q1 : IntKind.i64.wrap ((i' : Int) - 1) = (ip : Int) := by rw [IntKind.wrap_i64]; omega
            have l1 : ip < i' := by omega
            have HIP := Lib.hid hip
            clear hip
            have hsz2 := HD.out
            obtain ⟨x, hx⟩ : ∃ x, dk[i']! = x := ⟨_, rfl⟩
            have cx := S1.out.c1 R (by rw [HD.out]; exact HS.out.symm) (i') (by omega)
            rw [hx] at cx
            replace cx : wr.cell? ⟨blk, off + i', none⟩ = some (.int .u64 x) := cx
            have Xx := Lib.hid hx
            clear hx
            have bbx : (i' : Int) < (d.size : Int) := by omega
            obtain ⟨y, hy⟩ : ∃ x, dk[ip]! = x := ⟨_, rfl⟩
            have cy := S1.out.c1 R (by rw [HD.out]; exact HS.out.symm) (ip) (by omega)
            rw [hy] at cy
            replace cy : wr.cell? ⟨blk, off + ip, none⟩ = some (.int .u64 y) := cy
            have Xy := Lib.hid hy
            clear hy
            have bby : (ip : Int) < (d.size : Int) := by omega
            clear hsz2
            cases hl : ltInt x y with
            | true =>
              have HN : Hid (scanSorted ltInt dk b i0 = i') := by
                show _ = _
                rw [← HI.out]; exact ss_stop (.inr (by rw [← HIP.out, Xx.out, Xy.out]; exact hl))
              go_wp2_with fail
              go_quiet ((go_at_call 114; with_reducible exact Calls.quiet_of_same (HL.out _ _ _)))
              have S2 : Aside (SW eU w0 blk off dk (wr.drewN nq)) := S1.out.drewN nq
              clear cx bbx cy bby S1
              generalize wr.drewN nq = wq at S2 ⊢
              go_wp2
              go_meet
              case rel => exact ⟨i', rfl, by omega, by omega, S2, HN⟩
            | false =>
              have HN : Hid (scanSorted ltInt dk b (i' + 1) = scanSorted ltInt dk b i0) := by
                show _ = _
                rw [← HI.out]; exact (ss_go hlt (by rw [← HIP.out, Xx.out, Xy.out]; exact hl)).symm
              go_wp2_with fail
              go_quiet ((go_at_call 114; with_reducible exact Calls.quiet_of_same (HL.out _ _ _)))
              have S2 : Aside (SW eU w0 blk off dk (wr.drewN nq)) := S1.out.drewN nq
              clear cx bbx cy bby S1
              generalize wr.drewN nq = wq at S2 ⊢
              go_wp2
              go_roundg (b - (i' + 1))
              case measure => omega
              case rel => exact ⟨i' + 1, by go_num, by omega, by omega, Nat.le_refl _, S2, HN⟩
          · have hz : ¬ (i' : Int) < (b : Int) := by omega
            have hzd : decide ((i' : Int) < (b : Int)) = false := decide_eq_false hz
            have HN : Hid (scanSorted ltInt dk b i0 = i') := by
              show _ = _
              rw [← HI.out]; exact ss_stop (.inl hlt)
            go_wp2_with fail
            go_quiet ((go_at_call 114; with_reducible exact Calls.quiet_of_same (HL.out _ _ _)))
            have S2 : Aside (SW eU w0 blk off dk (wr.drewN nq)) := S1.out.drewN nq
            clear S1
            generalize wr.drewN nq = wq at S2 ⊢
            go_wp2
            go_meet
            case rel => exact ⟨i', rfl, by omega, by omega, S2, HN⟩
      case rest =>
      obtain ⟨i, rfl, hi1, hi2, S2, HSc⟩ := hcut
      clear S1
      by_cases hib2 : i = b
      · subst hib2
        have he : ((i : Int) == (i : Int)) = true := by simp
        have HF : Hid (res = (dk, true)) := by show _ = _; rw [← HE.out, pi_done HSc.out]
        clear HE HSc
        go_wp2_with fail
        go_ret
        rw [HF.out]
        exact ⟨rfl, S2.out⟩
      · have he : ((i : Int) == (b : Int)) = false := by rw [beq_eq_false_iff_ne]; omega
        by_cases h50 : b - a < 50
        · have hz5 : (b : Int) - (a : Int) < 50 := by omega
          have HF : Hid (res = (dk, false)) := by show _ = _; rw [← HE.out, pi_short HSc.out hib2 h50]
          clear HE HSc
          go_wp2_with fail
          go_ret
          rw [HF.out]
          exact ⟨rfl, S2.out⟩
        · have hz5 : ¬ (b : Int) - (a : Int) < 50 := by omega
          obtain ⟨ip, hip⟩ : ∃ x, x = i - 1 := ⟨_, rfl⟩
          have HN : Hid (partialIns ltInt a b t i (upOf b i (dnOf a i (swp dk i ip))) = res) := by
            show _ = _
            rw [← HE.out, pi_next HSc.out hib2 h50, hip]
          have HIP := Lib.hid hip
          have q1 : IntKind.i64.wrap ((i : Int) - 1) = (ip : Int) := by rw [IntKind.wrap_i64]; omega
          have q1' : (i : Int) - 1 = (ip : Int) := by omega
          have l1 : ip < i := by omega
          have l2 : i ≤ ip + 1 := by omega
          have l3 : i < b := by omega
          clear hip HE HSc
          have S9 := S2
          clear S2
          go_wp2_with fail
          have hsz2 := HD.out
          have bI : (i : Int) < (d.size : Int) := by omega
          have bJ : (ip : Int) < (d.size : Int) := by omega
          have S2 := S9.out.swapped R (i) (ip) (by omega) (by omega)
          have ca := S9.out.c1 R (by rw [HD.out]; exact HS.out.symm) (i) (by omega)
          have cb := S9.out.c1 R (by rw [HD.out]; exact HS.out.symm) (ip) (by omega)
          have fa := S9.out.f1 R (by rw [HD.out]; exact HS.out.symm) (i) (by omega)
          have fb := S9.out.f1 R (by rw [HD.out]; exact HS.out.symm) (ip) (by omega)
          obtain ⟨uc, cc⟩ := S9.out.c2 R (by rw [HD.out]; exact HS.out.symm) (i) (ip) (by omega) (by omega) (eU dk[ip]!)
          clear hsz2
          generalize dk[i]! = vI at S2 ca cc
          generalize dk[ip]! = vJ at S2 cb cc
          replace S2 : Aside (SW eU w0 blk off (swp dk (i) (ip)) ((wc.setCell ⟨blk, off + i, none⟩ (.int .u64 vJ)).setCell ⟨blk, off + ip, none⟩ (.int .u64 vI)).drew) := S2
          replace ca : wc.cell? ⟨blk, off + i, none⟩ = some (.int .u64 vI) := ca
          replace cb : wc.cell? ⟨blk, off + ip, none⟩ = some (.int .u64 vJ) := cb
          replace cc : (wc.setCell ⟨blk, off + i, none⟩ (.int .u64 vJ)).cell? ⟨blk, off + ip, none⟩ = some uc := cc
          clear S9
          go_wp2_with fail
          go_big_region
          clear ca cb fa fb cc bI bJ
          generalize ((wc.setCell ⟨blk, off + i, none⟩ (.int .u64 vJ)).setCell ⟨blk, off + ip, none⟩ (.int .u64 vI)).drew = w2 at S2 ⊢
          obtain ⟨d1, hd1⟩ : ∃ x, x = swp dk i ip := ⟨_, rfl⟩
          have HD1 : Hid (d1.size = d.size) := Lib.hid (by rw [hd1, size_swp]; exact HD.out)
          rw [← hd1] at S2 HN
          clear hd1 HD
          go_upto_if 61 with fail
          go_cut [9] from 13 to 132 (fun s9 wx => Aside (SW eU w0 blk off (dnOf a i d1) wx))
          case first =>
            by_cases h2 : i - a ≥ 2
            · have hz2 : (2 : Int) ≤ (i : Int) - (a : Int) := by omega
              have HDN : Hid (dnOf a i d1 = shiftDown ltInt ip d1) := by show _ = _; unfold dnOf; rw [if_pos h2, HIP.out]
              clear h2
              go_wp2_with fail
              go_loopg [9] ip (fun kx sx wx => ∃ (j : Nat) (dj : Array Int), sx = .int .i64 j ∧ j ≤ ip ∧ j ≤ kx ∧ dj.size = d.size ∧ Aside (SW eU w0 blk off dj wx) ∧ Hid (shiftDown ltInt j dj = dnOf a i d1))
              case atStart => exact ⟨ip, d1, rfl, Nat.le_refl _, Nat.le_refl _, HD1.out, S2, Lib.hid HDN.out.symm⟩
              case round =>
                clear S2
                obtain ⟨j1, dj, rfl, hji, hkx, hdj, S1, HJ⟩ := hrel
                have HD := Lib.hid hdj
                clear hdj
                by_cases hj : 0 < j1
                · obtain ⟨j, hjj⟩ : ∃ j, j1 = j + 1 := ⟨j1 - 1, by omega⟩
                  have HJJ := Lib.hid hjj
                  have hz : (1 : Int) ≤ (j1 : Int) := by omega
                  have q3 : IntKind.i64.wrap ((j1 : Int) - 1) = (j : Int) := by rw [IntKind.wrap_i64]; omega
                  have q3' : (j1 : Int) - 1 = (j : Int) := by omega
                  have l4 : j < j1 := by omega
                  have l5 : j1 ≤ j + 1 := by omega
                  clear hjj
                  have hsz2 := HD.out
                  obtain ⟨x, hx⟩ : ∃ x, dj[j1]! = x := ⟨_, rfl⟩
                  have cx := S1.out.c1 R (by rw [HD.out]; exact HS.out.symm) (j1) (by omega)
                  rw [hx] at cx
                  replace cx : wr.cell? ⟨blk, off + j1, none⟩ = some (.int .u64 x) := cx
                  have Xx := Lib.hid hx
                  clear hx
                  have bbx : (j1 : Int) < (d.size : Int) := by omega
                  obtain ⟨y, hy⟩ : ∃ x, dj[j]! = x := ⟨_, rfl⟩
                  have cy := S1.out.c1 R (by rw [HD.out]; exact HS.out.symm) (j) (by omega)
                  rw [hy] at cy
                  replace cy : wr.cell? ⟨blk, off + j, none⟩ = some (.int .u64 y) := cy
                  have Xy := Lib.hid hy
                  clear hy
                  have bby : (j : Int) < (d.size : Int) := by omega
                  clear hsz2
                  cases hl : ltInt x y with
                  | true =>
                    have HJ2 : Hid (shiftDown ltInt j (swp dj j1 j) = dnOf a i d1) := by
                      show _ = _
                      rw [← HJ.out, HJJ.out]; exact (sdn_go (by rw [← HJJ.out, Xx.out, Xy.out]; exact hl)).symm
                    go_wp2_with fail
                    go_quiet ((go_at_call 114; with_reducible exact Calls.quiet_of_same (HL.out _ _ _)))
                    have S3 : Aside (SW eU w0 blk off dj (wr.drewN nq)) := S1.out.drewN nq
                    clear cx bbx cy bby S1
                    generalize wr.drewN nq = wq at S3 ⊢
                    clear hl
                    go_wp2_with fail
                    have hsz2 := HD.out
                    have bI : (j1 : Int) < (d.size : Int) := by omega
                    have bJ : (j : Int) < (d.size : Int) := by omega
                    have S2 := S3.out.swapped R (j1) (j) (by omega) (by omega)
                    have ca := S3.out.c1 R (by rw [HD.out]; exact HS.out.symm) (j1) (by omega)
                    have cb := S3.out.c1 R (by rw [HD.out]; exact HS.out.symm) (j) (by omega)
                    have fa := S3.out.f1 R (by rw [HD.out]; exact HS.out.symm) (j1) (by omega)
                    have fb := S3.out.f1 R (by rw [HD.out]; exact HS.out.symm) (j) (by omega)
                    obtain ⟨uc, cc⟩ := S3.out.c2 R (by rw [HD.out]; exact HS.out.symm) (j1) (j) (by omega) (by omega) (eU dj[j]!)
                    clear hsz2
                    generalize dj[j1]! = vI at S2 ca cc
                    generalize dj[j]! = vJ at S2 cb cc
                    replace S2 : Aside (SW eU w0 blk off (swp dj (j1) (j)) ((wq.setCell ⟨blk, off + j1, none⟩ (.int .u64 vJ)).setCell ⟨blk, off + j, none⟩ (.int .u64 vI)).drew) := S2
                    replace ca : wq.cell? ⟨blk, off + j1, none⟩ = some (.int .u64 vI) := ca
                    replace cb : wq.cell? ⟨blk, off + j, none⟩ = some (.int .u64 vJ) := cb
                    replace cc : (wq.setCell ⟨blk, off + j1, none⟩ (.int .u64 vJ)).cell? ⟨blk, off + j, none⟩ = some uc := cc
                    clear S3
                    go_wp2_with fail
                    go_big_region
                    clear ca cb fa fb cc bI bJ
                    generalize ((wq.setCell ⟨blk, off + j1, none⟩ (.int .u64 vJ)).setCell ⟨blk, off + j, none⟩ (.int .u64 vI)).drew = w2 at S2 ⊢
                    have HD2 : Hid ((swp dj j1 j).size = d.size) := Lib.hid (by rw [size_swp]; exact HD.out)
                    go_wp2_with fail
                    go_roundg (j)
                    case measure => omega
                    case rel => exact ⟨j, swp dj j1 j, rfl, by omega, Nat.le_refl _, HD2.out, S2, HJ2⟩
                  | false =>
                    have HJ2 : Hid (dnOf a i d1 = dj) := by
                      show _ = _
                      rw [← HJ.out, HJJ.out]; exact sdn_stop (by rw [← HJJ.out, Xx.out, Xy.out]; exact hl)
                    go_wp2_with fail
                    go_quiet ((go_at_call 114; with_reducible exact Calls.quiet_of_same (HL.out _ _ _)))
                    have S3 : Aside (SW eU w0 blk off dj (wr.drewN nq)) := S1.out.drewN nq
                    clear cx bbx cy bby S1
                    generalize wr.drewN nq = wq at S3 ⊢
                    clear hl
                    go_wp2_with fail
                    go_meet
                    case rel => rw [HJ2.out]; exact S3
                · obtain rfl : j1 = 0 := by omega
                  have HJ2 : Hid (dnOf a i d1 = dj) := by show _ = _; rw [← HJ.out]; rfl
                  clear hj
                  go_wp2_with fail
                  go_meet
                  case rel => rw [HJ2.out]; exact S1
            · have hz2 : ¬ (2 : Int) ≤ (i : Int) - (a : Int) := by omega
              have HDN : Hid (dnOf a i d1 = d1) := by show _ = _; unfold dnOf; rw [if_neg h2]
              clear h2
              go_wp2_with fail
              go_meet
              case rel => rw [HDN.out]; exact S2
          case rest =>
          have S3 := hcut
          clear S2
          have HDd : Hid ((dnOf a i d1).size = d.size) := Lib.hid (by rw [size_dn]; exact HD1.out)
          obtain ⟨d2, hd2⟩ : ∃ x, x = dnOf a i d1 := ⟨_, rfl⟩
          rw [← hd2] at S3 HN HDd
          clear hd2 HD1 hcut
          obtain ⟨i1, hi1e⟩ : ∃ x, x = i + 1 := ⟨_, rfl⟩
          have HI1 := Lib.hid hi1e
          have q4 : (i : Int) + 1 = (i1 : Int) := by omega
          have l6 : i < i1 := by omega
          have l7 : i1 ≤ b := by omega
          clear hi1e
          by_cases h2 : b - i ≥ 2
          · have hz2 : (2 : Int) ≤ (b : Int) - (i : Int) := by omega
            have HUP : Hid (upOf b i d2 = shiftUp ltInt b i1 d2) := by show _ = _; unfold upOf; rw [if_pos h2, HI1.out]
            clear h2
            go_wp2_with fail
            go_loopg [10] (b - i1) (fun kx sx wx => ∃ (j : Nat) (dj : Array Int), sx = .int .i64 j ∧ i < j ∧ j ≤ b ∧ b - j ≤ kx ∧ dj.size = d.size ∧ Aside (SW eU w0 blk off dj wx) ∧ Hid (shiftUp ltInt b j dj = upOf b i d2))
            case atStart => exact ⟨i1, d2, rfl, by omega, by omega, Nat.le_refl _, HDd.out, S3, Lib.hid HUP.out.symm⟩
            case round =>
              clear S3
              obtain ⟨j1, dj, rfl, hji, hjb, hkx, hdj, S1, HJ⟩ := hrel
              have HD := Lib.hid hdj
              clear hdj
              by_cases hj : j1 < b
              · obtain ⟨j, hjj⟩ : ∃ j, j = j1 - 1 := ⟨_, rfl⟩
                have HJJ := Lib.hid hjj
                have hz : (j1 : Int) < (b : Int) := by omega
                have q3 : IntKind.i64.wrap ((j1 : Int) - 1) = (j : Int) := by rw [IntKind.wrap_i64]; omega
                have l4 : j < j1 := by omega
                clear hjj
                have hsz2 := HD.out
                obtain ⟨x, hx⟩ : ∃ x, dj[j1]! = x := ⟨_, rfl⟩
                have cx := S1.out.c1 R (by rw [HD.out]; exact HS.out.symm) (j1) (by omega)
                rw [hx] at cx
                replace cx : wr.cell? ⟨blk, off + j1, none⟩ = some (.int .u64 x) := cx
                have Xx := Lib.hid hx
                clear hx
                have bbx : (j1 : Int) < (d.size : Int) := by omega
                obtain ⟨y, hy⟩ : ∃ x, dj[j]! = x := ⟨_, rfl⟩
                have cy := S1.out.c1 R (by rw [HD.out]; exact HS.out.symm) (j) (by omega)
                rw [hy] at cy
                replace cy : wr.cell? ⟨blk, off + j, none⟩ = some (.int .u64 y) := cy
                have Xy := Lib.hid hy
                clear hy
                have bby : (j : Int) < (d.size : Int) := by omega
                clear hsz2
                cases hl : ltInt x y with
                | true =>
                  have HJ2 : Hid (shiftUp ltInt b (j1 + 1) (swp dj j1 j) = upOf b i d2) := by
                    show _ = _
                    rw [← HJ.out, HJJ.out]; exact (sup_go hj (by rw [← HJJ.out, Xx.out, Xy.out]; exact hl)).symm
                  go_wp2_with fail
                  go_quiet ((go_at_call 114; with_reducible exact Calls.quiet_of_same (HL.out _ _ _)))
                  have S4 : Aside (SW eU w0 blk off dj (wr.drewN nq)) := S1.out.drewN nq
                  clear cx bbx cy bby S1
                  generalize wr.drewN nq = wq at S4 ⊢
                  clear hl
                  go_wp2_with fail
                  have hsz2 := HD.out
                  have bI : (j1 : Int) < (d.size : Int) := by omega
                  have bJ : (j : Int) < (d.size : Int) := by omega
                  have S2 := S4.out.swapped R (j1) (j) (by omega) (by omega)
                  have ca := S4.out.c1 R (by rw [HD.out]; exact HS.out.symm) (j1) (by omega)
                  have cb := S4.out.c1 R (by rw [HD.out]; exact HS.out.symm) (j) (by omega)
                  have fa := S4.out.f1 R (by rw [HD.out]; exact HS.out.symm) (j1) (by omega)
                  have fb := S4.out.f1 R (by rw [HD.out]; exact HS.out.symm) (j) (by omega)
                  obtain ⟨uc, cc⟩ := S4.out.c2 R (by rw [HD.out]; exact HS.out.symm) (j1) (j) (by omega) (by omega) (eU dj[j]!)
                  clear hsz2
                  generalize dj[j1]! = vI at S2 ca cc
                  generalize dj[j]! = vJ at S2 cb cc
                  replace S2 : Aside (SW eU w0 blk off (swp dj (j1) (j)) ((wq.setCell ⟨blk, off + j1, none⟩ (.int .u64 vJ)).setCell ⟨blk, off + j, none⟩ (.int .u64 vI)).drew) := S2
                  replace ca : wq.cell? ⟨blk, off + j1, none⟩ = some (.int .u64 vI) := ca
                  replace cb : wq.cell? ⟨blk, off + j, none⟩ = some (.int .u64 vJ) := cb
                  replace cc : (wq.setCell ⟨blk, off + j1, none⟩ (.int .u64 vJ)).cell? ⟨blk, off + j, none⟩ = some uc := cc
                  clear S4
                  go_wp2_with fail
                  go_big_region
                  clear ca cb fa fb cc bI bJ
                  generalize ((wq.setCell ⟨blk, off + j1, none⟩ (.int .u64 vJ)).setCell ⟨blk, off + j, none⟩ (.int .u64 vI)).drew = w2 at S2 ⊢
                  have HD2 : Hid ((swp dj j1 j).size = d.size) := Lib.hid (by rw [size_swp]; exact HD.out)
                  go_wp2_with fail
                  go_roundg (b - (j1 + 1))
                  case measure => omega
                  case rel => exact ⟨j1 + 1, swp dj j1 j, by go_num, by omega, by omega, Nat.le_refl _, HD2.out, S2, HJ2⟩
                | false =>
                  have HJ2 : Hid (upOf b i d2 = dj) := by
                    show _ = _
                    rw [← HJ.out]; exact sup_stop (.inr (by rw [← HJJ.out, Xx.out, Xy.out]; exact hl))
                  go_wp2_with fail
                  go_quiet ((go_at_call 114; with_reducible exact Calls.quiet_of_same (HL.out _ _ _)))
                  have S4 : Aside (SW eU w0 blk off dj (wr.drewN nq)) := S1.out.drewN nq
                  clear cx bbx cy bby S1
                  generalize wr.drewN nq = wq at S4 ⊢
                  clear hl
                  have HNs : Hid (partialIns ltInt a b (5 - (s + 1)) i dj = res) := by
                    show _ = _
                    rw [show 5 - (s + 1) = t by have := HT.out; omega, ← HJ2.out]; exact HN.out
                  clear HN HT HJ2
                  go_wp2_with fail
                  go_roundg (5 - (s + 1))
                  case measure => omega
                  case rel => exact ⟨i, s + 1, dj, rfl, by go_num, by omega, Nat.le_refl _, by omega, by omega, HD.out, S4, HNs⟩
              · have hz : ¬ (j1 : Int) < (b : Int) := by omega
                have HJ2 : Hid (upOf b i d2 = dj) := by show _ = _; rw [← HJ.out]; exact sup_stop (.inl hj)
                clear hj
                have HNs : Hid (partialIns ltInt a b (5 - (s + 1)) i dj = res) := by
                  show _ = _
                  rw [show 5 - (s + 1) = t by have := HT.out; omega, ← HJ2.out]; exact HN.out
                clear HN HT HJ2
                go_wp2_with fail
                go_roundg (5 - (s + 1))
                case measure => omega
                case rel => exact ⟨i, s + 1, dj, rfl, by go_num, by omega, Nat.le_refl _, by omega, by omega, HD.out, S1, HNs⟩
          · have hz2 : ¬ (2 : Int) ≤ (b : Int) - (i : Int) := by omega
            have HJ2 : Hid (upOf b i d2 = d2) := by show _ = _; unfold upOf; rw [if_neg h2]
            clear h2
            have HNs : Hid (partialIns ltInt a b (5 - (s + 1)) i d2 = res) := by
              show _ = _
              rw [show 5 - (s + 1) = t by have := HT.out; omega, ← HJ2.out]; exact HN.out
            clear HN HT HJ2
            go_wp2_with fail
            go_roundg (5 - (s + 1))
            case measure => omega
            case rel => exact ⟨i, s + 1, d2, rfl, by go_num, by omega, Nat.le_refl _, by omega, by omega, HDd.out, S3, HNs⟩
end Go.Proofs.Ytemmbgbmkihbaaa
