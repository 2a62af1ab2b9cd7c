/- slices.Sort at uint64: the heap. (By mksuc.py.) -/
import Derived.Test.YtemmbgbmkihbaaaSuB
import Derived.Sort.AssemblyPlain
namespace Go.Proofs.Ytemmbgbmkihbaaa
open Go.RowKit Go.Sort Go.Lib Go.Shelf

theorem sd_stop {hi first r : Nat} {d : Array Int} (h : hi ≤ 2 * r + 1) : siftDown ltInt hi first r d = d := by
  rw [siftDown, dif_pos h]
theorem sd_A {hi first r : Nat} {d : Array Int} (h : 2 * r + 2 < hi) (hl : ltInt d[first + (2 * r + 1)]! d[first + (2 * r + 1) + 1]! = true) :
    siftDown ltInt hi first r d = if ltInt d[first + r]! d[first + (2 * r + 2)]! = true then siftDown ltInt hi first (2 * r + 2) (swp d (first + r) (first + (2 * r + 2))) else d := by
  rw [siftDown, dif_neg (by omega), if_pos (by rw [hl, Bool.and_true]; exact decide_eq_true (by omega))]
  cases ltInt d[first + r]! d[first + (2 * r + 2)]! with
  | true => rw [if_neg (by decide), dif_pos h, if_pos rfl]
  | false => rw [if_pos (by decide), if_neg (by decide)]
theorem sd_B {hi first r : Nat} {d : Array Int} (h0 : 2 * r + 1 < hi) (h : ¬ 2 * r + 2 < hi ∨ ltInt d[first + (2 * r + 1)]! d[first + (2 * r + 1) + 1]! = false) :
    siftDown ltInt hi first r d = if ltInt d[first + r]! d[first + (2 * r + 1)]! = true then siftDown ltInt hi first (2 * r + 1) (swp d (first + r) (first + (2 * r + 1))) else d := by
  rw [siftDown, dif_neg (by omega), if_neg (by
    intro hc
    rw [Bool.and_eq_true, decide_eq_true_iff] at hc
    rcases h with h | h
    · omega
    · rw [h] at hc; cases hc.2)]
  cases ltInt d[first + r]! d[first + (2 * r + 1)]! with
  | true => rw [if_neg (by decide), if_pos rfl]
  | false => rw [if_pos (by decide), if_neg (by decide)]

set_option maxHeartbeats 4000000 in
set_option maxRecDepth 1000000 in
theorem sift_c (blk off cap : Nat) (lo hi first : Nat) (zl zh zf : Int) (hzl : zl = lo) (hzh : zh = hi) (hzf : zf = first) (d0 d : Array Int) (w0 w : World) (n : Nat) (hn : n = d.size) (R : Row1 eU w0 blk off d0) (hs : d0.size = d.size) (S : SW eU w0 blk off d w) (hsz : d.size < 4611686018427387904) (hf : first + hi ≤ d.size) (hlo : lo ≤ d.size) :
    Calls Try.prog 123 #[.slice (some ⟨blk, off, none⟩) n cap, .int .i64 zl, .int .i64 zh, .int .i64 zf] w fun e w' => e = .returned (.tuple #[]) ∧ SW eU w0 blk off (siftDown ltInt hi first lo d) w' := by
  subst hn hzl hzh hzf
  have mixed : Try.prog.follows .mixedOrders = true := by kernel_rfl
  have S0 : Aside (SW eU w0 blk off d w) := S
  have HS := Lib.hid hs
  have HL := Lib.hid lessU_c
  clear S hs
  go_enter Try.func123, Try.ntmps123
  go_wp2
  go_loopg [8] (hi + 1) (fun kx s8 wr => ∃ (r : Nat) (dk : Array Int), s8 = .int .i64 r ∧ hi + 1 - r ≤ kx + 1 ∧ dk.size = d.size ∧ Aside (SW eU w0 blk off dk wr) ∧ Hid (siftDown ltInt hi first r dk = siftDown ltInt hi first lo d) ∧ (r < hi ∨ r = lo) ∧ r ≤ lo + hi)
  case atStart => exact ⟨lo, d, rfl, by omega, rfl, S0, Lib.hid rfl, .inr rfl, by omega⟩
  case round =>
    clear S0
    obtain ⟨r, dk, rfl, hkx, hds, S1, HE, hrl, hrb⟩ := hrel
    have HD := Lib.hid hds
    clear hds
    have hrd : r ≤ d.size := by omega
    by_cases hlt : hi ≤ 2 * r + 1
    · have hz : (hi : Int) ≤ 2 * (r : Int) + 1 := by omega
      go_wp2_with fail
      go_end0
      refine ⟨rfl, ?_⟩
      rw [← HE.out, sd_stop hlt]
      exact S1.out
    · obtain ⟨c1, hc1⟩ : ∃ c, c = 2 * r + 1 := ⟨_, rfl⟩
      obtain ⟨c2, hc2⟩ : ∃ c, c = 2 * r + 2 := ⟨_, rfl⟩
      obtain ⟨f1, hf1⟩ : ∃ c, c = first + c1 := ⟨_, rfl⟩
      obtain ⟨f2, hf2⟩ : ∃ c, c = first + c2 := ⟨_, rfl⟩
      obtain ⟨fr, hfr⟩ : ∃ c, c = first + r := ⟨_, rfl⟩
      have hz : (hi : Int) - 1 ≥ (c1 : Int) := by omega
      have hz0 : ¬ (hi : Int) ≤ (c1 : Int) := by omega
      have q1 : 2 * (r : Int) + 1 = (c1 : Int) := by omega
      have q2 : IntKind.i64.wrap ((c1 : Int) + 1) = (c2 : Int) := by rw [IntKind.wrap_i64]; omega
      have q2' : (c1 : Int) + 1 = (c2 : Int) := by omega
      have q3 : IntKind.i64.wrap ((first : Int) + (c1 : Int)) = (f1 : Int) := by rw [IntKind.wrap_i64]; omega
      have q4 : IntKind.i64.wrap ((f1 : Int) + 1) = (f2 : Int) := by rw [IntKind.wrap_i64]; omega
      have q5 : IntKind.i64.wrap ((first : Int) + (r : Int)) = (fr : Int) := by rw [IntKind.wrap_i64]; omega
      have q6 : IntKind.i64.wrap ((first : Int) + (c2 : Int)) = (f2 : Int) := by rw [IntKind.wrap_i64]; omega
      have HN := Lib.hid (And.intro hc1 (And.intro hc2 (And.intro hf1 (And.intro hf2 hfr))))
      have n1 : c1 < hi := by omega
      have n2 : f1 < first + hi := by omega
      have n3 : fr < f1 := by omega
      have l1 : f1 ≤ first + c1 := by omega
      have l2 : first + c1 ≤ f1 := by omega
      have l3 : f2 ≤ first + c2 := by omega
      have l4 : first + c2 ≤ f2 := by omega
      have l5 : fr ≤ first + r := by omega
      have l6 : first + r ≤ fr := by omega
      have l7 : c1 ≤ 2 * r + 1 := by omega
      have l8 : 2 * r + 1 ≤ c1 := by omega
      have l9 : c2 ≤ c1 + 1 := by omega
      have l10 : c1 + 1 ≤ c2 := by omega
      clear hc1 hc2 hf1 hf2 hfr hlt hrl
      by_cases h2 : c2 < hi
      · have h2z : (c2 : Int) < (hi : Int) := by omega
        have hsz2 := HD.out
        obtain ⟨y, hy⟩ : ∃ x, dk[f1]! = x := ⟨_, rfl⟩
        have cy := S1.out.c1 R (by rw [HD.out]; exact HS.out.symm) (f1) (by omega)
        rw [hy] at cy
        replace cy : wr.cell? ⟨blk, off + f1, none⟩ = some (.int .u64 y) := cy
        have Xy := Lib.hid hy
        clear hy
        have bby : (f1 : Int) < (d.size : Int) := by omega
        obtain ⟨u, hu⟩ : ∃ x, dk[f2]! = x := ⟨_, rfl⟩
        have cu := S1.out.c1 R (by rw [HD.out]; exact HS.out.symm) (f2) (by omega)
        rw [hu] at cu
        replace cu : wr.cell? ⟨blk, off + f2, none⟩ = some (.int .u64 u) := cu
        have Xu := Lib.hid hu
        clear hu
        have bbu : (f2 : Int) < (d.size : Int) := by omega
        clear hsz2
        cases hl : ltInt y u with
        | true =>
          have HA : Hid (2 * r + 2 < hi ∧ ltInt dk[first + (2 * r + 1)]! dk[first + (2 * r + 1) + 1]! = true) := by
            refine Lib.hid ⟨by omega, ?_⟩
            rw [← HN.out.1, ← HN.out.2.2.1, show f1 + 1 = f2 by omega, Xy.out, Xu.out]; exact hl
          go_wp2_with fail
          go_quiet ((go_at_call 114; with_reducible exact Calls.quiet_of_same (HL.out _ _ _)))
          have S3 : Aside (SW eU w0 blk off dk (wr.drewN nq)) := S1.out.drewN nq
          clear cy bby cu bbu S1
          generalize wr.drewN nq = wq at S3 ⊢
          clear hl
          go_wp2_with fail
          have hsz2 := HD.out
          obtain ⟨x, hx⟩ : ∃ x, dk[fr]! = x := ⟨_, rfl⟩
          have cx := S3.out.c1 R (by rw [HD.out]; exact HS.out.symm) (fr) (by omega)
          rw [hx] at cx
          replace cx : wq.cell? ⟨blk, off + fr, none⟩ = some (.int .u64 x) := cx
          have Xx := Lib.hid hx
          clear hx
          have bbx : (fr : Int) < (d.size : Int) := by omega
          obtain ⟨z, hz⟩ : ∃ x, dk[f2]! = x := ⟨_, rfl⟩
          have cz := S3.out.c1 R (by rw [HD.out]; exact HS.out.symm) (f2) (by omega)
          rw [hz] at cz
          replace cz : wq.cell? ⟨blk, off + f2, none⟩ = some (.int .u64 z) := cz
          have Xz := Lib.hid hz
          clear hz
          have bbz : (f2 : Int) < (d.size : Int) := by omega
          clear hsz2
          cases hl2 : ltInt x z with
          | true =>
            have HN2 : Hid (siftDown ltInt hi first c2 (swp dk fr f2) = siftDown ltInt hi first lo d) := by
              have e := sd_A (hi := hi) (first := first) (r := r) (d := dk) HA.out.1 HA.out.2
              rw [← HN.out.2.1] at e
              rw [← HN.out.2.2.2.2, ← HN.out.2.2.2.1, Xx.out, Xz.out, if_pos hl2] at e
              show _ = _
              rw [← HE.out, e]
            go_wp2_with fail
            go_quiet ((go_at_call 114; with_reducible exact Calls.quiet_of_same (HL.out _ _ _)))
            have S4 : Aside (SW eU w0 blk off dk (wq.drewN nq)) := S3.out.drewN nq
            clear cx bbx cz bbz S3
            generalize wq.drewN nq = wt at S4 ⊢
            clear hl2 HE
            go_wp2_with fail
            have hsz2 := HD.out
            have bI : (fr : Int) < (d.size : Int) := by omega
            have bJ : (f2 : Int) < (d.size : Int) := by omega
            have S2 := S4.out.swapped R (fr) (f2) (by omega) (by omega)
            have ca := S4.out.c1 R (by rw [HD.out]; exact HS.out.symm) (fr) (by omega)
            have cb := S4.out.c1 R (by rw [HD.out]; exact HS.out.symm) (f2) (by omega)
            have fa := S4.out.f1 R (by rw [HD.out]; exact HS.out.symm) (fr) (by omega)
            have fb := S4.out.f1 R (by rw [HD.out]; exact HS.out.symm) (f2) (by omega)
            obtain ⟨uc, cc⟩ := S4.out.c2 R (by rw [HD.out]; exact HS.out.symm) (fr) (f2) (by omega) (by omega) (eU dk[f2]!)
            clear hsz2
            generalize dk[fr]! = vI at S2 ca cc
            generalize dk[f2]! = vJ at S2 cb cc
            replace S2 : Aside (SW eU w0 blk off (swp dk (fr) (f2)) ((wt.setCell ⟨blk, off + fr, none⟩ (.int .u64 vJ)).setCell ⟨blk, off + f2, none⟩ (.int .u64 vI)).drew) := S2
            replace ca : wt.cell? ⟨blk, off + fr, none⟩ = some (.int .u64 vI) := ca
            replace cb : wt.cell? ⟨blk, off + f2, none⟩ = some (.int .u64 vJ) := cb
            replace cc : (wt.setCell ⟨blk, off + fr, none⟩ (.int .u64 vJ)).cell? ⟨blk, off + f2, none⟩ = some uc := cc
            clear S4
            go_wp2_with fail
            go_big_region
            clear ca cb fa fb cc bI bJ
            generalize ((wt.setCell ⟨blk, off + fr, none⟩ (.int .u64 vJ)).setCell ⟨blk, off + f2, none⟩ (.int .u64 vI)).drew = w2 at S2 ⊢
            go_wp2
            go_roundg (hi - c2)
            case measure => omega
            case rel => exact ⟨c2, swp dk fr f2, rfl, by omega, by rw [size_swp]; exact HD.out, S2, HN2, .inl (by omega), by omega⟩
          | false =>
            have HN2 : Hid (siftDown ltInt hi first lo d = dk) := by
              have e := sd_A (hi := hi) (first := first) (r := r) (d := dk) HA.out.1 HA.out.2
              rw [← HN.out.2.1] at e
              rw [← HN.out.2.2.2.2, ← HN.out.2.2.2.1, Xx.out, Xz.out, if_neg (by rw [hl2]; decide)] at e
              show _ = _
              rw [← HE.out, e]
            go_wp2_with fail
            go_quiet ((go_at_call 114; with_reducible exact Calls.quiet_of_same (HL.out _ _ _)))
            have S4 : Aside (SW eU w0 blk off dk (wq.drewN nq)) := S3.out.drewN nq
            clear cx bbx cz bbz S3
            generalize wq.drewN nq = wt at S4 ⊢
            go_wp2_with fail
            first | go_end0 | ((try simp only [Exit.inBlock, Exit.then]); refine bodyPost_ret (results_none rfl _ _ _) rfl ?_)
            refine ⟨rfl, ?_⟩
            rw [HN2.out]
            exact S4.out
        | false =>
          have HA : Hid (2 * r + 1 < hi ∧ ltInt dk[first + (2 * r + 1)]! dk[first + (2 * r + 1) + 1]! = false) := by
            refine Lib.hid ⟨by omega, ?_⟩
            rw [← HN.out.1, ← HN.out.2.2.1, show f1 + 1 = f2 by omega, Xy.out, Xu.out]; exact hl
          go_wp2_with fail
          go_quiet ((go_at_call 114; with_reducible exact Calls.quiet_of_same (HL.out _ _ _)))
          have S3 : Aside (SW eU w0 blk off dk (wr.drewN nq)) := S1.out.drewN nq
          clear cy bby cu bbu S1
          generalize wr.drewN nq = wq at S3 ⊢
          clear hl
          go_wp2_with fail
          have hsz2 := HD.out
          obtain ⟨x, hx⟩ : ∃ x, dk[fr]! = x := ⟨_, rfl⟩
          have cx := S3.out.c1 R (by rw [HD.out]; exact HS.out.symm) (fr) (by omega)
          rw [hx] at cx
          replace cx : wq.cell? ⟨blk, off + fr, none⟩ = some (.int .u64 x) := cx
          have Xx := Lib.hid hx
          clear hx
          have bbx : (fr : Int) < (d.size : Int) := by omega
          obtain ⟨z, hz⟩ : ∃ x, dk[f1]! = x := ⟨_, rfl⟩
          have cz := S3.out.c1 R (by rw [HD.out]; exact HS.out.symm) (f1) (by omega)
          rw [hz] at cz
          replace cz : wq.cell? ⟨blk, off + f1, none⟩ = some (.int .u64 z) := cz
          have Xz := Lib.hid hz
          clear hz
          have bbz : (f1 : Int) < (d.size : Int) := by omega
          clear hsz2
          cases hl2 : ltInt x z with
          | true =>
            have HN2 : Hid (siftDown ltInt hi first c1 (swp dk fr f1) = siftDown ltInt hi first lo d) := by
              have e := sd_B (hi := hi) (first := first) (r := r) (d := dk) HA.out.1 (.inr HA.out.2)
              rw [← HN.out.1] at e
              rw [← HN.out.2.2.2.2, ← HN.out.2.2.1, Xx.out, Xz.out, if_pos hl2] at e
              show _ = _
              rw [← HE.out, e]
            go_wp2_with fail
            go_quiet ((go_at_call 114; with_reducible exact Calls.quiet_of_same (HL.out _ _ _)))
            have S4 : Aside (SW eU w0 blk off dk (wq.drewN nq)) := S3.out.drewN nq
            clear cx bbx cz bbz S3
            generalize wq.drewN nq = wt at S4 ⊢
            clear hl2 HE
            go_wp2_with fail
            have hsz2 := HD.out
            have bI : (fr : Int) < (d.size : Int) := by omega
            have bJ : (f1 : Int) < (d.size : Int) := by omega
            have S2 := S4.out.swapped R (fr) (f1) (by omega) (by omega)
            have ca := S4.out.c1 R (by rw [HD.out]; exact HS.out.symm) (fr) (by omega)
            have cb := S4.out.c1 R (by rw [HD.out]; exact HS.out.symm) (f1) (by omega)
            have fa := S4.out.f1 R (by rw [HD.out]; exact HS.out.symm) (fr) (by omega)
            have fb := S4.out.f1 R (by rw [HD.out]; exact HS.out.symm) (f1) (by omega)
            obtain ⟨uc, cc⟩ := S4.out.c2 R (by rw [HD.out]; exact HS.out.symm) (fr) (f1) (by omega) (by omega) (eU dk[f1]!)
            clear hsz2
            generalize dk[fr]! = vI at S2 ca cc
            generalize dk[f1]! = vJ at S2 cb cc
            replace S2 : Aside (SW eU w0 blk off (swp dk (fr) (f1)) ((wt.setCell ⟨blk, off + fr, none⟩ (.int .u64 vJ)).setCell ⟨blk, off + f1, none⟩ (.int .u64 vI)).drew) := S2
            replace ca : wt.cell? ⟨blk, off + fr, none⟩ = some (.int .u64 vI) := ca
            replace cb : wt.cell? ⟨blk, off + f1, none⟩ = some (.int .u64 vJ) := cb
            replace cc : (wt.setCell ⟨blk, off + fr, none⟩ (.int .u64 vJ)).cell? ⟨blk, off + f1, none⟩ = some uc := cc
            clear S4
            go_wp2_with fail
            go_big_region
            clear ca cb fa fb cc bI bJ
            generalize ((wt.setCell ⟨blk, off + fr, none⟩ (.int .u64 vJ)).setCell ⟨blk, off + f1, none⟩ (.int .u64 vI)).drew = w2 at S2 ⊢
            go_wp2
            go_roundg (hi - c1)
            case measure => omega
            case rel => exact ⟨c1, swp dk fr f1, rfl, by omega, by rw [size_swp]; exact HD.out, S2, HN2, .inl (by omega), by omega⟩
          | false =>
            have HN2 : Hid (siftDown ltInt hi first lo d = dk) := by
              have e := sd_B (hi := hi) (first := first) (r := r) (d := dk) HA.out.1 (.inr HA.out.2)
              rw [← HN.out.1] at e
              rw [← HN.out.2.2.2.2, ← HN.out.2.2.1, Xx.out, Xz.out, if_neg (by rw [hl2]; decide)] at e
              show _ = _
              rw [← HE.out, e]
            go_wp2_with fail
            go_quiet ((go_at_call 114; with_reducible exact Calls.quiet_of_same (HL.out _ _ _)))
            have S4 : Aside (SW eU w0 blk off dk (wq.drewN nq)) := S3.out.drewN nq
            clear cx bbx cz bbz S3
            generalize wq.drewN nq = wt at S4 ⊢
            go_wp2_with fail
            first | go_end0 | ((try simp only [Exit.inBlock, Exit.then]); refine bodyPost_ret (results_none rfl _ _ _) rfl ?_)
            refine ⟨rfl, ?_⟩
            rw [HN2.out]
            exact S4.out
      · have h2z : ¬ (c2 : Int) < (hi : Int) := by omega
        have HA : Hid (2 * r + 1 < hi ∧ ¬ 2 * r + 2 < hi) := Lib.hid ⟨by omega, by omega⟩
        go_wp2_with fail
        go_quiet ((go_at_call 114; with_reducible exact Calls.quiet_of_same (HL.out _ _ _)))
        have S3 : Aside (SW eU w0 blk off dk (wr.drewN nq)) := S1.out.drewN nq
        clear S1
        generalize wr.drewN nq = wq at S3 ⊢
        go_wp2_with fail
        have hsz2 := HD.out
        obtain ⟨x, hx⟩ : ∃ x, dk[fr]! = x := ⟨_, rfl⟩
        have cx := S3.out.c1 R (by rw [HD.out]; exact HS.out.symm) (fr) (by omega)
        rw [hx] at cx
        replace cx : wq.cell? ⟨blk, off + fr, none⟩ = some (.int .u64 x) := cx
        have Xx := Lib.hid hx
        clear hx
        have bbx : (fr : Int) < (d.size : Int) := by omega
        obtain ⟨z, hz⟩ : ∃ x, dk[f1]! = x := ⟨_, rfl⟩
        have cz := S3.out.c1 R (by rw [HD.out]; exact HS.out.symm) (f1) (by omega)
        rw [hz] at cz
        replace cz : wq.cell? ⟨blk, off + f1, none⟩ = some (.int .u64 z) := cz
        have Xz := Lib.hid hz
        clear hz
        have bbz : (f1 : Int) < (d.size : Int) := by omega
        clear hsz2
        cases hl2 : ltInt x z with
        | true =>
          have HN2 : Hid (siftDown ltInt hi first c1 (swp dk fr f1) = siftDown ltInt hi first lo d) := by
            have e := sd_B (hi := hi) (first := first) (r := r) (d := dk) HA.out.1 (.inl HA.out.2)
            rw [← HN.out.1] at e
            rw [← HN.out.2.2.2.2, ← HN.out.2.2.1, Xx.out, Xz.out, if_pos hl2] at e
            show _ = _
            rw [← HE.out, e]
          go_wp2_with fail
          go_quiet ((go_at_call 114; with_reducible exact Calls.quiet_of_same (HL.out _ _ _)))
          have S4 : Aside (SW eU w0 blk off dk (wq.drewN nq)) := S3.out.drewN nq
          clear cx bbx cz bbz S3
          generalize wq.drewN nq = wt at S4 ⊢
          clear hl2 HE
          go_wp2_with fail
          have hsz2 := HD.out
          have bI : (fr : Int) < (d.size : Int) := by omega
          have bJ : (f1 : Int) < (d.size : Int) := by omega
          have S2 := S4.out.swapped R (fr) (f1) (by omega) (by omega)
          have ca := S4.out.c1 R (by rw [HD.out]; exact HS.out.symm) (fr) (by omega)
          have cb := S4.out.c1 R (by rw [HD.out]; exact HS.out.symm) (f1) (by omega)
          have fa := S4.out.f1 R (by rw [HD.out]; exact HS.out.symm) (fr) (by omega)
          have fb := S4.out.f1 R (by rw [HD.out]; exact HS.out.symm) (f1) (by omega)
          obtain ⟨uc, cc⟩ := S4.out.c2 R (by rw [HD.out]; exact HS.out.symm) (fr) (f1) (by omega) (by omega) (eU dk[f1]!)
          clear hsz2
          generalize dk[fr]! = vI at S2 ca cc
          generalize dk[f1]! = vJ at S2 cb cc
          replace S2 : Aside (SW eU w0 blk off (swp dk (fr) (f1)) ((wt.setCell ⟨blk, off + fr, none⟩ (.int .u64 vJ)).setCell ⟨blk, off + f1, none⟩ (.int .u64 vI)).drew) := S2
          replace ca : wt.cell? ⟨blk, off + fr, none⟩ = some (.int .u64 vI) := ca
          replace cb : wt.cell? ⟨blk, off + f1, none⟩ = some (.int .u64 vJ) := cb
          replace cc : (wt.setCell ⟨blk, off + fr, none⟩ (.int .u64 vJ)).cell? ⟨blk, off + f1, none⟩ = some uc := cc
          clear S4
          go_wp2_with fail
          go_big_region
          clear ca cb fa fb cc bI bJ
          generalize ((wt.setCell ⟨blk, off + fr, none⟩ (.int .u64 vJ)).setCell ⟨blk, off + f1, none⟩ (.int .u64 vI)).drew = w2 at S2 ⊢
          go_wp2
          go_roundg (hi - c1)
          case measure => omega
          case rel => exact ⟨c1, swp dk fr f1, rfl, by omega, by rw [size_swp]; exact HD.out, S2, HN2, .inl (by omega), by omega⟩
        | false =>
          have HN2 : Hid (siftDown ltInt hi first lo d = dk) := by
            have e := sd_B (hi := hi) (first := first) (r := r) (d := dk) HA.out.1 (.inl HA.out.2)
            rw [← HN.out.1] at e
            rw [← HN.out.2.2.2.2, ← HN.out.2.2.1, Xx.out, Xz.out, if_neg (by rw [hl2]; decide)] at e
            show _ = _
            rw [← HE.out, e]
          go_wp2_with fail
          go_quiet ((go_at_call 114; with_reducible exact Calls.quiet_of_same (HL.out _ _ _)))
          have S4 : Aside (SW eU w0 blk off dk (wq.drewN nq)) := S3.out.drewN nq
          clear cx bbx cz bbz S3
          generalize wq.drewN nq = wt at S4 ⊢
          go_wp2_with fail
          first | go_end0 | ((try simp only [Exit.inBlock, Exit.then]); refine bodyPost_ret (results_none rfl _ _ _) rfl ?_)
          refine ⟨rfl, ?_⟩
          rw [HN2.out]
          exact S4.out
end Go.Proofs.Ytemmbgbmkihbaaa
