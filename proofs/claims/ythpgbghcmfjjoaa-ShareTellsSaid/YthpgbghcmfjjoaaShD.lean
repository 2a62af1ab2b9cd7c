/- share: Share, by time and by share. (By mksd.py.) -/
import Derived.Test.YthpgbghcmfjjoaaShC
import Derived.Deep.LoopGhost
namespace Go.Proofs.Ythpgbghcmfjjoaa
open Go.RowKit Go.Lib
set_option linter.unusedVariables false

/-- Shares in a row of the call's own. -/
def Shd (w : World) (n : Nat) (g : Nat → Int) (e : Ending) (w' : World) : Prop :=
  ∃ b, e = .returned (.slice (some ⟨b, 0, none⟩) n n) ∧ w.heap.size ≤ b ∧ Below w.heap.size w w' ∧ w'.rowIs b 2 n (fun i => .int .i64 (g i))
theorem info_i64 : (Try.prog.info? 2).map (fun i => (i.zero, i.size, i.bytes)) = some (some (.int .i64 0), 1, 8) := by kernel_rfl
/-- What is known where there is something to be shared. -/
structure ShOk (Q : List Int) (qty lot : Int) : Prop where
  l1 : 1 ≤ lot
  l2 : lot ≤ 1099511627776
  n : Q.length ≤ 64
  q : OkQ Q
  t : totN Q lot = sumT lot Q
  t1 : 0 < sumT lot Q
  t2 : sumT lot Q ≤ 70368744177664
  y1 : 1 ≤ qty
  y2 : qty ≤ 4611686018427387904
theorem shOk {mode qty lot : Int} {Q : List Int} (h : ¬ NoSh mode Q qty lot) : (mode = 1 ∨ mode = 2) ∧ ShOk Q qty lot := by
  unfold NoSh at h
  have h1 : totN Q lot ≠ 0 := fun e => h (.inr (.inl e))
  have hb := totN_bd Q lot
  have hc : ¬ (lot < 1 ∨ 1099511627776 < lot ∨ 64 < Q.length ∨ ¬ OkQ Q) := fun e => h1 (if_pos e)
  have ht : totN Q lot = sumT lot Q := if_neg hc
  refine ⟨Classical.byContradiction fun e => h (.inl e), ?_, ?_, ?_, Classical.byContradiction fun e => hc (.inr (.inr (.inr e))), ht, ?_, ?_, ?_, ?_⟩ <;> omega
theorem all_bd {Q : List Int} {qty lot : Int} (h : ShOk Q qty lot) : 0 ≤ allN lot qty (sumT lot Q) ∧ allN lot qty (sumT lot Q) ≤ sumT lot Q := by
  have := trim_rng (lot := lot) (q := qty) h.l1 (by have := h.y1; omega)
  have := h.t1
  unfold allN
  omega

/-- What the first loop's region reads, behind a call that makes memory. -/
theorem keep3 {wr w' w3 : World} {h b o : Nat} {v : Value} {lot q : Int} (hb : Below w'.heap.size w' w3) (H : Below wr.heap.size wr w' ∧ w'.cell? ⟨h, 0, none⟩ = some v ∧ w'.cell? ⟨h + 1, 0, none⟩ = some (.int .i64 lot) ∧ w'.cell? ⟨b, o, none⟩ = some (.int .i64 q)) :
    Below wr.heap.size wr w3 ∧ w3.cell? ⟨h, 0, none⟩ = some v ∧ w3.cell? ⟨h + 1, 0, none⟩ = some (.int .i64 lot) ∧ w3.cell? ⟨b, o, none⟩ = some (.int .i64 q) := by
  obtain ⟨h0, h1, h2, h3⟩ := H
  exact ⟨h0.trans (hb.mono h0.size), (hb.cell (p := ⟨h, 0, none⟩) (block_lt_of_cell h1)).trans h1, (hb.cell (p := ⟨h + 1, 0, none⟩) (block_lt_of_cell h2)).trans h2, (hb.cell (p := ⟨b, o, none⟩) (block_lt_of_cell h3)).trans h3⟩

/-- By time nobody gets something first. -/
theorem lef1_time (all T lot : Int) (Q : List Int) (k : Nat) : lef1 1 all T lot Q k = all := by
  induction k with
  | zero => rfl
  | succ k ih => show lef1 1 all T lot Q k - p1 1 all T lot (Q.getD k 0) = all; rw [ih]; unfold p1; rw [if_neg (by omega)]; omega
theorem st2_of {w wr : World} {m n c : Nat} {A : Option Addr} {lot all T : Int} {Q : List Int} (h : St1 w wr m A n c lot 1 all T Q 0) : St2 w wr m A n c lot 1 all T Q 0 := by
  refine ⟨⟨h.s.l, h.s.t, h.s.p, ?_, h.s.a.congr (fun j hj => ?_)⟩, h.b, h.m⟩
  · have e : lef2 1 all T lot Q 0 = lef1 1 all T lot Q 0 := by show lef1 1 all T lot Q Q.length = _; rw [lef1_time, lef1_time]
    rw [e]; exact h.s.e
  · show Value.int .i64 (if j < 0 then _ else 0) = .int .i64 (if j < 0 then _ else p1 1 all T lot (Q.getD j 0))
    rw [if_neg (by omega), if_neg (by omega)]
    unfold p1; rw [if_neg (by omega)]

set_option maxHeartbeats 4000000 in
set_option maxRecDepth 100000 in
theorem share_1 (A : Option Addr) (n c : Nat) (L : List Od) (qty lot : Int) (hlot : InR lot) (w : World) (HO : Ods w A n L) (hn : n ≤ 1000) (hok : ShOk (qs L) qty lot) :
    Calls Try.prog 9 #[.int .i64 1, .slice A n c, .int .i64 qty, .int .i64 lot] w (Shd w n (outN 1 (allN lot qty (sumT lot (qs L))) (sumT lot (qs L)) lot (qs L))) := by
  have hql : (qs L).length = n := by rw [qs_len]; exact HO.1
  obtain ⟨T, hT⟩ : ∃ T, T = sumT lot (qs L) := ⟨_, rfl⟩
  obtain ⟨tq, htq⟩ : ∃ t, t = trimN lot qty := ⟨_, rfl⟩
  obtain ⟨all, hall⟩ : ∃ a, a = allN lot qty T := ⟨_, rfl⟩
  have HTot : Hid (∀ wr, Below w.heap.size w wr → Calls Try.prog 11 #[.slice A n c, .int .i64 lot] wr fun e w' => e = .returned (.int .i64 T) ∧ Below wr.heap.size wr w') := Lib.hid (by rw [hT, ← hok.t]; exact tot_on (wr := w) hlot HO hn)
  have hb0 : Below w.heap.size w ((w.alloc (.cells #[.slice A n c] 22)).alloc (.cells #[.int .i64 lot] 2)) := ((Below.refl _ _).alloc (Nat.le_refl _) _).alloc (by simp) _
  have hab := all_bd hok
  rw [← hT, ← hall] at hab
  have HTq : Hid (∀ w, Calls Try.prog 13 #[.int .i64 lot, .int .i64 qty] w fun e w' => e = .returned (.int .i64 tq) ∧ w = w') := Lib.hid (fun w => by rw [htq]; exact trim_c lot qty ⟨by have := hok.y1; omega, by have := hok.y2; omega⟩ hlot w)
  have eall : min tq T = all := by rw [hall, htq]; rfl
  have HOK : Hid (ShOk (qs L) qty lot) := Lib.hid hok
  have HQ : Hid (T = sumT lot (qs L) ∧ all = allN lot qty T ∧ (qs L).length = n) := Lib.hid ⟨hT, hall, hql⟩
  have h64 : n ≤ 64 := by have := hok.n; omega
  have hz1 : (T == 0) = false := by have := hok.t1; simp; omega
  have hz2 : decide (qty < 1) = false := decide_eq_false (by have := hok.y1; omega)
  have hz3 : decide (4611686018427387904 < qty) = false := decide_eq_false (by have := hok.y2; omega)
  have hT2 : 0 < T ∧ T ≤ 70368744177664 := by rw [hT]; exact ⟨hok.t1, hok.t2⟩
  have HOd : Aside (Ods w A n L) := HO
  rw [← hT, ← hall]
  clear hT htq hall hql hok HO
  have hmk := run_make_row' (P := Try.prog) 27 2 (.int .i64 0) 8 Try.underlying27 info_i64 rfl .i64 .i64 n (by omega) (by omega)
  go_enter Try.func9, Try.ntmps9
  go_wp2_with fail
  ((with_reducible refine (HTot.out _ hb0).mono ?_); rintro e w2 ⟨rfl, b2⟩)
  have hs1 := b2.size
  simp only [World.size_alloc] at hs1
  have k0 : w2.cell? ⟨w.heap.size, 0, none⟩ = some (.slice A n c) := by
    have h : Bx 22 w2 w.heap.size (.slice A n c) := (b2.block _ (by simp; omega)).trans (heap_prev (by simp) (heap_last rfl))
    exact h.c0
  have k1 : w2.cell? ⟨w.heap.size + 1, 0, none⟩ = some (.int .i64 lot) := by
    have h : Bx 2 w2 (w.heap.size + 1) (.int .i64 lot) := (b2.block _ (by simp)).trans (heap_last (by simp))
    exact h.c0
  have HS0 : Hid (St1 w (((w2.alloc (.cells (madeCells #[.int .i64 0] n) 2)).alloc (.cells #[.slice (some ⟨w2.heap.size, 0, none⟩) n n] 27)).alloc (.cells #[.int .i64 all] 2)) w2.heap.size A n c lot 1 all T (qs L) 0) := Lib.hid (st1_new w w2 A n c lot 1 all T (qs L) (b2.mono (by simp)))
  have j0 := HS0.out.s.l.c0
  have j1 := HS0.out.s.t.c0
  clear b2 hb0 HTot
  go_wp2_with ((with_reducible refine (HTq.out _).mono ?_); rintro e w' ⟨rfl, rfl⟩)
  clear HTq
  have HS2 : Hid (St2 w (((w2.alloc (.cells (madeCells #[.int .i64 0] n) 2)).alloc (.cells #[.slice (some ⟨w2.heap.size, 0, none⟩) n n] 27)).alloc (.cells #[.int .i64 all] 2)) w2.heap.size A n c lot 1 all T (qs L) 0) := Lib.hid (st2_of HS0.out)
  clear HS0
  go_loopg [78] n (fun kx s78 wr => ∃ k : Nat, s78 = .int .i64 k ∧ k ≤ n ∧ n - k ≤ kx ∧ Hid (St2 w wr w2.heap.size A n c lot 1 all T (qs L) k))
  case atStart => exact ⟨0, rfl, by omega, by omega, HS2⟩
  case round =>
    clear HS2 j0 j1 k0 k1
    obtain ⟨k, rfl, hk, hkx, HS⟩ := hrel
    by_cases hlt : k < n
    · have hltI : (k : Int) < (n : Int) := by omega
      have hk0 : (0 : Int) ≤ (k : Int) := by omega
      have HO2 : Aside (Ods wr A n L) := HOd.out.below HS.out.b
      have hqi : InR L[k]!.qty := by
        have := HO2.out.2.2.1 L[k]! (by rw [getElem!_pos L k (by rw [HO2.out.1]; exact hlt)]; exact List.getElem_mem _)
        exact this.2.2.2.2.1
      have hqq := qs_get L k (by rw [HO2.out.1]; exact hlt)
      have hg := getD_ok HOK.out.q k
      have htr := trim_rng (lot := lot) HOK.out.l1 hg.1
      have haT : all ≤ sumT lot (qs L) := by rw [← HQ.out.1]; exact hab.2
      have h0T : 0 < sumT lot (qs L) := by rw [← HQ.out.1]; exact hT2.1
      have hp := p1_rng (mode := 1) (all := all) HOK.out.l1 HOK.out.q hab.1 haT h0T k (by rw [HQ.out.2.2]; exact hlt)
      have hf := lef2_rng (mode := 1) (all := all) HOK.out.l1 HOK.out.q hab.1 haT h0T k (by rw [HQ.out.2.2]; exact hk)
      rw [← HQ.out.1] at hp hf
      obtain ⟨lf, hlf⟩ : ∃ x, x = lef2 1 all T lot (qs L) k := ⟨_, rfl⟩
      obtain ⟨z, hz⟩ : ∃ x, x = p1 1 all T lot ((qs L).getD k 0) := ⟨_, rfl⟩
      obtain ⟨t, ht⟩ : ∃ x, x = trimN lot ((qs L).getD k 0) := ⟨_, rfl⟩
      obtain ⟨d, hd⟩ : ∃ x, x = min lf (t - z) := ⟨_, rfl⟩
      rw [← hlf] at hf
      rw [← hz, ← ht] at hp
      rw [← ht] at htr
      have kf : wr.cell? ⟨w2.heap.size + 1 + 1, 0, none⟩ = some (.int .i64 lf) := by rw [hlf]; exact HS.out.s.e.c0
      have HHd : Hid (Calls Try.prog 14 #[.int .i64 k, .int .i64 lf, .pointer (some ⟨w2.heap.size + 1 + 1, 0, none⟩), .pointer (some ⟨w.heap.size + 1, 0, none⟩), .pointer (some ⟨w.heap.size, 0, none⟩), .pointer (some ⟨w2.heap.size + 1, 0, none⟩)] wr (HandIs wr w2.heap.size (w2.heap.size + 1 + 1) k (z + d) (lf - d))) := Lib.hid (by
        rw [hlf]
        refine hand_c w.heap.size (w.heap.size + 1) (w2.heap.size + 1) (w2.heap.size + 2) w2.heap.size A n c L lot _ _ k _ d z t wr HS.out.s HO2.out hlt hn hlot ?_ hqi (by rw [← hqq]; exact ht) ⟨by omega, by omega⟩ (by omega) (by rw [← hlf]; omega) (by rw [← hlf]; omega) (by rw [← hlf]; omega) (by omega)
        show z = if k < k then _ else _
        rw [if_neg (by omega)]
        exact hz)
      have HN : Hid (∀ q, St2 w (((wr.drewN q).setCell ⟨w2.heap.size, k, none⟩ (.int .i64 (z + d))).setCell ⟨w2.heap.size + 1 + 1, 0, none⟩ (.int .i64 (lf - d))) w2.heap.size A n c lot 1 all T (qs L) (k + 1)) := Lib.hid (fun q => by
        rw [hlf]; exact HS.out.next q z d hz (by rw [← hlf, ← ht]; exact hd))
      clear HO2 hqi hqq hg htr haT h0T hp hf hlf hz ht hd HS
      go_wp2_with fail
      ((with_reducible refine HHd.out.mono ?_); rintro e w4 ⟨rfl, q, rfl⟩)
      have HM : Hid (St2 w (((wr.drewN q).setCell ⟨w2.heap.size, k, none⟩ (.int .i64 (z + d))).setCell ⟨w2.heap.size + 1 + 1, 0, none⟩ (.int .i64 (lf - d))) w2.heap.size A n c lot 1 all T (qs L) (k + 1)) := Lib.hid (HN.out q)
      clear HN HHd kf
      generalize (((wr.drewN q).setCell ⟨w2.heap.size, k, none⟩ (.int .i64 (z + d))).setCell ⟨w2.heap.size + 1 + 1, 0, none⟩ (.int .i64 (lf - d))) = w5 at HM ⊢
      go_wp2_with fail
      go_roundg (n - (k + 1))
      case measure => omega
      case rel => exact ⟨k + 1, by go_num, by omega, by omega, HM⟩
    · have hltI : ¬ (k : Int) < (n : Int) := by omega
      obtain rfl : k = n := by omega
      have kp := HS.out.s.p.c0
      have HE : Hid (Shd w k (outN 1 all T lot (qs L)) (.returned (.slice (some ⟨w2.heap.size, 0, none⟩) k k)) wr) := Lib.hid ⟨_, rfl, by have := HS.out.m; omega, HS.out.b, HS.out.s.a.congr (fun j hj => by
        show Value.int .i64 (if j < k then _ else _) = _
        rw [if_pos hj])⟩
      clear HS
      go_wp2_with fail
      go_ret
      exact HE.out

set_option maxHeartbeats 4000000 in
set_option maxRecDepth 100000 in
theorem share_2 (A : Option Addr) (n c : Nat) (L : List Od) (qty lot : Int) (hlot : InR lot) (w : World) (HO : Ods w A n L) (hn : n ≤ 1000) (hok : ShOk (qs L) qty lot) :
    Calls Try.prog 9 #[.int .i64 2, .slice A n c, .int .i64 qty, .int .i64 lot] w (Shd w n (outN 2 (allN lot qty (sumT lot (qs L))) (sumT lot (qs L)) lot (qs L))) := by
  have hql : (qs L).length = n := by rw [qs_len]; exact HO.1
  obtain ⟨T, hT⟩ : ∃ T, T = sumT lot (qs L) := ⟨_, rfl⟩
  obtain ⟨tq, htq⟩ : ∃ t, t = trimN lot qty := ⟨_, rfl⟩
  obtain ⟨all, hall⟩ : ∃ a, a = allN lot qty T := ⟨_, rfl⟩
  have HTot : Hid (∀ wr, Below w.heap.size w wr → Calls Try.prog 11 #[.slice A n c, .int .i64 lot] wr fun e w' => e = .returned (.int .i64 T) ∧ Below wr.heap.size wr w') := Lib.hid (by rw [hT, ← hok.t]; exact tot_on (wr := w) hlot HO hn)
  have hb0 : Below w.heap.size w ((w.alloc (.cells #[.slice A n c] 22)).alloc (.cells #[.int .i64 lot] 2)) := ((Below.refl _ _).alloc (Nat.le_refl _) _).alloc (by simp) _
  have hab := all_bd hok
  rw [← hT, ← hall] at hab
  have HTq : Hid (∀ w, Calls Try.prog 13 #[.int .i64 lot, .int .i64 qty] w fun e w' => e = .returned (.int .i64 tq) ∧ w = w') := Lib.hid (fun w => by rw [htq]; exact trim_c lot qty ⟨by have := hok.y1; omega, by have := hok.y2; omega⟩ hlot w)
  have eall : min tq T = all := by rw [hall, htq]; rfl
  have HOK : Hid (ShOk (qs L) qty lot) := Lib.hid hok
  have HQ : Hid (T = sumT lot (qs L) ∧ all = allN lot qty T ∧ (qs L).length = n) := Lib.hid ⟨hT, hall, hql⟩
  have h64 : n ≤ 64 := by have := hok.n; omega
  have hz1 : (T == 0) = false := by have := hok.t1; simp; omega
  have hz2 : decide (qty < 1) = false := decide_eq_false (by have := hok.y1; omega)
  have hz3 : decide (4611686018427387904 < qty) = false := decide_eq_false (by have := hok.y2; omega)
  have hT2 : 0 < T ∧ T ≤ 70368744177664 := by rw [hT]; exact ⟨hok.t1, hok.t2⟩
  have HOd : Aside (Ods w A n L) := HO
  rw [← hT, ← hall]
  clear hT htq hall hql hok HO
  have hmk := run_make_row' (P := Try.prog) 27 2 (.int .i64 0) 8 Try.underlying27 info_i64 rfl .i64 .i64 n (by omega) (by omega)
  go_enter Try.func9, Try.ntmps9
  go_wp2_with fail
  ((with_reducible refine (HTot.out _ hb0).mono ?_); rintro e w2 ⟨rfl, b2⟩)
  have hs1 := b2.size
  simp only [World.size_alloc] at hs1
  have k0 : w2.cell? ⟨w.heap.size, 0, none⟩ = some (.slice A n c) := by
    have h : Bx 22 w2 w.heap.size (.slice A n c) := (b2.block _ (by simp; omega)).trans (heap_prev (by simp) (heap_last rfl))
    exact h.c0
  have k1 : w2.cell? ⟨w.heap.size + 1, 0, none⟩ = some (.int .i64 lot) := by
    have h : Bx 2 w2 (w.heap.size + 1) (.int .i64 lot) := (b2.block _ (by simp)).trans (heap_last (by simp))
    exact h.c0
  have HS0 : Hid (St1 w (((w2.alloc (.cells (madeCells #[.int .i64 0] n) 2)).alloc (.cells #[.slice (some ⟨w2.heap.size, 0, none⟩) n n] 27)).alloc (.cells #[.int .i64 all] 2)) w2.heap.size A n c lot 2 all T (qs L) 0) := Lib.hid (st1_new w w2 A n c lot 2 all T (qs L) (b2.mono (by simp)))
  have j0 := HS0.out.s.l.c0
  have j1 := HS0.out.s.t.c0
  clear b2 hb0 HTot
  go_wp2_with ((with_reducible refine (HTq.out _).mono ?_); rintro e w' ⟨rfl, rfl⟩)
  clear HTq
  have HS0a := HS0
  clear HS0
  go_loopg [53] n (fun kx s53 wr => ∃ k : Nat, s53 = .int .i64 k ∧ k ≤ n ∧ n - k ≤ kx ∧ Hid (St1 w wr w2.heap.size A n c lot 2 all T (qs L) k))
  case atStart => exact ⟨0, rfl, by omega, by omega, HS0a⟩
  case round =>
    clear HS0a j0 j1 k0 k1
    obtain ⟨k, rfl, hk, hkx, HS⟩ := hrel
    by_cases hlt : k < n
    · have hltI : (k : Int) < (n : Int) := by omega
      have hk0 : (0 : Int) ≤ (k : Int) := by omega
      have HO2 : Aside (Ods wr A n L) := HOd.out.below HS.out.b
      obtain ⟨b, off, rfl, hb, hc⟩ : ∃ b off, A = some ⟨b, off, none⟩ ∧ b < wr.heap.size ∧ ∀ i, i < n → (L[i]!).at wr b (off + i * 6) := by
        rcases HO2.out.2.2.2 with h | h
        · omega
        · exact h
      have kq := (hc k hlt).2.2.2.2.1
      have kl := HS.out.s.l.c0
      have kt := HS.out.s.t.c0
      have hqi : InR L[k]!.qty := by
        have := HO2.out.2.2.1 L[k]! (by rw [getElem!_pos L k (by rw [HO2.out.1]; exact hlt)]; exact List.getElem_mem _)
        exact this.2.2.2.2.1
      have hqq := qs_get L k (by rw [HO2.out.1]; exact hlt)
      obtain ⟨q, eq⟩ : ∃ q, q = L[k]!.qty := ⟨_, rfl⟩
      rw [← eq] at kq hqi hqq
      have hg := getD_ok HOK.out.q k
      rw [hqq] at hg
      obtain ⟨tt, ht⟩ : ∃ t, t = trimN lot q := ⟨_, rfl⟩
      have htr := trim_rng (lot := lot) HOK.out.l1 hg.1
      rw [← ht] at htr
      have hts := trim_le_sum HOK.out.l1 HOK.out.q k (by rw [HQ.out.2.2]; exact hlt)
      rw [hqq, ← ht, ← HQ.out.1] at hts
      have hdv := dv_part (a := all) (t := tt) (T := T) hab.1 htr.1 hT2.1 hts (by omega)
      obtain ⟨pd, hpd⟩ : ∃ p, p = all * tt / T := ⟨_, rfl⟩
      rw [← hpd] at hdv
      obtain ⟨hdv1, hdv2, hdv3, hdv4⟩ := hdv
      obtain ⟨pp, hpp⟩ : ∃ p, p = p1 2 all T lot ((qs L).getD k 0) := ⟨_, rfl⟩
      have hpe : pp = trimN lot pd := by rw [hpp, hqq, hpd, ht]; rfl
      have hf := p1_fits (mode := 2) (all := all) HOK.out.l1 HOK.out.q hab.1 (by rw [← HQ.out.1]; exact hab.2) (by rw [← HQ.out.1]; exact hT2.1) k (by rw [HQ.out.2.2]; exact hk)
      rw [← HQ.out.1] at hf
      obtain ⟨⟨f1, f2, _⟩, f3⟩ := hf
      obtain ⟨f4, f5, f6, _⟩ := f3 (by rw [HQ.out.2.2]; exact hlt)
      rw [← hpp] at f4 f5 f6
      rw [hqq, ← ht] at f6
      clear f3
      obtain ⟨lf, hlf⟩ : ∃ x, x = lef1 2 all T lot (qs L) k := ⟨_, rfl⟩
      rw [← hlf] at f1 f2 f5
      have HTr : Hid (∀ w, Calls Try.prog 13 #[.int .i64 lot, .int .i64 q] w fun e w' => e = .returned (.int .i64 tt) ∧ w = w') := Lib.hid (fun w => by rw [ht]; exact trim_c lot q hqi hlot w)
      have HTr2 : Hid (∀ w, Calls Try.prog 13 #[.int .i64 lot, .int .i64 pd] w fun e w' => e = .returned (.int .i64 pp) ∧ w = w') := Lib.hid (fun w => by rw [hpe]; exact trim_c lot pd ⟨by omega, by omega⟩ hlot w)
      have HDv : Hid (∀ w, Calls Try.prog 15 #[.int .i64 all, .int .i64 tt, .int .i64 T, .int .i64 1] w fun e w' => e = .returned (.tuple #[.int .i64 pd, .int .i64 0]) ∧ Below w.heap.size w w') := Lib.hid (fun w => by
        have h := Div_any all tt T 1 ⟨by omega, by omega⟩ ⟨by omega, by omega⟩ ⟨by omega, by omega⟩ w
        rw [hdv1, hdv2] at h
        exact h)
      have HHd : Hid (∀ w3, Below wr.heap.size wr w3 → Calls Try.prog 14 #[.int .i64 k, .int .i64 pp, .pointer (some ⟨w2.heap.size + 1 + 1, 0, none⟩), .pointer (some ⟨w.heap.size + 1, 0, none⟩), .pointer (some ⟨w.heap.size, 0, none⟩), .pointer (some ⟨w2.heap.size + 1, 0, none⟩)] w3 (HandIs w3 w2.heap.size (w2.heap.size + 1 + 1) k (0 + pp) (lf - pp))) := Lib.hid (fun w3 h3 => by
        rw [hlf]
        refine hand_c w.heap.size (w.heap.size + 1) (w2.heap.size + 1) (w2.heap.size + 2) w2.heap.size _ n c L lot _ _ k pp pp 0 tt w3 (HS.out.s.below h3) (HO2.out.below h3) hlt hn hlot ?_ (by rw [← eq]; exact hqi) (by rw [← eq]; exact ht) ⟨by omega, by omega⟩ (by omega) (by rw [← hlf]; omega) ⟨by omega, by omega⟩ (by rw [← hlf]; omega) (by omega)
        show 0 = if k < k then _ else 0
        rw [if_neg (by omega)])
      have HN : Hid (∀ w3, Below wr.heap.size wr w3 → ∀ q, St1 w (((w3.drewN q).setCell ⟨w2.heap.size, k, none⟩ (.int .i64 (0 + pp))).setCell ⟨w2.heap.size + 1 + 1, 0, none⟩ (.int .i64 (lf - pp))) w2.heap.size (some ⟨b, off, none⟩) n c lot 2 all T (qs L) (k + 1)) := Lib.hid (fun w3 h3 q => by
        rw [hlf]; exact HS.out.next h3 q pp hpp)
      clear hc hqi hqq eq hg ht htr hts hpd hdv1 hdv2 hpp hpe f1 f2 f4 f5 f6 hlf HO2 HS
      have bd : Below wr.heap.size wr wr.drew := ⟨rfl, rfl, rfl, Nat.le_refl _, fun _ _ => rfl⟩
      go_wp2_with fail
      go_region_held3 (fun w' => Below wr.heap.size wr w' ∧ w'.cell? ⟨w.heap.size, 0, none⟩ = some (.slice (some ⟨b, off, none⟩) n c) ∧ w'.cell? ⟨w.heap.size + 1, 0, none⟩ = some (.int .i64 lot) ∧ w'.cell? ⟨b, off + k * 6 + 4, none⟩ = some (.int .i64 q)) (first | exact ⟨bd, kl, kt, kq⟩ | (refine keep3 b3 ?_; first | (with_reducible assumption) | (refine ⟨?_, ?_, ?_, ?_⟩ <;> (with_reducible assumption)))) (first | ((with_reducible refine (HTr.out _).mono ?_); rintro e w' ⟨rfl, rfl⟩) | ((with_reducible refine (HDv.out _).mono ?_); rintro e w3 ⟨rfl, b3⟩) | fail)
      have g0 : Below wr.heap.size wr w3 := by (first | assumption | exact (by assumption : Below wr.heap.size wr w3 ∧ _).1)
      go_wp2_with ((with_reducible refine (HTr2.out _).mono ?_); rintro e w' ⟨rfl, rfl⟩)
      ((with_reducible refine (HHd.out _ g0).mono ?_); rintro e w4 ⟨rfl, q2, rfl⟩)
      have HM : Hid (St1 w (((w3.drewN q2).setCell ⟨w2.heap.size, k, none⟩ (.int .i64 (0 + pp))).setCell ⟨w2.heap.size + 1 + 1, 0, none⟩ (.int .i64 (lf - pp))) w2.heap.size (some ⟨b, off, none⟩) n c lot 2 all T (qs L) (k + 1)) := Lib.hid (HN.out _ g0 q2)
      clear HN HHd g0
      generalize (((w3.drewN q2).setCell ⟨w2.heap.size, k, none⟩ (.int .i64 (0 + pp))).setCell ⟨w2.heap.size + 1 + 1, 0, none⟩ (.int .i64 (lf - pp))) = w5 at HM ⊢
      go_wp2_with fail
      go_roundg (n - (k + 1))
      case measure => omega
      case rel => exact ⟨k + 1, by go_num, by omega, by omega, HM⟩
    · have hltI : ¬ (k : Int) < (n : Int) := by omega
      have ekn : k = n := by omega
      have HS2 : Hid (St2 w wr w2.heap.size A n c lot 2 all T (qs L) 0) := Lib.hid ((ekn ▸ HS.out : St1 w wr w2.heap.size A n c lot 2 all T (qs L) n).st2 HQ.out.2.2)
      have j0 := HS2.out.s.l.c0
      clear HS hlt ekn
      go_wp2_with fail
      go_loopg [78] n (fun kx s78 wr => ∃ k : Nat, s78 = .int .i64 k ∧ k ≤ n ∧ n - k ≤ kx ∧ Hid (St2 w wr w2.heap.size A n c lot 2 all T (qs L) k))
      case atStart => exact ⟨0, rfl, by omega, by omega, HS2⟩
      case round =>
        clear HS2 j0
        obtain ⟨k, rfl, hk, hkx, HS⟩ := hrel
        by_cases hlt : k < n
        · have hltI : (k : Int) < (n : Int) := by omega
          have hk0 : (0 : Int) ≤ (k : Int) := by omega
          have HO2 : Aside (Ods wr A n L) := HOd.out.below HS.out.b
          have hqi : InR L[k]!.qty := by
            have := HO2.out.2.2.1 L[k]! (by rw [getElem!_pos L k (by rw [HO2.out.1]; exact hlt)]; exact List.getElem_mem _)
            exact this.2.2.2.2.1
          have hqq := qs_get L k (by rw [HO2.out.1]; exact hlt)
          have hg := getD_ok HOK.out.q k
          have htr := trim_rng (lot := lot) HOK.out.l1 hg.1
          have haT : all ≤ sumT lot (qs L) := by rw [← HQ.out.1]; exact hab.2
          have h0T : 0 < sumT lot (qs L) := by rw [← HQ.out.1]; exact hT2.1
          have hp := p1_rng (mode := 2) (all := all) HOK.out.l1 HOK.out.q hab.1 haT h0T k (by rw [HQ.out.2.2]; exact hlt)
          have hf := lef2_rng (mode := 2) (all := all) HOK.out.l1 HOK.out.q hab.1 haT h0T k (by rw [HQ.out.2.2]; exact hk)
          rw [← HQ.out.1] at hp hf
          obtain ⟨lf, hlf⟩ : ∃ x, x = lef2 2 all T lot (qs L) k := ⟨_, rfl⟩
          obtain ⟨z, hz⟩ : ∃ x, x = p1 2 all T lot ((qs L).getD k 0) := ⟨_, rfl⟩
          obtain ⟨t, ht⟩ : ∃ x, x = trimN lot ((qs L).getD k 0) := ⟨_, rfl⟩
          obtain ⟨d, hd⟩ : ∃ x, x = min lf (t - z) := ⟨_, rfl⟩
          rw [← hlf] at hf
          rw [← hz, ← ht] at hp
          rw [← ht] at htr
          have kf : wr.cell? ⟨w2.heap.size + 1 + 1, 0, none⟩ = some (.int .i64 lf) := by rw [hlf]; exact HS.out.s.e.c0
          have HHd : Hid (Calls Try.prog 14 #[.int .i64 k, .int .i64 lf, .pointer (some ⟨w2.heap.size + 1 + 1, 0, none⟩), .pointer (some ⟨w.heap.size + 1, 0, none⟩), .pointer (some ⟨w.heap.size, 0, none⟩), .pointer (some ⟨w2.heap.size + 1, 0, none⟩)] wr (HandIs wr w2.heap.size (w2.heap.size + 1 + 1) k (z + d) (lf - d))) := Lib.hid (by
            rw [hlf]
            refine hand_c w.heap.size (w.heap.size + 1) (w2.heap.size + 1) (w2.heap.size + 2) w2.heap.size A n c L lot _ _ k _ d z t wr HS.out.s HO2.out hlt hn hlot ?_ hqi (by rw [← hqq]; exact ht) ⟨by omega, by omega⟩ (by omega) (by rw [← hlf]; omega) (by rw [← hlf]; omega) (by rw [← hlf]; omega) (by omega)
            show z = if k < k then _ else _
            rw [if_neg (by omega)]
            exact hz)
          have HN : Hid (∀ q, St2 w (((wr.drewN q).setCell ⟨w2.heap.size, k, none⟩ (.int .i64 (z + d))).setCell ⟨w2.heap.size + 1 + 1, 0, none⟩ (.int .i64 (lf - d))) w2.heap.size A n c lot 2 all T (qs L) (k + 1)) := Lib.hid (fun q => by
            rw [hlf]; exact HS.out.next q z d hz (by rw [← hlf, ← ht]; exact hd))
          clear HO2 hqi hqq hg htr haT h0T hp hf hlf hz ht hd HS
          go_wp2_with fail
          ((with_reducible refine HHd.out.mono ?_); rintro e w4 ⟨rfl, q, rfl⟩)
          have HM : Hid (St2 w (((wr.drewN q).setCell ⟨w2.heap.size, k, none⟩ (.int .i64 (z + d))).setCell ⟨w2.heap.size + 1 + 1, 0, none⟩ (.int .i64 (lf - d))) w2.heap.size A n c lot 2 all T (qs L) (k + 1)) := Lib.hid (HN.out q)
          clear HN HHd kf
          generalize (((wr.drewN q).setCell ⟨w2.heap.size, k, none⟩ (.int .i64 (z + d))).setCell ⟨w2.heap.size + 1 + 1, 0, none⟩ (.int .i64 (lf - d))) = w5 at HM ⊢
          go_wp2_with fail
          go_roundg (n - (k + 1))
          case measure => omega
          case rel => exact ⟨k + 1, by go_num, by omega, by omega, HM⟩
        · have hltI : ¬ (k : Int) < (n : Int) := by omega
          obtain rfl : k = n := by omega
          have kp := HS.out.s.p.c0
          have HE : Hid (Shd w k (outN 2 all T lot (qs L)) (.returned (.slice (some ⟨w2.heap.size, 0, none⟩) k k)) wr) := Lib.hid ⟨_, rfl, by have := HS.out.m; omega, HS.out.b, HS.out.s.a.congr (fun j hj => by
            show Value.int .i64 (if j < k then _ else _) = _
            rw [if_pos hj])⟩
          clear HS
          go_wp2_with fail
          go_ret
          exact HE.out

end Go.Proofs.Ythpgbghcmfjjoaa
