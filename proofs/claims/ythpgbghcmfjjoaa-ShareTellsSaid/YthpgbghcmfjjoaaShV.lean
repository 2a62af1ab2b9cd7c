/- share: the reference's Share. (By mkshv.py.) -/
import Derived.Test.YthpgbghcmfjjoaaShR
namespace Go.Proofs.Ythpgbghcmfjjoaa
open Go.RowKit Go.Lib
set_option linter.unusedVariables false

set_option maxHeartbeats 4000000 in
set_option maxRecDepth 100000 in
theorem rShare_no (mode : Int) (A : Option Addr) (n c : Nat) (L : List Od) (qty lot : Int) (hlot : InR lot) (w : World) (HO : Ods w A n L) (hn : n ≤ 1000) (hno : NoSh mode (qs L) qty lot) :
    Calls Try.prog 10 #[.int .i64 mode, .slice A n c, .int .i64 qty, .int .i64 lot] w fun e w' => e = .returned (.slice none 0 0) ∧ Below w.heap.size w w' := by
  obtain ⟨T, hT⟩ : ∃ T, T = totN (qs L) lot := ⟨_, rfl⟩
  have HTot : Hid (Calls Try.prog 12 #[.slice A n c, .int .i64 lot] w fun e w' => e = .returned (.int .i64 T) ∧ w = w') := Lib.hid (by rw [hT]; exact rTotal_c A n c L lot hlot w HO hn)
  unfold NoSh at hno
  rw [← hT] at hno
  clear HO hlot hT
  by_cases m1 : mode < 1
  · have m2 : decide (mode < 1) = true := decide_eq_true m1
    clear hno
    go_enter Try.func10, Try.ntmps10
    go_wp2_with ((with_reducible refine HTot.out.mono ?_); rintro e w2 ⟨rfl, rfl⟩)
    go_ret
    exact ⟨rfl, Below.refl _ _⟩
  have m2 : decide (mode < 1) = false := decide_eq_false m1
  by_cases m3 : 2 < mode
  · have m4 : decide (2 < mode) = true := decide_eq_true m3
    clear hno
    go_enter Try.func10, Try.ntmps10
    go_wp2_with ((with_reducible refine HTot.out.mono ?_); rintro e w2 ⟨rfl, rfl⟩)
    go_ret
    exact ⟨rfl, Below.refl _ _⟩
  have m4 : decide (2 < mode) = false := decide_eq_false m3
  by_cases z : T = 0
  · subst z; clear hno
    go_enter Try.func10, Try.ntmps10
    go_wp2_with ((with_reducible refine HTot.out.mono ?_); rintro e w2 ⟨rfl, rfl⟩)
    go_ret
    exact ⟨rfl, Below.refl _ _⟩
  have z1 : (T == 0) = false := by simp [z]
  by_cases q1 : qty < 1
  · have q2 : decide (qty < 1) = true := decide_eq_true q1
    clear hno z
    go_enter Try.func10, Try.ntmps10
    go_wp2_with ((with_reducible refine HTot.out.mono ?_); rintro e w2 ⟨rfl, rfl⟩)
    go_ret
    exact ⟨rfl, Below.refl _ _⟩
  have q2 : decide (qty < 1) = false := decide_eq_false q1
  have q3 : 4611686018427387904 < qty := by omega
  have q4 : decide (4611686018427387904 < qty) = true := decide_eq_true q3
  clear hno z
  go_enter Try.func10, Try.ntmps10
  go_wp2_with ((with_reducible refine HTot.out.mono ?_); rintro e w2 ⟨rfl, rfl⟩)
  go_ret
  exact ⟨rfl, Below.refl _ _⟩

set_option maxHeartbeats 4000000 in
set_option maxRecDepth 100000 in
theorem rShare_1 (A : Option Addr) (n c : Nat) (L : List Od) (qty lot : Int) (hlot : InR lot) (w : World) (HO : Ods w A n L) (hn : n ≤ 1000) (hok : ShOk (qs L) qty lot) :
    Calls Try.prog 10 #[.int .i64 1, .slice A n c, .int .i64 qty, .int .i64 lot] w (Shd w n (outN 1 (allN lot qty (sumT lot (qs L))) (sumT lot (qs L)) lot (qs L))) := by
  have hql : (qs L).length = n := by rw [qs_len]; exact HO.1
  obtain ⟨T, hT⟩ : ∃ T, T = sumT lot (qs L) := ⟨_, rfl⟩
  obtain ⟨tq, htq⟩ : ∃ t, t = trimN lot qty := ⟨_, rfl⟩
  obtain ⟨all, hall⟩ : ∃ a, a = allN lot qty T := ⟨_, rfl⟩
  have HTot : Hid (Calls Try.prog 12 #[.slice A n c, .int .i64 lot] w fun e w' => e = .returned (.int .i64 T) ∧ w = w') := Lib.hid (by rw [hT, ← hok.t]; exact rTotal_c A n c L lot hlot w HO hn)
  have hab := all_bd hok
  rw [← hT, ← hall] at hab
  have HTq : Hid (∀ w, Calls Try.prog 16 #[.int .i64 lot, .int .i64 qty] w fun e w' => e = .returned (.int .i64 tq) ∧ w = w') := Lib.hid (fun w => by rw [htq]; exact rTrim_c lot qty ⟨by have := hok.y1; omega, by have := hok.y2; omega⟩ hlot w)
  have eall : min tq T = all := by rw [hall, htq]; rfl
  have HOK : Hid (ShOk (qs L) qty lot) := Lib.hid hok
  have HQ : Hid (T = sumT lot (qs L) ∧ all = allN lot qty T ∧ (qs L).length = n) := Lib.hid ⟨hT, hall, hql⟩
  have h64 : n ≤ 64 := by have := hok.n; omega
  have hz1 : (T == 0) = false := by have := hok.t1; simp; omega
  have hz2 : decide (qty < 1) = false := decide_eq_false (by have := hok.y1; omega)
  have hz3 : decide (4611686018427387904 < qty) = false := decide_eq_false (by have := hok.y2; omega)
  have hT2 : 0 < T ∧ T ≤ 70368744177664 := by rw [hT]; exact ⟨hok.t1, hok.t2⟩
  have HOd : Aside (Ods w A n L) := HO
  rw [← hT, ← hall]
  have hmk := run_make_row' (P := Try.prog) 27 2 (.int .i64 0) 8 Try.underlying27 info_i64 rfl .i64 .i64 n (by omega) (by omega)
  have R0 : Hid ((w.alloc (.cells (madeCells #[.int .i64 0] n) 2)).rowIs w.heap.size 2 n (fun _ => .int .i64 0)) := Lib.hid (World.rowIs_made w (.int .i64 0) n _)
  have B0 : Hid (Below w.heap.size w (w.alloc (.cells (madeCells #[.int .i64 0] n) 2))) := Lib.hid ((Below.refl _ _).alloc (Nat.le_refl _) _)
  clear hT htq hall hql hok HO
  by_cases hsw : T < tq
  · have eT : T = all := by rw [← eall, Int.min_eq_right (by omega)]
    clear eall
    subst eT
    have hswd : decide (T < tq) = true := decide_eq_true hsw
    clear hsw
    go_enter Try.func10, Try.ntmps10
    go_wp2_with (first | ((with_reducible refine HTot.out.mono ?_); rintro e w2 ⟨rfl, rfl⟩) | ((with_reducible refine (HTq.out _).mono ?_); rintro e w2 ⟨rfl, rfl⟩))
    generalize w.alloc (.cells (madeCells #[.int .i64 0] n) 2) = w0 at R0 B0 ⊢
    clear HTot HTq hmk hz1 hz2 hz3
    have HRP0 : Hid (w0.rowIs w.heap.size 2 n (fun j => .int .i64 (p1 1 T T lot ((qs L).getD j 0)))) := Lib.hid (R0.out.congr (fun j hj => by unfold p1; rw [if_neg (by omega)]))
    clear R0
    go_loopg [13] 1 (fun kx s13 wr => s13 = .int .i64 0 ∧ wr = w0)
    case atStart => exact ⟨rfl, rfl⟩
    case round =>
    obtain ⟨rfl, rfl⟩ := hrel
    obtain ⟨w1, ew1⟩ : ∃ w1, w1 = wr := ⟨_, rfl⟩
    rw [← ew1] at HRP0 B0 ⊢
    have HRP := HRP0
    clear HRP0 ew1
    have HR1 : Hid (w1.rowIs w.heap.size 2 n (fun j => .int .i64 (p1 1 T T lot ((qs L).getD j 0)))) := HRP
    clear HRP
    go_wp2_with fail
    go_loopg [10, 16] n (fun kx s10 s16 wr => ∃ k : Nat, s16 = .int .i64 k ∧ k ≤ n ∧ n - k ≤ kx ∧ s10 = .int .i64 (lef1 1 T T lot (qs L) k) ∧ wr = w1)
    case atStart => exact ⟨0, rfl, by omega, by omega, rfl, rfl⟩
    case round =>
      obtain ⟨k, rfl, hk, hkx, rfl, rfl⟩ := hrel
      have haT : T ≤ sumT lot (qs L) := by rw [← HQ.out.1]; exact hab.2
      have h0T : 0 < sumT lot (qs L) := by rw [← HQ.out.1]; exact hT2.1
      by_cases hlt : k < n
      · have hltI : (k : Int) < (n : Int) := by omega
        have hk0 : (0 : Int) ≤ (k : Int) := by omega
        have hf := p1_fits (mode := 1) (all := T) HOK.out.l1 HOK.out.q hab.1 haT h0T k (by rw [HQ.out.2.2]; exact hk)
        rw [← HQ.out.1] at hf
        obtain ⟨⟨f1, f2, _⟩, f3⟩ := hf
        obtain ⟨f4, f5, _, _⟩ := f3 (by rw [HQ.out.2.2]; exact hlt)
        clear f3 haT h0T
        have c1 := HR1.out.cell hlt
        have HST := Lib.hid (show lef1 1 T T lot (qs L) (k + 1) = lef1 1 T T lot (qs L) k - p1 1 T T lot ((qs L).getD k 0) from rfl)
        generalize lef1 1 T T lot (qs L) k = S at *
        generalize p1 1 T T lot ((qs L).getD k 0) = p at *
        go_wp2_with fail
        go_roundg (n - (k + 1))
        case measure => omega
        case rel => exact ⟨k + 1, by go_num, by omega, by omega, by rw [HST.out], rfl⟩
      · have hltI : ¬ (k : Int) < (n : Int) := by omega
        have ekn : k = n := by omega
        have HR3 : Hid (wr.rowIs w.heap.size 2 n (fun j => .int .i64 (if j < 0 then outN 1 T T lot (qs L) j else p1 1 T T lot ((qs L).getD j 0)))) := Lib.hid (HR1.out.congr (fun j hj => by rw [if_neg (by omega)]))
        have HL : Hid (lef1 1 T T lot (qs L) k = lef2 1 T T lot (qs L) 0) := Lib.hid (by show _ = lef1 1 T T lot (qs L) (qs L).length; rw [HQ.out.2.2, ekn])
        rw [HL.out]
        clear HR1 hlt ekn haT h0T hkx
        go_wp2_with fail
        go_loopg [10, 17] n (fun kx s10 s17 wr => ∃ k : Nat, s17 = .int .i64 k ∧ k ≤ n ∧ n - k ≤ kx ∧ s10 = .int .i64 (lef2 1 T T lot (qs L) k) ∧ Hid (wr.rowIs w.heap.size 2 n (fun j => .int .i64 (if j < k then outN 1 T T lot (qs L) j else p1 1 T T lot ((qs L).getD j 0)))) ∧ Hid (Below w.heap.size w wr))
        case atStart => exact ⟨0, rfl, by omega, by omega, rfl, HR3, B0⟩
        case round =>
          clear HR3 B0
          obtain ⟨k, rfl, hk, hkx, rfl, HR, HB⟩ := hrel
          by_cases hlt : k < n
          · have hltI : (k : Int) < (n : Int) := by omega
            have hk0 : (0 : Int) ≤ (k : Int) := by omega
            have HO2 : Aside (Ods wr A n L) := HOd.out.below HB.out
            obtain ⟨b, off, rfl, hb, hc⟩ : ∃ b off, A = some ⟨b, off, none⟩ ∧ b < wr.heap.size ∧ ∀ i, i < n → (L[i]!).at wr b (off + i * 6) := by
              rcases HO2.out.2.2.2 with h | h
              · omega
              · exact h
            have kq := (hc k hlt).2.2.2.2.1
            have hqi : InR L[k]!.qty := by
              have := HO2.out.2.2.1 L[k]! (by rw [getElem!_pos L k (by rw [HO2.out.1]; exact hlt)]; exact List.getElem_mem _)
              exact this.2.2.2.2.1
            have hqq := qs_get L k (by rw [HO2.out.1]; exact hlt)
            have hg := getD_ok HOK.out.q k
            have htr := trim_rng (lot := lot) HOK.out.l1 hg.1
            have haT : T ≤ sumT lot (qs L) := by rw [← HQ.out.1]; exact hab.2
            have h0T : 0 < sumT lot (qs L) := by rw [← HQ.out.1]; exact hT2.1
            have hp := p1_rng (mode := 1) (all := T) HOK.out.l1 HOK.out.q hab.1 haT h0T k (by rw [HQ.out.2.2]; exact hlt)
            have hf := lef2_rng (mode := 1) (all := T) HOK.out.l1 HOK.out.q hab.1 haT h0T k (by rw [HQ.out.2.2]; exact hk)
            rw [← HQ.out.1] at hp hf
            have HST := Lib.hid (show lef2 1 T T lot (qs L) (k + 1) = lef2 1 T T lot (qs L) k - min (lef2 1 T T lot (qs L) k) (trimN lot ((qs L).getD k 0) - p1 1 T T lot ((qs L).getD k 0)) from rfl)
            have HOU := Lib.hid (show outN 1 T T lot (qs L) k = p1 1 T T lot ((qs L).getD k 0) + min (lef2 1 T T lot (qs L) k) (trimN lot ((qs L).getD k 0) - p1 1 T T lot ((qs L).getD k 0)) from rfl)
            have c1 : wr.cell? ⟨w.heap.size, k, none⟩ = some (.int .i64 (p1 1 T T lot ((qs L).getD k 0))) := (HR.out.cell hlt).trans (by rw [if_neg (by omega)])
            have f5 := HR.out.frozen k
            have HTr : Hid (∀ w, Calls Try.prog 16 #[.int .i64 lot, .int .i64 L[k]!.qty] w fun e w' => e = .returned (.int .i64 (trimN lot L[k]!.qty)) ∧ w' = w) := Lib.hid (fun w => (rTrim_c lot _ hqi hlot w).mono fun _ _ h => ⟨h.1, h.2.symm⟩)
            rw [hqq] at hg htr hp HST HOU c1
            have hsz := hb
            clear hqi hqq hc HO2 haT h0T
            have HE1 : Hid (∀ j, j < n → (if j = k then Value.int .i64 (outN 1 T T lot (qs L) k) else .int .i64 (if j < k then outN 1 T T lot (qs L) j else p1 1 T T lot ((qs L).getD j 0))) = .int .i64 (if j < k + 1 then outN 1 T T lot (qs L) j else p1 1 T T lot ((qs L).getD j 0))) := Lib.hid (fun j hj => by
              by_cases e1 : j = k
              · subst e1; rw [if_pos rfl, if_pos (by omega)]
              · rw [if_neg e1]
                by_cases e2 : j < k
                · rw [if_pos e2, if_pos (by omega)]
                · rw [if_neg e2, if_neg (by omega)])
            obtain ⟨lf, hlf⟩ : ∃ x, x = lef2 1 T T lot (qs L) k := ⟨_, rfl⟩
            obtain ⟨o, ho⟩ : ∃ x, x = outN 1 T T lot (qs L) k := ⟨_, rfl⟩
            obtain ⟨p, hpp⟩ : ∃ x, x = p1 1 T T lot L[k]!.qty := ⟨_, rfl⟩
            rw [← hlf, ← hpp] at HST HOU
            rw [← ho] at HOU HE1
            rw [← hlf] at hf ⊢
            rw [← hpp] at hp c1
            have HLF := Lib.hid hlf
            clear hlf ho hpp
            generalize L[k]!.qty = q at *
            generalize trimN lot q = t at *
            obtain ⟨d, hd⟩ : ∃ d, min lf (t - p) = d := ⟨_, rfl⟩
            have hd2 : 0 ≤ d ∧ d ≤ lf ∧ d ≤ t - p := by omega
            rw [hd] at HST HOU
            have HNW : Hid (∀ nq, ((wr.drewN nq).setCell ⟨w.heap.size, k, none⟩ (.int .i64 (p + d))).rowIs w.heap.size 2 n (fun j => .int .i64 (if j < k + 1 then outN 1 T T lot (qs L) j else p1 1 T T lot ((qs L).getD j 0)))) := Lib.hid (fun nq => by
              have h : (wr.drewN nq).rowIs w.heap.size 2 n (fun j => .int .i64 (if j < k then outN 1 T T lot (qs L) j else p1 1 T T lot ((qs L).getD j 0))) := HR.out
              rw [← HOU.out]
              exact (h.set k _).congr HE1.out)
            have HBN : Hid (∀ nq, Below w.heap.size w ((wr.drewN nq).setCell ⟨w.heap.size, k, none⟩ (.int .i64 (p + d)))) := Lib.hid (fun nq => (below_drewN HB.out nq).setCell (Nat.le_refl _) _)
            clear HE1 HR HB
            go_wp2_with fail
            go_quiet (((with_reducible exact Calls.quiet_of_same (HTr.out _))))
            have HN1 := Lib.hid (HNW.out nq)
            have HN2 := Lib.hid (HBN.out nq)
            clear HNW HBN HTr
            clear hd
            go_wp2_with fail
            generalize (wr.drewN nq).setCell ⟨w.heap.size, k, none⟩ (.int .i64 (p + d)) = w5 at HN1 HN2 ⊢
            go_wp2_with fail
            go_roundg (n - (k + 1))
            case measure => omega
            case rel => exact ⟨k + 1, by go_num, by omega, by omega, by rw [HST.out], HN1, HN2⟩
          · have hltI : ¬ (k : Int) < (n : Int) := by omega
            have HE : Hid (Shd w n (outN 1 T T lot (qs L)) (.returned (.slice (some ⟨w.heap.size, 0, none⟩) n n)) wr) := Lib.hid ⟨_, rfl, Nat.le_refl _, HB.out, HR.out.congr (fun j hj => by
              show Value.int .i64 (if j < k then _ else _) = _
              rw [if_pos (by omega)])⟩
            clear HR HB
            go_wp2_with fail
            go_ret
            exact HE.out
  · have eT : all = tq := by rw [← eall, Int.min_eq_left (by omega)]
    clear eall
    subst eT
    have hswd : decide (T < all) = false := decide_eq_false hsw
    clear hsw
    go_enter Try.func10, Try.ntmps10
    go_wp2_with (first | ((with_reducible refine HTot.out.mono ?_); rintro e w2 ⟨rfl, rfl⟩) | ((with_reducible refine (HTq.out _).mono ?_); rintro e w2 ⟨rfl, rfl⟩))
    generalize w.alloc (.cells (madeCells #[.int .i64 0] n) 2) = w0 at R0 B0 ⊢
    clear HTot HTq hmk hz1 hz2 hz3
    have HRP0 : Hid (w0.rowIs w.heap.size 2 n (fun j => .int .i64 (p1 1 all T lot ((qs L).getD j 0)))) := Lib.hid (R0.out.congr (fun j hj => by unfold p1; rw [if_neg (by omega)]))
    clear R0
    go_loopg [13] 1 (fun kx s13 wr => s13 = .int .i64 0 ∧ wr = w0)
    case atStart => exact ⟨rfl, rfl⟩
    case round =>
    obtain ⟨rfl, rfl⟩ := hrel
    obtain ⟨w1, ew1⟩ : ∃ w1, w1 = wr := ⟨_, rfl⟩
    rw [← ew1] at HRP0 B0 ⊢
    have HRP := HRP0
    clear HRP0 ew1
    have HR1 : Hid (w1.rowIs w.heap.size 2 n (fun j => .int .i64 (p1 1 all T lot ((qs L).getD j 0)))) := HRP
    clear HRP
    go_wp2_with fail
    go_loopg [10, 16] n (fun kx s10 s16 wr => ∃ k : Nat, s16 = .int .i64 k ∧ k ≤ n ∧ n - k ≤ kx ∧ s10 = .int .i64 (lef1 1 all T lot (qs L) k) ∧ wr = w1)
    case atStart => exact ⟨0, rfl, by omega, by omega, rfl, rfl⟩
    case round =>
      obtain ⟨k, rfl, hk, hkx, rfl, rfl⟩ := hrel
      have haT : all ≤ sumT lot (qs L) := by rw [← HQ.out.1]; exact hab.2
      have h0T : 0 < sumT lot (qs L) := by rw [← HQ.out.1]; exact hT2.1
      by_cases hlt : k < n
      · have hltI : (k : Int) < (n : Int) := by omega
        have hk0 : (0 : Int) ≤ (k : Int) := by omega
        have hf := p1_fits (mode := 1) (all := all) HOK.out.l1 HOK.out.q hab.1 haT h0T k (by rw [HQ.out.2.2]; exact hk)
        rw [← HQ.out.1] at hf
        obtain ⟨⟨f1, f2, _⟩, f3⟩ := hf
        obtain ⟨f4, f5, _, _⟩ := f3 (by rw [HQ.out.2.2]; exact hlt)
        clear f3 haT h0T
        have c1 := HR1.out.cell hlt
        have HST := Lib.hid (show lef1 1 all T lot (qs L) (k + 1) = lef1 1 all T lot (qs L) k - p1 1 all T lot ((qs L).getD k 0) from rfl)
        generalize lef1 1 all T lot (qs L) k = S at *
        generalize p1 1 all T lot ((qs L).getD k 0) = p at *
        go_wp2_with fail
        go_roundg (n - (k + 1))
        case measure => omega
        case rel => exact ⟨k + 1, by go_num, by omega, by omega, by rw [HST.out], rfl⟩
      · have hltI : ¬ (k : Int) < (n : Int) := by omega
        have ekn : k = n := by omega
        have HR3 : Hid (wr.rowIs w.heap.size 2 n (fun j => .int .i64 (if j < 0 then outN 1 all T lot (qs L) j else p1 1 all T lot ((qs L).getD j 0)))) := Lib.hid (HR1.out.congr (fun j hj => by rw [if_neg (by omega)]))
        have HL : Hid (lef1 1 all T lot (qs L) k = lef2 1 all T lot (qs L) 0) := Lib.hid (by show _ = lef1 1 all T lot (qs L) (qs L).length; rw [HQ.out.2.2, ekn])
        rw [HL.out]
        clear HR1 hlt ekn haT h0T hkx
        go_wp2_with fail
        go_loopg [10, 17] n (fun kx s10 s17 wr => ∃ k : Nat, s17 = .int .i64 k ∧ k ≤ n ∧ n - k ≤ kx ∧ s10 = .int .i64 (lef2 1 all T lot (qs L) k) ∧ Hid (wr.rowIs w.heap.size 2 n (fun j => .int .i64 (if j < k then outN 1 all T lot (qs L) j else p1 1 all T lot ((qs L).getD j 0)))) ∧ Hid (Below w.heap.size w wr))
        case atStart => exact ⟨0, rfl, by omega, by omega, rfl, HR3, B0⟩
        case round =>
          clear HR3 B0
          obtain ⟨k, rfl, hk, hkx, rfl, HR, HB⟩ := hrel
          by_cases hlt : k < n
          · have hltI : (k : Int) < (n : Int) := by omega
            have hk0 : (0 : Int) ≤ (k : Int) := by omega
            have HO2 : Aside (Ods wr A n L) := HOd.out.below HB.out
            obtain ⟨b, off, rfl, hb, hc⟩ : ∃ b off, A = some ⟨b, off, none⟩ ∧ b < wr.heap.size ∧ ∀ i, i < n → (L[i]!).at wr b (off + i * 6) := by
              rcases HO2.out.2.2.2 with h | h
              · omega
              · exact h
            have kq := (hc k hlt).2.2.2.2.1
            have hqi : InR L[k]!.qty := by
              have := HO2.out.2.2.1 L[k]! (by rw [getElem!_pos L k (by rw [HO2.out.1]; exact hlt)]; exact List.getElem_mem _)
              exact this.2.2.2.2.1
            have hqq := qs_get L k (by rw [HO2.out.1]; exact hlt)
            have hg := getD_ok HOK.out.q k
            have htr := trim_rng (lot := lot) HOK.out.l1 hg.1
            have haT : all ≤ sumT lot (qs L) := by rw [← HQ.out.1]; exact hab.2
            have h0T : 0 < sumT lot (qs L) := by rw [← HQ.out.1]; exact hT2.1
            have hp := p1_rng (mode := 1) (all := all) HOK.out.l1 HOK.out.q hab.1 haT h0T k (by rw [HQ.out.2.2]; exact hlt)
            have hf := lef2_rng (mode := 1) (all := all) HOK.out.l1 HOK.out.q hab.1 haT h0T k (by rw [HQ.out.2.2]; exact hk)
            rw [← HQ.out.1] at hp hf
            have HST := Lib.hid (show lef2 1 all T lot (qs L) (k + 1) = lef2 1 all T lot (qs L) k - min (lef2 1 all T lot (qs L) k) (trimN lot ((qs L).getD k 0) - p1 1 all T lot ((qs L).getD k 0)) from rfl)
            have HOU := Lib.hid (show outN 1 all T lot (qs L) k = p1 1 all T lot ((qs L).getD k 0) + min (lef2 1 all T lot (qs L) k) (trimN lot ((qs L).getD k 0) - p1 1 all T lot ((qs L).getD k 0)) from rfl)
            have c1 : wr.cell? ⟨w.heap.size, k, none⟩ = some (.int .i64 (p1 1 all T lot ((qs L).getD k 0))) := (HR.out.cell hlt).trans (by rw [if_neg (by omega)])
            have f5 := HR.out.frozen k
            have HTr : Hid (∀ w, Calls Try.prog 16 #[.int .i64 lot, .int .i64 L[k]!.qty] w fun e w' => e = .returned (.int .i64 (trimN lot L[k]!.qty)) ∧ w' = w) := Lib.hid (fun w => (rTrim_c lot _ hqi hlot w).mono fun _ _ h => ⟨h.1, h.2.symm⟩)
            rw [hqq] at hg htr hp HST HOU c1
            have hsz := hb
            clear hqi hqq hc HO2 haT h0T
            have HE1 : Hid (∀ j, j < n → (if j = k then Value.int .i64 (outN 1 all T lot (qs L) k) else .int .i64 (if j < k then outN 1 all T lot (qs L) j else p1 1 all T lot ((qs L).getD j 0))) = .int .i64 (if j < k + 1 then outN 1 all T lot (qs L) j else p1 1 all T lot ((qs L).getD j 0))) := Lib.hid (fun j hj => by
              by_cases e1 : j = k
              · subst e1; rw [if_pos rfl, if_pos (by omega)]
              · rw [if_neg e1]
                by_cases e2 : j < k
                · rw [if_pos e2, if_pos (by omega)]
                · rw [if_neg e2, if_neg (by omega)])
            obtain ⟨lf, hlf⟩ : ∃ x, x = lef2 1 all T lot (qs L) k := ⟨_, rfl⟩
            obtain ⟨o, ho⟩ : ∃ x, x = outN 1 all T lot (qs L) k := ⟨_, rfl⟩
            obtain ⟨p, hpp⟩ : ∃ x, x = p1 1 all T lot L[k]!.qty := ⟨_, rfl⟩
            rw [← hlf, ← hpp] at HST HOU
            rw [← ho] at HOU HE1
            rw [← hlf] at hf ⊢
            rw [← hpp] at hp c1
            have HLF := Lib.hid hlf
            clear hlf ho hpp
            generalize L[k]!.qty = q at *
            generalize trimN lot q = t at *
            obtain ⟨d, hd⟩ : ∃ d, min lf (t - p) = d := ⟨_, rfl⟩
            have hd2 : 0 ≤ d ∧ d ≤ lf ∧ d ≤ t - p := by omega
            rw [hd] at HST HOU
            have HNW : Hid (∀ nq, ((wr.drewN nq).setCell ⟨w.heap.size, k, none⟩ (.int .i64 (p + d))).rowIs w.heap.size 2 n (fun j => .int .i64 (if j < k + 1 then outN 1 all T lot (qs L) j else p1 1 all T lot ((qs L).getD j 0)))) := Lib.hid (fun nq => by
              have h : (wr.drewN nq).rowIs w.heap.size 2 n (fun j => .int .i64 (if j < k then outN 1 all T lot (qs L) j else p1 1 all T lot ((qs L).getD j 0))) := HR.out
              rw [← HOU.out]
              exact (h.set k _).congr HE1.out)
            have HBN : Hid (∀ nq, Below w.heap.size w ((wr.drewN nq).setCell ⟨w.heap.size, k, none⟩ (.int .i64 (p + d)))) := Lib.hid (fun nq => (below_drewN HB.out nq).setCell (Nat.le_refl _) _)
            clear HE1 HR HB
            go_wp2_with fail
            go_quiet (((with_reducible exact Calls.quiet_of_same (HTr.out _))))
            have HN1 := Lib.hid (HNW.out nq)
            have HN2 := Lib.hid (HBN.out nq)
            clear HNW HBN HTr
            clear hd
            go_wp2_with fail
            generalize (wr.drewN nq).setCell ⟨w.heap.size, k, none⟩ (.int .i64 (p + d)) = w5 at HN1 HN2 ⊢
            go_wp2_with fail
            go_roundg (n - (k + 1))
            case measure => omega
            case rel => exact ⟨k + 1, by go_num, by omega, by omega, by rw [HST.out], HN1, HN2⟩
          · have hltI : ¬ (k : Int) < (n : Int) := by omega
            have HE : Hid (Shd w n (outN 1 all T lot (qs L)) (.returned (.slice (some ⟨w.heap.size, 0, none⟩) n n)) wr) := Lib.hid ⟨_, rfl, Nat.le_refl _, HB.out, HR.out.congr (fun j hj => by
              show Value.int .i64 (if j < k then _ else _) = _
              rw [if_pos (by omega)])⟩
            clear HR HB
            go_wp2_with fail
            go_ret
            exact HE.out

set_option maxHeartbeats 4000000 in
set_option maxRecDepth 100000 in
theorem rShare_2 (A : Option Addr) (n c : Nat) (L : List Od) (qty lot : Int) (hlot : InR lot) (w : World) (HO : Ods w A n L) (hn : n ≤ 1000) (hok : ShOk (qs L) qty lot) :
    Calls Try.prog 10 #[.int .i64 2, .slice A n c, .int .i64 qty, .int .i64 lot] w (Shd w n (outN 2 (allN lot qty (sumT lot (qs L))) (sumT lot (qs L)) lot (qs L))) := by
  have hql : (qs L).length = n := by rw [qs_len]; exact HO.1
  obtain ⟨T, hT⟩ : ∃ T, T = sumT lot (qs L) := ⟨_, rfl⟩
  obtain ⟨tq, htq⟩ : ∃ t, t = trimN lot qty := ⟨_, rfl⟩
  obtain ⟨all, hall⟩ : ∃ a, a = allN lot qty T := ⟨_, rfl⟩
  have HTot : Hid (Calls Try.prog 12 #[.slice A n c, .int .i64 lot] w fun e w' => e = .returned (.int .i64 T) ∧ w = w') := Lib.hid (by rw [hT, ← hok.t]; exact rTotal_c A n c L lot hlot w HO hn)
  have hab := all_bd hok
  rw [← hT, ← hall] at hab
  have HTq : Hid (∀ w, Calls Try.prog 16 #[.int .i64 lot, .int .i64 qty] w fun e w' => e = .returned (.int .i64 tq) ∧ w = w') := Lib.hid (fun w => by rw [htq]; exact rTrim_c lot qty ⟨by have := hok.y1; omega, by have := hok.y2; omega⟩ hlot w)
  have eall : min tq T = all := by rw [hall, htq]; rfl
  have HOK : Hid (ShOk (qs L) qty lot) := Lib.hid hok
  have HQ : Hid (T = sumT lot (qs L) ∧ all = allN lot qty T ∧ (qs L).length = n) := Lib.hid ⟨hT, hall, hql⟩
  have h64 : n ≤ 64 := by have := hok.n; omega
  have hz1 : (T == 0) = false := by have := hok.t1; simp; omega
  have hz2 : decide (qty < 1) = false := decide_eq_false (by have := hok.y1; omega)
  have hz3 : decide (4611686018427387904 < qty) = false := decide_eq_false (by have := hok.y2; omega)
  have hT2 : 0 < T ∧ T ≤ 70368744177664 := by rw [hT]; exact ⟨hok.t1, hok.t2⟩
  have HOd : Aside (Ods w A n L) := HO
  rw [← hT, ← hall]
  have hmk := run_make_row' (P := Try.prog) 27 2 (.int .i64 0) 8 Try.underlying27 info_i64 rfl .i64 .i64 n (by omega) (by omega)
  have R0 : Hid ((w.alloc (.cells (madeCells #[.int .i64 0] n) 2)).rowIs w.heap.size 2 n (fun _ => .int .i64 0)) := Lib.hid (World.rowIs_made w (.int .i64 0) n _)
  have B0 : Hid (Below w.heap.size w (w.alloc (.cells (madeCells #[.int .i64 0] n) 2))) := Lib.hid ((Below.refl _ _).alloc (Nat.le_refl _) _)
  clear hT htq hall hql hok HO
  by_cases hsw : T < tq
  · have eT : T = all := by rw [← eall, Int.min_eq_right (by omega)]
    clear eall
    subst eT
    have hswd : decide (T < tq) = true := decide_eq_true hsw
    clear hsw
    go_enter Try.func10, Try.ntmps10
    go_wp2_with (first | ((with_reducible refine HTot.out.mono ?_); rintro e w2 ⟨rfl, rfl⟩) | ((with_reducible refine (HTq.out _).mono ?_); rintro e w2 ⟨rfl, rfl⟩))
    generalize w.alloc (.cells (madeCells #[.int .i64 0] n) 2) = w0 at R0 B0 ⊢
    clear HTot HTq hmk hz1 hz2 hz3
    go_loopg [13] n (fun kx s13 wr => ∃ k : Nat, s13 = .int .i64 k ∧ k ≤ n ∧ n - k ≤ kx ∧ Hid (wr.rowIs w.heap.size 2 n (fun j => .int .i64 (if j < k then p1 2 T T lot ((qs L).getD j 0) else 0))) ∧ Hid (Below w.heap.size w wr))
    case atStart => exact ⟨0, rfl, by omega, by omega, Lib.hid (R0.out.congr (fun j hj => by rw [if_neg (by omega)])), B0⟩
    case round =>
    clear R0 B0
    obtain ⟨k, rfl, hk, hkx, HR, HB⟩ := hrel
    by_cases hlt : k < n
    · have hltI : (k : Int) < (n : Int) := by omega
      have hk0 : (0 : Int) ≤ (k : Int) := by omega
      have HO2 : Aside (Ods wr A n L) := HOd.out.below HB.out
      obtain ⟨b, off, rfl, hb, hc⟩ : ∃ b off, A = some ⟨b, off, none⟩ ∧ b < wr.heap.size ∧ ∀ i, i < n → (L[i]!).at wr b (off + i * 6) := by
        rcases HO2.out.2.2.2 with h | h
        · omega
        · exact h
      have kq := (hc k hlt).2.2.2.2.1
      have hqi : InR L[k]!.qty := by
        have := HO2.out.2.2.1 L[k]! (by rw [getElem!_pos L k (by rw [HO2.out.1]; exact hlt)]; exact List.getElem_mem _)
        exact this.2.2.2.2.1
      have hqq := qs_get L k (by rw [HO2.out.1]; exact hlt)
      obtain ⟨q, eq⟩ : ∃ q, q = L[k]!.qty := ⟨_, rfl⟩
      rw [← eq] at kq hqi hqq
      have hg := getD_ok HOK.out.q k
      rw [hqq] at hg
      obtain ⟨tt, ht⟩ : ∃ t, t = trimN lot q := ⟨_, rfl⟩
      have htr := trim_rng (lot := lot) HOK.out.l1 hg.1
      rw [← ht] at htr
      have hts := trim_le_sum HOK.out.l1 HOK.out.q k (by rw [HQ.out.2.2]; exact hlt)
      rw [hqq, ← ht, ← HQ.out.1] at hts
      have hdv := dv_part (a := T) (t := tt) (T := T) hab.1 htr.1 hT2.1 hts (by omega)
      obtain ⟨pd, hpd⟩ : ∃ p, p = T * tt / T := ⟨_, rfl⟩
      rw [← hpd] at hdv
      obtain ⟨hdv1, hdv2, hdv3, hdv4⟩ := hdv
      obtain ⟨pp, hpp⟩ : ∃ p, p = p1 2 T T lot ((qs L).getD k 0) := ⟨_, rfl⟩
      have hpe : pp = trimN lot pd := by rw [hpp, hqq, hpd, ht]; rfl
      have HTr : Hid (∀ w, Calls Try.prog 16 #[.int .i64 lot, .int .i64 q] w fun e w' => e = .returned (.int .i64 tt) ∧ w = w') := Lib.hid (fun w => by rw [ht]; exact rTrim_c lot q hqi hlot w)
      have HTr2 : Hid (∀ w, Calls Try.prog 16 #[.int .i64 lot, .int .i64 pd] w fun e w' => e = .returned (.int .i64 pp) ∧ w = w') := Lib.hid (fun w => by rw [hpe]; exact rTrim_c lot pd ⟨by omega, by omega⟩ hlot w)
      have HDv : Hid (∀ w, Calls Try.prog 17 #[.int .i64 T, .int .i64 tt, .int .i64 T, .int .i64 1] w fun e w' => e = .returned (.tuple #[.int .i64 pd, .int .i64 0]) ∧ Below w.heap.size w w') := Lib.hid (fun w => by
        have h := refDiv_any T tt T 1 ⟨by omega, by omega⟩ ⟨by omega, by omega⟩ ⟨by omega, by omega⟩ w
        rw [hdv1, hdv2] at h
        exact h)
      have HN : Hid (∀ w3, Below wr.heap.size wr w3 → (w3.setCell ⟨w.heap.size, k, none⟩ (.int .i64 pp)).rowIs w.heap.size 2 n (fun j => .int .i64 (if j < k + 1 then p1 2 T T lot ((qs L).getD j 0) else 0))) := Lib.hid (fun w3 h3 => by
        refine ((HR.out.of_block (h3.block _ HR.out.lt)).set k _).congr (fun j hj => ?_)
        by_cases e1 : j = k
        · subst e1; rw [if_pos rfl, if_pos (by omega), hpp]
        · rw [if_neg e1]
          by_cases e2 : j < k
          · rw [if_pos e2, if_pos (by omega)]
          · rw [if_neg e2, if_neg (by omega)])
      have HRf := Lib.hid (fun (w3 : World) (h3 : Below wr.heap.size wr w3) => (⟨((HR.out.of_block (h3.block _ HR.out.lt)).cell hlt), (HR.out.of_block (h3.block _ HR.out.lt)).frozen k⟩ : _ ∧ _))
      have hbl := HR.out.lt
      clear hc hqi hqq eq hg ht htr hts hpd hdv1 hdv2 hpp hpe HO2 HR
      go_wp2_with (first | ((with_reducible refine (HTr.out _).mono ?_); rintro e w' ⟨rfl, rfl⟩) | fail)
      ((with_reducible refine (HDv.out _).mono ?_); rintro e w3 ⟨rfl, b3⟩)
      obtain ⟨cc, ff⟩ := HRf.out w3 b3
      have HN1 := Lib.hid (HN.out w3 b3)
      have HN2 : Hid (Below w.heap.size w (w3.setCell ⟨w.heap.size, k, none⟩ (.int .i64 pp))) := Lib.hid ((HB.out.trans (b3.mono HB.out.size)).setCell (Nat.le_refl _) _)
      clear HN HRf HB HDv b3
      go_wp2_with (first | ((with_reducible refine (HTr2.out _).mono ?_); rintro e w' ⟨rfl, rfl⟩) | fail)
      generalize w3.setCell ⟨w.heap.size, k, none⟩ (.int .i64 pp) = w5 at HN1 HN2 ⊢
      go_roundg (n - (k + 1))
      case measure => omega
      case rel => exact ⟨k + 1, by go_num, by omega, by omega, HN1, HN2⟩
    have hltI : ¬ (k : Int) < (n : Int) := by omega
    obtain ⟨w1, ew1⟩ : ∃ w1, w1 = wr := ⟨_, rfl⟩
    rw [← ew1] at HR HB ⊢
    have HRP : Hid (w1.rowIs w.heap.size 2 n (fun j => .int .i64 (p1 2 T T lot ((qs L).getD j 0)))) := Lib.hid (HR.out.congr (fun j hj => by
      show Value.int .i64 (if j < k then _ else _) = _
      rw [if_pos (by omega)]))
    have B0 := HB
    clear HR HB ew1 hlt
    have HR1 : Hid (w1.rowIs w.heap.size 2 n (fun j => .int .i64 (p1 2 T T lot ((qs L).getD j 0)))) := HRP
    clear HRP
    go_wp2_with fail
    go_loopg [10, 16] n (fun kx s10 s16 wr => ∃ k : Nat, s16 = .int .i64 k ∧ k ≤ n ∧ n - k ≤ kx ∧ s10 = .int .i64 (lef1 2 T T lot (qs L) k) ∧ wr = w1)
    case atStart => exact ⟨0, rfl, by omega, by omega, rfl, rfl⟩
    case round =>
      obtain ⟨k, rfl, hk, hkx, rfl, rfl⟩ := hrel
      have haT : T ≤ sumT lot (qs L) := by rw [← HQ.out.1]; exact hab.2
      have h0T : 0 < sumT lot (qs L) := by rw [← HQ.out.1]; exact hT2.1
      by_cases hlt : k < n
      · have hltI : (k : Int) < (n : Int) := by omega
        have hk0 : (0 : Int) ≤ (k : Int) := by omega
        have hf := p1_fits (mode := 2) (all := T) HOK.out.l1 HOK.out.q hab.1 haT h0T k (by rw [HQ.out.2.2]; exact hk)
        rw [← HQ.out.1] at hf
        obtain ⟨⟨f1, f2, _⟩, f3⟩ := hf
        obtain ⟨f4, f5, _, _⟩ := f3 (by rw [HQ.out.2.2]; exact hlt)
        clear f3 haT h0T
        have c1 := HR1.out.cell hlt
        have HST := Lib.hid (show lef1 2 T T lot (qs L) (k + 1) = lef1 2 T T lot (qs L) k - p1 2 T T lot ((qs L).getD k 0) from rfl)
        generalize lef1 2 T T lot (qs L) k = S at *
        generalize p1 2 T T lot ((qs L).getD k 0) = p at *
        go_wp2_with fail
        go_roundg (n - (k + 1))
        case measure => omega
        case rel => exact ⟨k + 1, by go_num, by omega, by omega, by rw [HST.out], rfl⟩
      · have hltI : ¬ (k : Int) < (n : Int) := by omega
        have ekn : k = n := by omega
        have HR3 : Hid (wr.rowIs w.heap.size 2 n (fun j => .int .i64 (if j < 0 then outN 2 T T lot (qs L) j else p1 2 T T lot ((qs L).getD j 0)))) := Lib.hid (HR1.out.congr (fun j hj => by rw [if_neg (by omega)]))
        have HL : Hid (lef1 2 T T lot (qs L) k = lef2 2 T T lot (qs L) 0) := Lib.hid (by show _ = lef1 2 T T lot (qs L) (qs L).length; rw [HQ.out.2.2, ekn])
        rw [HL.out]
        clear HR1 hlt ekn haT h0T hkx
        go_wp2_with fail
        go_loopg [10, 17] n (fun kx s10 s17 wr => ∃ k : Nat, s17 = .int .i64 k ∧ k ≤ n ∧ n - k ≤ kx ∧ s10 = .int .i64 (lef2 2 T T lot (qs L) k) ∧ Hid (wr.rowIs w.heap.size 2 n (fun j => .int .i64 (if j < k then outN 2 T T lot (qs L) j else p1 2 T T lot ((qs L).getD j 0)))) ∧ Hid (Below w.heap.size w wr))
        case atStart => exact ⟨0, rfl, by omega, by omega, rfl, HR3, B0⟩
        case round =>
          clear HR3 B0
          obtain ⟨k, rfl, hk, hkx, rfl, HR, HB⟩ := hrel
          by_cases hlt : k < n
          · have hltI : (k : Int) < (n : Int) := by omega
            have hk0 : (0 : Int) ≤ (k : Int) := by omega
            have HO2 : Aside (Ods wr A n L) := HOd.out.below HB.out
            obtain ⟨b, off, rfl, hb, hc⟩ : ∃ b off, A = some ⟨b, off, none⟩ ∧ b < wr.heap.size ∧ ∀ i, i < n → (L[i]!).at wr b (off + i * 6) := by
              rcases HO2.out.2.2.2 with h | h
              · omega
              · exact h
            have kq := (hc k hlt).2.2.2.2.1
            have hqi : InR L[k]!.qty := by
              have := HO2.out.2.2.1 L[k]! (by rw [getElem!_pos L k (by rw [HO2.out.1]; exact hlt)]; exact List.getElem_mem _)
              exact this.2.2.2.2.1
            have hqq := qs_get L k (by rw [HO2.out.1]; exact hlt)
            have hg := getD_ok HOK.out.q k
            have htr := trim_rng (lot := lot) HOK.out.l1 hg.1
            have haT : T ≤ sumT lot (qs L) := by rw [← HQ.out.1]; exact hab.2
            have h0T : 0 < sumT lot (qs L) := by rw [← HQ.out.1]; exact hT2.1
            have hp := p1_rng (mode := 2) (all := T) HOK.out.l1 HOK.out.q hab.1 haT h0T k (by rw [HQ.out.2.2]; exact hlt)
            have hf := lef2_rng (mode := 2) (all := T) HOK.out.l1 HOK.out.q hab.1 haT h0T k (by rw [HQ.out.2.2]; exact hk)
            rw [← HQ.out.1] at hp hf
            have HST := Lib.hid (show lef2 2 T T lot (qs L) (k + 1) = lef2 2 T T lot (qs L) k - min (lef2 2 T T lot (qs L) k) (trimN lot ((qs L).getD k 0) - p1 2 T T lot ((qs L).getD k 0)) from rfl)
            have HOU := Lib.hid (show outN 2 T T lot (qs L) k = p1 2 T T lot ((qs L).getD k 0) + min (lef2 2 T T lot (qs L) k) (trimN lot ((qs L).getD k 0) - p1 2 T T lot ((qs L).getD k 0)) from rfl)
            have c1 : wr.cell? ⟨w.heap.size, k, none⟩ = some (.int .i64 (p1 2 T T lot ((qs L).getD k 0))) := (HR.out.cell hlt).trans (by rw [if_neg (by omega)])
            have f5 := HR.out.frozen k
            have HTr : Hid (∀ w, Calls Try.prog 16 #[.int .i64 lot, .int .i64 L[k]!.qty] w fun e w' => e = .returned (.int .i64 (trimN lot L[k]!.qty)) ∧ w' = w) := Lib.hid (fun w => (rTrim_c lot _ hqi hlot w).mono fun _ _ h => ⟨h.1, h.2.symm⟩)
            rw [hqq] at hg htr hp HST HOU c1
            have hsz := hb
            clear hqi hqq hc HO2 haT h0T
            have HE1 : Hid (∀ j, j < n → (if j = k then Value.int .i64 (outN 2 T T lot (qs L) k) else .int .i64 (if j < k then outN 2 T T lot (qs L) j else p1 2 T T lot ((qs L).getD j 0))) = .int .i64 (if j < k + 1 then outN 2 T T lot (qs L) j else p1 2 T T lot ((qs L).getD j 0))) := Lib.hid (fun j hj => by
              by_cases e1 : j = k
              · subst e1; rw [if_pos rfl, if_pos (by omega)]
              · rw [if_neg e1]
                by_cases e2 : j < k
                · rw [if_pos e2, if_pos (by omega)]
                · rw [if_neg e2, if_neg (by omega)])
            obtain ⟨lf, hlf⟩ : ∃ x, x = lef2 2 T T lot (qs L) k := ⟨_, rfl⟩
            obtain ⟨o, ho⟩ : ∃ x, x = outN 2 T T lot (qs L) k := ⟨_, rfl⟩
            obtain ⟨p, hpp⟩ : ∃ x, x = p1 2 T T lot L[k]!.qty := ⟨_, rfl⟩
            rw [← hlf, ← hpp] at HST HOU
            rw [← ho] at HOU HE1
            rw [← hlf] at hf ⊢
            rw [← hpp] at hp c1
            have HLF := Lib.hid hlf
            clear hlf ho hpp
            generalize L[k]!.qty = q at *
            generalize trimN lot q = t at *
            obtain ⟨d, hd⟩ : ∃ d, min lf (t - p) = d := ⟨_, rfl⟩
            have hd2 : 0 ≤ d ∧ d ≤ lf ∧ d ≤ t - p := by omega
            rw [hd] at HST HOU
            have HNW : Hid (∀ nq, ((wr.drewN nq).setCell ⟨w.heap.size, k, none⟩ (.int .i64 (p + d))).rowIs w.heap.size 2 n (fun j => .int .i64 (if j < k + 1 then outN 2 T T lot (qs L) j else p1 2 T T lot ((qs L).getD j 0)))) := Lib.hid (fun nq => by
              have h : (wr.drewN nq).rowIs w.heap.size 2 n (fun j => .int .i64 (if j < k then outN 2 T T lot (qs L) j else p1 2 T T lot ((qs L).getD j 0))) := HR.out
              rw [← HOU.out]
              exact (h.set k _).congr HE1.out)
            have HBN : Hid (∀ nq, Below w.heap.size w ((wr.drewN nq).setCell ⟨w.heap.size, k, none⟩ (.int .i64 (p + d)))) := Lib.hid (fun nq => (below_drewN HB.out nq).setCell (Nat.le_refl _) _)
            clear HE1 HR HB
            go_wp2_with fail
            go_quiet (((with_reducible exact Calls.quiet_of_same (HTr.out _))))
            have HN1 := Lib.hid (HNW.out nq)
            have HN2 := Lib.hid (HBN.out nq)
            clear HNW HBN HTr
            clear hd
            go_wp2_with fail
            generalize (wr.drewN nq).setCell ⟨w.heap.size, k, none⟩ (.int .i64 (p + d)) = w5 at HN1 HN2 ⊢
            go_wp2_with fail
            go_roundg (n - (k + 1))
            case measure => omega
            case rel => exact ⟨k + 1, by go_num, by omega, by omega, by rw [HST.out], HN1, HN2⟩
          · have hltI : ¬ (k : Int) < (n : Int) := by omega
            have HE : Hid (Shd w n (outN 2 T T lot (qs L)) (.returned (.slice (some ⟨w.heap.size, 0, none⟩) n n)) wr) := Lib.hid ⟨_, rfl, Nat.le_refl _, HB.out, HR.out.congr (fun j hj => by
              show Value.int .i64 (if j < k then _ else _) = _
              rw [if_pos (by omega)])⟩
            clear HR HB
            go_wp2_with fail
            go_ret
            exact HE.out
  · have eT : all = tq := by rw [← eall, Int.min_eq_left (by omega)]
    clear eall
    subst eT
    have hswd : decide (T < all) = false := decide_eq_false hsw
    clear hsw
    go_enter Try.func10, Try.ntmps10
    go_wp2_with (first | ((with_reducible refine HTot.out.mono ?_); rintro e w2 ⟨rfl, rfl⟩) | ((with_reducible refine (HTq.out _).mono ?_); rintro e w2 ⟨rfl, rfl⟩))
    generalize w.alloc (.cells (madeCells #[.int .i64 0] n) 2) = w0 at R0 B0 ⊢
    clear HTot HTq hmk hz1 hz2 hz3
    go_loopg [13] n (fun kx s13 wr => ∃ k : Nat, s13 = .int .i64 k ∧ k ≤ n ∧ n - k ≤ kx ∧ Hid (wr.rowIs w.heap.size 2 n (fun j => .int .i64 (if j < k then p1 2 all T lot ((qs L).getD j 0) else 0))) ∧ Hid (Below w.heap.size w wr))
    case atStart => exact ⟨0, rfl, by omega, by omega, Lib.hid (R0.out.congr (fun j hj => by rw [if_neg (by omega)])), B0⟩
    case round =>
    clear R0 B0
    obtain ⟨k, rfl, hk, hkx, HR, HB⟩ := hrel
    by_cases hlt : k < n
    · have hltI : (k : Int) < (n : Int) := by omega
      have hk0 : (0 : Int) ≤ (k : Int) := by omega
      have HO2 : Aside (Ods wr A n L) := HOd.out.below HB.out
      obtain ⟨b, off, rfl, hb, hc⟩ : ∃ b off, A = some ⟨b, off, none⟩ ∧ b < wr.heap.size ∧ ∀ i, i < n → (L[i]!).at wr b (off + i * 6) := by
        rcases HO2.out.2.2.2 with h | h
        · omega
        · exact h
      have kq := (hc k hlt).2.2.2.2.1
      have hqi : InR L[k]!.qty := by
        have := HO2.out.2.2.1 L[k]! (by rw [getElem!_pos L k (by rw [HO2.out.1]; exact hlt)]; exact List.getElem_mem _)
        exact this.2.2.2.2.1
      have hqq := qs_get L k (by rw [HO2.out.1]; exact hlt)
      obtain ⟨q, eq⟩ : ∃ q, q = L[k]!.qty := ⟨_, rfl⟩
      rw [← eq] at kq hqi hqq
      have hg := getD_ok HOK.out.q k
      rw [hqq] at hg
      obtain ⟨tt, ht⟩ : ∃ t, t = trimN lot q := ⟨_, rfl⟩
      have htr := trim_rng (lot := lot) HOK.out.l1 hg.1
      rw [← ht] at htr
      have hts := trim_le_sum HOK.out.l1 HOK.out.q k (by rw [HQ.out.2.2]; exact hlt)
      rw [hqq, ← ht, ← HQ.out.1] at hts
      have hdv := dv_part (a := all) (t := tt) (T := T) hab.1 htr.1 hT2.1 hts (by omega)
      obtain ⟨pd, hpd⟩ : ∃ p, p = all * tt / T := ⟨_, rfl⟩
      rw [← hpd] at hdv
      obtain ⟨hdv1, hdv2, hdv3, hdv4⟩ := hdv
      obtain ⟨pp, hpp⟩ : ∃ p, p = p1 2 all T lot ((qs L).getD k 0) := ⟨_, rfl⟩
      have hpe : pp = trimN lot pd := by rw [hpp, hqq, hpd, ht]; rfl
      have HTr : Hid (∀ w, Calls Try.prog 16 #[.int .i64 lot, .int .i64 q] w fun e w' => e = .returned (.int .i64 tt) ∧ w = w') := Lib.hid (fun w => by rw [ht]; exact rTrim_c lot q hqi hlot w)
      have HTr2 : Hid (∀ w, Calls Try.prog 16 #[.int .i64 lot, .int .i64 pd] w fun e w' => e = .returned (.int .i64 pp) ∧ w = w') := Lib.hid (fun w => by rw [hpe]; exact rTrim_c lot pd ⟨by omega, by omega⟩ hlot w)
      have HDv : Hid (∀ w, Calls Try.prog 17 #[.int .i64 all, .int .i64 tt, .int .i64 T, .int .i64 1] w fun e w' => e = .returned (.tuple #[.int .i64 pd, .int .i64 0]) ∧ Below w.heap.size w w') := Lib.hid (fun w => by
        have h := refDiv_any all tt T 1 ⟨by omega, by omega⟩ ⟨by omega, by omega⟩ ⟨by omega, by omega⟩ w
        rw [hdv1, hdv2] at h
        exact h)
      have HN : Hid (∀ w3, Below wr.heap.size wr w3 → (w3.setCell ⟨w.heap.size, k, none⟩ (.int .i64 pp)).rowIs w.heap.size 2 n (fun j => .int .i64 (if j < k + 1 then p1 2 all T lot ((qs L).getD j 0) else 0))) := Lib.hid (fun w3 h3 => by
        refine ((HR.out.of_block (h3.block _ HR.out.lt)).set k _).congr (fun j hj => ?_)
        by_cases e1 : j = k
        · subst e1; rw [if_pos rfl, if_pos (by omega), hpp]
        · rw [if_neg e1]
          by_cases e2 : j < k
          · rw [if_pos e2, if_pos (by omega)]
          · rw [if_neg e2, if_neg (by omega)])
      have HRf := Lib.hid (fun (w3 : World) (h3 : Below wr.heap.size wr w3) => (⟨((HR.out.of_block (h3.block _ HR.out.lt)).cell hlt), (HR.out.of_block (h3.block _ HR.out.lt)).frozen k⟩ : _ ∧ _))
      have hbl := HR.out.lt
      clear hc hqi hqq eq hg ht htr hts hpd hdv1 hdv2 hpp hpe HO2 HR
      go_wp2_with (first | ((with_reducible refine (HTr.out _).mono ?_); rintro e w' ⟨rfl, rfl⟩) | fail)
      ((with_reducible refine (HDv.out _).mono ?_); rintro e w3 ⟨rfl, b3⟩)
      obtain ⟨cc, ff⟩ := HRf.out w3 b3
      have HN1 := Lib.hid (HN.out w3 b3)
      have HN2 : Hid (Below w.heap.size w (w3.setCell ⟨w.heap.size, k, none⟩ (.int .i64 pp))) := Lib.hid ((HB.out.trans (b3.mono HB.out.size)).setCell (Nat.le_refl _) _)
      clear HN HRf HB HDv b3
      go_wp2_with (first | ((with_reducible refine (HTr2.out _).mono ?_); rintro e w' ⟨rfl, rfl⟩) | fail)
      generalize w3.setCell ⟨w.heap.size, k, none⟩ (.int .i64 pp) = w5 at HN1 HN2 ⊢
      go_roundg (n - (k + 1))
      case measure => omega
      case rel => exact ⟨k + 1, by go_num, by omega, by omega, HN1, HN2⟩
    have hltI : ¬ (k : Int) < (n : Int) := by omega
    obtain ⟨w1, ew1⟩ : ∃ w1, w1 = wr := ⟨_, rfl⟩
    rw [← ew1] at HR HB ⊢
    have HRP : Hid (w1.rowIs w.heap.size 2 n (fun j => .int .i64 (p1 2 all T lot ((qs L).getD j 0)))) := Lib.hid (HR.out.congr (fun j hj => by
      show Value.int .i64 (if j < k then _ else _) = _
      rw [if_pos (by omega)]))
    have B0 := HB
    clear HR HB ew1 hlt
    have HR1 : Hid (w1.rowIs w.heap.size 2 n (fun j => .int .i64 (p1 2 all T lot ((qs L).getD j 0)))) := HRP
    clear HRP
    go_wp2_with fail
    go_loopg [10, 16] n (fun kx s10 s16 wr => ∃ k : Nat, s16 = .int .i64 k ∧ k ≤ n ∧ n - k ≤ kx ∧ s10 = .int .i64 (lef1 2 all T lot (qs L) k) ∧ wr = w1)
    case atStart => exact ⟨0, rfl, by omega, by omega, rfl, rfl⟩
    case round =>
      obtain ⟨k, rfl, hk, hkx, rfl, rfl⟩ := hrel
      have haT : all ≤ sumT lot (qs L) := by rw [← HQ.out.1]; exact hab.2
      have h0T : 0 < sumT lot (qs L) := by rw [← HQ.out.1]; exact hT2.1
      by_cases hlt : k < n
      · have hltI : (k : Int) < (n : Int) := by omega
        have hk0 : (0 : Int) ≤ (k : Int) := by omega
        have hf := p1_fits (mode := 2) (all := all) HOK.out.l1 HOK.out.q hab.1 haT h0T k (by rw [HQ.out.2.2]; exact hk)
        rw [← HQ.out.1] at hf
        obtain ⟨⟨f1, f2, _⟩, f3⟩ := hf
        obtain ⟨f4, f5, _, _⟩ := f3 (by rw [HQ.out.2.2]; exact hlt)
        clear f3 haT h0T
        have c1 := HR1.out.cell hlt
        have HST := Lib.hid (show lef1 2 all T lot (qs L) (k + 1) = lef1 2 all T lot (qs L) k - p1 2 all T lot ((qs L).getD k 0) from rfl)
        generalize lef1 2 all T lot (qs L) k = S at *
        generalize p1 2 all T lot ((qs L).getD k 0) = p at *
        go_wp2_with fail
        go_roundg (n - (k + 1))
        case measure => omega
        case rel => exact ⟨k + 1, by go_num, by omega, by omega, by rw [HST.out], rfl⟩
      · have hltI : ¬ (k : Int) < (n : Int) := by omega
        have ekn : k = n := by omega
        have HR3 : Hid (wr.rowIs w.heap.size 2 n (fun j => .int .i64 (if j < 0 then outN 2 all T lot (qs L) j else p1 2 all T lot ((qs L).getD j 0)))) := Lib.hid (HR1.out.congr (fun j hj => by rw [if_neg (by omega)]))
        have HL : Hid (lef1 2 all T lot (qs L) k = lef2 2 all T lot (qs L) 0) := Lib.hid (by show _ = lef1 2 all T lot (qs L) (qs L).length; rw [HQ.out.2.2, ekn])
        rw [HL.out]
        clear HR1 hlt ekn haT h0T hkx
        go_wp2_with fail
        go_loopg [10, 17] n (fun kx s10 s17 wr => ∃ k : Nat, s17 = .int .i64 k ∧ k ≤ n ∧ n - k ≤ kx ∧ s10 = .int .i64 (lef2 2 all T lot (qs L) k) ∧ Hid (wr.rowIs w.heap.size 2 n (fun j => .int .i64 (if j < k then outN 2 all T lot (qs L) j else p1 2 all T lot ((qs L).getD j 0)))) ∧ Hid (Below w.heap.size w wr))
        case atStart => exact ⟨0, rfl, by omega, by omega, rfl, HR3, B0⟩
        case round =>
          clear HR3 B0
          obtain ⟨k, rfl, hk, hkx, rfl, HR, HB⟩ := hrel
          by_cases hlt : k < n
          · have hltI : (k : Int) < (n : Int) := by omega
            have hk0 : (0 : Int) ≤ (k : Int) := by omega
            have HO2 : Aside (Ods wr A n L) := HOd.out.below HB.out
            obtain ⟨b, off, rfl, hb, hc⟩ : ∃ b off, A = some ⟨b, off, none⟩ ∧ b < wr.heap.size ∧ ∀ i, i < n → (L[i]!).at wr b (off + i * 6) := by
              rcases HO2.out.2.2.2 with h | h
              · omega
              · exact h
            have kq := (hc k hlt).2.2.2.2.1
            have hqi : InR L[k]!.qty := by
              have := HO2.out.2.2.1 L[k]! (by rw [getElem!_pos L k (by rw [HO2.out.1]; exact hlt)]; exact List.getElem_mem _)
              exact this.2.2.2.2.1
            have hqq := qs_get L k (by rw [HO2.out.1]; exact hlt)
            have hg := getD_ok HOK.out.q k
            have htr := trim_rng (lot := lot) HOK.out.l1 hg.1
            have haT : all ≤ sumT lot (qs L) := by rw [← HQ.out.1]; exact hab.2
            have h0T : 0 < sumT lot (qs L) := by rw [← HQ.out.1]; exact hT2.1
            have hp := p1_rng (mode := 2) (all := all) HOK.out.l1 HOK.out.q hab.1 haT h0T k (by rw [HQ.out.2.2]; exact hlt)
            have hf := lef2_rng (mode := 2) (all := all) HOK.out.l1 HOK.out.q hab.1 haT h0T k (by rw [HQ.out.2.2]; exact hk)
            rw [← HQ.out.1] at hp hf
            have HST := Lib.hid (show lef2 2 all T lot (qs L) (k + 1) = lef2 2 all T lot (qs L) k - min (lef2 2 all T lot (qs L) k) (trimN lot ((qs L).getD k 0) - p1 2 all T lot ((qs L).getD k 0)) from rfl)
            have HOU := Lib.hid (show outN 2 all T lot (qs L) k = p1 2 all T lot ((qs L).getD k 0) + min (lef2 2 all T lot (qs L) k) (trimN lot ((qs L).getD k 0) - p1 2 all T lot ((qs L).getD k 0)) from rfl)
            have c1 : wr.cell? ⟨w.heap.size, k, none⟩ = some (.int .i64 (p1 2 all T lot ((qs L).getD k 0))) := (HR.out.cell hlt).trans (by rw [if_neg (by omega)])
            have f5 := HR.out.frozen k
            have HTr : Hid (∀ w, Calls Try.prog 16 #[.int .i64 lot, .int .i64 L[k]!.qty] w fun e w' => e = .returned (.int .i64 (trimN lot L[k]!.qty)) ∧ w' = w) := Lib.hid (fun w => (rTrim_c lot _ hqi hlot w).mono fun _ _ h => ⟨h.1, h.2.symm⟩)
            rw [hqq] at hg htr hp HST HOU c1
            have hsz := hb
            clear hqi hqq hc HO2 haT h0T
            have HE1 : Hid (∀ j, j < n → (if j = k then Value.int .i64 (outN 2 all T lot (qs L) k) else .int .i64 (if j < k then outN 2 all T lot (qs L) j else p1 2 all T lot ((qs L).getD j 0))) = .int .i64 (if j < k + 1 then outN 2 all T lot (qs L) j else p1 2 all T lot ((qs L).getD j 0))) := Lib.hid (fun j hj => by
              by_cases e1 : j = k
              · subst e1; rw [if_pos rfl, if_pos (by omega)]
              · rw [if_neg e1]
                by_cases e2 : j < k
                · rw [if_pos e2, if_pos (by omega)]
                · rw [if_neg e2, if_neg (by omega)])
            obtain ⟨lf, hlf⟩ : ∃ x, x = lef2 2 all T lot (qs L) k := ⟨_, rfl⟩
            obtain ⟨o, ho⟩ : ∃ x, x = outN 2 all T lot (qs L) k := ⟨_, rfl⟩
            obtain ⟨p, hpp⟩ : ∃ x, x = p1 2 all T lot L[k]!.qty := ⟨_, rfl⟩
            rw [← hlf, ← hpp] at HST HOU
            rw [← ho] at HOU HE1
            rw [← hlf] at hf ⊢
            rw [← hpp] at hp c1
            have HLF := Lib.hid hlf
            clear hlf ho hpp
            generalize L[k]!.qty = q at *
            generalize trimN lot q = t at *
            obtain ⟨d, hd⟩ : ∃ d, min lf (t - p) = d := ⟨_, rfl⟩
            have hd2 : 0 ≤ d ∧ d ≤ lf ∧ d ≤ t - p := by omega
            rw [hd] at HST HOU
            have HNW : Hid (∀ nq, ((wr.drewN nq).setCell ⟨w.heap.size, k, none⟩ (.int .i64 (p + d))).rowIs w.heap.size 2 n (fun j => .int .i64 (if j < k + 1 then outN 2 all T lot (qs L) j else p1 2 all T lot ((qs L).getD j 0)))) := Lib.hid (fun nq => by
              have h : (wr.drewN nq).rowIs w.heap.size 2 n (fun j => .int .i64 (if j < k then outN 2 all T lot (qs L) j else p1 2 all T lot ((qs L).getD j 0))) := HR.out
              rw [← HOU.out]
              exact (h.set k _).congr HE1.out)
            have HBN : Hid (∀ nq, Below w.heap.size w ((wr.drewN nq).setCell ⟨w.heap.size, k, none⟩ (.int .i64 (p + d)))) := Lib.hid (fun nq => (below_drewN HB.out nq).setCell (Nat.le_refl _) _)
            clear HE1 HR HB
            go_wp2_with fail
            go_quiet (((with_reducible exact Calls.quiet_of_same (HTr.out _))))
            have HN1 := Lib.hid (HNW.out nq)
            have HN2 := Lib.hid (HBN.out nq)
            clear HNW HBN HTr
            clear hd
            go_wp2_with fail
            generalize (wr.drewN nq).setCell ⟨w.heap.size, k, none⟩ (.int .i64 (p + d)) = w5 at HN1 HN2 ⊢
            go_wp2_with fail
            go_roundg (n - (k + 1))
            case measure => omega
            case rel => exact ⟨k + 1, by go_num, by omega, by omega, by rw [HST.out], HN1, HN2⟩
          · have hltI : ¬ (k : Int) < (n : Int) := by omega
            have HE : Hid (Shd w n (outN 2 all T lot (qs L)) (.returned (.slice (some ⟨w.heap.size, 0, none⟩) n n)) wr) := Lib.hid ⟨_, rfl, Nat.le_refl _, HB.out, HR.out.congr (fun j hj => by
              show Value.int .i64 (if j < k then _ else _) = _
              rw [if_pos (by omega)])⟩
            clear HR HB
            go_wp2_with fail
            go_ret
            exact HE.out
end Go.Proofs.Ythpgbghcmfjjoaa
