/- What the laws lean on, in a few texts (by shake.py): number 13 of 13. -/
import Derived.Test.YtpigkmfegmfelaaGreatZp1
import Derived.Test.YtpigkmfegmfelaaGreatZp3
import Derived.Test.YtpigkmfegmfelaaGreatZp5
import Derived.Test.YtpigkmfegmfelaaGreatZp4
import Derived.Test.YtpigkmfegmfelaaGreatZp6
import Derived.Test.YtpigkmfegmfelaaGreatZp10
import Derived.Test.YtpigkmfegmfelaaGreatZp8
import Derived.Test.YtpigkmfegmfelaaGreatZp7
import Derived.Test.YtpigkmfegmfelaaGreatZp9
import Derived.Test.YtpigkmfegmfelaaGreatZp11
import Derived.Test.YtpigkmfegmfelaaGreatZp12
import Derived.Test.YtpigkmfegmfelaaGreatZp2

set_option maxHeartbeats 16000000
set_option maxRecDepth 1000000
set_option linter.unusedVariables false
namespace Go.Proofs.YtpigkmfegmfelaaGreat
open Go.RowKit Go.Shelf Go.Sort Go.Maps Go.Lib

abbrev NL (y : Opl) : Array Value := #[.int .i64 y.kind, .int .i64 y.kind2, .int .u64 y.id, .int .i64 y.acc, .int .i64 y.side, .int .i64 y.price, .int .i64 y.qt, .int .u64 y.seq, .int .u64 y.n, .int .i64 y.qty]
theorem ten_of {T : TypeId} {W : World} {c : Nat} {y : Opl} (h : Cl T W c (NL y)) :
    W.cell? ⟨c, 0, none⟩ = some (.int .i64 y.kind) ∧ W.cell? ⟨c, 1, none⟩ = some (.int .i64 y.kind2) ∧ W.cell? ⟨c, 2, none⟩ = some (.int .u64 y.id) ∧ W.cell? ⟨c, 3, none⟩ = some (.int .i64 y.acc) ∧ W.cell? ⟨c, 4, none⟩ = some (.int .i64 y.side) ∧ W.cell? ⟨c, 5, none⟩ = some (.int .i64 y.price) ∧ W.cell? ⟨c, 6, none⟩ = some (.int .i64 y.qt) ∧ W.cell? ⟨c, 7, none⟩ = some (.int .u64 y.seq) ∧ W.cell? ⟨c, 8, none⟩ = some (.int .u64 y.n) ∧ W.cell? ⟨c, 9, none⟩ = some (.int .i64 y.qty) :=
  ⟨(h.c 0).trans rfl, (h.c 1).trans rfl, (h.c 2).trans rfl, (h.c 3).trans rfl, (h.c 4).trans rfl, (h.c 5).trans rfl, (h.c 6).trans rfl, (h.c 7).trans rfl, (h.c 8).trans rfl, (h.c 9).trans rfl⟩
theorem lb_on {W X Y : World} {o : Obj} (h : Below W.heap.size W X) (hb : Below X.heap.size X Y) : Below W.heap.size W (Y.alloc o) := (h.trans (hb.mono h.size)).alloc (Nat.le_trans h.size hb.size) _
theorem lcl_on {T : TypeId} {X Y : World} {c : Nat} {cs : Array Value} {o : Obj} (h : Cl T X c cs) (hb : Below X.heap.size X Y) : Cl T (Y.alloc o) c cs := hd_prev (Nat.lt_of_lt_of_le (blk_lt h) hb.size) ((hb.block _ (blk_lt h)).trans h)
theorem lcl_all {T : TypeId} {X : World} {c : Nat} {cs : Array Value} (h : Cl T X c cs) : Hid (∀ Y, Below X.heap.size X Y → Cl T Y c cs) := Lib.hid (fun Y hY => (hY.block _ (blk_lt h)).trans h)
theorem neqOl (x : Od) (w : World) : (binOp .neq 38 (.agg (OC x)) (.agg (OC x))).run Tryz.prog w = .ok (.bool false) w := by
  rw [run_neq_struct, eq_ordP]
  have : eqO x x = true := (eqO_iff x x).2 rfl
  rw [this]; rfl
theorem neqRl (x : Od) (w : World) : (binOp .neq 49 (.agg (OC x)) (.agg (OC x))).run Tryz.prog w = .ok (.bool false) w := by
  rw [run_neq_struct, eq_ordR]
  have : eqO x x = true := (eqO_iff x x).2 rfl
  rw [this]; rfl
theorem opl_od {w : World} {y : Opl} (h : Opl.ok w y) : Od.ok w ⟨y.id, y.acc, y.side, y.price, y.qt, y.seq⟩ := by
  unfold Opl.ok at h
  unfold Od.ok
  exact ⟨h.2.2.1, h.2.2.2.1, h.2.2.2.2.1, h.2.2.2.2.2.1, h.2.2.2.2.2.2.1, h.2.2.2.2.2.2.2.1⟩
theorem lbx {T : TypeId} {W W' : World} {v : Value} {k : Int} {L' : List Od} {S S' : Nat → Prop} {c : Nat} {cs : Array Value} (h : Cl T W c cs) (hn : ¬ S c) (t : HTurn W W' v k S L' S') (o : Obj) : Cl T (W'.alloc o) c cs := hd_prev (blk_lt (bx_turn h hn t)) (bx_turn h hn t)
theorem rbx {T : TypeId} {W W' : World} {wb c : Nat} {cs : Array Value} (h : Cl T W c cs) (hn : ¬ c = wb) (f : Fr (fun j => j = wb) W W') (o : Obj) : Cl T (W'.alloc o) c cs := hd_prev (blk_lt (f.blk h hn)) (f.blk h hn)
theorem rb_lt {W : World} {wb : Nat} {M : List Od} (h : RB W wb M) : wb < W.heap.size := by
  obtain ⟨_, _, h, _⟩ := h
  exact blk_lt h
theorem good_qtl {x : Od} (h : goodO x = true) : x.qty ≤ 1099511627776 := by
  unfold goodO at h
  simp only [Bool.and_eq_true, decide_eq_true_eq] at h
  omega
theorem radd_p {v v' : World} {wb : Nat} {M M' : List Od} {o : Od} {c' : Int} (k : RAdd v v' wb M M' o c') (hl : M.length ≤ 64) : c' = (addP M o).1 ∧ M' = (addP M o).2 := by
  obtain ⟨_, _, k⟩ := k
  rcases k with ⟨hg, rfl, rfl⟩ | ⟨hg, rfl, hx, rfl⟩ | ⟨hg, hid, ⟨hl', rfl, rfl⟩ | ⟨hl', rfl, rfl⟩⟩
  · rw [addP_bad hg]; exact ⟨rfl, rfl⟩
  · rw [addP_there hg hx]; exact ⟨rfl, rfl⟩
  · rw [addP_full hg hid (by omega)]; exact ⟨rfl, rfl⟩
  · rw [addP_put hg hid hl']; exact ⟨rfl, rfl⟩
theorem lplays_w (a0 : Option Addr) (len0 cap0 : Nat) (ops : List Opl) (sd pr : Int) (hsd : (Lit.int .i64 sd).wf = true) (w : World) (hO : Opls w a0 len0 ops) :
    Calls Tryz.prog 5 #[.slice a0 len0 cap0, .int .i64 sd, .int .i64 pr] w fun e w' => e = .returned (.bool true) ∧ Below w.heap.size w w' := by
  have mixed : Tryz.prog.follows .mixedOrders = true := by kernel_rfl
  have HL := Lib.hid lives15_c
  by_cases h64 : len0 ≤ 120
  case neg =>
    have hz : (120 : Int) < (len0 : Int) := by omega
    clear hO h64
    go_enter Tryz.func5, Tryz.ntmps5
    go_wp2_with ((with_reducible refine (HL.out _).mono ?_); rintro e w2 ⟨rfl, k2⟩; have G2 : Hid (Below w.heap.size w w2) := Lib.hid k2; clear k2)
    go_ret
    exact ⟨rfl, G2.out⟩
  have hz : ¬ (120 : Int) < (len0 : Int) := by omega
  have HN0 : Hid (ops.length = len0) := hO.1
  have HO := Lib.hid hO
  have HM1 := Lib.hid (make1_c w)
  clear hO h64
  go_enter Tryz.func5, Tryz.ntmps5
  go_wp2_with (first | ((with_reducible refine HM1.out.mono ?_); rintro e w1 ⟨a, pa, Sa, rfl, h1⟩; have HM2 := Lib.hid (make2_c w1); clear HM1) | ((with_reducible refine HM2.out.mono ?_); rintro e w2 ⟨b, pb, Sb, rfl, h2⟩; clear HM2))
  obtain ⟨W0, eW0⟩ : ∃ W0, w2.alloc (.cells #[.slice none 0 0] 46) = W0 := ⟨_, rfl⟩
  obtain ⟨wb, ewb⟩ : ∃ x, w2.heap.size = x := ⟨_, rfl⟩
  have I0 : Hid (LPl w W0 a b (lvl pa) (gvl pb) 1 2 [] [] [] Sa Sb wb) := by
    have h := lpl_new h1.out h2.out
    rw [eW0, ewb] at h
    exact Lib.hid h
  rw [eW0, ewb]
  clear eW0 ewb h1 h2
  clear w1 w2
  go_loopw [7, 8, 49] (fun s7 s8 s49 wr => ∃ (k a b : Nat) (va vb : Value) (ka kb : Int) (L : List Od) (Sa Sb : Nat → Prop), s7 = .pointer (some ⟨a, 0, none⟩) ∧ s8 = .pointer (some ⟨b, 0, none⟩) ∧ s49 = .int .i64 (k : Int) ∧ Hid (k ≤ len0 ∧ LPl w wr a b va vb ka kb L L L Sa Sb wb)) (fun _ _ s49 _ => match s49 with | .int _ z => len0 - z.toNat | _ => 0)
  case atStart => exact ⟨0, a, b, _, _, _, _, [], Sa, Sb, rfl, rfl, rfl, Nat.zero_le _, I0.out⟩
  case round =>
    clear I0
    obtain ⟨k, a, b, va, vb, ka, kb, L, Sa, Sb, rfl, rfl, rfl, hd⟩ := hrel
    by_cases hk : k < len0
    · have hkI : (k : Int) < (len0 : Int) := by omega
      have h1 := (HO.out.below hd.out.2.be).2.2.2
      rcases h1 with h1 | ⟨bb, off, rfl, _, hc⟩
      · omega
      have hx := hc k hk
      have hyok := HO.out.2.2.1 (ops[k]!) (by rw [getElem!_pos ops k (by rw [HN0.out]; exact hk)]; exact List.getElem_mem (by rw [HN0.out]; exact hk))
      clear hc
      obtain ⟨y, ey⟩ : ∃ y, ops[k]! = y := ⟨_, rfl⟩
      rw [ey] at hx hyok
      obtain ⟨x0, x1, x2, x3, x4, x5, x6, x7, x8, x9⟩ := hx
      have Hk := Lib.hid hk
      have HY := Lib.hid hyok
      have HYn := Lib.hid (WalkArith.wf_u64 hyok.2.2.2.2.2.2.2.2.1)
      obtain ⟨c, hc⟩ : ∃ c, wr.heap.size = c := ⟨_, rfl⟩
      have P0 : Hid (LPl w (wr.alloc (.cells (NL y) 48)) a b va vb ka kb L L L Sa Sb wb) := Lib.hid (hd.out.2.below (b1_of _ _))
      have X0 : Hid (Cl 48 (wr.alloc (.cells (NL y) 48)) c (NL y)) := Lib.hid (by rw [← hc]; exact hd_last rfl)
      clear hk ey hyok
      go_upto_block 2 with fail
      have NFa : Hid (¬ Sa c) := Lib.hid (fun h => by have := hd.out.2.la.hd.lt _ h; omega)
      have NFb : Hid (¬ Sb c) := Lib.hid (fun h => by have := hd.out.2.lb.hd.lt _ h; omega)
      have NW : Hid (¬ c = wb) := Lib.hid (fun e => by have := rb_lt hd.out.2.rb; omega)
      go_cut [7, 8, 11, 12, 13, 14, 15, 16, 17, 18, 19, 20, 21, 22, 23, 24, 49] from 50 to 328 (fun s7 s8 s11 _ _ _ _ _ _ _ _ _ _ _ _ _ s49 wx => ∃ (a' b' : Nat) (va' vb' : Value) (ka' kb' : Int) (L' : List Od) (Sa' Sb' : Nat → Prop), s7 = .pointer (some ⟨a', 0, none⟩) ∧ s8 = .pointer (some ⟨b', 0, none⟩) ∧ s11 = .pointer (some ⟨c, 0, none⟩) ∧ s49 = .int .i64 (k : Int) ∧ Hid (LPl w wx a' b' va' vb' ka' kb' L' L' L' Sa' Sb' wb ∧ Cl 48 wx c (NL y)))
      case first =>
        clear hd x0 x1 x2 x3 x4 x5 x6 x7 x8 x9
        obtain ⟨x0, x1, x2, x3, x4, x5, x6, x7, x8, x9⟩ := ten_of X0.out
        obtain ⟨W1, hW1⟩ : ∃ W1, wr.alloc (.cells (NL y) 48) = W1 := ⟨_, rfl⟩
        have hW1' : wr.alloc (.cells #[.int .i64 y.kind, .int .i64 y.kind2, .int .u64 y.id, .int .i64 y.acc, .int .i64 y.side, .int .i64 y.price, .int .i64 y.qt, .int .u64 y.seq, .int .u64 y.n, .int .i64 y.qty] 48) = W1 := hW1
        rw [hW1] at P0 X0 x0 x1 x2 x3 x4 x5 x6 x7 x8 x9
        rw [hW1']
        clear hW1 hW1'
        obtain ⟨g, hg⟩ : ∃ g, oZ (getO y.n L) = g := ⟨_, rfl⟩
        obtain ⟨gb, hgb⟩ : ∃ g, (getO y.n L).isSome = g := ⟨_, rfl⟩
        have hqo := neqOl g
        have hqr := neqRl g
        have hqb : (gb != gb) = false := by simp
        by_cases e1 : y.kind = 1
        · as_aux_lemma =>
            have f1 : (y.kind == 1) = true := by simp [e1]
            have f2 : (y.kind == 2) = false := by simp [e1]
            have f3 : (y.kind == 3) = false := by simp [e1]
            have f4 : (y.kind == 4) = false := by simp [e1]
            have HTa := Lib.hid (yTake_c a va ka L Sa y.n HYn.out W1 P0.out.la)
            have HTb : Hid (∀ X v k S, LyB X b v k L S → Calls Tryz.prog 17 #[.pointer (some ⟨b, 0, none⟩), .int .u64 y.n] X (TakEnd X v k S L y.n)) := Lib.hid fun X v k S h => yTake_c b v k L S y.n HYn.out X h
            unfold TakEnd at HTa HTb
            rw [hg, hgb] at HTa HTb
            have HRT : Hid (∀ X, RB X wb L → Calls Tryz.prog 19 #[.pointer (some ⟨wb, 0, none⟩), .int .u64 y.n] X fun e w' => e = .returned (.tuple #[.agg (OC g), .bool gb]) ∧ Hid (RTk X w' wb L y.n)) := Lib.hid (fun X h => by
              have k := rTake_c wb y.n L X h (by have := P0.out.la.hd.len; omega)
              rw [opt_oZ, hg, hgb] at k
              exact k)
            clear e1 hg hgb
            go_wp2_with (first | ((with_reducible refine HTa.out.mono ?_); rintro e w3 ⟨Sa', rfl, t3⟩; have Q3 := Lib.hid (P0.out.turnA t3.out); have P3 := Lib.hid (Q3.out.below (b1_of w3 (.cells (OC g) 38))); have X3 := Lib.hid (lbx X0.out NFa.out t3.out (.cells (OC g) 38)); have G3 : Hid (Cl 38 (w3.alloc (.cells (OC g) 38)) w3.heap.size (OC g)) := Lib.hid (hd_last rfl); have n3 := Lib.hid (fun h => Nat.lt_irrefl _ (Q3.out.lb.hd.lt w3.heap.size h)); have m3 := Lib.hid (fun (h : w3.heap.size = wb) => Nat.lt_irrefl _ (h ▸ rb_lt Q3.out.rb)); have HTb3 := Lib.hid (HTb.out _ _ _ _ P3.out.lb); clear HTa HTb; clear x0 x1 x2 x3 x4 x5 x6 x7 x8 x9; obtain ⟨y0, y1, y2, y3, y4, y5, y6, y7, y8, y9⟩ := ten_of X3.out) | ((with_reducible refine HTb3.out.mono ?_); rintro e w4 ⟨Sb', rfl, t4⟩; have Q4 := Lib.hid (P3.out.turnB t4.out); have P4 := Lib.hid (Q4.out.below (b1_of w4 (.cells (OC g) 38))); have X4 := Lib.hid (lbx X3.out NFb.out t4.out (.cells (OC g) 38)); have G34 := Lib.hid (lbx G3.out n3.out t4.out (.cells (OC g) 38)); have G4 : Hid (Cl 38 (w4.alloc (.cells (OC g) 38)) w4.heap.size (OC g)) := Lib.hid (hd_last rfl); have m4 := Lib.hid (fun (h : w4.heap.size = wb) => Nat.lt_irrefl _ (h ▸ rb_lt Q4.out.rb)); clear HTb3 G3 X3; clear y0 y1 y2 y3 y4 y5 y6 y7 y8 y9; obtain ⟨z0, z1, z2, z3, z4, z5, z6, z7, z8, z9⟩ := ten_of X4.out) | ((with_reducible refine (HRT.out _ P4.out.rb).mono ?_); rintro e w5 ⟨rfl, t5⟩; have P5 := Lib.hid ((P4.out.ref t5.out.1 t5.out.2).below (b1_of w5 (.cells (OC g) 49))); have X5 := Lib.hid (rbx X4.out NW.out t5.out.2 (.cells (OC g) 49)); have G35 := rbx G34.out m3.out t5.out.2 (.cells (OC g) 49); have G45 := rbx G4.out m4.out t5.out.2 (.cells (OC g) 49); have G5 : Cl 49 (w5.alloc (.cells (OC g) 49)) w5.heap.size (OC g) := hd_last rfl; clear HRT; clear z0 z1 z2 z3 z4 z5 z6 z7 z8 z9; obtain ⟨g0, g1, g2, g3, g4, g5⟩ := six_of G35; obtain ⟨h0, h1, h2, h3, h4, h5⟩ := six_of G45; obtain ⟨i0, i1, i2, i3, i4, i5⟩ := six_of G5; clear G35 G45 G5 G34 G4))
            go_meet
            case rel => exact ⟨a, b, va, vb, ka, kb, _, Sa', Sb', rfl, rfl, rfl, rfl, P5.out, X5.out⟩
        by_cases e2 : y.kind = 2
        · as_aux_lemma =>
            have f1 : (y.kind == 1) = false := by simp [e2]
            have f2 : (y.kind == 2) = true := by simp [e2]
            have f3 : (y.kind == 3) = false := by simp [e2]
            have f4 : (y.kind == 4) = false := by simp [e2]
            obtain ⟨cc, hcc⟩ : ∃ cc, (cutR y.n y.qty L).1 = cc := ⟨_, rfl⟩
            have HCa := Lib.hid (yCut_c a va ka L Sa y.n y.qty HYn.out W1 P0.out.la)
            have HCb : Hid (∀ X v k S, LyB X b v k L S → Calls Tryz.prog 20 #[.pointer (some ⟨b, 0, none⟩), .int .u64 y.n, .int .i64 y.qty] X (CutEnd X v k S L y.n y.qty)) := Lib.hid fun X v k S h => yCut_c b v k L S y.n y.qty HYn.out X h
            unfold CutEnd at HCa HCb
            rw [hcc] at HCa HCb
            have HRC : Hid (∀ X, RB X wb L → Calls Tryz.prog 21 #[.pointer (some ⟨wb, 0, none⟩), .int .u64 y.n, .int .i64 y.qty] X fun e w' => e = .returned (.int .i64 cc) ∧ Hid (RB w' wb (cutR y.n y.qty L).2 ∧ Fr (fun k => k = wb) X w')) := Lib.hid (fun X h => by
              have k := rCut_c wb y.n y.qty L X h (by have := P0.out.la.hd.len; omega) (fun x hx => good_qtl (P0.out.la.hd.ok x hx).2)
              rw [hcc] at k
              exact k)
            have hqc : (cc != cc) = false := by simp
            clear e1 e2 hg hgb hcc
            go_wp2_with (first | ((with_reducible refine HCa.out.mono ?_); rintro e w3 ⟨Sa', rfl, t3⟩; have P3 := Lib.hid (P0.out.turnA t3.out); have X3 := Lib.hid (bx_turn X0.out NFa.out t3.out); have HCb3 := Lib.hid (HCb.out _ _ _ _ P3.out.lb); clear HCa HCb; clear x0 x1 x2 x3 x4 x5 x6 x7 x8 x9; obtain ⟨y0, y1, y2, y3, y4, y5, y6, y7, y8, y9⟩ := ten_of X3.out) | ((with_reducible refine HCb3.out.mono ?_); rintro e w4 ⟨Sb', rfl, t4⟩; have P4 := Lib.hid (P3.out.turnB t4.out); have X4 := Lib.hid (bx_turn X3.out NFb.out t4.out); clear HCb3; clear y0 y1 y2 y3 y4 y5 y6 y7 y8 y9; obtain ⟨z0, z1, z2, z3, z4, z5, z6, z7, z8, z9⟩ := ten_of X4.out) | ((with_reducible refine (HRC.out _ P4.out.rb).mono ?_); rintro e w5 ⟨rfl, t5⟩; have P5 := Lib.hid (P4.out.ref t5.out.1 t5.out.2); have X5 := Lib.hid (t5.out.2.blk X4.out NW.out); clear HRC; clear z0 z1 z2 z3 z4 z5 z6 z7 z8 z9))
            go_meet
            case rel => exact ⟨a, b, va, vb, ka, kb, _, Sa', Sb', rfl, rfl, rfl, rfl, P5.out, X5.out⟩
        by_cases e3 : y.kind = 3
        · as_aux_lemma =>
            have f1 : (y.kind == 1) = false := by simp [e3]
            have f2 : (y.kind == 2) = false := by simp [e3]
            have f3 : (y.kind == 3) = true := by simp [e3]
            have f4 : (y.kind == 4) = false := by simp [e3]
            by_cases q1 : y.kind2 = 1
            · rw [q1] at x1
              have X0k : Hid (∀ X, Cl 48 X c (NL y) → X.cell? ⟨c, 1, none⟩ = some (.int .i64 1)) := Lib.hid (fun X h => by have := (ten_of h).2.1; rwa [q1] at this)
              have HTa := Lib.hid (turn_c a va ka L Sa 1 (by decide) W1 P0.out.la)
              clear e1 e2 e3 hg hgb hqo hqr hqb
              unfold TurnEnd at HTa
              go_wp2_with (first | ((with_reducible refine HTa.out.mono ?_); rintro e w3 ⟨a', va', Sa', rfl, t3⟩; have X3 : Hid (Cl 48 w3 c (NL y)) := Lib.hid ((t3.out.be.block _ (blk_lt X0.out)).trans X0.out); have HTb := Lib.hid (turn_c b vb kb L Sb 2 (by decide) w3 (P0.out.lb.below t3.out.be)); unfold TurnEnd at HTb; clear HTa; clear x0 x1 x2 x3 x4 x5 x6 x7 x8 x9; obtain ⟨z0, z1, z2, z3, z4, z5, z6, z7, z8, z9⟩ := ten_of X3.out; have xk := X0k.out _ X3.out) | ((with_reducible refine HTb.out.mono ?_); rintro e w4 ⟨b', vb', Sb', rfl, t4⟩; have P4 := Lib.hid (P0.out.anew t3.out t4.out); have X4 : Hid (Cl 48 w4 c (NL y)) := Lib.hid ((t4.out.be.block _ (blk_lt X3.out)).trans X3.out); clear HTb xk; clear z0 z1 z2 z3 z4 z5 z6 z7 z8 z9; obtain ⟨v0, v1, v2, v3, v4, v5, v6, v7, v8, v9⟩ := ten_of X4.out; have xk := X0k.out _ X4.out))
              have HX4 := Lib.hid (And.intro (Below.refl w4.heap.size w4) X4.out)
              refine wp_region_held_drew (S := fun W => Below w4.heap.size w4 W ∧ Cl 48 W c (NL y)) (by kernel_rfl) (by exact ⟨(Below.refl _ _).drew, hd_drew X4.out⟩) (fun hHeld => ?_)
              refine tkH 0 ?_ ?_ (by assumption) ?_
              rotate_left
              · (intro w hSw; (try dsimp only at hSw); go_simp; try with_reducible rfl)
              (try simp only [zz])
              refine tkH 1 ?_ ?_ (by assumption) ?_
              rotate_left
              · (intro w hSw; (try dsimp only at hSw); go_simp; try with_reducible rfl)
              (try simp only [zz])
              refine tkH 2 ?_ ?_ (by assumption) ?_
              rotate_left
              · (intro w hSw; (try dsimp only at hSw); go_simp; try with_reducible rfl)
              (try simp only [zz])
              refine tkH 3 ?_ ?_ (by assumption) ?_
              rotate_left
              · (intro w hSw; (try dsimp only at hSw); go_simp; try with_reducible rfl)
              (try simp only [zz])
              refine tkH 4 ?_ ?_ (by assumption) ?_
              rotate_left
              · (intro w hSw; (try dsimp only at hSw); go_simp; try with_reducible rfl)
              (try simp only [zz])
              refine tkH 5 ?_ ?_ (by assumption) ?_
              rotate_left
              · (intro w hSw; (try dsimp only at hSw); go_simp; try with_reducible rfl)
              (try simp only [zz])
              refine tkH 6 ?_ ?_ (by assumption) ?_
              rotate_left
              · (intro w hSw; (try dsimp only at hSw); go_simp; try with_reducible rfl)
              (try simp only [zz])
              refine tkH 7 ?_ ?_ (by assumption) ?_
              rotate_left
              · (intro w hSw; (try dsimp only at hSw); go_simp; try with_reducible rfl)
              (try simp only [zz])
              refine tkH 9 ?_ ?_ (by assumption) ?_
              rotate_left
              · (intro w hSw; (try dsimp only at hSw); go_simp; try with_reducible rfl)
              (try simp only [zz])
              refine tkH 10 ?_ ?_ (by assumption) ?_
              rotate_left
              · (intro w hSw; have hs := X0k.out _ hSw.2; (try dsimp only at hSw); go_simp; try with_reducible rfl)
              (try simp only [zz])
              refine rdH 8 (fun K hK => ?_)
              go_simp
              ((with_reducible refine (kind_c a' va' 1 L Sa' _ (P4.out.la.below hHeld.1)).mono ?_); rintro e y1 ⟨rfl, rfl⟩)
              refine hK.out _ _ (by exact hHeld) (fun hHeld => ?_)
              clear hK K
              (try simp only [zz])
              refine tkH 11 ?_ ?_ (by assumption) ?_
              rotate_left
              · (intro w hSw; (try dsimp only at hSw); go_simp; try with_reducible rfl)
              (try simp only [zz])
              refine tkH 12 ?_ ?_ (by assumption) ?_
              rotate_left
              · (intro w hSw; (try dsimp only at hSw); go_simp; try with_reducible rfl)
              (try simp only [zz])
              refine wpAnyH_done (by kernel_rfl) ?_ _
              go_wp2_with fail
              go_meet
              case rel => exact ⟨a', b', va', vb', 1, 2, _, Sa', Sb', rfl, rfl, rfl, rfl, P4.out.below hHeld.1, hHeld.2⟩
            by_cases q2 : y.kind2 = 2
            · rw [q2] at x1
              have X0k : Hid (∀ X, Cl 48 X c (NL y) → X.cell? ⟨c, 1, none⟩ = some (.int .i64 2)) := Lib.hid (fun X h => by have := (ten_of h).2.1; rwa [q2] at this)
              have HTa := Lib.hid (turn_c a va ka L Sa 2 (by decide) W1 P0.out.la)
              clear e1 e2 e3 hg hgb hqo hqr hqb
              unfold TurnEnd at HTa
              go_wp2_with (first | ((with_reducible refine HTa.out.mono ?_); rintro e w3 ⟨a', va', Sa', rfl, t3⟩; have X3 : Hid (Cl 48 w3 c (NL y)) := Lib.hid ((t3.out.be.block _ (blk_lt X0.out)).trans X0.out); have HTb := Lib.hid (turn_c b vb kb L Sb 1 (by decide) w3 (P0.out.lb.below t3.out.be)); unfold TurnEnd at HTb; clear HTa; clear x0 x1 x2 x3 x4 x5 x6 x7 x8 x9; obtain ⟨z0, z1, z2, z3, z4, z5, z6, z7, z8, z9⟩ := ten_of X3.out; have xk := X0k.out _ X3.out) | ((with_reducible refine HTb.out.mono ?_); rintro e w4 ⟨b', vb', Sb', rfl, t4⟩; have P4 := Lib.hid (P0.out.anew t3.out t4.out); have X4 : Hid (Cl 48 w4 c (NL y)) := Lib.hid ((t4.out.be.block _ (blk_lt X3.out)).trans X3.out); clear HTb xk; clear z0 z1 z2 z3 z4 z5 z6 z7 z8 z9; obtain ⟨v0, v1, v2, v3, v4, v5, v6, v7, v8, v9⟩ := ten_of X4.out; have xk := X0k.out _ X4.out))
              have HX4 := Lib.hid (And.intro (Below.refl w4.heap.size w4) X4.out)
              refine wp_region_held_drew (S := fun W => Below w4.heap.size w4 W ∧ Cl 48 W c (NL y)) (by kernel_rfl) (by exact ⟨(Below.refl _ _).drew, hd_drew X4.out⟩) (fun hHeld => ?_)
              refine tkH 0 ?_ ?_ (by assumption) ?_
              rotate_left
              · (intro w hSw; (try dsimp only at hSw); go_simp; try with_reducible rfl)
              (try simp only [zz])
              refine tkH 1 ?_ ?_ (by assumption) ?_
              rotate_left
              · (intro w hSw; (try dsimp only at hSw); go_simp; try with_reducible rfl)
              (try simp only [zz])
              refine tkH 2 ?_ ?_ (by assumption) ?_
              rotate_left
              · (intro w hSw; (try dsimp only at hSw); go_simp; try with_reducible rfl)
              (try simp only [zz])
              refine tkH 3 ?_ ?_ (by assumption) ?_
              rotate_left
              · (intro w hSw; (try dsimp only at hSw); go_simp; try with_reducible rfl)
              (try simp only [zz])
              refine tkH 4 ?_ ?_ (by assumption) ?_
              rotate_left
              · (intro w hSw; (try dsimp only at hSw); go_simp; try with_reducible rfl)
              (try simp only [zz])
              refine tkH 5 ?_ ?_ (by assumption) ?_
              rotate_left
              · (intro w hSw; (try dsimp only at hSw); go_simp; try with_reducible rfl)
              (try simp only [zz])
              refine tkH 6 ?_ ?_ (by assumption) ?_
              rotate_left
              · (intro w hSw; (try dsimp only at hSw); go_simp; try with_reducible rfl)
              (try simp only [zz])
              refine tkH 7 ?_ ?_ (by assumption) ?_
              rotate_left
              · (intro w hSw; (try dsimp only at hSw); go_simp; try with_reducible rfl)
              (try simp only [zz])
              refine tkH 9 ?_ ?_ (by assumption) ?_
              rotate_left
              · (intro w hSw; (try dsimp only at hSw); go_simp; try with_reducible rfl)
              (try simp only [zz])
              refine tkH 10 ?_ ?_ (by assumption) ?_
              rotate_left
              · (intro w hSw; have hs := X0k.out _ hSw.2; (try dsimp only at hSw); go_simp; try with_reducible rfl)
              (try simp only [zz])
              refine rdH 8 (fun K hK => ?_)
              go_simp
              ((with_reducible refine (kind_c a' va' 2 L Sa' _ (P4.out.la.below hHeld.1)).mono ?_); rintro e y1 ⟨rfl, rfl⟩)
              refine hK.out _ _ (by exact hHeld) (fun hHeld => ?_)
              clear hK K
              (try simp only [zz])
              refine tkH 11 ?_ ?_ (by assumption) ?_
              rotate_left
              · (intro w hSw; (try dsimp only at hSw); go_simp; try with_reducible rfl)
              (try simp only [zz])
              refine tkH 12 ?_ ?_ (by assumption) ?_
              rotate_left
              · (intro w hSw; (try dsimp only at hSw); go_simp; try with_reducible rfl)
              (try simp only [zz])
              refine wpAnyH_done (by kernel_rfl) ?_ _
              go_wp2_with fail
              go_meet
              case rel => exact ⟨a', b', va', vb', 2, 1, _, Sa', Sb', rfl, rfl, rfl, rfl, P4.out.below hHeld.1, hHeld.2⟩
            have k1 : (y.kind2 != 1) = true := by simp [q1]
            have k2 : (y.kind2 != 2) = true := by simp [q2]
            obtain ⟨u3, hu3⟩ : ∃ u, wrap64 (3 - y.kind2) = u := ⟨_, rfl⟩
            have hu : ¬ u3 = 1 ∧ ¬ u3 = 2 := by
              have := HY.out.2.1
              simp only [wrap64] at hu3
              omega
            have HTa := Lib.hid (turn_no a va ka L Sa y.kind2 q1 q2 W1 P0.out.la)
            unfold NoEnd at HTa
            clear e1 e2 e3 hg hgb hqo hqr hqb q1 q2
            go_wp2_with (first | ((with_reducible refine HTa.out.mono ?_); rintro e w3 ⟨rfl, t3⟩; have P3 := Lib.hid (P0.out.below t3.out); have X3 : Hid (Cl 48 w3 c (NL y)) := Lib.hid ((t3.out.block _ (blk_lt X0.out)).trans X0.out); have HTb := Lib.hid (turn_no b vb kb L Sb u3 hu.1 hu.2 w3 P3.out.lb); unfold NoEnd at HTb; clear HTa; clear x0 x1 x2 x3 x4 x5 x6 x7 x8 x9; obtain ⟨z0, z1, z2, z3, z4, z5, z6, z7, z8, z9⟩ := ten_of X3.out) | ((with_reducible refine HTb.out.mono ?_); rintro e w4 ⟨rfl, t4⟩; have P4 := Lib.hid (P3.out.below t4.out); have X4 : Hid (Cl 48 w4 c (NL y)) := Lib.hid ((t4.out.block _ (blk_lt X3.out)).trans X3.out); clear HTb; clear z0 z1 z2 z3 z4 z5 z6 z7 z8 z9; obtain ⟨v0, v1, v2, v3, v4, v5, v6, v7, v8, v9⟩ := ten_of X4.out))
            exact ⟨⟨k + 1, a, b, va, vb, ka, kb, L, Sa, Sb, rfl, rfl, rfl, Hk.out, P4.out⟩, less_left Hk.out⟩
        by_cases e4 : y.kind = 4
        · as_aux_lemma =>
            have f1 : (y.kind == 1) = false := by simp [e4]
            have f2 : (y.kind == 2) = false := by simp [e4]
            have f3 : (y.kind == 3) = false := by simp [e4]
            have f4 : (y.kind == 4) = true := by simp [e4]
            have HCl := Lib.hid (yClone_c a va ka L Sa W1 P0.out.la)
            clear e1 e2 e3 e4 hg hgb hqo hqr hqb
            go_wp2_with (first | ((with_reducible refine HCl.out.mono ?_); rintro e w3 ⟨a', va', Sa', rfl, t3⟩; have X3 : Hid (Cl 48 w3 c (NL y)) := Lib.hid ((t3.out.be.block _ (blk_lt X0.out)).trans X0.out); have HTa := Lib.hid (yTake_c a va ka L Sa y.n HYn.out w3 (P0.out.la.below t3.out.be)); unfold TakEnd at HTa; clear HCl; clear x0 x1 x2 x3 x4 x5 x6 x7 x8 x9; obtain ⟨z0, z1, z2, z3, z4, z5, z6, z7, z8, z9⟩ := ten_of X3.out) | ((with_reducible refine HTa.out.mono ?_); rintro e w4 ⟨Sa2, rfl, t4⟩; have P4 := Lib.hid (P0.out.cloneA t3.out t4.out); have X4 := Lib.hid (bx_turn X3.out NFa.out t4.out); clear HTa; clear z0 z1 z2 z3 z4 z5 z6 z7 z8 z9))
            go_meet
            case rel => exact ⟨a', b, va', vb, ka, kb, _, Sa', Sb, rfl, rfl, rfl, rfl, P4.out, X4.out⟩
        as_aux_lemma =>
          have f1 : (y.kind == 1) = false := by simp [e1]
          have f2 : (y.kind == 2) = false := by simp [e2]
          have f3 : (y.kind == 3) = false := by simp [e3]
          have f4 : (y.kind == 4) = false := by simp [e4]
          have hoo : Od.ok W1 ⟨y.id, y.acc, y.side, y.price, y.qt, y.seq⟩ := opl_od HY.out
          obtain ⟨cc, hcc⟩ : ∃ cc, (addP L ⟨y.id, y.acc, y.side, y.price, y.qt, y.seq⟩).1 = cc := ⟨_, rfl⟩
          have HAa := Lib.hid (yAdd_c a va ka L Sa ⟨y.id, y.acc, y.side, y.price, y.qt, y.seq⟩ W1 P0.out.la hoo)
          have HAb : Hid (∀ X v k S, LyB X b v k L S → Calls Tryz.prog 23 #[.pointer (some ⟨b, 0, none⟩), .agg #[.int .u64 y.id, .int .i64 y.acc, .int .i64 y.side, .int .i64 y.price, .int .i64 y.qt, .int .u64 y.seq]] X (AddEnd X v k S L ⟨y.id, y.acc, y.side, y.price, y.qt, y.seq⟩)) := Lib.hid fun X v k S h => yAdd_c b v k L S ⟨y.id, y.acc, y.side, y.price, y.qt, y.seq⟩ X h hoo
          unfold AddEnd at HAa HAb
          rw [hcc] at HAa HAb
          have HRA : Hid (∀ X, RB X wb L → Calls Tryz.prog 24 #[.pointer (some ⟨wb, 0, none⟩), .agg #[.int .u64 y.id, .int .i64 y.acc, .int .i64 y.side, .int .i64 y.price, .int .i64 y.qt, .int .u64 y.seq]] X fun e w' => e = .returned (.int .i64 cc) ∧ Hid (RB w' wb (addP L ⟨y.id, y.acc, y.side, y.price, y.qt, y.seq⟩).2 ∧ Fr (fun k => k = wb) X w')) := Lib.hid (fun X h => by
            refine (rAdd_c wb L ⟨y.id, y.acc, y.side, y.price, y.qt, y.seq⟩ X h (by have := P0.out.la.hd.len; omega) (fun x hx => (P0.out.la.hd.ok x hx).1) hoo).mono ?_
            rintro e w' ⟨c', M', rfl, hr⟩
            obtain ⟨h1, h2⟩ := radd_p hr.out P0.out.la.hd.len
            rw [h1, hcc]
            exact ⟨rfl, Lib.hid (by rw [← h2]; exact ⟨hr.out.1, hr.out.2.1⟩)⟩)
          have hqc : (cc != cc) = false := by simp
          clear e1 e2 e3 e4 hg hgb hcc hoo hqo hqr hqb
          go_wp2_with (first | ((with_reducible refine HAa.out.mono ?_); rintro e w3 ⟨Sa', rfl, t3⟩; have P3 := Lib.hid (P0.out.turnA t3.out); have X3 := Lib.hid (bx_turn X0.out NFa.out t3.out); have HAb3 := Lib.hid (HAb.out _ _ _ _ P3.out.lb); clear HAa HAb; clear x0 x1 x2 x3 x4 x5 x6 x7 x8 x9; obtain ⟨z0, z1, z2, z3, z4, z5, z6, z7, z8, z9⟩ := ten_of X3.out) | ((with_reducible refine HAb3.out.mono ?_); rintro e w4 ⟨Sb', rfl, t4⟩; have P4 := Lib.hid (P3.out.turnB t4.out); have X4 := Lib.hid (bx_turn X3.out NFb.out t4.out); clear HAb3; clear z0 z1 z2 z3 z4 z5 z6 z7 z8 z9; obtain ⟨v0, v1, v2, v3, v4, v5, v6, v7, v8, v9⟩ := ten_of X4.out) | ((with_reducible refine (HRA.out _ P4.out.rb).mono ?_); rintro e w5 ⟨rfl, t5⟩; have P5 := Lib.hid (P4.out.ref t5.out.1 t5.out.2); have X5 := Lib.hid (t5.out.2.blk X4.out NW.out); clear HRA; clear v0 v1 v2 v3 v4 v5 v6 v7 v8 v9))
          go_meet
          case rel => exact ⟨a, b, va, vb, ka, kb, _, Sa', Sb', rfl, rfl, rfl, rfl, P5.out, X5.out⟩
      case rest =>
        as_aux_lemma =>
        obtain ⟨a', b', va', vb', ka', kb', L', Sa', Sb', rfl, rfl, rfl, rfl, hcut⟩ := hcut
        have P := Lib.hid hcut.out.1
        have X := Lib.hid hcut.out.2
        clear hcut P0 X0 hd x0 x1 x2 x3 x4 x5 x6 x7 x8 x9 NFa NFb NW hc
        have hl64 := P.out.la.hd.len
        have hokL : ∀ x ∈ L', Od.ok wc x := fun x hx => (P.out.la.hd.ok x hx).1
        obtain ⟨n, hn⟩ : ∃ n, L'.length = n := ⟨_, rfl⟩
        obtain ⟨Lv, hLv⟩ : ∃ l, levL sd pr L' = l := ⟨_, rfl⟩
        have hlv64 : Lv.length ≤ 64 := by have := levL_len sd pr L'; rw [hLv] at this; omega
        have hokV : ∀ x ∈ Lv, Od.ok wc x := fun x hx => hokL x (by rw [← hLv] at hx; exact (List.mem_filter.1 hx).1)
        obtain ⟨nv, hnv⟩ : ∃ n, Lv.length = n := ⟨_, rfl⟩
        obtain ⟨np, hnp⟩ : ∃ n, (prs (sideL sd L')).length = n := ⟨_, rfl⟩
        obtain ⟨g, hg⟩ : ∃ x, oZ (getO y.n L') = x := ⟨_, rfl⟩
        obtain ⟨gb, hgb⟩ : ∃ x, (getO y.n L').isSome = x := ⟨_, rfl⟩
        obtain ⟨t, ht⟩ : ∃ x, oZ (bestL sd L') = x := ⟨_, rfl⟩
        obtain ⟨tb, htb⟩ : ∃ x, (bestL sd L').isSome = x := ⟨_, rfl⟩
        as_aux_lemma =>
        have HBa : Hid (∀ X, Below wc.heap.size wc X → Calls Tryz.prog 25 #[.pointer (some ⟨a', 0, none⟩), .int .i64 sd] X fun e w' => e = .returned (.tuple #[.agg (OC t), .bool tb]) ∧ Hid (Below X.heap.size X w')) := Lib.hid (fun X hX => by
          have k := yBest_c a' va' ka' L' Sa' sd hsd X (P.out.la.below hX)
          unfold YGetEnd at k
          rw [ht, htb] at k
          exact k)
        have HGa : Hid (∀ X, Below wc.heap.size wc X → Calls Tryz.prog 26 #[.pointer (some ⟨a', 0, none⟩), .int .u64 y.n] X fun e w' => e = .returned (.tuple #[.agg (OC g), .bool gb]) ∧ Hid (Below X.heap.size X w')) := Lib.hid (fun X hX => by
          have k := yGet_c a' va' ka' L' Sa' y.n HYn.out X (P.out.la.below hX)
          unfold YGetEnd at k
          rw [hg, hgb] at k
          exact k)
        have HAa : Hid (∀ X, Below wc.heap.size wc X → Calls Tryz.prog 15 #[.pointer (some ⟨a', 0, none⟩)] X fun e w' => ∃ A c, e = .returned (.slice A n c) ∧ Hid (Below X.heap.size X w' ∧ Ods w' A n L')) := Lib.hid (fun X hX => by
          exact ly_all (P.out.la.below hX) hn)
        have HLa : Hid (∀ X, Below wc.heap.size wc X → Calls Tryz.prog 27 #[.pointer (some ⟨a', 0, none⟩)] X fun e w' => e = .returned (.int .i64 n) ∧ Hid (Below X.heap.size X w')) := Lib.hid (fun X hX => by
          have k := yLen_c a' va' ka' L' Sa' X (P.out.la.below hX)
          unfold LenEnd at k
          rw [hn] at k
          exact k)
        have HVa : Hid (∀ X, Below wc.heap.size wc X → Calls Tryz.prog 28 #[.pointer (some ⟨a', 0, none⟩), .int .i64 sd, .int .i64 pr] X fun e w' => ∃ A c, e = .returned (.slice A nv c) ∧ Hid (Below X.heap.size X w' ∧ Ods w' A nv Lv)) := Lib.hid (fun X hX => by
          refine (yLevel_c a' va' ka' L' Sa' sd pr hsd X (P.out.la.below hX)).mono ?_
          rintro e w' ⟨v', rfl, h⟩
          rw [hLv] at h
          obtain ⟨A, c, rfl, ho, _⟩ := row_ods h.out.1 hlv64 hokV
          rw [hnv] at ho ⊢
          exact ⟨A, c, rfl, Lib.hid ⟨h.out.2, ho⟩⟩)
        have HPa : Hid (∀ X, Below wc.heap.size wc X → Calls Tryz.prog 30 #[.pointer (some ⟨a', 0, none⟩), .int .i64 sd] X fun e w' => ∃ A c, e = .returned (.slice A np c) ∧ Hid (Below X.heap.size X w')) := Lib.hid (fun X hX => by
          refine (yPrices_c a' va' ka' L' Sa' sd hsd X (P.out.la.below hX)).mono ?_
          rintro e w' ⟨v', rfl, h⟩
          obtain ⟨A, c, rfl, _⟩ := own_que2 h.out.1
          rw [hnp]
          exact ⟨A, c, rfl, Lib.hid h.out.2⟩)
        have HBb : Hid (∀ X, Below wc.heap.size wc X → Calls Tryz.prog 25 #[.pointer (some ⟨b', 0, none⟩), .int .i64 sd] X fun e w' => e = .returned (.tuple #[.agg (OC t), .bool tb]) ∧ Hid (Below X.heap.size X w')) := Lib.hid (fun X hX => by
          have k := yBest_c b' vb' kb' L' Sb' sd hsd X (P.out.lb.below hX)
          unfold YGetEnd at k
          rw [ht, htb] at k
          exact k)
        have HGb : Hid (∀ X, Below wc.heap.size wc X → Calls Tryz.prog 26 #[.pointer (some ⟨b', 0, none⟩), .int .u64 y.n] X fun e w' => e = .returned (.tuple #[.agg (OC g), .bool gb]) ∧ Hid (Below X.heap.size X w')) := Lib.hid (fun X hX => by
          have k := yGet_c b' vb' kb' L' Sb' y.n HYn.out X (P.out.lb.below hX)
          unfold YGetEnd at k
          rw [hg, hgb] at k
          exact k)
        have HAb : Hid (∀ X, Below wc.heap.size wc X → Calls Tryz.prog 15 #[.pointer (some ⟨b', 0, none⟩)] X fun e w' => ∃ A c, e = .returned (.slice A n c) ∧ Hid (Below X.heap.size X w' ∧ Ods w' A n L')) := Lib.hid (fun X hX => by
          exact ly_all (P.out.lb.below hX) hn)
        have HLb : Hid (∀ X, Below wc.heap.size wc X → Calls Tryz.prog 27 #[.pointer (some ⟨b', 0, none⟩)] X fun e w' => e = .returned (.int .i64 n) ∧ Hid (Below X.heap.size X w')) := Lib.hid (fun X hX => by
          have k := yLen_c b' vb' kb' L' Sb' X (P.out.lb.below hX)
          unfold LenEnd at k
          rw [hn] at k
          exact k)
        have HVb : Hid (∀ X, Below wc.heap.size wc X → Calls Tryz.prog 28 #[.pointer (some ⟨b', 0, none⟩), .int .i64 sd, .int .i64 pr] X fun e w' => ∃ A c, e = .returned (.slice A nv c) ∧ Hid (Below X.heap.size X w' ∧ Ods w' A nv Lv)) := Lib.hid (fun X hX => by
          refine (yLevel_c b' vb' kb' L' Sb' sd pr hsd X (P.out.lb.below hX)).mono ?_
          rintro e w' ⟨v', rfl, h⟩
          rw [hLv] at h
          obtain ⟨A, c, rfl, ho, _⟩ := row_ods h.out.1 hlv64 hokV
          rw [hnv] at ho ⊢
          exact ⟨A, c, rfl, Lib.hid ⟨h.out.2, ho⟩⟩)
        have HPb : Hid (∀ X, Below wc.heap.size wc X → Calls Tryz.prog 30 #[.pointer (some ⟨b', 0, none⟩), .int .i64 sd] X fun e w' => ∃ A c, e = .returned (.slice A np c) ∧ Hid (Below X.heap.size X w')) := Lib.hid (fun X hX => by
          refine (yPrices_c b' vb' kb' L' Sb' sd hsd X (P.out.lb.below hX)).mono ?_
          rintro e w' ⟨v', rfl, h⟩
          obtain ⟨A, c, rfl, _⟩ := own_que2 h.out.1
          rw [hnp]
          exact ⟨A, c, rfl, Lib.hid h.out.2⟩)
        have HRv1 : Hid (∀ X, Below wc.heap.size wc X → Calls Tryz.prog 29 #[.pointer (some ⟨wb, 0, none⟩), .int .i64 sd, .int .i64 pr] X fun e w' => ∃ A c, e = .returned (.slice A nv c) ∧ Hid (Below X.heap.size X w' ∧ Ods w' A nv Lv)) := Lib.hid (fun X hX => by
          refine (rLevel_c wb sd pr L' X (rb_low P.out.rb hX) (by omega)).mono ?_
          rintro e w' ⟨v', rfl, h⟩
          rw [hLv] at h
          obtain ⟨A, c, rfl, _, ho⟩ := own_ods h.out.1 (by omega) hokV
          rw [hnv] at ho ⊢
          exact ⟨A, c, rfl, Lib.hid ⟨h.out.2, ho⟩⟩)
        have HRp1 : Hid (∀ X, Below wc.heap.size wc X → Calls Tryz.prog 31 #[.pointer (some ⟨wb, 0, none⟩), .int .i64 sd] X fun e w' => ∃ A c, e = .returned (.slice A np c) ∧ Hid (Below X.heap.size X w')) := Lib.hid (fun X hX => by
          refine (rPrices_c wb sd L' X (rb_low P.out.rb hX) (by omega)).mono ?_
          rintro e w' ⟨v', rfl, h⟩
          obtain ⟨A, c, rfl, _⟩ := own_que2 h.out.1
          rw [hnp]
          exact ⟨A, c, rfl, Lib.hid h.out.2⟩)
        have HRv2 : Hid (∀ X, Below wc.heap.size wc X → Calls Tryz.prog 29 #[.pointer (some ⟨wb, 0, none⟩), .int .i64 sd, .int .i64 pr] X fun e w' => ∃ A c, e = .returned (.slice A nv c) ∧ Hid (Below X.heap.size X w' ∧ Ods w' A nv Lv)) := Lib.hid (fun X hX => by
          refine (rLevel_c wb sd pr L' X (rb_low P.out.rb hX) (by omega)).mono ?_
          rintro e w' ⟨v', rfl, h⟩
          rw [hLv] at h
          obtain ⟨A, c, rfl, _, ho⟩ := own_ods h.out.1 (by omega) hokV
          rw [hnv] at ho ⊢
          exact ⟨A, c, rfl, Lib.hid ⟨h.out.2, ho⟩⟩)
        have HRp2 : Hid (∀ X, Below wc.heap.size wc X → Calls Tryz.prog 31 #[.pointer (some ⟨wb, 0, none⟩), .int .i64 sd] X fun e w' => ∃ A c, e = .returned (.slice A np c) ∧ Hid (Below X.heap.size X w')) := Lib.hid (fun X hX => by
          refine (rPrices_c wb sd L' X (rb_low P.out.rb hX) (by omega)).mono ?_
          rintro e w' ⟨v', rfl, h⟩
          obtain ⟨A, c, rfl, _⟩ := own_que2 h.out.1
          rw [hnp]
          exact ⟨A, c, rfl, Lib.hid h.out.2⟩)
        obtain ⟨A0, c0, hcl, how⟩ := P.out.rb
        rw [hn] at hcl how
        have hwbl := blk_lt hcl
        obtain ⟨A0', c0', e0, _, hod⟩ := own_ods how (by omega) hokL
        injection e0 with e0 _ e0'
        subst e0 e0'
        have HCell : Hid (∀ X, Below wc.heap.size wc X → X.cell? ⟨wb, 0, none⟩ = some (.slice A0 n c0)) := Lib.hid (fun X hX => (Cl.c (T := 46) ((hX.block _ hwbl).trans hcl) 0).trans rfl)
        have HRow : Hid (∀ X, Below wc.heap.size wc X → Ods X A0 n L') := Lib.hid (fun X hX => hod.below hX)
        have hn64 : n ≤ 1000 := by omega
        have hnv64 : nv ≤ 1000 := by omega
        have HSm : Hid (∀ X A B c c', Ods X A n L' → Ods X B n L' → Calls Tryz.prog 14 #[.slice A n c, .slice B n c'] X fun e w' => e = .returned (.bool true) ∧ Hid (Below X.heap.size X w')) := Lib.hid (fun X A B c c' h k => same_yes h k hn64)
        have HSv : Hid (∀ X A B c c', Ods X A nv Lv → Ods X B nv Lv → Calls Tryz.prog 14 #[.slice A nv c, .slice B nv c'] X fun e w' => e = .returned (.bool true) ∧ Hid (Below X.heap.size X w')) := Lib.hid (fun X A B c c' h k => same_yes h k hnv64)
        have HX : Hid (∀ Y, Below wc.heap.size wc Y → Cl 48 Y c (NL y)) := lcl_all X.out
        have hqg := neqOl g
        have hqt := neqOl t
        have hqb : (gb != gb) = false := by simp
        have hqt2 : (tb != tb) = false := by simp
        have hqn : ((n : Int) != (n : Int)) = false := by simp
        have hqp : ((np : Int) != (np : Int)) = false := by simp
        have B0 : Hid (Below wc.heap.size wc wc) := Lib.hid (Below.refl _ _)
        have hbe := P.out.be
        have HP := P
        clear hl64 hokL hlv64 hokV hn hLv hnv hnp hg hgb ht htb hcl how hwbl hod hbe P hn64 hnv64 hsd
        as_aux_lemma =>
        go_upto_region 41 with (first | ((with_reducible refine (HBa.out _ B0.out).mono ?_); rintro e w1 ⟨rfl, k1⟩; have B1 : Hid (Below wc.heap.size wc (w1.alloc (.cells (OC t) 38))) := Lib.hid (lb_on B0.out k1.out); have C1 : Hid (Cl 38 (w1.alloc (.cells (OC t) 38)) w1.heap.size (OC t)) := Lib.hid (hd_last rfl); clear HBa k1 B0) | ((with_reducible refine (HBb.out _ B1.out).mono ?_); rintro e w2 ⟨rfl, k2⟩; have B2 : Hid (Below wc.heap.size wc (w2.alloc (.cells (OC t) 38))) := Lib.hid (lb_on B1.out k2.out); have D1 : Hid (Cl 38 (w2.alloc (.cells (OC t) 38)) w1.heap.size (OC t)) := Lib.hid (lcl_on C1.out k2.out); clear C1; have C1 := D1; clear D1; have C2 : Hid (Cl 38 (w2.alloc (.cells (OC t) 38)) w2.heap.size (OC t)) := Lib.hid (hd_last rfl); clear HBb k2 B1; obtain ⟨xu0, xu1, xu2, xu3, xu4, xu5, xu6, xu7, xu8, xu9⟩ := ten_of (HX.out _ B2.out)) | ((with_reducible refine (HGa.out _ B2.out).mono ?_); rintro e w3 ⟨rfl, k3⟩; have B3 : Hid (Below wc.heap.size wc (w3.alloc (.cells (OC g) 38))) := Lib.hid (lb_on B2.out k3.out); have D1 : Hid (Cl 38 (w3.alloc (.cells (OC g) 38)) w1.heap.size (OC t)) := Lib.hid (lcl_on C1.out k3.out); clear C1; have C1 := D1; clear D1; have D2 : Hid (Cl 38 (w3.alloc (.cells (OC g) 38)) w2.heap.size (OC t)) := Lib.hid (lcl_on C2.out k3.out); clear C2; have C2 := D2; clear D2; have C3 : Hid (Cl 38 (w3.alloc (.cells (OC g) 38)) w3.heap.size (OC g)) := Lib.hid (hd_last rfl); clear HGa k3 B2; clear xu0 xu1 xu2 xu3 xu4 xu5 xu6 xu7 xu8 xu9; obtain ⟨xv0, xv1, xv2, xv3, xv4, xv5, xv6, xv7, xv8, xv9⟩ := ten_of (HX.out _ B3.out)) | ((with_reducible refine (HGb.out _ B3.out).mono ?_); rintro e w4 ⟨rfl, k4⟩; have B4 : Hid (Below wc.heap.size wc (w4.alloc (.cells (OC g) 38))) := Lib.hid (lb_on B3.out k4.out); have D1 : Hid (Cl 38 (w4.alloc (.cells (OC g) 38)) w1.heap.size (OC t)) := Lib.hid (lcl_on C1.out k4.out); clear C1; have C1 := D1; clear D1; have D2 : Hid (Cl 38 (w4.alloc (.cells (OC g) 38)) w2.heap.size (OC t)) := Lib.hid (lcl_on C2.out k4.out); clear C2; have C2 := D2; clear D2; have D3 : Hid (Cl 38 (w4.alloc (.cells (OC g) 38)) w3.heap.size (OC g)) := Lib.hid (lcl_on C3.out k4.out); clear C3; have C3 := D3; clear D3; have C4 : Hid (Cl 38 (w4.alloc (.cells (OC g) 38)) w4.heap.size (OC g)) := Lib.hid (hd_last rfl); clear HGb k4 B3; clear xv0 xv1 xv2 xv3 xv4 xv5 xv6 xv7 xv8 xv9))
        obtain ⟨X0, eX0⟩ : ∃ X0, (w4.alloc (.cells (OC g) 38)) = X0 := ⟨_, rfl⟩
        have eX0' : w4.alloc (.cells #[.int .u64 g.id, .int .i64 g.acc, .int .i64 g.side, .int .i64 g.price, .int .i64 g.qty, .int .u64 g.seq] 38) = X0 := eX0
        rw [eX0] at B4 C1 C2 C3 C4
        rw [eX0']
        have HC1 := lcl_all C1.out
        have HC2 := lcl_all C2.out
        have HC3 := lcl_all C3.out
        have HC4 := lcl_all C4.out
        have NHAa := Lib.hid (fun X (hX : Below X0.heap.size X0 X) => HAa.out X (B4.out.trans (hX.mono B4.out.size)))
        have NHAb := Lib.hid (fun X (hX : Below X0.heap.size X0 X) => HAb.out X (B4.out.trans (hX.mono B4.out.size)))
        have NHLa := Lib.hid (fun X (hX : Below X0.heap.size X0 X) => HLa.out X (B4.out.trans (hX.mono B4.out.size)))
        have NHLb := Lib.hid (fun X (hX : Below X0.heap.size X0 X) => HLb.out X (B4.out.trans (hX.mono B4.out.size)))
        have NHVa := Lib.hid (fun X (hX : Below X0.heap.size X0 X) => HVa.out X (B4.out.trans (hX.mono B4.out.size)))
        have NHVb := Lib.hid (fun X (hX : Below X0.heap.size X0 X) => HVb.out X (B4.out.trans (hX.mono B4.out.size)))
        have NHPa := Lib.hid (fun X (hX : Below X0.heap.size X0 X) => HPa.out X (B4.out.trans (hX.mono B4.out.size)))
        have NHPb := Lib.hid (fun X (hX : Below X0.heap.size X0 X) => HPb.out X (B4.out.trans (hX.mono B4.out.size)))
        have NHRv1 := Lib.hid (fun X (hX : Below X0.heap.size X0 X) => HRv1.out X (B4.out.trans (hX.mono B4.out.size)))
        have NHRv2 := Lib.hid (fun X (hX : Below X0.heap.size X0 X) => HRv2.out X (B4.out.trans (hX.mono B4.out.size)))
        have NHRp1 := Lib.hid (fun X (hX : Below X0.heap.size X0 X) => HRp1.out X (B4.out.trans (hX.mono B4.out.size)))
        have NHRp2 := Lib.hid (fun X (hX : Below X0.heap.size X0 X) => HRp2.out X (B4.out.trans (hX.mono B4.out.size)))
        have NHCell := Lib.hid (fun X (hX : Below X0.heap.size X0 X) => HCell.out X (B4.out.trans (hX.mono B4.out.size)))
        have NHRow := Lib.hid (fun X (hX : Below X0.heap.size X0 X) => HRow.out X (B4.out.trans (hX.mono B4.out.size)))
        clear eX0 eX0' HAa HAb HLa HLb HVa HVb HPa HPb HRv1 HRv2 HRp1 HRp2 HCell HRow C1 C2 C3 C4
        as_aux_lemma =>
        refine wp_region_held_drew (S := fun X => Below X0.heap.size X0 X) (by kernel_rfl) (by exact (Below.refl _ _).drew) (fun hHeld => ?_)
        refine tkH 0 ?_ ?_ (by assumption) ?_
        rotate_left
        · (intro w hSw; (try dsimp only at hSw); go_simp; try with_reducible rfl)
        (try simp only [zz])
        refine tkH 2 ?_ ?_ (by assumption) ?_
        rotate_left
        · (intro w hSw; (try dsimp only at hSw); go_simp; try with_reducible rfl)
        (try simp only [zz])
        refine tkH 3 ?_ ?_ (by assumption) ?_
        rotate_left
        · (intro w hSw; (try dsimp only at hSw); go_simp; try with_reducible rfl)
        (try simp only [zz])
        refine tkH 4 ?_ ?_ (by assumption) ?_
        rotate_left
        · (intro w hSw; (try dsimp only at hSw); go_simp; try with_reducible rfl)
        (try simp only [zz])
        refine tkH 5 ?_ ?_ (by assumption) ?_
        rotate_left
        · (intro w hSw; have hs := NHCell.out _ hSw; (try dsimp only at hSw); go_simp; try with_reducible rfl)
        (try simp only [zz])
        as_aux_lemma =>
        refine rdH 1 (fun K hK => ?_)
        go_simp
        ((with_reducible refine (NHAa.out _ hHeld).mono ?_); rintro e y1 ⟨A1, c1, rfl, h1⟩; have hb := Lib.hid h1.out.1)
        refine hK.out _ _ (by exact hHeld.trans (hb.out.mono hHeld.size)) (fun hHeld => ?_)
        clear hK K
        (try simp only [zz])
        refine rdH 6 (fun K hK => ?_)
        go_simp
        ((with_reducible refine (HSm.out _ _ _ _ _ (h1.out.2.below (Below.refl _ _)) (NHRow.out _ hHeld)).mono ?_); rintro e y2 ⟨rfl, hb⟩)
        refine hK.out _ _ (by exact hHeld.trans (hb.out.mono hHeld.size)) (fun hHeld => ?_)
        clear hK K
        (try simp only [zz])
        refine tkH 7 ?_ ?_ (by assumption) ?_
        rotate_left
        · (intro w hSw; (try dsimp only at hSw); go_simp; try with_reducible rfl)
        (try simp only [zz])
        refine tkH 8 ?_ ?_ (by assumption) ?_
        rotate_left
        · (intro w hSw; (try dsimp only at hSw); go_simp; try with_reducible rfl)
        (try simp only [zz])
        refine tkH 9 ?_ ?_ (by assumption) ?_
        rotate_left
        · (intro w hSw; (try dsimp only at hSw); go_simp; try with_reducible rfl)
        (try simp only [zz])
        refine tkH 11 ?_ ?_ (by assumption) ?_
        rotate_left
        · (intro w hSw; (try dsimp only at hSw); go_simp; try with_reducible rfl)
        (try simp only [zz])
        as_aux_lemma =>
        refine tkH 12 ?_ ?_ (by assumption) ?_
        rotate_left
        · (intro w hSw; (try dsimp only at hSw); go_simp; try with_reducible rfl)
        (try simp only [zz])
        refine tkH 13 ?_ ?_ (by assumption) ?_
        rotate_left
        · (intro w hSw; (try dsimp only at hSw); go_simp; try with_reducible rfl)
        (try simp only [zz])
        refine tkH 14 ?_ ?_ (by assumption) ?_
        rotate_left
        · (intro w hSw; have hs := NHCell.out _ hSw; (try dsimp only at hSw); go_simp; try with_reducible rfl)
        (try simp only [zz])
        refine rdH 10 (fun K hK => ?_)
        go_simp
        ((with_reducible refine (NHAb.out _ hHeld).mono ?_); rintro e y3 ⟨A3, c3, rfl, h3⟩; have hb := Lib.hid h3.out.1)
        refine hK.out _ _ (by exact hHeld.trans (hb.out.mono hHeld.size)) (fun hHeld => ?_)
        clear hK K
        (try simp only [zz])
        refine rdH 15 (fun K hK => ?_)
        go_simp
        ((with_reducible refine (HSm.out _ _ _ _ _ (h3.out.2.below (Below.refl _ _)) (NHRow.out _ hHeld)).mono ?_); rintro e y4 ⟨rfl, hb⟩)
        refine hK.out _ _ (by exact hHeld.trans (hb.out.mono hHeld.size)) (fun hHeld => ?_)
        clear hK K
        (try simp only [zz])
        refine tkH 16 ?_ ?_ (by assumption) ?_
        rotate_left
        · (intro w hSw; (try dsimp only at hSw); go_simp; try with_reducible rfl)
        (try simp only [zz])
        refine tkH 17 ?_ ?_ (by assumption) ?_
        rotate_left
        · (intro w hSw; (try dsimp only at hSw); go_simp; try with_reducible rfl)
        (try simp only [zz])
        refine tkH 18 ?_ ?_ (by assumption) ?_
        rotate_left
        · (intro w hSw; (try dsimp only at hSw); go_simp; try with_reducible rfl)
        (try simp only [zz])
        as_aux_lemma =>
        refine tkH 19 ?_ ?_ (by assumption) ?_
        rotate_left
        · (intro w hSw; obtain ⟨hs0, hs1, hs2, hs3, hs4, hs5⟩ := six_of (HC1.out _ hSw); (try dsimp only at hSw); go_simp; try with_reducible rfl)
        (try simp only [zz])
        refine tkH 20 ?_ ?_ (by assumption) ?_
        rotate_left
        · (intro w hSw; obtain ⟨hs0, hs1, hs2, hs3, hs4, hs5⟩ := six_of (HC2.out _ hSw); (try dsimp only at hSw); go_simp; try with_reducible rfl)
        (try simp only [zz])
        refine tkH 21 ?_ ?_ (by assumption) ?_
        rotate_left
        · (intro w hSw; (try dsimp only at hSw); go_simp; try with_reducible rfl)
        (try simp only [zz])
        refine tkH 22 ?_ ?_ (by assumption) ?_
        rotate_left
        · (intro w hSw; (try dsimp only at hSw); go_simp; try with_reducible rfl)
        (try simp only [zz])
        refine tkH 23 ?_ ?_ (by assumption) ?_
        rotate_left
        · (intro w hSw; (try dsimp only at hSw); go_simp; try with_reducible rfl)
        (try simp only [zz])
        refine tkH 24 ?_ ?_ (by assumption) ?_
        rotate_left
        · (intro w hSw; (try dsimp only at hSw); go_simp; try with_reducible rfl)
        (try simp only [zz])
        as_aux_lemma =>
        refine tkH 25 ?_ ?_ (by assumption) ?_
        rotate_left
        · (intro w hSw; (try dsimp only at hSw); go_simp; try with_reducible rfl)
        (try simp only [zz])
        refine tkH 26 ?_ ?_ (by assumption) ?_
        rotate_left
        · (intro w hSw; (try dsimp only at hSw); go_simp; try with_reducible rfl)
        (try simp only [zz])
        refine tkH 27 ?_ ?_ (by assumption) ?_
        rotate_left
        · (intro w hSw; (try dsimp only at hSw); go_simp; try with_reducible rfl)
        (try simp only [zz])
        refine tkH 28 ?_ ?_ (by assumption) ?_
        rotate_left
        · (intro w hSw; (try dsimp only at hSw); go_simp; try with_reducible rfl)
        (try simp only [zz])
        refine tkH 29 ?_ ?_ (by assumption) ?_
        rotate_left
        · (intro w hSw; obtain ⟨hs0, hs1, hs2, hs3, hs4, hs5⟩ := six_of (HC3.out _ hSw); (try dsimp only at hSw); go_simp; try with_reducible rfl)
        (try simp only [zz])
        refine tkH 30 ?_ ?_ (by assumption) ?_
        rotate_left
        · (intro w hSw; obtain ⟨hs0, hs1, hs2, hs3, hs4, hs5⟩ := six_of (HC4.out _ hSw); (try dsimp only at hSw); go_simp; try with_reducible rfl)
        (try simp only [zz])
        as_aux_lemma =>
        refine tkH 31 ?_ ?_ (by assumption) ?_
        rotate_left
        · (intro w hSw; (try dsimp only at hSw); go_simp; try with_reducible rfl)
        (try simp only [zz])
        refine tkH 32 ?_ ?_ (by assumption) ?_
        rotate_left
        · (intro w hSw; (try dsimp only at hSw); go_simp; try with_reducible rfl)
        (try simp only [zz])
        refine tkH 33 ?_ ?_ (by assumption) ?_
        rotate_left
        · (intro w hSw; (try dsimp only at hSw); go_simp; try with_reducible rfl)
        (try simp only [zz])
        refine tkH 34 ?_ ?_ (by assumption) ?_
        rotate_left
        · (intro w hSw; (try dsimp only at hSw); go_simp; try with_reducible rfl)
        (try simp only [zz])
        refine tkH 35 ?_ ?_ (by assumption) ?_
        rotate_left
        · (intro w hSw; (try dsimp only at hSw); go_simp; try with_reducible rfl)
        (try simp only [zz])
        refine tkH 36 ?_ ?_ (by assumption) ?_
        rotate_left
        · (intro w hSw; (try dsimp only at hSw); go_simp; try with_reducible rfl)
        (try simp only [zz])
        as_aux_lemma =>
        refine tkH 37 ?_ ?_ (by assumption) ?_
        rotate_left
        · (intro w hSw; (try dsimp only at hSw); go_simp; try with_reducible rfl)
        (try simp only [zz])
        refine tkH 38 ?_ ?_ (by assumption) ?_
        rotate_left
        · (intro w hSw; (try dsimp only at hSw); go_simp; try with_reducible rfl)
        (try simp only [zz])
        refine tkH 39 ?_ ?_ (by assumption) ?_
        rotate_left
        · (intro w hSw; (try dsimp only at hSw); go_simp; try with_reducible rfl)
        (try simp only [zz])
        refine tkH 41 ?_ ?_ (by assumption) ?_
        rotate_left
        · (intro w hSw; (try dsimp only at hSw); go_simp; try with_reducible rfl)
        (try simp only [zz])
        refine tkH 42 ?_ ?_ (by assumption) ?_
        rotate_left
        · (intro w hSw; (try dsimp only at hSw); go_simp; try with_reducible rfl)
        (try simp only [zz])
        refine tkH 43 ?_ ?_ (by assumption) ?_
        rotate_left
        · (intro w hSw; (try dsimp only at hSw); go_simp; try with_reducible rfl)
        (try simp only [zz])
        as_aux_lemma =>
        refine tkH 44 ?_ ?_ (by assumption) ?_
        rotate_left
        · (intro w hSw; have hs := NHCell.out _ hSw; (try dsimp only at hSw); go_simp; try with_reducible rfl)
        (try simp only [zz])
        refine tkH 45 ?_ ?_ (by assumption) ?_
        rotate_left
        · (intro w hSw; (try dsimp only at hSw); go_simp; try with_reducible rfl)
        (try simp only [zz])
        refine rdH 40 (fun K hK => ?_)
        go_simp
        ((with_reducible refine (NHLa.out _ hHeld).mono ?_); rintro e y5 ⟨rfl, hb⟩)
        refine hK.out _ _ (by exact hHeld.trans (hb.out.mono hHeld.size)) (fun hHeld => ?_)
        clear hK K
        (try simp only [zz])
        refine tkH 46 ?_ ?_ (by assumption) ?_
        rotate_left
        · (intro w hSw; (try dsimp only at hSw); go_simp; try with_reducible rfl)
        (try simp only [zz])
        refine tkH 47 ?_ ?_ (by assumption) ?_
        rotate_left
        · (intro w hSw; (try dsimp only at hSw); go_simp; try with_reducible rfl)
        (try simp only [zz])
        refine tkH 48 ?_ ?_ (by assumption) ?_
        rotate_left
        · (intro w hSw; (try dsimp only at hSw); go_simp; try with_reducible rfl)
        (try simp only [zz])
        as_aux_lemma =>
        refine tkH 49 ?_ ?_ (by assumption) ?_
        rotate_left
        · (intro w hSw; (try dsimp only at hSw); go_simp; try with_reducible rfl)
        (try simp only [zz])
        refine tkH 51 ?_ ?_ (by assumption) ?_
        rotate_left
        · (intro w hSw; (try dsimp only at hSw); go_simp; try with_reducible rfl)
        (try simp only [zz])
        refine rdH 50 (fun K hK => ?_)
        go_simp
        ((with_reducible refine (NHLb.out _ hHeld).mono ?_); rintro e y6 ⟨rfl, hb⟩)
        refine hK.out _ _ (by exact hHeld.trans (hb.out.mono hHeld.size)) (fun hHeld => ?_)
        clear hK K
        (try simp only [zz])
        refine rdH 52 (fun K hK => ?_)
        go_simp
        ((with_reducible refine (NHLa.out _ hHeld).mono ?_); rintro e y7 ⟨rfl, hb⟩)
        refine hK.out _ _ (by exact hHeld.trans (hb.out.mono hHeld.size)) (fun hHeld => ?_)
        clear hK K
        (try simp only [zz])
        refine tkH 53 ?_ ?_ (by assumption) ?_
        rotate_left
        · (intro w hSw; (try dsimp only at hSw); go_simp; try with_reducible rfl)
        (try simp only [zz])
        refine tkH 54 ?_ ?_ (by assumption) ?_
        rotate_left
        · (intro w hSw; (try dsimp only at hSw); go_simp; try with_reducible rfl)
        (try simp only [zz])
        refine wpAnyH_done (by kernel_rfl) ?_ _
        as_aux_lemma =>
        have E0 := Lib.hid hHeld
        clear hHeld
        as_aux_lemma =>
        go_wp2_with (first | ((with_reducible refine (NHVa.out _ E0.out).mono ?_); rintro e r1 ⟨A1', c1', rfl, j1⟩; have E1 := Lib.hid (E0.out.trans (j1.out.1.mono E0.out.size)); clear NHVa E0) | ((with_reducible refine (NHRv1.out _ E1.out).mono ?_); rintro e r2 ⟨A2', c2', rfl, j2⟩; have E2 := Lib.hid (E1.out.trans (j2.out.1.mono E1.out.size)); have S2 := Lib.hid (HSv.out _ _ _ c1' c2' (j1.out.2.below j2.out.1) j2.out.2); clear NHRv1 E1 j1 j2) | ((with_reducible refine S2.out.mono ?_); rintro e r3 ⟨rfl, j3⟩; have E3 := Lib.hid (E2.out.trans (j3.out.mono E2.out.size)); clear S2 E2 j3) | ((with_reducible refine (NHVb.out _ E3.out).mono ?_); rintro e r4 ⟨A4', c4', rfl, j4⟩; have E4 := Lib.hid (E3.out.trans (j4.out.1.mono E3.out.size)); clear NHVb E3) | ((with_reducible refine (NHRv2.out _ E4.out).mono ?_); rintro e r5 ⟨A5', c5', rfl, j5⟩; have E5 := Lib.hid (E4.out.trans (j5.out.1.mono E4.out.size)); have S5 := Lib.hid (HSv.out _ _ _ c4' c5' (j4.out.2.below j5.out.1) j5.out.2); clear NHRv2 E4 j4 j5) | ((with_reducible refine S5.out.mono ?_); rintro e r6 ⟨rfl, j6⟩; have E6 := Lib.hid (E5.out.trans (j6.out.mono E5.out.size)); clear S5 E5 j6) | ((with_reducible refine (NHPa.out _ E6.out).mono ?_); rintro e r7 ⟨A7', c7', rfl, j7⟩; have E7 := Lib.hid (E6.out.trans (j7.out.mono E6.out.size)); clear NHPa E6 j7) | ((with_reducible refine (NHRp1.out _ E7.out).mono ?_); rintro e r8 ⟨A8', c8', rfl, j8⟩; have E8 := Lib.hid (E7.out.trans (j8.out.mono E7.out.size)); clear NHRp1 E7 j8) | ((with_reducible refine (NHPb.out _ E8.out).mono ?_); rintro e r9 ⟨A9', c9', rfl, j9⟩; have E9 := Lib.hid (E8.out.trans (j9.out.mono E8.out.size)); clear NHPb E8 j9) | ((with_reducible refine (NHRp2.out _ E9.out).mono ?_); rintro e r10 ⟨A10', c10', rfl, j10⟩; have E10 := Lib.hid (E9.out.trans (j10.out.mono E9.out.size)); clear NHRp2 E9 j10))
        exact ⟨⟨k + 1, a', b', va', vb', ka', kb', L', Sa', Sb', rfl, rfl, rfl, Hk.out, HP.out.below (B4.out.trans (E10.out.mono B4.out.size))⟩, less_left Hk.out⟩
    · obtain rfl : k = len0 := by have := hd.out.1; omega
      have hkI : ¬ (k : Int) < (k : Int) := by omega
      have HBe := Lib.hid hd.out.2.be
      clear hd hk
      go_wp2_with ((with_reducible refine (HL.out _).mono ?_); rintro e w2 ⟨rfl, k2⟩; have G2 : Hid (Below w.heap.size w w2) := Lib.hid (HBe.out.trans (k2.mono HBe.out.size)); clear k2)
      go_ret
      exact ⟨rfl, G2.out⟩
end Go.Proofs.YtpigkmfegmfelaaGreat
