/- acks: Read. (By mkacy.py.) -/
import Derived.Test.YthbocddkomhpoaaAcX
import Derived.Test.YthbocddkomhpoaaCdB
namespace Go.Proofs.Ythbocddkomhpoaa
open Go.RowKit Go.Lib
set_option linter.unusedVariables false

/-- The table, what is left, and whether it is bad, behind i sets. -/
def rdI (n : Nat) (l : List UInt8) (b : Bool) : Nat → Ta × List UInt8 × Bool
  | 0 => (newA n, l, b)
  | i + 1 => (updA (rdI n l b i).1 (i + 1) (Co.rdN (rdI n l b i).2.1 (rdI n l b i).2.2 4294967295).1, (Co.rdN (rdI n l b i).2.1 (rdI n l b i).2.2 4294967295).2)
/-- A table is read: whether, it, what is left, whether it is bad. -/
def rdA (l : List UInt8) (bd : Bool) : Bool × Ta × List UInt8 × Bool :=
  if (Co.rdN l bd 7).1 = 0 then (false, zA, [], true)
  else if (rdI (Co.rdN l bd 7).1 (Co.rdN l bd 7).2.1 (Co.rdN l bd 7).2.2 (Co.rdN l bd 7).1).2.2 = true then (false, zA, [], true)
  else (true, (rdI (Co.rdN l bd 7).1 (Co.rdN l bd 7).2.1 (Co.rdN l bd 7).2.2 (Co.rdN l bd 7).1).1, (rdI (Co.rdN l bd 7).1 (Co.rdN l bd 7).2.1 (Co.rdN l bd 7).2.2 (Co.rdN l bd 7).1).2.1, false)
theorem rdI_n (n : Nat) (l : List UInt8) (b : Bool) : ∀ i, (rdI n l b i).1 0 = n
  | 0 => by simp only [rdI]; unfold newA; exact updA_same _ _ _
  | i + 1 => by
    simp only [rdI]
    rw [updA_other _ _ _ _ (by omega)]; exact rdI_n n l b i
theorem rdI_tb (n : Nat) (l : List UInt8) (b : Bool) (hn : n ≤ 7) : ∀ i, i ≤ n → Tb (rdI n l b i).1
  | 0, _ => by simp only [rdI]; exact Tb.made hn
  | i + 1, h => by
    simp only [rdI]
    refine (rdI_tb n l b hn i (by omega)).put (by rw [rdI_n]; omega) ?_
    have := (Co.rdN_bound (rdI n l b i).2.1 (rdI n l b i).2.2 4294967295).1
    omega
theorem tch_row {g P : Nat} {w W : World} (h : Co.Tch g w W) (hP : w.heap.size ≤ P) (c : Array Value) : Co.Tch g w (W.setRow P c) :=
  ⟨(show W.os = w.os from World.grownBy.os h), (show W.tape = w.tape from World.grownBy.tape h), (show W.output = w.output from World.grownBy.output h), by simpa [World.setRow] using Co.Tch.size h, fun i hi hne => (setRow_other W P i c (by omega)).trans (World.grownBy.block h i hi hne)⟩
theorem tch_cell {g P j : Nat} {w W : World} (h : Co.Tch g w W) (hP : w.heap.size ≤ P) (v : Value) : Co.Tch g w (W.setCell ⟨P, j, none⟩ v) :=
  ⟨(show W.os = w.os from World.grownBy.os h), (show W.tape = w.tape from World.grownBy.tape h), (show W.output = w.output from World.grownBy.output h), by simpa [World.setCell] using Co.Tch.size h, fun i hi hne => (heap_far (a := ⟨P, j, none⟩) (by simp; omega)).trans (World.grownBy.block h i hi hne)⟩
set_option maxHeartbeats 4000000 in
set_option maxRecDepth 100000 in
theorem aRead_c (g : Nat) (l : List UInt8) (bd : Bool) (w : World) (h : Co.RB w g l bd) (ok : Bool) (z : Ta) (t : List UInt8) (b : Bool) (hr : rdA l bd = (ok, z, t, b)) :
    Calls Try.prog 20 #[.pointer (some ⟨g, 0, none⟩)] w fun e w' => e = .returned (.tuple #[.agg (AC z), .bool ok]) ∧ Hid (Co.Tch g w w' ∧ Co.RB w' g t b) := by
  have hzr := zeroA
  obtain ⟨n, t1, b1, hn⟩ : ∃ n t1 b1, Co.rdN l bd 7 = (n, t1, b1) := ⟨_, _, _, rfl⟩
  have hn7 : n ≤ 7 := by have := (Co.rdN_bound l bd 7).1; rw [hn] at this; exact this
  unfold rdA at hr
  rw [hn] at hr
  simp only at hr
  have hgl := blk_lt h
  have HN : Hid (Calls Try.prog 36 #[.pointer (some ⟨g, 0, none⟩), .int .u64 7] (w.alloc (.cells (AC zA) 27)) fun e w' => e = .returned (.int .u64 (n : Int)) ∧ Co.Tch g (w.alloc (.cells (AC zA) 27)) w' ∧ Co.RB w' g t1 b1) := Lib.hid (Co.rNat_c g l bd 7 (w.alloc (.cells (AC zA) 27)) (h.alloc _) n t1 b1 hn)
  obtain ⟨cd, hcd, HW⟩ : ∃ cd : Int, ((cd = 2 ∧ n = 0) ∨ (cd = 0 ∧ n ≠ 0)) ∧ Hid (∀ W, Calls Try.prog 7 #[.int .i64 (n : Int)] W fun e w' => e = .returned (.tuple #[.agg (AC (newA n)), .int .i64 cd]) ∧ Below W.heap.size W w') := by
    by_cases h0 : n = 0
    · subst h0
      exact ⟨2, .inl ⟨rfl, rfl⟩, Lib.hid (fun W => new_c 0 W)⟩
    · refine ⟨0, .inr ⟨rfl, h0⟩, Lib.hid (fun W => ?_)⟩
      have := new_c n W
      rwa [if_pos (by omega), if_pos (by omega), show ((n : Int).toNat) = n by omega] at this
  have HCd := Lib.hid hcd
  have HR := Lib.hid hr
  have hnI : (n : Int) ≤ 7 := by omega
  have hz0 : newA n 0 = n := by unfold newA; exact updA_same _ _ _
  have HT0 : Hid (Co.Tch g w (w.alloc (.cells (AC zA) 27))) := Lib.hid ((Co.Tch.refl g w).alloc _)
  clear h hn hcd hr
  go_enter Try.func20, Try.ntmps20
  go_wp2_with (first | ((with_reducible apply storeA (z := zA)); rfl; rfl; rfl; (rw [AC_zero]; rfl); (focus ((repeat' (first | (with_reducible assumption) | ((with_reducible refine heap_last ?_); (focus (first | (simp; done) | omega | (simp; omega)))) | ((with_reducible refine heap_prev ?_ ?_); (focus (first | (simp; done) | omega | (simp; omega)))) | (with_reducible apply row_heap) | ((with_reducible apply tab_set); (focus (first | (simp; done) | omega | (simp; omega)))) | ((with_reducible refine sign_other ?_ ?_); (focus (first | (simp; done) | omega | (simp; omega)))) | ((with_reducible refine row_other ?_ ?_); (focus (first | (simp; done) | omega | (simp; omega)))) | (with_reducible refine drew_heap ?_) | (with_reducible refine drewN_heap ?_))); done)); skip) | ((with_reducible apply loadA); rfl; rfl; rfl; (focus ((repeat' (first | (with_reducible assumption) | ((with_reducible refine heap_last ?_); (focus (first | (simp; done) | omega | (simp; omega)))) | ((with_reducible refine heap_prev ?_ ?_); (focus (first | (simp; done) | omega | (simp; omega)))) | (with_reducible apply row_heap) | ((with_reducible apply tab_set); (focus (first | (simp; done) | omega | (simp; omega)))) | ((with_reducible refine sign_other ?_ ?_); (focus (first | (simp; done) | omega | (simp; omega)))) | ((with_reducible refine row_other ?_ ?_); (focus (first | (simp; done) | omega | (simp; omega)))) | (with_reducible refine drew_heap ?_) | (with_reducible refine drewN_heap ?_))); done)); skip) | ((with_reducible apply storeA); rfl; rfl; rfl; rfl; (focus ((repeat' (first | (with_reducible assumption) | ((with_reducible refine heap_last ?_); (focus (first | (simp; done) | omega | (simp; omega)))) | ((with_reducible refine heap_prev ?_ ?_); (focus (first | (simp; done) | omega | (simp; omega)))) | (with_reducible apply row_heap) | ((with_reducible apply tab_set); (focus (first | (simp; done) | omega | (simp; omega)))) | ((with_reducible refine sign_other ?_ ?_); (focus (first | (simp; done) | omega | (simp; omega)))) | ((with_reducible refine row_other ?_ ?_); (focus (first | (simp; done) | omega | (simp; omega)))) | (with_reducible refine drew_heap ?_) | (with_reducible refine drewN_heap ?_))); done)); skip) | ((with_reducible refine HN.out.mono ?_); rintro e w1 ⟨rfl, T1, R1⟩) | ((with_reducible refine (HW.out _).mono ?_); rintro e w2 ⟨rfl, b2⟩; have q4 : ((w2.alloc (Obj.cells (AC zA) 27)).setRow w2.heap.size (AC (newA n))).heap[w2.heap.size]? = some (.cells (AC (newA n)) 27 (0, 0)) := row_heap (heap_alloc_new w2 _); have cn := tab_n q4; rw [hz0] at cn))
  have s1 : w.heap.size + 1 ≤ w1.heap.size := by have := T1.size; (try simp at this); omega
  have s2 : w1.heap.size ≤ w2.heap.size := b2.size
  have p1 : w1.heap[w.heap.size]? = some (.cells (AC zA) 27 (0, 0)) := Co.Tch.blk T1 (heap_alloc_new w _) (by omega)
  have p2 : w2.heap[w.heap.size]? = some (.cells (AC zA) 27 (0, 0)) := (b2.block _ (by omega)).trans p1
  have R2 : Co.RB w2 g t1 b1 := (b2.block _ (by omega)).trans R1
  have T2' : Co.Tch g w w2 := (HT0.out.trans T1).trans ⟨b2.os, b2.tape, b2.output, b2.size, fun k hk _ => b2.block k hk⟩
  clear p1 R1 T1 b2 HN HW
  have q2 : ((w2.alloc (Obj.cells (AC zA) 27)).setRow w2.heap.size (AC (newA n))).heap[w.heap.size]? = some (.cells (AC zA) 27 (0, 0)) := row_other (by omega) (heap_prev (blk_lt p2) p2)
  have qR : Co.RB ((w2.alloc (Obj.cells (AC zA) 27)).setRow w2.heap.size (AC (newA n))) g t1 b1 := row_other (by omega) (heap_prev (by omega) R2)
  have qT : Co.Tch g w ((w2.alloc (Obj.cells (AC zA) 27)).setRow w2.heap.size (AC (newA n))) := tch_row (T2'.alloc (Obj.cells (AC zA) 27)) (by omega) _
  have qs : w2.heap.size < ((w2.alloc (Obj.cells (AC zA) 27)).setRow w2.heap.size (AC (newA n))).heap.size := blk_lt q4
  generalize hP : w2.heap.size = P at *
  generalize ((w2.alloc (Obj.cells (AC zA) 27)).setRow P (AC (newA n))) = w3 at *
  clear p2 R2 T2' cn
  go_loopw [16] (fun i wr => ∃ k : Nat, k ≤ n ∧ i = .int .i64 (k : Int) ∧ Hid (wr.heap[P]? = some (.cells (AC (rdI n t1 b1 k).1) 27 (0, 0))) ∧ Hid (wr.heap[w.heap.size]? = some (.cells (AC zA) 27 (0, 0))) ∧ Hid (Co.RB wr g (rdI n t1 b1 k).2.1 (rdI n t1 b1 k).2.2) ∧ Hid (Co.Tch g w wr) ∧ P < wr.heap.size) (fun i _ => n - (intOf i).toNat)
  case atStart => exact ⟨0, by omega, rfl, Lib.hid q4, Lib.hid q2, Lib.hid qR, Lib.hid qT, qs⟩
  case round =>
    obtain ⟨k, hk, rfl, h1, h2, h3, h4, hs⟩ := hrel
    by_cases hlt : k < n
    · have hltI : (k : Int) < (n : Int) := by omega
      have hk7 : k < 7 := by omega
      have hk7I : (k : Int) < 7 := by omega
      have hk0 : (0 : Int) ≤ (k : Int) := by omega
      obtain ⟨x, t', b', hx⟩ : ∃ x t' b', Co.rdN (rdI n t1 b1 k).2.1 (rdI n t1 b1 k).2.2 4294967295 = (x, t', b') := ⟨_, _, _, rfl⟩
      have hnx : rdI n t1 b1 (k + 1) = (updA (rdI n t1 b1 k).1 (k + 1) x, t', b') := by simp only [rdI]; rw [hx]
      have HNX := Lib.hid hnx
      have HNt : Hid (Calls Try.prog 36 #[.pointer (some ⟨g, 0, none⟩), .int .u64 4294967295] wr fun e w' => e = .returned (.int .u64 (x : Int)) ∧ Co.Tch g wr w' ∧ Co.RB w' g t' b') := Lib.hid (Co.rNat_c g _ _ 4294967295 wr h3.out x t' b' hx)
      clear hx hnx
      go_wp2_with (first | ((with_reducible refine HNt.out.mono ?_); rintro e v1 ⟨rfl, T1, R1⟩; have f1 := Co.Tch.blk T1 h1.out (show P ≠ g by omega); have c1 := tab_cell' f1 hk7; have c3 : v1.frozen? ⟨P, 1 + k, none⟩ = false := tab_frozen f1))
      have F1 := tab_set' (v := x) f1 hk7
      have F2 := sign_other (a := ⟨P, 1 + k, none⟩) (v := .int .u64 (x : Int)) (show w.heap.size ≠ P by omega) (Co.Tch.blk T1 h2.out (show w.heap.size ≠ g by omega))
      have F3 : Co.RB (v1.setCell ⟨P, 1 + k, none⟩ (.int .u64 (x : Int))) g t' b' := sign_other (show g ≠ P by omega) R1
      have F4 : Co.Tch g w (v1.setCell ⟨P, 1 + k, none⟩ (.int .u64 (x : Int))) := tch_cell (h4.out.trans T1) (by omega) _
      have F5 : P < (v1.setCell ⟨P, 1 + k, none⟩ (.int .u64 (x : Int))).heap.size := blk_lt F1
      exact ⟨⟨k + 1, by omega, by go_num, Lib.hid (by rw [HNX.out]; exact F1), Lib.hid F2, Lib.hid (by rw [HNX.out]; exact F3), Lib.hid F4, F5⟩, by simp [intOf]; omega⟩
    · obtain rfl : k = n := by omega
      have hltI : ¬ (k : Int) < (k : Int) := by omega
      have g1 := h1.out
      have g2 := h2.out
      have hre := HR.out
      have HF := Lib.hid (Co.Fail_c g _ _ wr h3.out)
      have HB := Lib.hid (Co.Bad_c g _ _ wr h3.out)
      rcases HCd.out with ⟨rfl, rfl⟩ | ⟨rfl, h0⟩
      · rw [if_pos rfl] at hre
        injection hre with e1 e2
        injection e2 with e2 e3
        injection e3 with e3 e4
        subst e1; subst e2; subst e3; subst e4
        go_wp2_with (first | ((with_reducible apply storeA (z := zA)); rfl; rfl; rfl; (rw [AC_zero]; rfl); (focus ((repeat' (first | (with_reducible assumption) | ((with_reducible refine heap_last ?_); (focus (first | (simp; done) | omega | (simp; omega)))) | ((with_reducible refine heap_prev ?_ ?_); (focus (first | (simp; done) | omega | (simp; omega)))) | (with_reducible apply row_heap) | ((with_reducible apply tab_set); (focus (first | (simp; done) | omega | (simp; omega)))) | ((with_reducible refine sign_other ?_ ?_); (focus (first | (simp; done) | omega | (simp; omega)))) | ((with_reducible refine row_other ?_ ?_); (focus (first | (simp; done) | omega | (simp; omega)))) | (with_reducible refine drew_heap ?_) | (with_reducible refine drewN_heap ?_))); done)); skip) | ((with_reducible apply loadA); rfl; rfl; rfl; (focus ((repeat' (first | (with_reducible assumption) | ((with_reducible refine heap_last ?_); (focus (first | (simp; done) | omega | (simp; omega)))) | ((with_reducible refine heap_prev ?_ ?_); (focus (first | (simp; done) | omega | (simp; omega)))) | (with_reducible apply row_heap) | ((with_reducible apply tab_set); (focus (first | (simp; done) | omega | (simp; omega)))) | ((with_reducible refine sign_other ?_ ?_); (focus (first | (simp; done) | omega | (simp; omega)))) | ((with_reducible refine row_other ?_ ?_); (focus (first | (simp; done) | omega | (simp; omega)))) | (with_reducible refine drew_heap ?_) | (with_reducible refine drewN_heap ?_))); done)); skip) | ((with_reducible apply storeA); rfl; rfl; rfl; rfl; (focus ((repeat' (first | (with_reducible assumption) | ((with_reducible refine heap_last ?_); (focus (first | (simp; done) | omega | (simp; omega)))) | ((with_reducible refine heap_prev ?_ ?_); (focus (first | (simp; done) | omega | (simp; omega)))) | (with_reducible apply row_heap) | ((with_reducible apply tab_set); (focus (first | (simp; done) | omega | (simp; omega)))) | ((with_reducible refine sign_other ?_ ?_); (focus (first | (simp; done) | omega | (simp; omega)))) | ((with_reducible refine row_other ?_ ?_); (focus (first | (simp; done) | omega | (simp; omega)))) | (with_reducible refine drew_heap ?_) | (with_reducible refine drewN_heap ?_))); done)); skip) | ((with_reducible refine HF.out.mono ?_); rintro e v1 ⟨rfl, T1, R1⟩; have f2 := Co.Tch.blk T1 g2 (show w.heap.size ≠ g by omega)))
        refine bodyPost_ret (retA2 rfl _ _ w.heap.size rfl zA 27 (row_heap f2) _ rfl) rfl ?_
        exact ⟨rfl, Lib.hid ⟨tch_row (h4.out.trans T1) (Nat.le_refl _) _, row_other (by omega) R1⟩⟩
      · rw [if_neg h0] at hre
        generalize (rdI k t1 b1 k).1 = z9 at *
        generalize (rdI k t1 b1 k).2.1 = t9 at *
        generalize (rdI k t1 b1 k).2.2 = b9 at *
        cases b9
        · rw [if_neg (by decide)] at hre
          injection hre with e1 e2
          injection e2 with e2 e3
          injection e3 with e3 e4
          subst e1; subst e2; subst e3; subst e4
          go_wp2_with (first | ((with_reducible apply storeA (z := zA)); rfl; rfl; rfl; (rw [AC_zero]; rfl); (focus ((repeat' (first | (with_reducible assumption) | ((with_reducible refine heap_last ?_); (focus (first | (simp; done) | omega | (simp; omega)))) | ((with_reducible refine heap_prev ?_ ?_); (focus (first | (simp; done) | omega | (simp; omega)))) | (with_reducible apply row_heap) | ((with_reducible apply tab_set); (focus (first | (simp; done) | omega | (simp; omega)))) | ((with_reducible refine sign_other ?_ ?_); (focus (first | (simp; done) | omega | (simp; omega)))) | ((with_reducible refine row_other ?_ ?_); (focus (first | (simp; done) | omega | (simp; omega)))) | (with_reducible refine drew_heap ?_) | (with_reducible refine drewN_heap ?_))); done)); skip) | ((with_reducible apply loadA); rfl; rfl; rfl; (focus ((repeat' (first | (with_reducible assumption) | ((with_reducible refine heap_last ?_); (focus (first | (simp; done) | omega | (simp; omega)))) | ((with_reducible refine heap_prev ?_ ?_); (focus (first | (simp; done) | omega | (simp; omega)))) | (with_reducible apply row_heap) | ((with_reducible apply tab_set); (focus (first | (simp; done) | omega | (simp; omega)))) | ((with_reducible refine sign_other ?_ ?_); (focus (first | (simp; done) | omega | (simp; omega)))) | ((with_reducible refine row_other ?_ ?_); (focus (first | (simp; done) | omega | (simp; omega)))) | (with_reducible refine drew_heap ?_) | (with_reducible refine drewN_heap ?_))); done)); skip) | ((with_reducible apply storeA); rfl; rfl; rfl; rfl; (focus ((repeat' (first | (with_reducible assumption) | ((with_reducible refine heap_last ?_); (focus (first | (simp; done) | omega | (simp; omega)))) | ((with_reducible refine heap_prev ?_ ?_); (focus (first | (simp; done) | omega | (simp; omega)))) | (with_reducible apply row_heap) | ((with_reducible apply tab_set); (focus (first | (simp; done) | omega | (simp; omega)))) | ((with_reducible refine sign_other ?_ ?_); (focus (first | (simp; done) | omega | (simp; omega)))) | ((with_reducible refine row_other ?_ ?_); (focus (first | (simp; done) | omega | (simp; omega)))) | (with_reducible refine drew_heap ?_) | (with_reducible refine drewN_heap ?_))); done)); skip) | ((with_reducible refine HB.out.mono ?_); rintro e v1 ⟨rfl, rfl⟩))
          refine bodyPost_ret (retA2 rfl _ _ w.heap.size rfl z9 27 (row_heap g2) _ rfl) rfl ?_
          exact ⟨rfl, Lib.hid ⟨tch_row h4.out (Nat.le_refl _) _, row_other (by omega) h3.out⟩⟩
        · rw [if_pos rfl] at hre
          injection hre with e1 e2
          injection e2 with e2 e3
          injection e3 with e3 e4
          subst e1; subst e2; subst e3; subst e4
          go_wp2_with (first | ((with_reducible apply storeA (z := zA)); rfl; rfl; rfl; (rw [AC_zero]; rfl); (focus ((repeat' (first | (with_reducible assumption) | ((with_reducible refine heap_last ?_); (focus (first | (simp; done) | omega | (simp; omega)))) | ((with_reducible refine heap_prev ?_ ?_); (focus (first | (simp; done) | omega | (simp; omega)))) | (with_reducible apply row_heap) | ((with_reducible apply tab_set); (focus (first | (simp; done) | omega | (simp; omega)))) | ((with_reducible refine sign_other ?_ ?_); (focus (first | (simp; done) | omega | (simp; omega)))) | ((with_reducible refine row_other ?_ ?_); (focus (first | (simp; done) | omega | (simp; omega)))) | (with_reducible refine drew_heap ?_) | (with_reducible refine drewN_heap ?_))); done)); skip) | ((with_reducible apply loadA); rfl; rfl; rfl; (focus ((repeat' (first | (with_reducible assumption) | ((with_reducible refine heap_last ?_); (focus (first | (simp; done) | omega | (simp; omega)))) | ((with_reducible refine heap_prev ?_ ?_); (focus (first | (simp; done) | omega | (simp; omega)))) | (with_reducible apply row_heap) | ((with_reducible apply tab_set); (focus (first | (simp; done) | omega | (simp; omega)))) | ((with_reducible refine sign_other ?_ ?_); (focus (first | (simp; done) | omega | (simp; omega)))) | ((with_reducible refine row_other ?_ ?_); (focus (first | (simp; done) | omega | (simp; omega)))) | (with_reducible refine drew_heap ?_) | (with_reducible refine drewN_heap ?_))); done)); skip) | ((with_reducible apply storeA); rfl; rfl; rfl; rfl; (focus ((repeat' (first | (with_reducible assumption) | ((with_reducible refine heap_last ?_); (focus (first | (simp; done) | omega | (simp; omega)))) | ((with_reducible refine heap_prev ?_ ?_); (focus (first | (simp; done) | omega | (simp; omega)))) | (with_reducible apply row_heap) | ((with_reducible apply tab_set); (focus (first | (simp; done) | omega | (simp; omega)))) | ((with_reducible refine sign_other ?_ ?_); (focus (first | (simp; done) | omega | (simp; omega)))) | ((with_reducible refine row_other ?_ ?_); (focus (first | (simp; done) | omega | (simp; omega)))) | (with_reducible refine drew_heap ?_) | (with_reducible refine drewN_heap ?_))); done)); skip) | ((with_reducible refine HB.out.mono ?_); rintro e v2 ⟨rfl, rfl⟩) | ((with_reducible refine HF.out.mono ?_); rintro e v1 ⟨rfl, T1, R1⟩; have f2 := Co.Tch.blk T1 g2 (show w.heap.size ≠ g by omega)))
          refine bodyPost_ret (retA2 rfl _ _ w.heap.size rfl zA 27 (row_heap f2) _ rfl) rfl ?_
          exact ⟨rfl, Lib.hid ⟨tch_row (h4.out.trans T1) (Nat.le_refl _) _, row_other (by omega) R1⟩⟩
end Go.Proofs.Ythbocddkomhpoaa
