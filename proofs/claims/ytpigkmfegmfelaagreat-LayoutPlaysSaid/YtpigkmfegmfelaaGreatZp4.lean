/- What the laws lean on, in a few texts (by shake.py): number 4 of 13. -/
import Derived.Test.YtpigkmfegmfelaaGreatZp1
import Derived.Test.YtpigkmfegmfelaaGreatZp2
import Derived.Laws.StructEq
import Derived.Deep.LoopGhost
import Derived.Shelf.SlSortCmp.Kit1
import Derived.BigRegion
import Derived.Maps.AppendAt
import Derived.Test.YtpigkmfegmfelaaGreatRows
import Derived.WalkKit
import Derived.Lib.Hide
import Derived.WalkSpells
import Derived.WalkLawsBesides
import Derived.Handy
import Derived.BigQuiet
import Derived.Deep.QuietTactic
import Derived.Deep.WholeRow
import Derived.Deep.RegionWith
import Derived.Deep.RegionHeld3
import Derived.Deep.Cut
import Derived.Deep.CutRange
import Derived.Shelf.SlSortCmp.QuietGrown
import Derived.Laws.OwnMore
import Derived.Laws.AppendOwnNone

set_option maxHeartbeats 16000000
set_option maxRecDepth 1000000
set_option linter.unusedVariables false
namespace Go.Proofs.YtpigkmfegmfelaaGreat
open Go.RowKit

def goodO (x : Od) : Bool := decide (0 ≤ x.acc) && (decide (x.acc < 8) && ((rkN x.side != 2) && (decide (1 ≤ x.price) && (decide (x.price ≤ 1099511627776) && (decide (1 ≤ x.qty) && decide (x.qty ≤ 1099511627776))))))
theorem good_w0 (x : Od) (w : World) (h0 : ¬ (0 ≤ x.acc)) : Calls Tryz.prog 65 #[.agg #[.int .u64 x.id, .int .i64 x.acc, .int .i64 x.side, .int .i64 x.price, .int .i64 x.qty, .int .u64 x.seq]] w fun e w' => e = .returned (.bool false) ∧ Gw w w' := by
  have HK := Lib.hid rank_c
  have g : decide (0 ≤ x.acc) = false := decide_eq_false h0
  go_enter Tryz.func65, Tryz.ntmps65
  go_wp2_with ((with_reducible refine (HK.out _ _).mono ?_); rintro e w' ⟨rfl, rfl⟩)
  go_ret
  exact ⟨rfl, (Gw.refl w).alloc _⟩
theorem good_w1 (x : Od) (w : World) (h0 : (0 ≤ x.acc)) (h1 : ¬ (x.acc < 8)) : Calls Tryz.prog 65 #[.agg #[.int .u64 x.id, .int .i64 x.acc, .int .i64 x.side, .int .i64 x.price, .int .i64 x.qty, .int .u64 x.seq]] w fun e w' => e = .returned (.bool false) ∧ Gw w w' := by
  have HK := Lib.hid rank_c
  have g : decide (x.acc < 8) = false := decide_eq_false h1
  go_enter Tryz.func65, Tryz.ntmps65
  go_wp2_with ((with_reducible refine (HK.out _ _).mono ?_); rintro e w' ⟨rfl, rfl⟩)
  go_ret
  exact ⟨rfl, (Gw.refl w).alloc _⟩
theorem good_w2 (x : Od) (w : World) (h0 : (0 ≤ x.acc)) (h1 : (x.acc < 8)) (h2 : (rkN x.side != 2) = false) : Calls Tryz.prog 65 #[.agg #[.int .u64 x.id, .int .i64 x.acc, .int .i64 x.side, .int .i64 x.price, .int .i64 x.qty, .int .u64 x.seq]] w fun e w' => e = .returned (.bool false) ∧ Gw w w' := by
  have HK := Lib.hid rank_c
  go_enter Tryz.func65, Tryz.ntmps65
  go_wp2_with ((with_reducible refine (HK.out _ _).mono ?_); rintro e w' ⟨rfl, rfl⟩)
  go_ret
  exact ⟨rfl, (Gw.refl w).alloc _⟩
theorem good_w3 (x : Od) (w : World) (h0 : (0 ≤ x.acc)) (h1 : (x.acc < 8)) (h2 : (rkN x.side != 2) = true) (h3 : ¬ (1 ≤ x.price)) : Calls Tryz.prog 65 #[.agg #[.int .u64 x.id, .int .i64 x.acc, .int .i64 x.side, .int .i64 x.price, .int .i64 x.qty, .int .u64 x.seq]] w fun e w' => e = .returned (.bool false) ∧ Gw w w' := by
  have HK := Lib.hid rank_c
  have g : decide (1 ≤ x.price) = false := decide_eq_false h3
  go_enter Tryz.func65, Tryz.ntmps65
  go_wp2_with ((with_reducible refine (HK.out _ _).mono ?_); rintro e w' ⟨rfl, rfl⟩)
  go_ret
  exact ⟨rfl, (Gw.refl w).alloc _⟩
theorem good_w4 (x : Od) (w : World) (h0 : (0 ≤ x.acc)) (h1 : (x.acc < 8)) (h2 : (rkN x.side != 2) = true) (h3 : (1 ≤ x.price)) (h4 : ¬ (x.price ≤ 1099511627776)) : Calls Tryz.prog 65 #[.agg #[.int .u64 x.id, .int .i64 x.acc, .int .i64 x.side, .int .i64 x.price, .int .i64 x.qty, .int .u64 x.seq]] w fun e w' => e = .returned (.bool false) ∧ Gw w w' := by
  have HK := Lib.hid rank_c
  have g : decide (x.price ≤ 1099511627776) = false := decide_eq_false h4
  go_enter Tryz.func65, Tryz.ntmps65
  go_wp2_with ((with_reducible refine (HK.out _ _).mono ?_); rintro e w' ⟨rfl, rfl⟩)
  go_ret
  exact ⟨rfl, (Gw.refl w).alloc _⟩
theorem good_w5 (x : Od) (w : World) (h0 : (0 ≤ x.acc)) (h1 : (x.acc < 8)) (h2 : (rkN x.side != 2) = true) (h3 : (1 ≤ x.price)) (h4 : (x.price ≤ 1099511627776)) (h5 : ¬ (1 ≤ x.qty)) : Calls Tryz.prog 65 #[.agg #[.int .u64 x.id, .int .i64 x.acc, .int .i64 x.side, .int .i64 x.price, .int .i64 x.qty, .int .u64 x.seq]] w fun e w' => e = .returned (.bool false) ∧ Gw w w' := by
  have HK := Lib.hid rank_c
  have g : decide (1 ≤ x.qty) = false := decide_eq_false h5
  go_enter Tryz.func65, Tryz.ntmps65
  go_wp2_with ((with_reducible refine (HK.out _ _).mono ?_); rintro e w' ⟨rfl, rfl⟩)
  go_ret
  exact ⟨rfl, (Gw.refl w).alloc _⟩
theorem good_w6 (x : Od) (w : World) (h0 : (0 ≤ x.acc)) (h1 : (x.acc < 8)) (h2 : (rkN x.side != 2) = true) (h3 : (1 ≤ x.price)) (h4 : (x.price ≤ 1099511627776)) (h5 : (1 ≤ x.qty)) (h6 : ¬ (x.qty ≤ 1099511627776)) : Calls Tryz.prog 65 #[.agg #[.int .u64 x.id, .int .i64 x.acc, .int .i64 x.side, .int .i64 x.price, .int .i64 x.qty, .int .u64 x.seq]] w fun e w' => e = .returned (.bool false) ∧ Gw w w' := by
  have HK := Lib.hid rank_c
  have g : decide (x.qty ≤ 1099511627776) = false := decide_eq_false h6
  go_enter Tryz.func65, Tryz.ntmps65
  go_wp2_with ((with_reducible refine (HK.out _ _).mono ?_); rintro e w' ⟨rfl, rfl⟩)
  go_ret
  exact ⟨rfl, (Gw.refl w).alloc _⟩
theorem good_w7 (x : Od) (w : World) (h0 : (0 ≤ x.acc)) (h1 : (x.acc < 8)) (h2 : (rkN x.side != 2) = true) (h3 : (1 ≤ x.price)) (h4 : (x.price ≤ 1099511627776)) (h5 : (1 ≤ x.qty)) (h6 : (x.qty ≤ 1099511627776)) : Calls Tryz.prog 65 #[.agg #[.int .u64 x.id, .int .i64 x.acc, .int .i64 x.side, .int .i64 x.price, .int .i64 x.qty, .int .u64 x.seq]] w fun e w' => e = .returned (.bool true) ∧ Gw w w' := by
  have HK := Lib.hid rank_c
  go_enter Tryz.func65, Tryz.ntmps65
  go_wp2_with ((with_reducible refine (HK.out _ _).mono ?_); rintro e w' ⟨rfl, rfl⟩)
  go_ret
  exact ⟨rfl, (Gw.refl w).alloc _⟩
theorem good_c (x : Od) (w : World) : Calls Tryz.prog 65 #[x.val] w fun e w' => e = .returned (.bool (goodO x)) ∧ Gw w w' := by
  unfold goodO
  by_cases h0 : 0 ≤ x.acc
  rotate_left
  · rw [decide_eq_false h0]; simp only [Bool.false_and]; exact good_w0 x w h0
  rw [decide_eq_true h0]
  rw [Bool.true_and]
  by_cases h1 : x.acc < 8
  rotate_left
  · rw [decide_eq_false h1]; simp only [Bool.false_and]; exact good_w1 x w h0 h1
  rw [decide_eq_true h1]
  rw [Bool.true_and]
  cases h2 : (rkN x.side != 2) with
  | false => simp only [Bool.false_and]; exact good_w2 x w h0 h1 h2
  | true =>
    rw [Bool.true_and]
    by_cases h3 : 1 ≤ x.price
    rotate_left
    · rw [decide_eq_false h3]; simp only [Bool.false_and]; exact good_w3 x w h0 h1 h2 h3
    rw [decide_eq_true h3]
    rw [Bool.true_and]
    by_cases h4 : x.price ≤ 1099511627776
    rotate_left
    · rw [decide_eq_false h4]; simp only [Bool.false_and]; exact good_w4 x w h0 h1 h2 h3 h4
    rw [decide_eq_true h4]
    rw [Bool.true_and]
    by_cases h5 : 1 ≤ x.qty
    rotate_left
    · rw [decide_eq_false h5]; simp only [Bool.false_and]; exact good_w5 x w h0 h1 h2 h3 h4 h5
    rw [decide_eq_true h5]
    rw [Bool.true_and]
    by_cases h6 : x.qty ≤ 1099511627776
    rotate_left
    · rw [decide_eq_false h6]; exact good_w6 x w h0 h1 h2 h3 h4 h5 h6
    rw [decide_eq_true h6]
    exact good_w7 x w h0 h1 h2 h3 h4 h5 h6

theorem eqf {P : Program} (w : World) (d : Nat) (xs ys : Array Value) (fs : List Field) (hn : ∀ f ∈ fs, f.name ≠ "_") (E : Field → Bool)
    (h : ∀ f ∈ fs, ∃ a b, (part f.type xs f.offset).run P w = .ok a w ∧ (part f.type ys f.offset).run P w = .ok b w ∧ (Op.equalIn d f.type a b).run P w = .ok (E f) w) :
    (Op.eqFields d xs ys fs).run P w = .ok (fs.all E) w := by
  induction fs with
  | nil => simp [Op.eqFields]
  | cons f fs ih =>
    obtain ⟨a, b, h1, h2, h3⟩ := h f List.mem_cons_self
    have ih' := ih (fun g hg => hn g (List.mem_cons_of_mem _ hg)) (fun g hg => h g (List.mem_cons_of_mem _ hg))
    simp only [Op.eqFields]
    rw [if_pos (hn f List.mem_cons_self)]
    simp only [Sem.run_bind, h1, h2, h3, Result.andThen_ok, Sem.run_ite, List.all_cons]
    cases hE : E f
    · simp
    · simpa using ih'
def fld (x : Od) : Nat → Int
  | 0 => x.id | 1 => x.acc | 2 => x.side | 3 => x.price | 4 => x.qty | _ => x.seq
def eqO (x y : Od) : Bool := [0, 1, 2, 3, 4, 5].all fun i => fld x i == fld y i
theorem eqO_iff (x y : Od) : eqO x y = true ↔ x = y := by
  unfold eqO
  simp only [List.all_cons, List.all_nil, Bool.and_true, Bool.and_eq_true, beq_iff_eq, fld]
  constructor
  · rintro ⟨h0, h1, h2, h3, h4, h5⟩
    cases x; cases y; simp only at *; subst h0 h1 h2 h3 h4 h5; rfl
  · rintro rfl; simp
abbrev OC (x : Od) : Array Value := #[.int .u64 x.id, .int .i64 x.acc, .int .i64 x.side, .int .i64 x.price, .int .i64 x.qty, .int .u64 x.seq]
theorem ptP0 (x : Od) (w : World) : (part 35 (OC x) 0).run Tryz.prog w = .ok (.int .u64 (fld x 0)) w := by kernel_rfl
theorem ptP1 (x : Od) (w : World) : (part 3 (OC x) 1).run Tryz.prog w = .ok (.int .i64 (fld x 1)) w := by kernel_rfl
theorem ptP2 (x : Od) (w : World) : (part 3 (OC x) 2).run Tryz.prog w = .ok (.int .i64 (fld x 2)) w := by kernel_rfl
theorem ptP3 (x : Od) (w : World) : (part 2 (OC x) 3).run Tryz.prog w = .ok (.int .i64 (fld x 3)) w := by kernel_rfl
theorem ptP4 (x : Od) (w : World) : (part 2 (OC x) 4).run Tryz.prog w = .ok (.int .i64 (fld x 4)) w := by kernel_rfl
theorem ptP5 (x : Od) (w : World) : (part 35 (OC x) 5).run Tryz.prog w = .ok (.int .u64 (fld x 5)) w := by kernel_rfl
theorem eq_ordP (x y : Od) (w : World) : (Op.equalIn 10000 38 (.agg (OC x)) (.agg (OC y))).run Tryz.prog w = .ok (eqO x y) w := by
  rw [run_equalIn_agg w 9999 38 _ _ (by unfold Program.fieldsOf; rw [Tryz.underlying38]) (by kernel_rfl)]
  have h1 : ∀ (a b : Int) (w : World), (Op.equalIn 9999 35 (.int .u64 a) (.int .u64 b)).run Tryz.prog w = .ok (a == b) w := fun a b w => run_equalIn_int w 9998 _ _ _ a b Tryz.underlying35
  have h2 : ∀ (a b : Int) (w : World), (Op.equalIn 9999 2 (.int .i64 a) (.int .i64 b)).run Tryz.prog w = .ok (a == b) w := fun a b w => run_equalIn_int w 9998 _ _ _ a b Tryz.underlying2
  have h3 : ∀ (a b : Int) (w : World), (Op.equalIn 9999 3 (.int .i64 a) (.int .i64 b)).run Tryz.prog w = .ok (a == b) w := fun a b w => run_equalIn_int w 9998 _ _ _ a b Tryz.underlying3
  unfold Program.fieldsOf
  rw [Tryz.underlying38]
  refine (eqf w 9999 _ _ _ ?_ (fun f => fld x f.offset == fld y f.offset) ?_).trans rfl
  · intro f hf
    simp only [List.mem_cons, List.not_mem_nil, or_false] at hf
    rcases hf with rfl | rfl | rfl | rfl | rfl | rfl <;> decide
  · intro f hf
    simp only [List.mem_cons, List.not_mem_nil, or_false] at hf
    rcases hf with rfl | rfl | rfl | rfl | rfl | rfl
    · exact ⟨_, _, ptP0 x w, ptP0 y w, h1 _ _ _⟩
    · exact ⟨_, _, ptP1 x w, ptP1 y w, h3 _ _ _⟩
    · exact ⟨_, _, ptP2 x w, ptP2 y w, h3 _ _ _⟩
    · exact ⟨_, _, ptP3 x w, ptP3 y w, h2 _ _ _⟩
    · exact ⟨_, _, ptP4 x w, ptP4 y w, h2 _ _ _⟩
    · exact ⟨_, _, ptP5 x w, ptP5 y w, h1 _ _ _⟩
theorem neqP (x y : Od) (w : World) : (binOp .neq 38 (.agg (OC x)) (.agg (OC y))).run Tryz.prog w = .ok (.bool (!eqO x y)) w := by
  rw [run_neq_struct, eq_ordP]; rfl
theorem ptR0 (x : Od) (w : World) : (part 35 (OC x) 0).run Tryz.prog w = .ok (.int .u64 (fld x 0)) w := by kernel_rfl
theorem ptR1 (x : Od) (w : World) : (part 3 (OC x) 1).run Tryz.prog w = .ok (.int .i64 (fld x 1)) w := by kernel_rfl
theorem ptR2 (x : Od) (w : World) : (part 3 (OC x) 2).run Tryz.prog w = .ok (.int .i64 (fld x 2)) w := by kernel_rfl
theorem ptR3 (x : Od) (w : World) : (part 2 (OC x) 3).run Tryz.prog w = .ok (.int .i64 (fld x 3)) w := by kernel_rfl
theorem ptR4 (x : Od) (w : World) : (part 2 (OC x) 4).run Tryz.prog w = .ok (.int .i64 (fld x 4)) w := by kernel_rfl
theorem ptR5 (x : Od) (w : World) : (part 35 (OC x) 5).run Tryz.prog w = .ok (.int .u64 (fld x 5)) w := by kernel_rfl
theorem eq_ordR (x y : Od) (w : World) : (Op.equalIn 10000 49 (.agg (OC x)) (.agg (OC y))).run Tryz.prog w = .ok (eqO x y) w := by
  rw [run_equalIn_agg w 9999 49 _ _ (by unfold Program.fieldsOf; rw [Tryz.underlying49]) (by kernel_rfl)]
  have h1 : ∀ (a b : Int) (w : World), (Op.equalIn 9999 35 (.int .u64 a) (.int .u64 b)).run Tryz.prog w = .ok (a == b) w := fun a b w => run_equalIn_int w 9998 _ _ _ a b Tryz.underlying35
  have h2 : ∀ (a b : Int) (w : World), (Op.equalIn 9999 2 (.int .i64 a) (.int .i64 b)).run Tryz.prog w = .ok (a == b) w := fun a b w => run_equalIn_int w 9998 _ _ _ a b Tryz.underlying2
  have h3 : ∀ (a b : Int) (w : World), (Op.equalIn 9999 3 (.int .i64 a) (.int .i64 b)).run Tryz.prog w = .ok (a == b) w := fun a b w => run_equalIn_int w 9998 _ _ _ a b Tryz.underlying3
  unfold Program.fieldsOf
  rw [Tryz.underlying49]
  refine (eqf w 9999 _ _ _ ?_ (fun f => fld x f.offset == fld y f.offset) ?_).trans rfl
  · intro f hf
    simp only [List.mem_cons, List.not_mem_nil, or_false] at hf
    rcases hf with rfl | rfl | rfl | rfl | rfl | rfl <;> decide
  · intro f hf
    simp only [List.mem_cons, List.not_mem_nil, or_false] at hf
    rcases hf with rfl | rfl | rfl | rfl | rfl | rfl
    · exact ⟨_, _, ptR0 x w, ptR0 y w, h1 _ _ _⟩
    · exact ⟨_, _, ptR1 x w, ptR1 y w, h3 _ _ _⟩
    · exact ⟨_, _, ptR2 x w, ptR2 y w, h3 _ _ _⟩
    · exact ⟨_, _, ptR3 x w, ptR3 y w, h2 _ _ _⟩
    · exact ⟨_, _, ptR4 x w, ptR4 y w, h2 _ _ _⟩
    · exact ⟨_, _, ptR5 x w, ptR5 y w, h1 _ _ _⟩
theorem neqR (x y : Od) (w : World) : (binOp .neq 49 (.agg (OC x)) (.agg (OC y))).run Tryz.prog w = .ok (.bool (!eqO x y)) w := by
  rw [run_neq_struct, eq_ordR]; rfl
end Go.Proofs.YtpigkmfegmfelaaGreat
namespace Go.Proofs.YtpigkmfegmfelaaGreat
open Go.RowKit Go.Sort Go.Lib Go.Shelf

def eqL : List Od → List Od → Bool
  | [], [] => true
  | x :: l, y :: m => eqO x y && eqL l m
  | _, _ => false
theorem eqL_iff : ∀ (l m : List Od), eqL l m = true ↔ l = m
  | [], [] => by simp [eqL]
  | x :: l, y :: m => by simp [eqL, eqO_iff, eqL_iff l m]
  | [], y :: m => by simp [eqL]
  | x :: l, [] => by simp [eqL]
theorem eqL_no {l m : List Od} {i : Nat} (_hi : i < l.length) (_hl : l.length = m.length) (h : eqO l[i]! m[i]! = false) : eqL l m = false := by
  cases e : eqL l m with
  | false => rfl
  | true =>
    rw [eqL_iff] at e
    subst e
    have := (eqO_iff l[i]! l[i]!).2 rfl
    rw [h] at this; cases this
theorem eqL_yes {l m : List Od} (hl : l.length = m.length) (h : ∀ i, i < l.length → l[i]! = m[i]!) : eqL l m = true := by
  rw [eqL_iff]
  apply List.ext_getElem hl
  intro i h1 h2
  have := h i h1
  rwa [getElem!_pos l i h1, getElem!_pos m i h2] at this
def EqIs (w : World) (b : Bool) (e : Ending) (w' : World) : Prop := e = .returned (.bool b) ∧ Gw w w'
theorem equal_c (A B : Option Addr) (n c c' : Nat) (L M : List Od) (w : World) (H : Ods w A n L) (K : Ods w B n M) (hn : n ≤ 1000) :
    Calls Tryz.prog 68 #[.slice A n c, .slice B n c'] w (EqIs w (eqL L M)) := by
  have mixed : Tryz.prog.follows .mixedOrders = true := by kernel_rfl
  obtain ⟨hl, _, _, h⟩ := H
  obtain ⟨kl, _, _, k⟩ := K
  have HLn := Lib.hid hl
  have KLn := Lib.hid kl
  have HH := Lib.hid h
  have KK := Lib.hid k
  have HE := Lib.hid (fun q : Nat => (show EqIs w (eqL L M) (.returned (.bool (eqL L M))) (w.drewN q) from ⟨rfl, ⟨below_drewN (Below.refl _ _) _, Nat.le_add_right _ _⟩⟩))
  clear hl kl h k
  go_enter Tryz.func68, Tryz.ntmps68
  go_wp2
  go_loopg [13] n (fun kx s13 wr => ∃ i q : Nat, s13 = .int .i64 i ∧ i ≤ n ∧ n - i ≤ kx ∧ wr = w.drewN q ∧ Hid (∀ j, j < i → L[j]! = M[j]!))
  case atStart => exact ⟨0, 0, rfl, by omega, by omega, rfl, Lib.hid (fun j hj => by omega)⟩
  case round =>
    obtain ⟨i, q, rfl, hin, hkx, rfl, HI⟩ := hrel
    by_cases hlt : i < n
    · have hltz : (i : Int) < (n : Int) := by omega
      have h1 := HH.out
      have k1 := KK.out
      rcases h1 with h1 | ⟨b, off, rfl, _, hc⟩
      · omega
      rcases k1 with k1 | ⟨b', off', rfl, _, kc⟩
      · omega
      have hx := hc i hlt
      have hy := kc i hlt
      clear hc kc
      obtain ⟨x, ex⟩ : ∃ x, L[i]! = x := ⟨_, rfl⟩
      obtain ⟨y, ey⟩ : ∃ y, M[i]! = y := ⟨_, rfl⟩
      rw [ex] at hx
      rw [ey] at hy
      have XY : Hid (L[i]! = x ∧ M[i]! = y) := ⟨ex, ey⟩
      clear ex ey
      obtain ⟨x0, x1, x2, x3, x4, x5⟩ := hx
      obtain ⟨y0, y1, y2, y3, y4, y5⟩ := hy
      have hq := neqP x y
      cases he : eqO x y with
      | true =>
        rw [he] at hq
        have HN : Hid (∀ j, j < i + 1 → L[j]! = M[j]!) := Lib.hid (fun j hj => by
          by_cases e : j < i
          · exact HI.out j e
          · obtain rfl : j = i := by omega
            rw [XY.out.1, XY.out.2]; exact (eqO_iff x y).1 he)
        clear he
        go_wp2_with fail
        go_quiet (fail)
        go_wp2_with fail
        go_roundg (n - (i + 1))
        case measure => omega
        case rel => exact ⟨i + 1, q + nq, by go_num, by omega, by omega, (by first | rfl | exact World.drewN_drewN _ _ _), HN⟩
      | false =>
        rw [he] at hq
        have HF : Hid (eqL L M = false) := Lib.hid (eqL_no (i := i) (by rw [HLn.out]; exact hlt) (by rw [HLn.out, KLn.out]) (by rw [XY.out.1, XY.out.2]; exact he))
        clear he
        go_wp2_with fail
        go_quiet (fail)
        go_wp2_with fail
        go_ret
        try rw [World.drewN_drewN]
        have := HE.out (q + nq)
        rw [HF.out] at this
        rw [HF.out]
        exact this
    · have hltz : ¬ (i : Int) < (n : Int) := by omega
      obtain rfl : i = n := by omega
      have HF : Hid (eqL L M = true) := Lib.hid (eqL_yes (by rw [HLn.out, KLn.out]) (fun j hj => HI.out j (by rw [HLn.out] at hj; exact hj)))
      go_wp2
      go_ret
      have := HE.out q
      rw [HF.out] at this
      rw [HF.out]
      exact this

def eU (z : Int) : Value := .int .u64 z
theorem eU_one : OneCell eU := fun _ => rfl
theorem lessU_c (x y : Int) (W : World) : Calls Tryz.prog 110 #[.int .u64 x, .int .u64 y] W fun e w' => e = .returned (.bool (ltInt x y)) ∧ w' = W := by
  have HN := Lib.hid isNaN_c
  cases h : ltInt x y with
  | true =>
    have h1 : x < y := by unfold ltInt at h; simpa using h
    go_enter Tryz.func110, Tryz.ntmps110
    go_wp2_with ((with_reducible refine (HN.out _ _).mono ?_); rintro e w' ⟨rfl, rfl⟩)
    go_ret
    exact ⟨rfl, rfl⟩
  | false =>
    have h1 : ¬ x < y := by unfold ltInt at h; simpa using h
    have g1 : decide (x < y) = false := decide_eq_false h1
    go_enter Tryz.func110, Tryz.ntmps110
    go_wp2_with ((with_reducible refine (HN.out _ _).mono ?_); rintro e w' ⟨rfl, rfl⟩)
    go_ret
    exact ⟨rfl, rfl⟩

theorem insU_c (blk off cap a b : Nat) (za zb : Int) (d0 d : Array Int) (w0 w : World) (n : Nat) (ha : za = a) (hb' : zb = b) (hn : n = d.size) (R : Row1 eU w0 blk off d0) (hs : d0.size = d.size) (S : SW eU w0 blk off d w) (hab : a ≤ b) (hb : b ≤ d.size) (hsz : d.size < 4611686018427387904) :
    Calls Tryz.prog 104 #[.slice (some ⟨blk, off, none⟩) n cap, .int .i64 za, .int .i64 zb] w fun e w' => e = .returned (.tuple #[]) ∧
      ∃ d', SW eU w0 blk off d' w' ∧ PermIn a b d d' ∧ SortedIn ltInt a b d' := by
  subst ha hb' hn
  have mixed : Tryz.prog.follows .mixedOrders = true := by kernel_rfl
  have S0 : Aside (SW eU w0 blk off d w) := S
  have HS := Lib.hid hs
  have HL := Lib.hid lessU_c
  clear S hs
  go_enter Tryz.func104, Tryz.ntmps104
  go_wp2
  go_loopg [6] (b - a) (fun kx s6 wr => ∃ (i : Nat) (dk : Array Int), s6 = .int .i64 i ∧ a < i ∧ i ≤ b + 1 ∧ b + 1 - i ≤ kx + 1 ∧ Aside (SW eU w0 blk off dk wr) ∧ PermIn a b d dk ∧ Hid (SortedIn ltInt a i dk))
  case atStart => exact ⟨a + 1, d, by go_num, by omega, by omega, by omega, S0, permIn_refl _ _ _, Lib.hid (fun i j h1 h2 h3 => by omega)⟩
  case round =>
    clear S0
    obtain ⟨i, dk, rfl, hai, hib, hkx, S1, HPm, HO⟩ := hrel
    have HD : Hid (dk.size = d.size) := HPm.1
    by_cases hlt : i < b
    · have hltz : (i : Int) < (b : Int) := by omega
      have HI0 : Hid (Ins ltInt a i i dk) := Lib.hid ⟨fun p q h1 h2 h3 h4 h5 => HO.out p q h1 h2 (by omega), fun q h1 h2 => by omega⟩
      clear HO
      go_wp2
      go_loopg [7] i (fun g2 s7 wr2 => ∃ (j : Nat) (dj : Array Int), s7 = .int .i64 j ∧ a ≤ j ∧ j ≤ i ∧ j ≤ g2 ∧ Aside (SW eU w0 blk off dj wr2) ∧ PermIn a b d dj ∧ Hid (Ins ltInt a j i dj))
      case atStart => exact ⟨i, dk, rfl, by omega, Nat.le_refl _, Nat.le_refl _, S1, HPm, HI0⟩
      case round =>
        clear S1 HI0 HPm HD
        obtain ⟨j1, dj, rfl, haj, hji, hg2, S1, HPm, HI⟩ := hrel
        have HD : Hid (dj.size = d.size) := HPm.1
        by_cases hja : a < j1
        · obtain ⟨j, rfl⟩ : ∃ j, j1 = j + 1 := ⟨j1 - 1, by omega⟩
          have hjz : (a : Int) < (j : Int) + 1 := by omega
          have wc : IntKind.i64.wrap ((j : Int) + 1 - 1) = (j : Int) := by rw [IntKind.wrap_i64]; omega
          have wc' : IntKind.i64.wrap (j : Int) = (j : Int) := by rw [IntKind.wrap_i64]; omega
          have bz : (j : Int) + 1 < (d.size : Int) := by omega
          have bt : ((j : Int) + 1).toNat = j + 1 := by omega
          have b0 : (0 : Int) ≤ (j : Int) + 1 := by omega
          have hsz2 := HD.out
          obtain ⟨x, hx⟩ : ∃ x, dj[j + 1]! = x := ⟨_, rfl⟩
          obtain ⟨y, hy⟩ : ∃ y, dj[j]! = y := ⟨_, rfl⟩
          have cx := S1.out.c1 R (by rw [HD.out]; exact HS.out.symm) (j + 1) (by omega)
          have cy := S1.out.c1 R (by rw [HD.out]; exact HS.out.symm) (j) (by omega)
          rw [hx] at cx
          rw [hy] at cy
          have cx' : wr.cell? ⟨blk, off + (j + 1), none⟩ = some (.int .u64 x) := cx
          have cy' : wr.cell? ⟨blk, off + (j), none⟩ = some (.int .u64 y) := cy
          clear cx cy
          have XY : Hid (dj[j + 1]! = x ∧ dj[j]! = y) := ⟨hx, hy⟩
          clear hx hy
          have bp : ((j + 1 : Nat) : Int) < (d.size : Int) := by omega
          have bq : ((j : Nat) : Int) < (d.size : Int) := by omega
          clear hsz2
          cases hl : ltInt x y with
          | true =>
            have HN : Hid (Ins ltInt a j i (swp dj (j + 1) j)) := Lib.hid (HI.out.step (by rw [XY.out.1, XY.out.2]; exact hl) (by omega) (by rw [HD.out]; omega))
            have HPn : PermIn a b d (swp dj (j + 1) j) := permIn_trans _ _ _ _ _ HPm (swp_permIn dj a b (j + 1) j (by omega) (by omega) (by omega) (by omega) (by rw [HD.out]; omega))
            go_wp2_with fail
            go_quiet ((go_at_call 110; with_reducible exact Calls.quiet_of_same (HL.out _ _ _)))
            go_wp2_with fail
            have S3 : Aside (SW eU w0 blk off dj (wr.drewN nq)) := S1.out.drewN nq
            clear cx' cy' S1 HPm HI hl
            generalize wr.drewN nq = wq at S3 ⊢
            have hsz2 := HD.out
            have S2 := S3.out.swapped R (j + 1) (j) (by omega) (by omega)
            have ca := S3.out.c1 R (by rw [HD.out]; exact HS.out.symm) (j + 1) (by omega)
            have cb := S3.out.c1 R (by rw [HD.out]; exact HS.out.symm) (j) (by omega)
            have fa := S3.out.f1 R (by rw [HD.out]; exact HS.out.symm) (j + 1) (by omega)
            have fb := S3.out.f1 R (by rw [HD.out]; exact HS.out.symm) (j) (by omega)
            obtain ⟨uc, cc⟩ := S3.out.c2 R (by rw [HD.out]; exact HS.out.symm) (j + 1) (j) (by omega) (by omega) (eU dj[j]!)
            generalize dj[j + 1]! = vI at S2 ca cc
            generalize dj[j]! = vJ at S2 cb cc
            replace S2 : Aside (SW eU w0 blk off (swp dj (j + 1) (j)) ((wq.setCell ⟨blk, off + (j + 1), none⟩ (.int .u64 vJ)).setCell ⟨blk, off + (j), none⟩ (.int .u64 vI)).drew) := S2
            replace ca : wq.cell? ⟨blk, off + (j + 1), none⟩ = some (.int .u64 vI) := ca
            replace cb : wq.cell? ⟨blk, off + (j), none⟩ = some (.int .u64 vJ) := cb
            replace cc : (wq.setCell ⟨blk, off + (j + 1), none⟩ (.int .u64 vJ)).cell? ⟨blk, off + (j), none⟩ = some uc := cc
            clear S3
            go_wp2_with fail
            go_big_region
            clear ca cb fa fb cc
            generalize ((wq.setCell ⟨blk, off + (j + 1), none⟩ (.int .u64 vJ)).setCell ⟨blk, off + (j), none⟩ (.int .u64 vI)).drew = w2 at S2 ⊢
            clear hsz2
            all_goals go_wp2
            go_roundg j
            case measure => omega
            case rel => exact ⟨j, swp dj (j + 1) j, by go_num, by omega, by omega, Nat.le_refl _, S2, HPn, HN⟩
          | false =>
            have HN : Hid (SortedIn ltInt a (i + 1) dj) := Lib.hid (HI.out.stop swo_ltInt (.inr (by simp only [Nat.add_sub_cancel]; rw [XY.out.1, XY.out.2]; exact hl)))
            go_wp2_with fail
            go_quiet ((go_at_call 110; with_reducible exact Calls.quiet_of_same (HL.out _ _ _)))
            have S3 : Aside (SW eU w0 blk off dj (wr.drewN nq)) := S1.out.drewN nq
            clear cx' cy' S1 HI
            generalize wr.drewN nq = wq at S3 ⊢
            go_wp2
            go_roundg (b - (i + 1))
            case measure => omega
            case rel => exact ⟨i + 1, dj, by go_num, by omega, by omega, by omega, S3, HPm, HN⟩
        · have hjz : ¬ (a : Int) < (j1 : Int) := by omega
          have hjd : decide ((j1 : Int) > (a : Int)) = false := decide_eq_false (by omega)
          have HN : Hid (SortedIn ltInt a (i + 1) dj) := Lib.hid (HI.out.stop swo_ltInt (.inl (by omega)))
          go_wp2_with fail
          go_quiet ((go_at_call 110; with_reducible exact Calls.quiet_of_same (HL.out _ _ _)))
          have S3 : Aside (SW eU w0 blk off dj (wr.drewN nq)) := S1.out.drewN nq
          clear S1 HI
          generalize wr.drewN nq = wq at S3 ⊢
          go_wp2
          go_roundg (b - (i + 1))
          case measure => omega
          case rel => exact ⟨i + 1, dj, by go_num, by omega, by omega, by omega, S3, HPm, HN⟩
    · have hltz : ¬ (i : Int) < (b : Int) := by omega
      have HF : Hid (SortedIn ltInt a b dk) := Lib.hid (fun p q h1 h2 h3 => HO.out p q h1 h2 (by omega))
      clear HO HD
      go_wp2
      go_end0
      exact ⟨rfl, dk, S1.out, HPm, HF.out⟩

theorem len_c (x : Int) (w : World) (h0 : 0 ≤ x) (h1 : x ≤ 18446744073709551615) : Calls Tryz.prog 79 #[.int .u64 x] w fun e w' => e = .returned (.int .i64 (Lib.bitLen x.toNat)) ∧ w' = w :=
  Any.bits_Len (ρ := Tryz.bitsLenL_ren) Tryz.bitsLenL x w h0 h1
def SortsU (n : Nat) : Prop := ∀ (blk off cap : Nat) (d : Array Int) (w : World), n = d.size → Holds eU w blk off d → blk < w.heap.size →
  Calls Tryz.prog 66 #[.slice (some ⟨blk, off, none⟩) n cap] w fun e w' => e = .returned (.tuple #[]) ∧ ∃ d', SW eU w blk off d' w' ∧ PermIn 0 n d d' ∧ SortedIn ltInt 0 n d'
theorem compact_c (blk off cap : Nat) (d : Array Int) (w : World) (hH : Holds eU w blk off d) (hsz : d.size ≤ 1000) (hcap : d.size ≤ cap) :
    Calls Tryz.prog 67 #[.slice (some ⟨blk, off, none⟩) d.size cap] w fun e w' => e = .returned (.slice (some ⟨blk, off, none⟩) (compactUpTo d d.size).length cap) ∧ ∃ d', SW eU w blk off d' w' := by
  refine (AnyE.slices_Compact (ρ := Tryz.compactL_ren) Tryz.compactL eU eU_one (EqlAt.intD _ _ _) (NeqAt.intD _ _ _) 0 Tryz.zeroValue35 blk off cap d w hH (by omega) hcap).mono ?_
  rintro e w' ⟨rfl, q, rfl⟩
  exact ⟨rfl, _, q, #[], by unfold sortWorld; rw [grow_empty]⟩

def bookO (L : List Od) : Bool := decide (L.length ≤ 64) && (L.all goodO && (decide ((L.map Od.id).Nodup) && eqL L (sortO L)))
theorem keeps_iff (d : Array Int) (j : Nat) : keeps d j = true ↔ j = 0 ∨ d[j - 1]! ≠ d[j]! := by
  unfold keeps; by_cases h : j = 0 <;> simp [h] <;> exact ⟨fun h e => h e.symm, fun h e => h e.symm⟩
theorem compact_len {d d' : Array Int} {n : Nat} (hn : d.size = n) (P : PermIn 0 n d d') (S : SortedIn ltInt 0 n d') : (compactUpTo d' n).length = n ↔ d.toList.Nodup := by
  have hn' : d'.size = n := P.1.trans hn
  have e1 : d'.extract 0 n = d' := by rw [← hn']; exact Array.extract_size
  have e2 : d.extract 0 n = d := by rw [← hn]; exact Array.extract_size
  have hp := P.2.2
  rw [e1, e2] at hp
  rw [← hp.nodup_iff]
  unfold compactUpTo
  rw [List.length_map]
  have hl : ((List.range n).filter (keeps d')).length = n ↔ ∀ j, j < n → keeps d' j = true := by
    constructor
    · intro h j hj
      have := List.length_filter_eq_length_iff.1 (h.trans List.length_range.symm)
      exact this j (List.mem_range.2 hj)
    · intro h
      rw [List.filter_eq_self.2 (fun j hj => h j (List.mem_range.1 hj)), List.length_range]
  rw [hl]
  constructor
  · intro h
    have hs : ∀ i j, i < j → j < n → d'[i]! < d'[j]! := by
      intro i j hij hj
      induction j with
      | zero => omega
      | succ j ih =>
        have h1 := S j (j + 1) (Nat.zero_le _) (by omega) hj
        have h2 := (keeps_iff d' (j + 1)).1 (h (j + 1) hj)
        unfold ltInt at h1
        simp only [decide_eq_false_iff_not, Int.not_lt] at h1
        have h3 : d'[j]! < d'[j + 1]! := by
          rcases h2 with h2 | h2
          · omega
          · simp only [Nat.add_sub_cancel] at h2; omega
        by_cases e : i = j
        · subst e; exact h3
        · exact Int.lt_trans (ih (by omega) (by omega)) h3
    unfold List.Nodup
    rw [List.pairwise_iff_getElem]
    intro i j hi hj hij
    have := hs i j hij (by simpa [hn'] using hj)
    rw [getElem!_pos d' i (by simpa using hi), getElem!_pos d' j (by simpa using hj)] at this
    simp only [Array.getElem_toList]
    omega
  · intro h j hj
    rw [keeps_iff]
    by_cases e : j = 0
    · exact .inl e
    · right
      unfold List.Nodup at h
      rw [List.pairwise_iff_getElem] at h
      have := h (j - 1) j (by simp [hn']; omega) (by simp [hn']; omega) (by omega)
      rw [getElem!_pos d' (j - 1) (by omega), getElem!_pos d' j (by omega)]
      simpa using this
theorem su_below {w0 w : World} {blk : Nat} {d : Array Int} {B : Nat} (S : SW eU w0 blk 0 d w) (hB : B ≤ blk) (hs : B ≤ w0.heap.size) : Below B w0 w := by
  obtain ⟨n, os, rfl⟩ := S
  refine ⟨rfl, rfl, rfl, ?_, fun j hj => ?_⟩
  · unfold sortWorld; rw [size_grow, size_putRow]; exact Nat.le_add_right _ _
  · unfold sortWorld
    rw [heap_grow_old _ _ (by rw [size_putRow]; show j < w0.heap.size; omega)]
    unfold putRow mapBlock
    show (w0.heap.modify blk _)[j]? = _
    rw [Array.getElem?_modify, if_neg (by omega)]
theorem own_u {w : World} {base n g cap : Nat} {zs : List Int} (h : w.ownsRow base 35 1 (.slice (some ⟨g, 0, none⟩) n cap) n (zs.map eU)) : zs.length = n ∧ n ≤ cap ∧ g < w.heap.size ∧ Holds eU w g 0 zs.toArray := by
  obtain ⟨h1, h2⟩ := h
  rw [List.length_map, Nat.mul_one] at h1
  rcases h2 with ⟨h0, _⟩ | ⟨k, cap', cur, hv, hb, hk, hc, hm, hs, ht⟩
  · cases h0
  · injection hv with e1 e2 e3
    injection e1 with e1
    injection e1 with e1
    subst e1 e3
    refine ⟨h1, hc, blk_lt hk, fun j hj => ⟨?_, frozen_of_row _ _ _ _ _ hk⟩⟩
    have hj' : j < zs.length := by simpa using hj
    have hx : (zs.map eU)[j]? = some (eU zs.toArray[j]!) := by
      rw [List.getElem?_map, List.getElem?_eq_getElem hj', getElem!_pos zs.toArray j hj]
      rfl
    rw [Nat.zero_add, cell_of_row _ _ _ _ _ _ hk]
    rw [← ht, List.getElem?_take, if_pos (by omega), Array.getElem?_toList] at hx
    exact hx
theorem ids_one (z : Int) : ∀ u ∈ [Value.int .u64 z], u.oneCell' = true := by
  intro u hu; simp at hu; subst hu; rfl
def idc (L : List Od) (i : Nat) : List Value := ((L.take i).map Od.id).map eU
theorem ids_snoc {L : List Od} {i : Nat} (h : i < L.length) : idc L (i + 1) = idc L i ++ [.int .u64 (L[i]!).id] := by
  unfold idc
  rw [List.take_succ_eq_append_getElem h, List.map_append, List.map_append, getElem!_pos L i h]; rfl
theorem info_u64 : (Tryz.prog.info? 35).map (fun i => (i.zero, i.size, i.bytes)) = some (some (.int .u64 0), 1, 8) := by kernel_rfl
def BookIs (w : World) (b : Bool) (e : Ending) (w' : World) : Prop := e = .returned (.bool b) ∧ Below w.heap.size w w'
theorem book_long {L : List Od} (h : ¬ L.length ≤ 64) : bookO L = false := by unfold bookO; rw [decide_eq_false h, Bool.false_and]
theorem book_bad {L : List Od} {i : Nat} (hi : i < L.length) (h : goodO L[i]! = false) : bookO L = false := by
  unfold bookO
  have : L.all goodO = false := by
    rw [List.all_eq_false]
    exact ⟨L[i]!, by rw [getElem!_pos L i hi]; exact List.getElem_mem _, by rw [h]; exact Bool.false_ne_true⟩
  rw [this, Bool.false_and, Bool.and_false]
theorem book_twice {L : List Od} (h : ¬ (L.map Od.id).Nodup) : bookO L = false := by
  unfold bookO
  rw [decide_eq_false h, Bool.false_and, Bool.and_false, Bool.and_false]
theorem book_else {L : List Od} (h1 : L.length ≤ 64) (h2 : ∀ i, i < L.length → goodO L[i]! = true) (h3 : (L.map Od.id).Nodup) : bookO L = eqL L (sortO L) := by
  unfold bookO
  have : L.all goodO = true := by
    rw [List.all_eq_true]
    intro x hx
    obtain ⟨i, hi, rfl⟩ := List.getElem_of_mem hx
    have := h2 i hi
    rwa [getElem!_pos L i hi] at this
  rw [decide_eq_true h1, this, decide_eq_true h3]
  rfl

section
variable {ops : Array Oper} {rest : List Oper} {o : Oper} {a : Act} {w : World} {Q : Exit → Act → World → Prop}
end
theorem bookLong_c (A : Option Addr) (n c : Nat) (L : List Od) (w : World) (hl : L.length = n) (h : ¬ n ≤ 64) : Calls Tryz.prog 43 #[.slice A n c] w (BookIs w (bookO L)) := by
  have e : bookO L = false := book_long (by omega)
  rw [e]
  have hz : (64 : Int) < (n : Int) := by omega
  clear h
  go_enter Tryz.func43, Tryz.ntmps43
  go_wp2_with fail
  go_ret
  exact ⟨rfl, Below.refl _ _⟩

def CapOk (A : Option Addr) (n c : Nat) : Prop := n ≤ c ∧ (A = none → c = 0)
theorem own_ods {w : World} {base n : Nat} {T : TypeId} {v : Value} {L : List Od} (h : w.ownsRow base T 6 v n (ol L)) (hn : n ≤ 1000) (hok : ∀ x ∈ L, Od.ok w x) : ∃ A c, v = .slice A n c ∧ CapOk A n c ∧ Ods w A n L := by
  obtain ⟨h1, h2⟩ := h
  rw [ol_len] at h1
  have hl : L.length = n := by omega
  rcases h2 with ⟨hv, h0⟩ | ⟨k, cap, cur, hv, _, hk, hc, hm, hs, ht⟩
  · subst h0; exact ⟨none, 0, hv, ⟨Nat.le_refl _, fun _ => rfl⟩, hl, by omega, hok, .inl rfl⟩
  · refine ⟨_, _, hv, ⟨hc, fun h => by cases h⟩, hl, by omega, hok, .inr ⟨k, 0, rfl, blk_lt hk, fun i hi => ?_⟩⟩
    have hcell : ∀ j v, (ol L)[j]? = some v → w.cell? ⟨k, 0 + j, none⟩ = some v := by
      intro j v hj
      rw [← ht, List.getElem?_take] at hj
      split at hj
      · rw [Array.getElem?_toList] at hj
        rw [Nat.zero_add, cell_of_row _ _ _ _ _ _ hk, hj]
      · cases hj
    have g : ∀ c v, c < 6 → (encO L[i]!)[c]? = some v → w.cell? ⟨k, 0 + i * 6 + c, none⟩ = some v := fun c v hc hv => by
      rw [Nat.add_assoc]
      exact hcell (i * 6 + c) v ((ol_get L i c (by omega) hc).trans hv)
    exact ⟨g 0 _ (by omega) rfl, g 1 _ (by omega) rfl, g 2 _ (by omega) rfl, g 3 _ (by omega) rfl, g 4 _ (by omega) rfl, g 5 _ (by omega) rfl⟩
theorem ol_app (L : List Od) (x : Od) : ol (L ++ [x]) = ol L ++ encO x := by
  unfold ol
  rw [List.flatMap_append]
  simp
theorem six_news (w : World) (x : Od) : ∀ (j : Nat) (u : Value), (encO x)[j]? = some u → (w.alloc (Obj.cells (OC x) 49)).cell? ((⟨w.heap.size, 0, none⟩ : Addr).add j) = some u := by
  intro j u hu
  rw [addr_add, cell_of_row _ _ _ _ _ _ (heap_alloc_new w _)]
  match j, hu with
  | 0, hu => simpa [encO] using hu
  | 1, hu => simpa [encO] using hu
  | 2, hu => simpa [encO] using hu
  | 3, hu => simpa [encO] using hu
  | 4, hu => simpa [encO] using hu
  | 5, hu => simpa [encO] using hu
theorem info_ro : (Tryz.prog.info? 49).map (fun i => (i.zero, i.size, i.bytes)) = some (some (.agg (OC ⟨0, 0, 0, 0, 0, 0⟩)), 6, 48) := by kernel_rfl
theorem enc_one (x : Od) : ∀ u ∈ encO x, u.oneCell' = true := fun u hu => encD_one (x, 0) u hu

def RowIs (w : World) (L : List Od) (e : Ending) (w' : World) : Prop := ∃ A n c, e = .returned (.slice A n c) ∧ Hid (Below w.heap.size w w' ∧ Ods w' A n L ∧ CapOk A n c)

theorem same_c (A B : Option Addr) (n c c' : Nat) (L M : List Od) (w : World) (H : Ods w A n L) (K : Ods w B n M) (hn : n ≤ 1000) :
    Calls Tryz.prog 14 #[.slice A n c, .slice B n c'] w (EqIs w (eqL L M)) := by
  have mixed : Tryz.prog.follows .mixedOrders = true := by kernel_rfl
  obtain ⟨hl, _, _, h⟩ := H
  obtain ⟨kl, _, _, k⟩ := K
  have HLn := Lib.hid hl
  have KLn := Lib.hid kl
  have HH := Lib.hid h
  have KK := Lib.hid k
  have HE := Lib.hid (fun q : Nat => (show EqIs w (eqL L M) (.returned (.bool (eqL L M))) (w.drewN q) from ⟨rfl, ⟨below_drewN (Below.refl _ _) _, Nat.le_add_right _ _⟩⟩))
  clear hl kl h k
  go_enter Tryz.func14, Tryz.ntmps14
  have enn : ((n : Int) == (n : Int)) = true := by simp
  go_wp2
  go_loopg [13] n (fun kx s13 wr => ∃ i q : Nat, s13 = .int .i64 i ∧ i ≤ n ∧ n - i ≤ kx ∧ wr = w.drewN q ∧ Hid (∀ j, j < i → L[j]! = M[j]!))
  case atStart => exact ⟨0, 0, rfl, by omega, by omega, rfl, Lib.hid (fun j hj => by omega)⟩
  case round =>
    obtain ⟨i, q, rfl, hin, hkx, rfl, HI⟩ := hrel
    by_cases hlt : i < n
    · have hltz : (i : Int) < (n : Int) := by omega
      have h1 := HH.out
      have k1 := KK.out
      rcases h1 with h1 | ⟨b, off, rfl, _, hc⟩
      · omega
      rcases k1 with k1 | ⟨b', off', rfl, _, kc⟩
      · omega
      have hx := hc i hlt
      have hy := kc i hlt
      clear hc kc
      obtain ⟨x, ex⟩ : ∃ x, L[i]! = x := ⟨_, rfl⟩
      obtain ⟨y, ey⟩ : ∃ y, M[i]! = y := ⟨_, rfl⟩
      rw [ex] at hx
      rw [ey] at hy
      have XY : Hid (L[i]! = x ∧ M[i]! = y) := ⟨ex, ey⟩
      clear ex ey
      obtain ⟨x0, x1, x2, x3, x4, x5⟩ := hx
      obtain ⟨y0, y1, y2, y3, y4, y5⟩ := hy
      have hq := neqR x y
      cases he : eqO x y with
      | true =>
        rw [he] at hq
        have HN : Hid (∀ j, j < i + 1 → L[j]! = M[j]!) := Lib.hid (fun j hj => by
          by_cases e : j < i
          · exact HI.out j e
          · obtain rfl : j = i := by omega
            rw [XY.out.1, XY.out.2]; exact (eqO_iff x y).1 he)
        clear he
        go_wp2_with fail
        go_quiet (fail)
        go_wp2_with fail
        go_roundg (n - (i + 1))
        case measure => omega
        case rel => exact ⟨i + 1, q + nq, by go_num, by omega, by omega, (by first | rfl | exact World.drewN_drewN _ _ _), HN⟩
      | false =>
        rw [he] at hq
        have HF : Hid (eqL L M = false) := Lib.hid (eqL_no (i := i) (by rw [HLn.out]; exact hlt) (by rw [HLn.out, KLn.out]) (by rw [XY.out.1, XY.out.2]; exact he))
        clear he
        go_wp2_with fail
        go_quiet (fail)
        go_wp2_with fail
        go_ret
        try rw [World.drewN_drewN]
        have := HE.out (q + nq)
        rw [HF.out] at this
        rw [HF.out]
        exact this
    · have hltz : ¬ (i : Int) < (n : Int) := by omega
      obtain rfl : i = n := by omega
      have HF : Hid (eqL L M = true) := Lib.hid (eqL_yes (by rw [HLn.out, KLn.out]) (fun j hj => HI.out j (by rw [HLn.out] at hj; exact hj)))
      go_wp2
      go_ret
      have := HE.out q
      rw [HF.out] at this
      rw [HF.out]
      exact this

def x1 : Od := ⟨1, 0, 1, 10, 1, 2⟩
def x2 : Od := ⟨2, 0, 1, 11, 1, 3⟩
def x3 : Od := ⟨3, 0, 1, 10, 1, 1⟩

theorem gw_grow (w : World) (n : Nat) (os : Array Obj) : Gw w (grow (w.drewN n) os) :=
  ⟨⟨rfl, rfl, rfl, by rw [size_grow]; exact Nat.le_add_right _ _, fun j hj => by rw [heap_grow_old _ _ (by exact hj)]; rfl⟩, Nat.le_add_right _ _⟩
end Go.Proofs.YtpigkmfegmfelaaGreat
namespace Go.Proofs.YtpigkmfegmfelaaGreat
open Go.RowKit

def below (f : Nat → Bool) (k : Nat) : Nat → Bool := fun j => decide (j < k) && f j
def up (f : Nat → Bool) (k : Nat) : Nat → Bool := fun j => if k < j then f (j - 1) else f j

theorem Below.row {B g : Nat} {w0 w : World} (hb : Below B w0 w) (hBg : B ≤ g) (cs : Array Value) : Below B w0 (w.setRow g cs) :=
  hb.trans ⟨rfl, rfl, rfl, by simp [World.setRow], fun k hk => setRow_other w g k cs (by omega)⟩
section
variable {ops : Array Oper} {rest : List Oper} {o : Oper} {a : Act} {w : World} {Q : Exit → Act → World → Prop}
end
end Go.Proofs.YtpigkmfegmfelaaGreat

namespace Go.Proofs.YtpigkmfegmfelaaGreat
open Go.RowKit

end Go.Proofs.YtpigkmfegmfelaaGreat

namespace Go.Proofs.YtpigkmfegmfelaaGreat
open Go.RowKit

end Go.Proofs.YtpigkmfegmfelaaGreat

namespace Go.Proofs.YtpigkmfegmfelaaGreat
open Go.RowKit

end Go.Proofs.YtpigkmfegmfelaaGreat

namespace Go.Proofs.YtpigkmfegmfelaaGreat
open Go.RowKit

end Go.Proofs.YtpigkmfegmfelaaGreat

namespace Go.Proofs.YtpigkmfegmfelaaGreat
open Go.RowKit

end Go.Proofs.YtpigkmfegmfelaaGreat

namespace Go.Proofs.YtpigkmfegmfelaaGreat
open Go.RowKit

end Go.Proofs.YtpigkmfegmfelaaGreat

namespace Go.Proofs.YtpigkmfegmfelaaGreat
open Go.RowKit

end Go.Proofs.YtpigkmfegmfelaaGreat

namespace Go.Proofs.YtpigkmfegmfelaaGreat
open Go.RowKit

end Go.Proofs.YtpigkmfegmfelaaGreat

namespace Go.Proofs.YtpigkmfegmfelaaGreat
open Go.RowKit

end Go.Proofs.YtpigkmfegmfelaaGreat

namespace Go.Proofs.YtpigkmfegmfelaaGreat
open Go.RowKit

end Go.Proofs.YtpigkmfegmfelaaGreat

namespace Go.Proofs.YtpigkmfegmfelaaGreat
open Go.RowKit


def hiOf (x : Int) : Int := x / 18446744073709551616
def loOf (x : Int) : Int := x % 18446744073709551616
abbrev PV (x : Int) : Value := .agg #[.int .i64 (hiOf x), .int .u64 (loOf x)]
end Go.Proofs.YtpigkmfegmfelaaGreat

namespace Go.Proofs.YtpigkmfegmfelaaGreat
open Go.RowKit

end Go.Proofs.YtpigkmfegmfelaaGreat

namespace Go.Proofs.YtpigkmfegmfelaaGreat
open Go.RowKit

end Go.Proofs.YtpigkmfegmfelaaGreat

namespace Go.Proofs.YtpigkmfegmfelaaGreat
open Go.RowKit

end Go.Proofs.YtpigkmfegmfelaaGreat

namespace Go.Proofs.YtpigkmfegmfelaaGreat
open Go.RowKit

end Go.Proofs.YtpigkmfegmfelaaGreat

namespace Go.Proofs.YtpigkmfegmfelaaGreat
open Go.RowKit

end Go.Proofs.YtpigkmfegmfelaaGreat

namespace Go.Proofs.YtpigkmfegmfelaaGreat
open Go.RowKit

end Go.Proofs.YtpigkmfegmfelaaGreat

namespace Go.Proofs.YtpigkmfegmfelaaGreat
open Go.RowKit

end Go.Proofs.YtpigkmfegmfelaaGreat

namespace Go.Proofs.YtpigkmfegmfelaaGreat
open Go.RowKit

end Go.Proofs.YtpigkmfegmfelaaGreat

namespace Go.Proofs.YtpigkmfegmfelaaGreat
open Go.RowKit

end Go.Proofs.YtpigkmfegmfelaaGreat
namespace Go.Proofs.YtpigkmfegmfelaaGreat
open Go.RowKit Go.Sort Go.Lib Go.Shelf

section
variable {ops : Array Oper} {rest : List Oper} {o : Oper} {a : Act} {w : World} {Q : Exit → Act → World → Prop}
end
theorem rBetter_c (s a b : Int) (w : World) : Calls Tryz.prog 118 #[.int .i64 s, .int .i64 a, .int .i64 b] w fun e w' => e = .returned (.bool (betN s a b)) ∧ w = w' := by
  by_cases h1 : s = 1
  · have e1 : (s == 1) = true := by simp [h1]
    have e2 : (s == 2) = false := by simp [h1]
    by_cases hd : b < a
    · have e : betN s a b = true := by unfold betN; simp [h1, hd]
      have g := decide_eq_true hd
      rw [e]
      clear h1 e
      go_enter Tryz.func118, Tryz.ntmps118
      go_wp2_with fail
      go_ret
      exact ⟨rfl, rfl⟩
    · have e : betN s a b = false := by unfold betN; simp [h1]; omega
      have g := decide_eq_false hd
      rw [e]
      clear h1 e
      go_enter Tryz.func118, Tryz.ntmps118
      go_wp2_with fail
      go_ret
      exact ⟨rfl, rfl⟩
  have e1 : (s == 1) = false := by simp [h1]
  by_cases h2 : s = 2
  · have e2 : (s == 2) = true := by simp [h2]
    by_cases hd : a < b
    · have e : betN s a b = true := by unfold betN; simp [h2, hd]
      have g := decide_eq_true hd
      rw [e]
      clear h1 h2 e
      go_enter Tryz.func118, Tryz.ntmps118
      go_wp2_with fail
      go_ret
      exact ⟨rfl, rfl⟩
    · have e : betN s a b = false := by unfold betN; simp [h2]; omega
      have g := decide_eq_false hd
      rw [e]
      clear h1 h2 e
      go_enter Tryz.func118, Tryz.ntmps118
      go_wp2_with fail
      go_ret
      exact ⟨rfl, rfl⟩
  have e2 : (s == 2) = false := by simp [h2]
  have e : betN s a b = false := by unfold betN; simp [h1, h2]
  rw [e]
  clear h1 h2 e
  go_enter Tryz.func118, Tryz.ntmps118
  go_wp2_with fail
  go_ret
  exact ⟨rfl, rfl⟩
theorem ra_unlike (x y : Od) (w : World) (h : x.side ≠ y.side) : Calls Tryz.prog 83 #[.agg #[.int .u64 x.id, .int .i64 x.acc, .int .i64 x.side, .int .i64 x.price, .int .i64 x.qty, .int .u64 x.seq], .agg #[.int .u64 y.id, .int .i64 y.acc, .int .i64 y.side, .int .i64 y.price, .int .i64 y.qty, .int .u64 y.seq]] w fun e w' => e = .returned (.bool (false)) ∧ Gw w w' := by
  have e1 : (x.side != y.side) = true := by simp [h]
  clear h
  go_enter Tryz.func83, Tryz.ntmps83
  go_wp2_with fail
  go_ret
  exact ⟨rfl, ((Gw.refl w).alloc _).alloc _⟩
theorem ra_low (x y : Od) (w : World) (h : x.side = y.side) (h2 : x.side < 1) : Calls Tryz.prog 83 #[.agg #[.int .u64 x.id, .int .i64 x.acc, .int .i64 x.side, .int .i64 x.price, .int .i64 x.qty, .int .u64 x.seq], .agg #[.int .u64 y.id, .int .i64 y.acc, .int .i64 y.side, .int .i64 y.price, .int .i64 y.qty, .int .u64 y.seq]] w fun e w' => e = .returned (.bool (false)) ∧ Gw w w' := by
  have e1 : (x.side != y.side) = false := by simp [h]
  clear h
  go_enter Tryz.func83, Tryz.ntmps83
  go_wp2_with fail
  go_ret
  exact ⟨rfl, ((Gw.refl w).alloc _).alloc _⟩
theorem ra_high (x y : Od) (w : World) (h : x.side = y.side) (h2 : 2 < x.side) : Calls Tryz.prog 83 #[.agg #[.int .u64 x.id, .int .i64 x.acc, .int .i64 x.side, .int .i64 x.price, .int .i64 x.qty, .int .u64 x.seq], .agg #[.int .u64 y.id, .int .i64 y.acc, .int .i64 y.side, .int .i64 y.price, .int .i64 y.qty, .int .u64 y.seq]] w fun e w' => e = .returned (.bool (false)) ∧ Gw w w' := by
  have e1 : (x.side != y.side) = false := by simp [h]
  have e2 : ¬ x.side < 1 := by omega
  clear h
  go_enter Tryz.func83, Tryz.ntmps83
  go_wp2_with fail
  go_ret
  exact ⟨rfl, ((Gw.refl w).alloc _).alloc _⟩
theorem ra_price (x y : Od) (w : World) (h : x.side = y.side) (h1 : 1 ≤ x.side) (h2 : x.side ≤ 2) (h3 : x.price ≠ y.price) : Calls Tryz.prog 83 #[.agg #[.int .u64 x.id, .int .i64 x.acc, .int .i64 x.side, .int .i64 x.price, .int .i64 x.qty, .int .u64 x.seq], .agg #[.int .u64 y.id, .int .i64 y.acc, .int .i64 y.side, .int .i64 y.price, .int .i64 y.qty, .int .u64 y.seq]] w fun e w' => e = .returned (.bool (betN x.side x.price y.price)) ∧ Gw w w' := by
  have e1 : (x.side != y.side) = false := by simp [h]
  have e2 : ¬ x.side < 1 := by omega
  have e3 : ¬ 2 < x.side := by omega
  have e4 : (x.price != y.price) = true := by simp [h3]
  have HB := Lib.hid (rBetter_c x.side x.price y.price)
  generalize betN x.side x.price y.price = r at *
  clear h h1 h2 h3
  go_enter Tryz.func83, Tryz.ntmps83
  go_wp2_with ((with_reducible refine (HB.out _).mono ?_); rintro e w' ⟨rfl, rfl⟩)
  go_ret
  exact ⟨rfl, ((Gw.refl w).alloc _).alloc _⟩
theorem ra_seq (x y : Od) (w : World) (h : x.side = y.side) (h1 : 1 ≤ x.side) (h2 : x.side ≤ 2) (h3 : x.price = y.price) (h4 : x.seq ≠ y.seq) : Calls Tryz.prog 83 #[.agg #[.int .u64 x.id, .int .i64 x.acc, .int .i64 x.side, .int .i64 x.price, .int .i64 x.qty, .int .u64 x.seq], .agg #[.int .u64 y.id, .int .i64 y.acc, .int .i64 y.side, .int .i64 y.price, .int .i64 y.qty, .int .u64 y.seq]] w fun e w' => e = .returned (.bool (decide (x.seq < y.seq))) ∧ Gw w w' := by
  have e1 : (x.side != y.side) = false := by simp [h]
  have e2 : ¬ x.side < 1 := by omega
  have e3 : ¬ 2 < x.side := by omega
  have e4 : (x.price != y.price) = false := by simp [h3]
  have e5 : (x.seq != y.seq) = true := by simp [h4]
  clear h h1 h2 h3 h4
  go_enter Tryz.func83, Tryz.ntmps83
  go_wp2_with fail
  go_ret
  exact ⟨rfl, ((Gw.refl w).alloc _).alloc _⟩
theorem ra_id (x y : Od) (w : World) (h : x.side = y.side) (h1 : 1 ≤ x.side) (h2 : x.side ≤ 2) (h3 : x.price = y.price) (h4 : x.seq = y.seq) : Calls Tryz.prog 83 #[.agg #[.int .u64 x.id, .int .i64 x.acc, .int .i64 x.side, .int .i64 x.price, .int .i64 x.qty, .int .u64 x.seq], .agg #[.int .u64 y.id, .int .i64 y.acc, .int .i64 y.side, .int .i64 y.price, .int .i64 y.qty, .int .u64 y.seq]] w fun e w' => e = .returned (.bool (decide (x.id < y.id))) ∧ Gw w w' := by
  have e1 : (x.side != y.side) = false := by simp [h]
  have e2 : ¬ x.side < 1 := by omega
  have e3 : ¬ 2 < x.side := by omega
  have e4 : (x.price != y.price) = false := by simp [h3]
  have e5 : (x.seq != y.seq) = false := by simp [h4]
  clear h h1 h2 h3 h4
  go_enter Tryz.func83, Tryz.ntmps83
  go_wp2_with fail
  go_ret
  exact ⟨rfl, ((Gw.refl w).alloc _).alloc _⟩
theorem cmp_lt (q i q' i' : Int) : decide ((if cmpN q q' = 0 then cmpN i i' else cmpN q q') < 0) = if q ≠ q' then decide (q < q') else decide (i < i') := by
  by_cases h : q = q'
  · rw [if_pos ((cmpN_0 q q').2 h), if_neg (fun k => k h)]
    by_cases k : i < i'
    · rw [decide_eq_true k]; exact decide_eq_true ((cmpN_lt i i').2 k)
    · rw [decide_eq_false k]; exact decide_eq_false (fun h => k ((cmpN_lt i i').1 h))
  · rw [if_pos h, if_neg (fun k => h ((cmpN_0 q q').1 k))]
    by_cases k : q < q'
    · rw [decide_eq_true k]; exact decide_eq_true ((cmpN_lt q q').2 k)
    · rw [decide_eq_false k]; exact decide_eq_false (fun h => k ((cmpN_lt q q').1 h))
theorem rAhead_c (x y : Od) (w : World) : Calls Tryz.prog 83 #[.agg #[.int .u64 x.id, .int .i64 x.acc, .int .i64 x.side, .int .i64 x.price, .int .i64 x.qty, .int .u64 x.seq], .agg #[.int .u64 y.id, .int .i64 y.acc, .int .i64 y.side, .int .i64 y.price, .int .i64 y.qty, .int .u64 y.seq]] w fun e w' => e = .returned (.bool (ahdO x y)) ∧ Gw w w' := by
  unfold ahdO ahdN
  by_cases h : x.side = y.side
  rotate_left
  · rw [if_pos (.inl h)]; exact ra_unlike x y w h
  by_cases h1 : x.side < 1
  · rw [if_pos (.inr (by omega))]; exact ra_low x y w h h1
  by_cases h2 : 2 < x.side
  · rw [if_pos (.inr (by omega))]; exact ra_high x y w h h2
  rw [if_neg (by omega)]
  by_cases h3 : x.price = y.price
  rotate_left
  · rw [if_pos h3]; exact ra_price x y w h (by omega) (by omega) h3
  rw [if_neg (by simp [h3]), cmp_lt]
  by_cases h4 : x.seq = y.seq
  rotate_left
  · rw [if_pos h4]; exact ra_seq x y w h (by omega) (by omega) h3 h4
  rw [if_neg (by simp [h4])]
  exact ra_id x y w h (by omega) (by omega) h3 h4
theorem rg_w0_1 (x : Od) (w : World) (h0 : ¬ (0 ≤ x.acc)) : Calls Tryz.prog 46 #[.agg #[.int .u64 x.id, .int .i64 x.acc, .int .i64 x.side, .int .i64 x.price, .int .i64 x.qty, .int .u64 x.seq]] w fun e w' => e = .returned (.bool false) ∧ Gw w w' := by
  have g : decide (0 ≤ x.acc) = false := decide_eq_false h0
  go_enter Tryz.func46, Tryz.ntmps46
  go_wp2_with fail
  go_ret
  exact ⟨rfl, (Gw.refl w).alloc _⟩
theorem rg_w1_1 (x : Od) (w : World) (h0 : (0 ≤ x.acc)) (h1 : ¬ (x.acc < 8)) : Calls Tryz.prog 46 #[.agg #[.int .u64 x.id, .int .i64 x.acc, .int .i64 x.side, .int .i64 x.price, .int .i64 x.qty, .int .u64 x.seq]] w fun e w' => e = .returned (.bool false) ∧ Gw w w' := by
  have g : decide (x.acc < 8) = false := decide_eq_false h1
  go_enter Tryz.func46, Tryz.ntmps46
  go_wp2_with fail
  go_ret
  exact ⟨rfl, (Gw.refl w).alloc _⟩
theorem rg_w2_1 (x : Od) (w : World) (h0 : (0 ≤ x.acc)) (h1 : (x.acc < 8)) (h2 : (x.side == 1) = false) (h2' : (x.side == 2) = false) : Calls Tryz.prog 46 #[.agg #[.int .u64 x.id, .int .i64 x.acc, .int .i64 x.side, .int .i64 x.price, .int .i64 x.qty, .int .u64 x.seq]] w fun e w' => e = .returned (.bool false) ∧ Gw w w' := by
  go_enter Tryz.func46, Tryz.ntmps46
  go_wp2_with fail
  go_ret
  exact ⟨rfl, (Gw.refl w).alloc _⟩
theorem rg_w3_1 (x : Od) (w : World) (h0 : (0 ≤ x.acc)) (h1 : (x.acc < 8)) (h2 : (x.side == 1) = true) (h3 : ¬ (1 ≤ x.price)) : Calls Tryz.prog 46 #[.agg #[.int .u64 x.id, .int .i64 x.acc, .int .i64 x.side, .int .i64 x.price, .int .i64 x.qty, .int .u64 x.seq]] w fun e w' => e = .returned (.bool false) ∧ Gw w w' := by
  have g : decide (1 ≤ x.price) = false := decide_eq_false h3
  go_enter Tryz.func46, Tryz.ntmps46
  go_wp2_with fail
  go_ret
  exact ⟨rfl, (Gw.refl w).alloc _⟩
theorem rg_w3_2 (x : Od) (w : World) (h0 : (0 ≤ x.acc)) (h1 : (x.acc < 8)) (h2 : (x.side == 1) = false) (h2' : (x.side == 2) = true) (h3 : ¬ (1 ≤ x.price)) : Calls Tryz.prog 46 #[.agg #[.int .u64 x.id, .int .i64 x.acc, .int .i64 x.side, .int .i64 x.price, .int .i64 x.qty, .int .u64 x.seq]] w fun e w' => e = .returned (.bool false) ∧ Gw w w' := by
  have g : decide (1 ≤ x.price) = false := decide_eq_false h3
  go_enter Tryz.func46, Tryz.ntmps46
  go_wp2_with fail
  go_ret
  exact ⟨rfl, (Gw.refl w).alloc _⟩
theorem rg_w4_1 (x : Od) (w : World) (h0 : (0 ≤ x.acc)) (h1 : (x.acc < 8)) (h2 : (x.side == 1) = true) (h3 : (1 ≤ x.price)) (h4 : ¬ (x.price ≤ 1099511627776)) : Calls Tryz.prog 46 #[.agg #[.int .u64 x.id, .int .i64 x.acc, .int .i64 x.side, .int .i64 x.price, .int .i64 x.qty, .int .u64 x.seq]] w fun e w' => e = .returned (.bool false) ∧ Gw w w' := by
  have g : decide (x.price ≤ 1099511627776) = false := decide_eq_false h4
  go_enter Tryz.func46, Tryz.ntmps46
  go_wp2_with fail
  go_ret
  exact ⟨rfl, (Gw.refl w).alloc _⟩
theorem rg_w4_2 (x : Od) (w : World) (h0 : (0 ≤ x.acc)) (h1 : (x.acc < 8)) (h2 : (x.side == 1) = false) (h2' : (x.side == 2) = true) (h3 : (1 ≤ x.price)) (h4 : ¬ (x.price ≤ 1099511627776)) : Calls Tryz.prog 46 #[.agg #[.int .u64 x.id, .int .i64 x.acc, .int .i64 x.side, .int .i64 x.price, .int .i64 x.qty, .int .u64 x.seq]] w fun e w' => e = .returned (.bool false) ∧ Gw w w' := by
  have g : decide (x.price ≤ 1099511627776) = false := decide_eq_false h4
  go_enter Tryz.func46, Tryz.ntmps46
  go_wp2_with fail
  go_ret
  exact ⟨rfl, (Gw.refl w).alloc _⟩
theorem rg_w5_1 (x : Od) (w : World) (h0 : (0 ≤ x.acc)) (h1 : (x.acc < 8)) (h2 : (x.side == 1) = true) (h3 : (1 ≤ x.price)) (h4 : (x.price ≤ 1099511627776)) (h5 : ¬ (1 ≤ x.qty)) : Calls Tryz.prog 46 #[.agg #[.int .u64 x.id, .int .i64 x.acc, .int .i64 x.side, .int .i64 x.price, .int .i64 x.qty, .int .u64 x.seq]] w fun e w' => e = .returned (.bool false) ∧ Gw w w' := by
  have g : decide (1 ≤ x.qty) = false := decide_eq_false h5
  go_enter Tryz.func46, Tryz.ntmps46
  go_wp2_with fail
  go_ret
  exact ⟨rfl, (Gw.refl w).alloc _⟩
theorem rg_w5_2 (x : Od) (w : World) (h0 : (0 ≤ x.acc)) (h1 : (x.acc < 8)) (h2 : (x.side == 1) = false) (h2' : (x.side == 2) = true) (h3 : (1 ≤ x.price)) (h4 : (x.price ≤ 1099511627776)) (h5 : ¬ (1 ≤ x.qty)) : Calls Tryz.prog 46 #[.agg #[.int .u64 x.id, .int .i64 x.acc, .int .i64 x.side, .int .i64 x.price, .int .i64 x.qty, .int .u64 x.seq]] w fun e w' => e = .returned (.bool false) ∧ Gw w w' := by
  have g : decide (1 ≤ x.qty) = false := decide_eq_false h5
  go_enter Tryz.func46, Tryz.ntmps46
  go_wp2_with fail
  go_ret
  exact ⟨rfl, (Gw.refl w).alloc _⟩
theorem rg_w6_1 (x : Od) (w : World) (h0 : (0 ≤ x.acc)) (h1 : (x.acc < 8)) (h2 : (x.side == 1) = true) (h3 : (1 ≤ x.price)) (h4 : (x.price ≤ 1099511627776)) (h5 : (1 ≤ x.qty)) (h6 : ¬ (x.qty ≤ 1099511627776)) : Calls Tryz.prog 46 #[.agg #[.int .u64 x.id, .int .i64 x.acc, .int .i64 x.side, .int .i64 x.price, .int .i64 x.qty, .int .u64 x.seq]] w fun e w' => e = .returned (.bool false) ∧ Gw w w' := by
  have g : decide (x.qty ≤ 1099511627776) = false := decide_eq_false h6
  go_enter Tryz.func46, Tryz.ntmps46
  go_wp2_with fail
  go_ret
  exact ⟨rfl, (Gw.refl w).alloc _⟩
theorem rg_w6_2 (x : Od) (w : World) (h0 : (0 ≤ x.acc)) (h1 : (x.acc < 8)) (h2 : (x.side == 1) = false) (h2' : (x.side == 2) = true) (h3 : (1 ≤ x.price)) (h4 : (x.price ≤ 1099511627776)) (h5 : (1 ≤ x.qty)) (h6 : ¬ (x.qty ≤ 1099511627776)) : Calls Tryz.prog 46 #[.agg #[.int .u64 x.id, .int .i64 x.acc, .int .i64 x.side, .int .i64 x.price, .int .i64 x.qty, .int .u64 x.seq]] w fun e w' => e = .returned (.bool false) ∧ Gw w w' := by
  have g : decide (x.qty ≤ 1099511627776) = false := decide_eq_false h6
  go_enter Tryz.func46, Tryz.ntmps46
  go_wp2_with fail
  go_ret
  exact ⟨rfl, (Gw.refl w).alloc _⟩
theorem rg_w7_1 (x : Od) (w : World) (h0 : (0 ≤ x.acc)) (h1 : (x.acc < 8)) (h2 : (x.side == 1) = true) (h3 : (1 ≤ x.price)) (h4 : (x.price ≤ 1099511627776)) (h5 : (1 ≤ x.qty)) (h6 : (x.qty ≤ 1099511627776)) : Calls Tryz.prog 46 #[.agg #[.int .u64 x.id, .int .i64 x.acc, .int .i64 x.side, .int .i64 x.price, .int .i64 x.qty, .int .u64 x.seq]] w fun e w' => e = .returned (.bool true) ∧ Gw w w' := by
  go_enter Tryz.func46, Tryz.ntmps46
  go_wp2_with fail
  go_ret
  exact ⟨rfl, (Gw.refl w).alloc _⟩
theorem rg_w7_2 (x : Od) (w : World) (h0 : (0 ≤ x.acc)) (h1 : (x.acc < 8)) (h2 : (x.side == 1) = false) (h2' : (x.side == 2) = true) (h3 : (1 ≤ x.price)) (h4 : (x.price ≤ 1099511627776)) (h5 : (1 ≤ x.qty)) (h6 : (x.qty ≤ 1099511627776)) : Calls Tryz.prog 46 #[.agg #[.int .u64 x.id, .int .i64 x.acc, .int .i64 x.side, .int .i64 x.price, .int .i64 x.qty, .int .u64 x.seq]] w fun e w' => e = .returned (.bool true) ∧ Gw w w' := by
  go_enter Tryz.func46, Tryz.ntmps46
  go_wp2_with fail
  go_ret
  exact ⟨rfl, (Gw.refl w).alloc _⟩
theorem rGood_c (x : Od) (w : World) : Calls Tryz.prog 46 #[.agg #[.int .u64 x.id, .int .i64 x.acc, .int .i64 x.side, .int .i64 x.price, .int .i64 x.qty, .int .u64 x.seq]] w fun e w' => e = .returned (.bool (goodO x)) ∧ Gw w w' := by
  unfold goodO
  by_cases h0 : 0 ≤ x.acc
  rotate_left
  · rw [decide_eq_false h0]; simp only [Bool.false_and]; exact rg_w0_1 x w h0
  rw [decide_eq_true h0, Bool.true_and]
  by_cases h1 : x.acc < 8
  rotate_left
  · rw [decide_eq_false h1]; simp only [Bool.false_and]; exact rg_w1_1 x w h0 h1
  rw [decide_eq_true h1, Bool.true_and]
  have rk := rk_2 x.side
  cases h2 : (x.side == 1) with
  | true =>
    have e : (rkN x.side != 2) = true := by
      rw [beq_iff_eq] at h2; unfold rkN; rw [if_pos h2]; rfl
    rw [e, Bool.true_and]
    by_cases h3 : 1 ≤ x.price
    rotate_left
    · rw [decide_eq_false h3]; simp only [Bool.false_and]; exact rg_w3_1 x w h0 h1 h2 h3
    rw [decide_eq_true h3]
    rw [Bool.true_and]
    by_cases h4 : x.price ≤ 1099511627776
    rotate_left
    · rw [decide_eq_false h4]; simp only [Bool.false_and]; exact rg_w4_1 x w h0 h1 h2 h3 h4
    rw [decide_eq_true h4]
    rw [Bool.true_and]
    by_cases h5 : 1 ≤ x.qty
    rotate_left
    · rw [decide_eq_false h5]; simp only [Bool.false_and]; exact rg_w5_1 x w h0 h1 h2 h3 h4 h5
    rw [decide_eq_true h5]
    rw [Bool.true_and]
    by_cases h6 : x.qty ≤ 1099511627776
    rotate_left
    · rw [decide_eq_false h6]; exact rg_w6_1 x w h0 h1 h2 h3 h4 h5 h6
    rw [decide_eq_true h6]
    exact rg_w7_1 x w h0 h1 h2 h3 h4 h5 h6
  
  | false =>
    cases h2' : (x.side == 2) with
    | true =>
      have e : (rkN x.side != 2) = true := by
        rw [beq_iff_eq] at h2'; rw [beq_eq_false_iff_ne] at h2; unfold rkN; rw [if_neg h2, if_pos h2']; rfl
      rw [e, Bool.true_and]
      by_cases h3 : 1 ≤ x.price
      rotate_left
      · rw [decide_eq_false h3]; simp only [Bool.false_and]; exact rg_w3_2 x w h0 h1 h2 h2' h3
      rw [decide_eq_true h3]
      rw [Bool.true_and]
      by_cases h4 : x.price ≤ 1099511627776
      rotate_left
      · rw [decide_eq_false h4]; simp only [Bool.false_and]; exact rg_w4_2 x w h0 h1 h2 h2' h3 h4
      rw [decide_eq_true h4]
      rw [Bool.true_and]
      by_cases h5 : 1 ≤ x.qty
      rotate_left
      · rw [decide_eq_false h5]; simp only [Bool.false_and]; exact rg_w5_2 x w h0 h1 h2 h2' h3 h4 h5
      rw [decide_eq_true h5]
      rw [Bool.true_and]
      by_cases h6 : x.qty ≤ 1099511627776
      rotate_left
      · rw [decide_eq_false h6]; exact rg_w6_2 x w h0 h1 h2 h2' h3 h4 h5 h6
      rw [decide_eq_true h6]
      exact rg_w7_2 x w h0 h1 h2 h2' h3 h4 h5 h6
    
    | false =>
      have e : (rkN x.side != 2) = false := by
        rw [beq_eq_false_iff_ne] at h2 h2'; unfold rkN; rw [if_neg h2, if_neg h2']; rfl
      rw [e]; simp only [Bool.false_and]
      exact rg_w2_1 x w h0 h1 h2 h2'

def clsO (x : Od) : Int := if x.side < 1 ∨ 2 < x.side then 0 else x.side
def ofO (s : Int) (x : Od) : Bool := decide (clsO x = s)
theorem fil_yes {L : List Od} {k : Nat} {s : Int} (h : k < L.length) (hp : clsO L[k]! = s) : (L.take (k + 1)).filter (ofO s) = (L.take k).filter (ofO s) ++ [L[k]!] := by
  rw [List.take_succ_eq_append_getElem h, List.filter_append, ← getElem!_pos L k h]
  congr 1
  rw [List.filter_cons_of_pos (by unfold ofO; exact decide_eq_true hp)]
  rfl
theorem fil_no {L : List Od} {k : Nat} {s : Int} (h : k < L.length) (hp : ¬ clsO L[k]! = s) : (L.take (k + 1)).filter (ofO s) = (L.take k).filter (ofO s) := by
  rw [List.take_succ_eq_append_getElem h, List.filter_append, ← getElem!_pos L k h]
  rw [List.filter_cons_of_neg (by unfold ofO; simpa using hp)]
  simp
theorem rSide_c (A : Option Addr) (n c : Nat) (s : Int) (L : List Od) (w : World) (H : Ods w A n L) (hn : n ≤ 1000) :
    Calls Tryz.prog 71 #[.slice A n c, .int .i64 s] w (RowIs w (L.filter (ofO s))) := by
  obtain ⟨i0, hi0, hz0, hz1, hz2⟩ := info_parts info_ro
  have HO : Aside (Ods w A n L) := H
  have HLn := Lib.hid H.1
  clear H
  go_enter Tryz.func71, Tryz.ntmps71
  go_wp2_with fail
  go_loopg [5, 6] n (fun kx v s6 wr => ∃ k m : Nat, s6 = .int .i64 k ∧ k ≤ n ∧ n - k ≤ kx ∧ m ≤ k ∧ wr.ownsRow w.heap.size 49 6 v m (ol ((L.take k).filter (ofO s))) ∧ Hid (Below w.heap.size w wr))
  case atStart => exact ⟨0, 0, rfl, by omega, by omega, by omega, World.ownsRow_nil _ _ _ _, Below.refl _ _⟩
  case round =>
    obtain ⟨k, m, rfl, hk, hkx, hmk, hown, hd⟩ := hrel
    by_cases hlt : k < n
    · have hltI : (k : Int) < (n : Int) := by omega
      have h1 := (HO.out.below hd.out).2.2.2
      rcases h1 with h1 | ⟨b, off, rfl, _, hc⟩
      · omega
      have hx := hc k hlt
      clear hc
      have HY := Lib.hid (fun h => fil_yes (L := L) (k := k) (s := s) (by rw [HLn.out]; exact hlt) h)
      have HN := Lib.hid (fun h => fil_no (L := L) (k := k) (s := s) (by rw [HLn.out]; exact hlt) h)
      obtain ⟨x, ex⟩ : ∃ x, L[k]! = x := ⟨_, rfl⟩
      rw [ex] at hx HN HY
      clear ex
      obtain ⟨x0, x1, x2, x3, x4, x5⟩ := hx
      have hsz := hd.out.size
      by_cases h1 : x.side < 1
      · have c1 : decide (x.side < 1) = true := decide_eq_true h1
        have e : clsO x = 0 := by unfold clsO; rw [if_pos (.inl h1)]
        by_cases hp : clsO x = s
        · have hs := hp
          rw [e] at hs
          have e1 : ((0 : Int) == s) = true := by simp [hs]
          have HF := HY.out hp
          have HF := Lib.hid HF
          clear hp HY HN hs e
          go_wp2_with (at_builtin; refine wpList_append_own _ rfl _ _ 29 rfl w.heap.size 49 i0 (.agg (OC ⟨0, 0, 0, 0, 0, 0⟩)) 6 48 Tryz.underlying29 hi0 hz0 hz1 hz2 rfl (by decide) _ _ _ rfl (hown.alloc _) ⟨wr.heap.size, 0, none⟩ 1 1 (encO x) rfl rfl ?c1 ?c2 ?c3 ?c4 ?c5 ?_)
          case c1 => first | exact six_news _ x | exact fun j u h => h
          case c2 => exact enc_one x
          case c3 => unfold maxLen; omega
          case c4 => omega
          case c5 => first | omega | (simp; omega)
          intro v1 w1 hown1 hg1 _
          have hB1 : Hid (Below w.heap.size w w1) := Below.grown (hd.out.alloc hsz _) hg1 (by simp; omega) (fun k hk => (hown.lt k hk).1)
          rw [← ol_app, ← HF.out] at hown1
          clear hg1 hown hd
          go_wp2_with fail
          go_roundg (n - (k + 1))
          case measure => omega
          case rel => exact ⟨k + 1, m + 1, by go_num, by omega, by omega, by omega, hown1, hB1⟩
        · have hs := hp
          rw [e] at hs
          have e1 : ((0 : Int) == s) = false := by rw [beq_eq_false_iff_ne]; exact hs
          have HF := HN.out hp
          rw [← HF] at hown
          clear hp HY HN HF hs e
          go_wp2_with fail
          go_roundg (n - (k + 1))
          case measure => omega
          case rel => exact ⟨k + 1, m, by go_num, by omega, by omega, by omega, hown, hd⟩
      · have c1 : decide (x.side < 1) = false := decide_eq_false h1
        by_cases h2 : 2 < x.side
        · have c2 : decide (2 < x.side) = true := decide_eq_true h2
          have e : clsO x = 0 := by unfold clsO; rw [if_pos (.inr h2)]
          by_cases hp : clsO x = s
          · have hs := hp
            rw [e] at hs
            have e1 : ((0 : Int) == s) = true := by simp [hs]
            have HF := HY.out hp
            have HF := Lib.hid HF
            clear hp HY HN hs e
            go_wp2_with (at_builtin; refine wpList_append_own _ rfl _ _ 29 rfl w.heap.size 49 i0 (.agg (OC ⟨0, 0, 0, 0, 0, 0⟩)) 6 48 Tryz.underlying29 hi0 hz0 hz1 hz2 rfl (by decide) _ _ _ rfl (hown.alloc _) ⟨wr.heap.size, 0, none⟩ 1 1 (encO x) rfl rfl ?c1 ?c2 ?c3 ?c4 ?c5 ?_)
            case c1 => first | exact six_news _ x | exact fun j u h => h
            case c2 => exact enc_one x
            case c3 => unfold maxLen; omega
            case c4 => omega
            case c5 => first | omega | (simp; omega)
            intro v1 w1 hown1 hg1 _
            have hB1 : Hid (Below w.heap.size w w1) := Below.grown (hd.out.alloc hsz _) hg1 (by simp; omega) (fun k hk => (hown.lt k hk).1)
            rw [← ol_app, ← HF.out] at hown1
            clear hg1 hown hd
            go_wp2_with fail
            go_roundg (n - (k + 1))
            case measure => omega
            case rel => exact ⟨k + 1, m + 1, by go_num, by omega, by omega, by omega, hown1, hB1⟩
          · have hs := hp
            rw [e] at hs
            have e1 : ((0 : Int) == s) = false := by rw [beq_eq_false_iff_ne]; exact hs
            have HF := HN.out hp
            rw [← HF] at hown
            clear hp HY HN HF hs e
            go_wp2_with fail
            go_roundg (n - (k + 1))
            case measure => omega
            case rel => exact ⟨k + 1, m, by go_num, by omega, by omega, by omega, hown, hd⟩
        · have c2 : decide (2 < x.side) = false := decide_eq_false h2
          have e : clsO x = x.side := by unfold clsO; rw [if_neg (by omega)]
          by_cases hp : clsO x = s
          · have hs := hp
            rw [e] at hs
            have e1 : (x.side == s) = true := by simp [hs]
            have HF := HY.out hp
            have HF := Lib.hid HF
            clear hp HY HN hs e
            go_wp2_with (at_builtin; refine wpList_append_own _ rfl _ _ 29 rfl w.heap.size 49 i0 (.agg (OC ⟨0, 0, 0, 0, 0, 0⟩)) 6 48 Tryz.underlying29 hi0 hz0 hz1 hz2 rfl (by decide) _ _ _ rfl (hown.alloc _) ⟨wr.heap.size, 0, none⟩ 1 1 (encO x) rfl rfl ?c1 ?c2 ?c3 ?c4 ?c5 ?_)
            case c1 => first | exact six_news _ x | exact fun j u h => h
            case c2 => exact enc_one x
            case c3 => unfold maxLen; omega
            case c4 => omega
            case c5 => first | omega | (simp; omega)
            intro v1 w1 hown1 hg1 _
            have hB1 : Hid (Below w.heap.size w w1) := Below.grown (hd.out.alloc hsz _) hg1 (by simp; omega) (fun k hk => (hown.lt k hk).1)
            rw [← ol_app, ← HF.out] at hown1
            clear hg1 hown hd
            go_wp2_with fail
            go_roundg (n - (k + 1))
            case measure => omega
            case rel => exact ⟨k + 1, m + 1, by go_num, by omega, by omega, by omega, hown1, hB1⟩
          · have hs := hp
            rw [e] at hs
            have e1 : (x.side == s) = false := by rw [beq_eq_false_iff_ne]; exact hs
            have HF := HN.out hp
            rw [← HF] at hown
            clear hp HY HN HF hs e
            go_wp2_with fail
            go_roundg (n - (k + 1))
            case measure => omega
            case rel => exact ⟨k + 1, m, by go_num, by omega, by omega, by omega, hown, hd⟩
    · have hltI : ¬ (k : Int) < (n : Int) := by omega
      obtain rfl : k = n := by omega
      rw [List.take_of_length_le (by rw [HLn.out]; exact Nat.le_refl _)] at hown
      obtain ⟨A', c', rfl, hc, ht⟩ := own_ods hown (by omega) (fun x hx => (HO.out.below hd.out).2.2.1 x ((List.mem_filter.1 hx).1))
      have HF : Hid (Below w.heap.size w wr ∧ Ods wr A' m (L.filter (ofO s)) ∧ CapOk A' m c') := ⟨hd.out, ht, hc⟩
      clear hown ht hd
      go_wp2_with fail
      go_ret
      exact ⟨A', m, c', rfl, HF.out⟩

structure SelD (D : List (Od × Nat)) : Prop where
  inc : D.Pairwise (fun x y => x.2 < y.2)
  one : ∀ x ∈ D, ∀ y ∈ D, x.1.side = y.1.side
theorem lt_ahd {x y : Od} (h : x.side = y.side) : ltO x y = ahdO x y := by unfold ltO; rw [h]; simp
structure SelI (D0 D O : List (Od × Nat)) : Prop where
  sel : SelD D
  perm : (O ++ D).Perm D0
  srt : O.Pairwise (fun x y => ltR ltO y x = false)
  aft : ∀ o ∈ O, ∀ d ∈ D, ltR ltO d o = false
def MinTo (D : List (Od × Nat)) (i at' : Nat) : Prop := ∀ j, j < i → ltR ltO D[j]! D[at']! = false
theorem min_one (D : List (Od × Nat)) : MinTo D 1 0 := fun j hj => by
  obtain rfl : j = 0 := by omega
  exact (swo_ltR swo_ltO).irrefl _
theorem mem_at {D : List (Od × Nat)} {i : Nat} (h : i < D.length) : D[i]! ∈ D := by rw [getElem!_pos D i h]; exact List.getElem_mem _
theorem min_yes {D : List (Od × Nat)} {i k : Nat} (hS : SelD D) (hi : i < D.length) (hk : k < i) (h : MinTo D i k) (ha : ahdO (D[i]!).1 (D[k]!).1 = true) : MinTo D (i + 1) i := fun j hj => by
  have hR := swo_ltR swo_ltO
  by_cases e : j = i
  · rw [e]; exact hR.irrefl _
  · have h1 : ltR ltO D[i]! D[k]! = true := ltR_iff.2 (.inl (by rw [lt_ahd (hS.one _ (mem_at hi) _ (mem_at (by omega)))]; exact ha))
    cases e2 : ltR ltO D[j]! D[i]! with
    | false => rfl
    | true => have := hR.trans _ _ _ e2 h1; rw [h j (by omega)] at this; cases this
theorem min_no {D : List (Od × Nat)} {i k : Nat} (hS : SelD D) (hi : i < D.length) (hk : k < i) (h : MinTo D i k) (ha : ahdO (D[i]!).1 (D[k]!).1 = false) : MinTo D (i + 1) k := fun j hj => by
  by_cases e : j = i
  · rw [e, ltR_no, lt_ahd (hS.one _ (mem_at hi) _ (mem_at (by omega)))]
    refine ⟨ha, .inr ?_⟩
    have := List.pairwise_iff_getElem.1 hS.inc k i (by omega) hi hk
    rw [getElem!_pos D k (by omega), getElem!_pos D i hi]
    omega
  · exact h j (by omega)
theorem SelI.step {D0 D O : List (Od × Nat)} {k : Nat} (h : SelI D0 D O) (hk : k < D.length) (hm : MinTo D D.length k) : SelI D0 (D.take k ++ D.drop (k + 1)) (O ++ [D[k]!]) := by
  have hsub : (D.take k ++ D.drop (k + 1)).Sublist D := by
    rw [← List.eraseIdx_eq_take_drop_succ]; exact List.eraseIdx_sublist _ _
  have hmem : ∀ d ∈ D.take k ++ D.drop (k + 1), d ∈ D := fun d hd => hsub.subset hd
  have hmin : ∀ d ∈ D, ltR ltO d D[k]! = false := fun d hd => by
    obtain ⟨j, hj, rfl⟩ := List.getElem_of_mem hd
    have := hm j hj
    rw [getElem!_pos D j hj] at this
    exact this
  refine ⟨⟨h.sel.inc.sublist hsub, fun x hx y hy => h.sel.one x (hmem x hx) y (hmem y hy)⟩, ?_, ?_, ?_⟩
  · refine List.Perm.trans ?_ h.perm
    rw [List.append_assoc]
    refine List.Perm.append_left _ ?_
    have e : D = D.take k ++ D[k]! :: D.drop (k + 1) := by
      rw [getElem!_pos D k hk, List.getElem_cons_drop, List.take_append_drop]
    have : ([D[k]!] ++ (D.take k ++ D.drop (k + 1))).Perm (D.take k ++ D[k]! :: D.drop (k + 1)) := by
      show (D[k]! :: (D.take k ++ D.drop (k + 1))).Perm _
      exact List.perm_middle.symm
    rw [← e] at this
    exact this
  · rw [List.pairwise_append]
    refine ⟨h.srt, List.pairwise_singleton _ _, fun a ha b hb => ?_⟩
    rw [List.mem_singleton.1 hb]
    exact h.aft a ha _ (mem_at hk)
  · intro o ho d hd
    rcases List.mem_append.1 ho with ho | ho
    · exact h.aft o ho d (hmem d hd)
    · rw [List.mem_singleton.1 ho]
      exact hmin d (hmem d hd)
theorem SelI.start {D : List (Od × Nat)} (h : SelD D) : SelI D D [] := ⟨h, List.Perm.refl _, List.Pairwise.nil, fun _ h => by cases h⟩

theorem Ods.keep {w w' : World} {a : Option Addr} {len : Nat} {its : List Od} (h : Ods w a len its) (hs : w.heap.size ≤ w'.heap.size) (hk : ∀ b off, a = some ⟨b, off, none⟩ → b < w.heap.size → w'.heap[b]? = w.heap[b]?) : Ods w' a len its := by
  obtain ⟨h1, hle, h2, h3⟩ := h
  refine ⟨h1, hle, h2, ?_⟩
  rcases h3 with h0 | ⟨b, off, rfl, hlt, hc⟩
  · exact .inl h0
  · refine .inr ⟨b, off, rfl, Nat.lt_of_lt_of_le hlt hs, fun i hi => ?_⟩
    have hb := hk b off rfl hlt
    have := hc i hi
    unfold Od.at at this ⊢
    simpa only [World.cell?_of_block (w := w) (w' := w') (a := ⟨b, _, none⟩) hb] using this
theorem Ods.part {w : World} {b off len i m : Nat} {its : List Od} (h : Ods w (some ⟨b, off, none⟩) len its) (hm : i + m ≤ len) : ∀ j u, (ol ((its.drop i).take m))[j]? = some u → w.cell? ((⟨b, off + i * 6, none⟩ : Addr).add j) = some u := by
  intro j u hj
  obtain ⟨h1, _, _, h3⟩ := h
  have hl : ((its.drop i).take m).length = m := by rw [List.length_take, List.length_drop]; omega
  have hj6 : j < m * 6 := by
    have := (List.getElem?_eq_some_iff.1 hj).1
    rw [ol_len, hl] at this
    exact this
  rcases h3 with h0 | ⟨b', off', e, _, hc⟩
  · omega
  injection e with e
  injection e with e1 e2
  subst e1; subst e2
  have hq : j / 6 < m := by omega
  have ej : j = j / 6 * 6 + j % 6 := by omega
  have hx := hc (i + j / 6) (by omega)
  have hg := ol_get ((its.drop i).take m) (j / 6) (j % 6) (by rw [hl]; exact hq) (by omega)
  rw [← ej, hj] at hg
  have e3 : ((its.drop i).take m)[j / 6]! = its[i + j / 6]! := by
    rw [getElem!_pos _ _ (by rw [hl]; exact hq), getElem!_pos its _ (by omega)]
    simp
  rw [e3] at hg
  have := at_cell (c := j % 6) (u := u) hx hg.symm
  rw [addr_add]
  show w.cell? ⟨b, off + i * 6 + j, none⟩ = _
  rw [← this]
  congr 2
  omega

theorem mapG (D : List (Od × Nat)) (i : Nat) (h : i < D.length) : (D.map Prod.fst)[i]! = (D[i]!).1 := by
  rw [getElem!_pos _ i (by rw [List.length_map]; exact h), getElem!_pos D i h, List.getElem_map]
theorem rAheadG (x y : Od) (W : World) : Calls Tryz.prog 83 #[.agg (OC x), .agg (OC y)] W fun e w' => e = .returned (.bool (ahdO x y)) ∧ ∃ q os, w' = Go.Sort.grow (W.drewN q) os :=
  (rAhead_c x y W).mono fun _ _ h => ⟨h.1, h.2.grow⟩
theorem Ods.cellsAt {w : World} {b off len i : Nat} {its : List Od} (h : Ods w (some ⟨b, off, none⟩) len its) (hi : i < len) : (its[i]!).at w b (off + i * 6) := by
  rcases h.2.2.2 with h0 | ⟨b', off', e, _, hc⟩
  · omega
  · injection e with e
    injection e with e1 e2
    subst e1; subst e2
    exact hc i hi
def SelIs (w : World) (D0 : List (Od × Nat)) (e : Ending) (w' : World) : Prop := ∃ O : List (Od × Nat), O.Perm D0 ∧ O.Pairwise (fun x y => ltR ltO y x = false) ∧ RowIs w (O.map Prod.fst) e w'

theorem rSorted1_c (A : Option Addr) (n c : Nat) (D0 : List (Od × Nat)) (w : World) (H : Ods w A n (D0.map Prod.fst)) (hn : n ≤ 1000) (hnc : n ≤ c) (hD : SelD D0) :
    Calls Tryz.prog 70 #[.slice A n c] w (SelIs w D0) := by
  have mixed : Tryz.prog.follows .mixedOrders = true := by kernel_rfl
  obtain ⟨i0, hi0, hz0, hz1, hz2⟩ := info_parts info_ro
  have HA := Lib.hid rAheadG
  have HO : Aside (Ods w A n (D0.map Prod.fst)) := H
  have HOk := Lib.hid H.2.2.1
  have HAw : Hid (∀ b off, A = some ⟨b, off, none⟩ → n = 0 ∨ b < w.heap.size) := Lib.hid (fun b off e => by
    rcases H.2.2.2 with h | ⟨b', off', e', h, _⟩
    · exact .inl h
    · rw [e] at e'; injection e' with e'; injection e' with e1 e2; subst e1; exact .inr h)
  have HI0 : Hid (SelI D0 D0 []) := SelI.start hD
  clear H hD
  go_enter Tryz.func70, Tryz.ntmps70
  go_wp2_with fail
  go_loopg [0, 3] n (fun kx s0 v wr => ∃ (A' : Option Addr) (m c' q : Nat) (D O : List (Od × Nat)), s0 = .slice A' m c' ∧ m ≤ kx ∧ m ≤ c' ∧ q + m = n ∧ Hid (SelI D0 D O) ∧ Aside (Ods wr A' m (D.map Prod.fst)) ∧ wr.ownsRow w.heap.size 49 6 v q (ol (O.map Prod.fst)) ∧ Hid (Below w.heap.size w wr) ∧
      Hid (m = 0 ∨ ∀ k b off, v.ownBlock = some k → A' = some ⟨b, off, none⟩ → b ≠ k))
  case atStart =>
    exact ⟨A, n, c, 0, D0, [], rfl, Nat.le_refl _, hnc, by omega, HI0, HO, World.ownsRow_nil _ _ _ _, Below.refl _ _, Lib.hid (.inr (fun k b off e => by cases e))⟩
  case round =>
  clear HO HI0 HAw
  obtain ⟨A', m, c', q, D, O, rfl, hmk, hmc, hqm, HI, HO, hown, hd, HB⟩ := hrel
  by_cases h0 : m = 0
  · have hz : ¬ (m : Int) > 0 := by omega
    have hl : D = [] := by
      have := HO.out.1
      rw [List.length_map] at this
      exact List.length_eq_zero_iff.1 (by omega)
    obtain rfl : q = n := by omega
    obtain ⟨A2, c2, rfl, hc2, ht⟩ := own_ods hown hn (fun x hx => by
      obtain ⟨d, hdm, rfl⟩ := List.mem_map.1 hx
      have hp := HI.out.perm
      rw [hl, List.append_nil] at hp
      exact HOk.out _ (List.mem_map.2 ⟨d, hp.mem_iff.1 hdm, rfl⟩))
    have HF : Hid (O.Perm D0 ∧ O.Pairwise (fun x y => ltR ltO y x = false) ∧ Below w.heap.size w wr ∧ Ods wr A2 q (O.map Prod.fst) ∧ CapOk A2 q c2) := by
      have hp := HI.out.perm
      rw [hl, List.append_nil] at hp
      exact ⟨hp, HI.out.srt, hd.out, ht, hc2⟩
    clear hown hd HI HO HB ht hl
    go_wp2_with fail
    go_ret
    exact ⟨O, HF.out.1, HF.out.2.1, A2, q, c2, rfl, HF.out.2.2⟩
  have hz : (m : Int) > 0 := by omega
  have h1 := HO.out.2.2.2
  rcases h1 with h1 | ⟨b, off, rfl, hbw, _⟩
  · omega
  have HDl : Hid (D.length = m) := by have := HO.out.1; rw [List.length_map] at this; exact this
  have HBn := Lib.hid (fun k e => (HB.out.resolve_left h0) k b off e rfl)
  clear HB h0
  go_wp2_with fail
  obtain ⟨wo, hwo⟩ : ∃ W, W = wr := ⟨_, rfl⟩
  subst hwo
  rw [show decide (0 < m) = true from decide_eq_true (by omega)]
  go_loopg [4, 5] m (fun kx s4 s5 wx => ∃ (k i : Nat), s4 = .int .i64 k ∧ s5 = .int .i64 i ∧ k < i ∧ i ≤ m ∧ m - i ≤ kx ∧ Hid (MinTo D i k) ∧ Hid (Gw wo wx))
  case atStart => exact ⟨0, 1, rfl, rfl, by omega, by omega, by omega, min_one D, Gw.refl wo⟩
  case round =>
  obtain ⟨k, i, rfl, rfl, hki, him, hkx, HM, HG⟩ := hrel
  by_cases hlt : i < m
  · have hltz : (i : Int) < (m : Int) := by omega
    have hkz : (k : Int) < (m : Int) := by omega
    have HOx := HO.out.below (HG.out.b)
    have hx := HOx.cellsAt hlt
    have hy := HOx.cellsAt (show k < m by omega)
    rw [mapG D i (by rw [HDl.out]; exact hlt)] at hx
    rw [mapG D k (by rw [HDl.out]; omega)] at hy
    obtain ⟨x, ex⟩ : ∃ x, (D[i]!).1 = x := ⟨_, rfl⟩
    obtain ⟨y, ey⟩ : ∃ x, (D[k]!).1 = x := ⟨_, rfl⟩
    rw [ex] at hx
    rw [ey] at hy
    have EX := Lib.hid ex
    have EY := Lib.hid ey
    clear ex ey HOx
    obtain ⟨x0, x1, x2, x3, x4, x5⟩ := hx
    obtain ⟨y0, y1, y2, y3, y4, y5⟩ := hy
    have hbx : b < wr.heap.size := Nat.lt_of_lt_of_le hbw HG.out.b.size
    have X0 := fun n os => cell_grown (a := ⟨b, _, none⟩) hbx x0 n os
    have Y0 := fun n os => cell_grown (a := ⟨b, _, none⟩) hbx y0 n os
    have X1 := fun n os => cell_grown (a := ⟨b, _, none⟩) hbx x1 n os
    have Y1 := fun n os => cell_grown (a := ⟨b, _, none⟩) hbx y1 n os
    have X2 := fun n os => cell_grown (a := ⟨b, _, none⟩) hbx x2 n os
    have Y2 := fun n os => cell_grown (a := ⟨b, _, none⟩) hbx y2 n os
    have X3 := fun n os => cell_grown (a := ⟨b, _, none⟩) hbx x3 n os
    have Y3 := fun n os => cell_grown (a := ⟨b, _, none⟩) hbx y3 n os
    have X4 := fun n os => cell_grown (a := ⟨b, _, none⟩) hbx x4 n os
    have Y4 := fun n os => cell_grown (a := ⟨b, _, none⟩) hbx y4 n os
    have X5 := fun n os => cell_grown (a := ⟨b, _, none⟩) hbx x5 n os
    have Y5 := fun n os => cell_grown (a := ⟨b, _, none⟩) hbx y5 n os
    clear x0 x1 x2 x3 x4 x5 y0 y1 y2 y3 y4 y5
    cases ha : ahdO x y with
    | true =>
      have HN : Hid (MinTo D (i + 1) i) := min_yes HI.out.sel (by rw [HDl.out]; exact hlt) hki HM.out (by rw [EX.out, EY.out]; exact ha)
      have hcg := fun W => HA.out x y W
      rw [ha] at hcg
      clear ha
      go_wp2_with fail
      go_quiet_grown ((go_at_call 83; with_reducible refine Calls.grown_of (hcg _)))
      have G2 : Hid (Gw wo (grow (wr.drewN nq) osq)) := HG.out.trans (gw_grow _ _ _)
      clear hcg X0 X1 X2 X3 X4 X5 Y0 Y1 Y2 Y3 Y4 Y5 HG hbx
      generalize grow (wr.drewN nq) osq = w2 at G2 ⊢
      go_wp2_with fail
      go_roundg (m - (i + 1))
      case measure => omega
      case rel => exact ⟨i, i + 1, rfl, by go_num, by omega, by omega, by omega, HN, G2⟩
    | false =>
      have HN : Hid (MinTo D (i + 1) k) := min_no HI.out.sel (by rw [HDl.out]; exact hlt) hki HM.out (by rw [EX.out, EY.out]; exact ha)
      have hcg := fun W => HA.out x y W
      rw [ha] at hcg
      clear ha
      go_wp2_with fail
      go_quiet_grown ((go_at_call 83; with_reducible refine Calls.grown_of (hcg _)))
      have G2 : Hid (Gw wo (grow (wr.drewN nq) osq)) := HG.out.trans (gw_grow _ _ _)
      clear hcg X0 X1 X2 X3 X4 X5 Y0 Y1 Y2 Y3 Y4 Y5 HG hbx
      generalize grow (wr.drewN nq) osq = w2 at G2 ⊢
      go_wp2_with fail
      go_roundg (m - (i + 1))
      case measure => omega
      case rel => exact ⟨k, i + 1, rfl, by go_num, by omega, by omega, by omega, HN, G2⟩
  have hltz : ¬ (i : Int) < (m : Int) := by omega
  obtain rfl : i = m := by omega
  have hs1 := HG.out.b.size
  have hown2 := own_fr (S := fun _ => False) hown (Fr.of_below HG.out.b) (fun _ _ h => h)
  have hd2 : Hid (Below w.heap.size w wr) := hd.out.trans (HG.out.b.mono hd.out.size)
  have HO2 : Aside (Ods wr (some ⟨b, off, none⟩) i (D.map Prod.fst)) := HO.out.below HG.out.b
  have hx := HO2.out.cellsAt hki
  rw [mapG D k (by rw [HDl.out]; exact hki)] at hx
  obtain ⟨x, ex⟩ : ∃ x, (D[k]!).1 = x := ⟨_, rfl⟩
  rw [ex] at hx
  have HIn : Hid (SelI D0 (D.take k ++ D.drop (k + 1)) (O ++ [D[k]!]) ∧ (D[k]!).1 = x) := ⟨HI.out.step (by rw [HDl.out]; exact hki) (by rw [HDl.out]; exact HM.out), ex⟩
  have hbx : b < wr.heap.size := by omega
  clear ex hown hd HO HI HM HG hs1
  obtain ⟨x0, x1, x2, x3, x4, x5⟩ := hx
  have hsz := hd2.out.size
  go_wp2_with (at_builtin; refine wpList_append_own _ rfl _ _ 29 rfl w.heap.size 49 i0 (.agg (OC ⟨0, 0, 0, 0, 0, 0⟩)) 6 48 Tryz.underlying29 hi0 hz0 hz1 hz2 rfl (by decide) _ _ _ rfl (hown2.alloc _) ⟨wr.heap.size, 0, none⟩ 1 1 (encO x) rfl rfl ?c1 ?c2 ?c3 ?c4 ?c5 ?_)
  case c1 => first | exact six_news _ x | exact fun j u h => h
  case c2 => exact enc_one x
  case c3 => unfold maxLen; omega
  case c4 => omega
  case c5 => first | omega | (simp; omega)
  intro v1 w1 hown1 hg1 _
  have hB1 : Hid (Below w.heap.size w w1) := Below.grown (hd2.out.alloc hsz _) hg1 (by simp; omega) (fun k hk => (hown2.lt k hk).1)
  have hs1 := hg1.size
  have HO3 : Aside (Ods w1 (some ⟨b, off, none⟩) i (D.map Prod.fst)) := (HO2.out.below ((Below.refl wr.heap.size wr).alloc (Nat.le_refl _) _)).keep hg1.size (fun b' off' e hb' => by
    injection e with e
    injection e with e1 e2
    subst e1
    exact hg1.block _ hb' (fun e => HBn.out b e.symm rfl))
  have hB1s := hB1.out.size
  have eD : Hid (ol ((O ++ [D[k]!]).map Prod.fst) = ol (O.map Prod.fst) ++ encO x) := by
    show _ = _
    rw [List.map_append, List.map_cons, List.map_nil, HIn.out.2, ol_app]
  rw [← eD.out] at hown1
  have HIs : Hid (SelI D0 (D.take k ++ D.drop (k + 1)) (O ++ [D[k]!])) := HIn.out.1
  generalize O ++ [D[k]!] = O' at hown1 HIs eD
  have hq1 : k ≤ i := by omega
  have hp1 := Lib.hid (Ods.part (i := 0) (m := k) HO3.out (by omega))
  have hl1 : Hid ((ol (((D.map Prod.fst).drop 0).take k)).length = k * 6) := by
    show _ = _
    rw [ol_len, List.length_take, List.length_drop, List.length_map, HDl.out]
    congr 1
    omega
  clear x0 x1 x2 x3 x4 x5 HIn HO2 HBn hg1 hown2 hd2 hsz hbx eD
  have hkz : (k : Int) ≤ (c' : Int) := by omega
  go_wp2_with (at_builtin; refine wpList_append_own _ rfl _ _ 29 rfl w1.heap.size 49 i0 (.agg (OC ⟨0, 0, 0, 0, 0, 0⟩)) 6 48 Tryz.underlying29 hi0 hz0 hz1 hz2 rfl (by decide) (.slice none 0 0) 0 [] rfl (World.ownsRow_nil _ _ _ _) ⟨b, off, none⟩ k _ (ol (((D.map Prod.fst).drop 0).take k)) rfl hl1.out ?c1 ?c2 ?c3 ?c4 ?c5 ?_)
  case c1 => simpa using hp1.out
  case c2 => exact ol_one _
  case c3 => unfold maxLen; omega
  case c4 => omega
  case c5 => exact Nat.le_refl _
  intro v2 w2 hown2 hg2 _
  have B12 : Hid (Below w1.heap.size w1 w2) := Below.grown (Below.refl _ _) hg2 (Nat.le_refl _) (by intro k hk; cases hk)
  have HO4 : Aside (Ods w2 (some ⟨b, off, none⟩) i (D.map Prod.fst)) := HO3.out.below B12.out
  have hp2 := Lib.hid (Ods.part (i := k + 1) (m := i - (k + 1)) HO4.out (by omega))
  have hl2 : Hid ((ol (((D.map Prod.fst).drop (k + 1)).take (i - (k + 1)))).length = (i - (k + 1)) * 6) := by
    show _ = _
    rw [ol_len, List.length_take, List.length_drop, List.length_map, HDl.out]
    congr 1
    omega
  have hs2 := B12.out.size
  clear hg2 HO3 hp1 hl1
  have zk1 : (k : Int) + 1 ≤ (i : Int) := by omega
  have zk2 : (i : Int) - ((k : Int) + 1) = ((i - (k + 1) : Nat) : Int) := by omega
  by_cases hcap : c' = k + 1
  · subst hcap
    go_wp2_with (at_builtin; refine wpList_append_own _ rfl _ _ 29 rfl w1.heap.size 49 i0 (.agg (OC ⟨0, 0, 0, 0, 0, 0⟩)) 6 48 Tryz.underlying29 hi0 hz0 hz1 hz2 rfl (by decide) _ _ _ rfl hown2 ⟨b, off, none⟩ _ _ [] rfl ?c0 ?c1 ?c2 ?c3 ?c4 ?c5 ?_)
    case c0 =>
      show 0 = _
      omega
    case c1 => intro j u hu; cases hu
    case c2 => intro u hu; cases hu
    case c3 => unfold maxLen; omega
    case c4 => omega
    case c5 => exact hs2
    intro v3 w3 hown3 hg3 _
    have B13 : Hid (Below w1.heap.size w1 w3) := Below.grown B12.out hg3 hs2 (fun k hk => (hown2.lt k hk).1)
    have hownO := own_fr (S := fun _ => False) hown1 (Fr.of_below B13.out) (fun _ _ h => h)
    have hown4 : w3.ownsRow w1.heap.size 49 6 v3 (i - 1) (ol ((D.take k ++ D.drop (k + 1)).map Prod.fst)) := by
      have h1 : D.drop (k + 1) = [] := List.drop_eq_nil_of_le (by rw [HDl.out]; omega)
      have h2 : i - (k + 1) = 0 := by omega
      have h3 : i - 1 = k := by omega
      rw [h1, h3, List.append_nil, List.map_take]
      simpa [h2] using hown3
    have B3 : Hid (Below w.heap.size w w3) := hB1.out.trans (B13.out.mono hB1s)
    obtain ⟨A3, c3, rfl, hc3, ht3⟩ := own_ods hown4 (by omega) (fun x hx => by
      obtain ⟨d, hdm, rfl⟩ := List.mem_map.1 hx
      exact HOk.out _ (List.mem_map.2 ⟨d, HIs.out.perm.mem_iff.1 (List.mem_append.2 (.inr hdm)), rfl⟩))
    have HBx : Hid (i - 1 = 0 ∨ ∀ k b off, v1.ownBlock = some k → A3 = some ⟨b, off, none⟩ → b ≠ k) := Lib.hid (.inr (fun kk bb oo e1 e2 => by
      subst e2
      have := (hown1.lt kk e1).2
      have := (hown4.lt bb rfl).1
      omega))
    clear hown4 hown3 hg3 hown2 B12 B13 hp2 hl2 HO4 hown1 hB1 hB1s
    go_wp2_with fail
    go_roundg (i - 1)
    case measure => omega
    case rel => exact ⟨A3, i - 1, c3, q + 1, _, O', rfl, by omega, hc3.1, by omega, HIs, ht3, hownO, B3, HBx⟩
  · have hcap2 : ¬ k + 1 = c' := by omega
    go_wp2_with (at_builtin; refine wpList_append_own _ rfl _ _ 29 rfl w1.heap.size 49 i0 (.agg (OC ⟨0, 0, 0, 0, 0, 0⟩)) 6 48 Tryz.underlying29 hi0 hz0 hz1 hz2 rfl (by decide) _ _ _ rfl hown2 ⟨b, off + (k + 1) * 6, none⟩ (i - (k + 1)) _ (ol (((D.map Prod.fst).drop (k + 1)).take (i - (k + 1)))) rfl hl2.out ?c1 ?c2 ?c3 ?c4 ?c5 ?_)
    case c1 => exact hp2.out
    case c2 => exact ol_one _
    case c3 => unfold maxLen; omega
    case c4 => omega
    case c5 => exact hs2
    intro v3 w3 hown3 hg3 _
    have B13 : Hid (Below w1.heap.size w1 w3) := Below.grown B12.out hg3 hs2 (fun k hk => (hown2.lt k hk).1)
    have hownO := own_fr (S := fun _ => False) hown1 (Fr.of_below B13.out) (fun _ _ h => h)
    have hown4 : w3.ownsRow w1.heap.size 49 6 v3 (i - 1) (ol ((D.take k ++ D.drop (k + 1)).map Prod.fst)) := by
      have en : i - 1 = k + (i - (k + 1)) := by omega
      have eL : ol ((D.take k ++ D.drop (k + 1)).map Prod.fst) = ol ((D.map Prod.fst).take k) ++ ol (((D.map Prod.fst).drop (k + 1)).take (i - (k + 1))) := by
        rw [List.map_append, List.map_take, List.map_drop, List.take_of_length_le (i := i - (k + 1)) (by rw [List.length_drop, List.length_map, HDl.out]; exact Nat.le_refl _)]
        unfold ol
        rw [List.flatMap_append]
      rw [en, eL]
      simpa using hown3
    have B3 : Hid (Below w.heap.size w w3) := hB1.out.trans (B13.out.mono hB1s)
    obtain ⟨A3, c3, rfl, hc3, ht3⟩ := own_ods hown4 (by omega) (fun x hx => by
      obtain ⟨d, hdm, rfl⟩ := List.mem_map.1 hx
      exact HOk.out _ (List.mem_map.2 ⟨d, HIs.out.perm.mem_iff.1 (List.mem_append.2 (.inr hdm)), rfl⟩))
    have HBx : Hid (i - 1 = 0 ∨ ∀ k b off, v1.ownBlock = some k → A3 = some ⟨b, off, none⟩ → b ≠ k) := Lib.hid (.inr (fun kk bb oo e1 e2 => by
      subst e2
      have := (hown1.lt kk e1).2
      have := (hown4.lt bb rfl).1
      omega))
    clear hown4 hown3 hg3 hown2 B12 B13 hp2 hl2 HO4 hown1 hB1 hB1s
    go_wp2_with fail
    go_roundg (i - 1)
    case measure => omega
    case rel => exact ⟨A3, i - 1, c3, q + 1, _, O', rfl, by omega, hc3.1, by omega, HIs, ht3, hownO, B3, HBx⟩

def fz (s : Int) (L : List Od) : List (Od × Nat) := L.zipIdx.filter (fun d => ofO s d.1)
theorem fz_fst (s : Int) (L : List Od) : (fz s L).map Prod.fst = L.filter (ofO s) := by
  unfold fz
  have h : L.filter (ofO s) = (L.zipIdx.map Prod.fst).filter (ofO s) := by rw [List.zipIdx_map_fst]
  rw [h, List.filter_map]
  rfl
theorem zip_inc (L : List Od) : L.zipIdx.Pairwise (fun x y => x.2 < y.2) := by
  rw [List.pairwise_iff_getElem]
  intro i j hi hj hij
  rw [List.getElem_zipIdx, List.getElem_zipIdx]
  simpa using hij
theorem cls_side {s : Int} {x : Od} (hs : s = 1 ∨ s = 2) (h : ofO s x = true) : x.side = s := by
  unfold ofO clsO at h
  have := of_decide_eq_true h
  split at this <;> omega
theorem cls_0 {x : Od} (h : ofO 0 x = true) : ¬ x.side = 1 ∧ ¬ x.side = 2 := by
  unfold ofO clsO at h
  have := of_decide_eq_true h
  split at this <;> omega
theorem cls_three (x : Od) : (!ofO 1 x && !ofO 2 x) = ofO 0 x := by
  have h3 : clsO x = 0 ∨ clsO x = 1 ∨ clsO x = 2 := by unfold clsO; split <;> omega
  unfold ofO
  rcases h3 with h | h | h <;> rw [h] <;> rfl
theorem fz_sel {s : Int} (hs : s = 1 ∨ s = 2) (L : List Od) : SelD (fz s L) :=
  ⟨(zip_inc L).sublist List.filter_sublist, fun x hx y hy => by
    rw [cls_side hs (List.mem_filter.1 hx).2, cls_side hs (List.mem_filter.1 hy).2]⟩
theorem sortO_sides {L : List Od} {O1 O2 : List (Od × Nat)} (h1 : O1.Perm (fz 1 L)) (s1 : O1.Pairwise (fun x y => ltR ltO y x = false)) (h2 : O2.Perm (fz 2 L)) (s2 : O2.Pairwise (fun x y => ltR ltO y x = false)) :
    sortO L = (O1.map Prod.fst ++ O2.map Prod.fst) ++ L.filter (ofO 0) := by
  rw [← fz_fst, ← List.map_append, ← List.map_append]
  have hm1 : ∀ x ∈ O1, x.1.side = 1 := fun x hx => cls_side (.inl rfl) (List.mem_filter.1 (h1.mem_iff.1 hx)).2
  have hm2 : ∀ x ∈ O2, x.1.side = 2 := fun x hx => cls_side (.inr rfl) (List.mem_filter.1 (h2.mem_iff.1 hx)).2
  have hm0 : ∀ x ∈ fz 0 L, ¬ x.1.side = 1 ∧ ¬ x.1.side = 2 := fun x hx => cls_0 (List.mem_filter.1 hx).2
  refine sortO_eq ?_ ?_
  · refine ((h1.append h2).append_right _).trans ?_
    have p1 := List.filter_append_perm (fun d : Od × Nat => ofO 1 d.1) L.zipIdx
    have p2 := List.filter_append_perm (fun d : Od × Nat => ofO 2 d.1) (L.zipIdx.filter (fun d => !ofO 1 d.1))
    rw [List.filter_filter, List.filter_filter] at p2
    have e2 : L.zipIdx.filter (fun a => ofO 2 a.1 && !ofO 1 a.1) = fz 2 L := by
      unfold fz
      refine List.filter_congr fun d _ => ?_
      cases h : ofO 2 d.1 with
      | false => rfl
      | true =>
        cases h' : ofO 1 d.1 with
        | false => rfl
        | true => have := cls_side (.inr rfl) h; have := cls_side (.inl rfl) h'; omega
    have e0 : L.zipIdx.filter (fun a => !ofO 2 a.1 && !ofO 1 a.1) = fz 0 L := by
      unfold fz
      refine List.filter_congr fun d _ => ?_
      rw [Bool.and_comm]
      exact cls_three d.1
    rw [e2, e0] at p2
    rw [List.append_assoc]
    exact (List.Perm.append_left _ p2).trans p1
  · have cross : ∀ x y : Od × Nat, rkN x.1.side < rkN y.1.side → ltR ltO y x = false := fun x y h => by
      rw [ltR_no]
      have hl : ltO x.1 y.1 = true := by rw [ltO_iff]; exact .inl h
      exact ⟨(ltO_no _ _).2 (by unfold Lex; omega), .inl hl⟩
    have r1 : rkN 1 = 0 := rfl
    have r2 : rkN 2 = 1 := rfl
    have r0 : ∀ s : Int, ¬ s = 1 → ¬ s = 2 → rkN s = 2 := fun s a b => by unfold rkN; simp [a, b]
    rw [List.pairwise_append, List.pairwise_append]
    refine ⟨⟨s1, s2, fun x hx y hy => cross x y (by rw [hm1 x hx, hm2 y hy, r1, r2]; decide)⟩, ?_, fun x hx y hy => ?_⟩
    · have hp : (fz 0 L).Pairwise (fun x y => x.2 < y.2) := (zip_inc L).sublist List.filter_sublist
      refine (List.Pairwise.and_mem.1 hp).imp ?_
      rintro x y ⟨hx, hy, hxy⟩
      have k1 := hm0 x hx
      have k2 := hm0 y hy
      rw [ltR_no, ltO_no]
      refine ⟨?_, .inr (by omega)⟩
      rw [r0 _ k1.1 k1.2, r0 _ k2.1 k2.2]
      unfold kpO kqO kiO Lex
      simp [k1, k2]
    · have k2 := hm0 y hy
      rcases List.mem_append.1 hx with hx | hx
      · exact cross x y (by rw [hm1 x hx, r1, r0 _ k2.1 k2.2]; decide)
      · exact cross x y (by rw [hm2 x hx, r2, r0 _ k2.1 k2.2]; decide)

theorem fil_le (s : Int) (L : List Od) : (L.filter (ofO s)).length ≤ L.length := List.length_filter_le _ _

theorem append_row {w : World} {ops : Array Oper} {rest : List Oper} {o : Oper} {a : Act} {Q : Exit → Act → World → Prop} (hgd : o.guard = none) (s x : Operand)
    (ho : o.op = .call { callee := .builtin .append, args := #[s, x], argTypes := #[29, 29] })
    (base : Nat) (v : Value) (n : Nat) (xs : List Value) (hs : a.eval s = v) (hown : w.ownsRow base 49 6 v n xs)
    (A : Option Addr) (m c : Nat) (L : List Od) (hx : a.eval x = .slice A m c) (HO : Ods w A m L) (hc : CapOk A m c) (h63 : n + m ≤ 3000) (hbase : base ≤ w.heap.size)
    (h : ∀ v' w', w'.ownsRow base 49 6 v' (n + m) (xs ++ ol L) → Below base w w' → wpList Tryz.prog ops Q rest (a.put o.dst v') w') : wpList Tryz.prog ops Q (o :: rest) a w := by
  obtain ⟨i0, hi0, hz0, hz1, hz2⟩ := info_parts info_ro
  have hl := HO.1
  have hlen : (ol L).length = m * 6 := by rw [ol_len, hl]
  cases A with
  | none =>
    obtain rfl : c = 0 := hc.2 rfl
    obtain rfl : m = 0 := by have := hc.1; omega
    have e : L = [] := List.length_eq_zero_iff.1 hl
    refine wpList_append_own_none hgd s x _ ho base _ i0 6 Tryz.underlying29 hi0 v n xs hs hown hx (h v w ?_ (Below.refl _ _ |>.mono hbase))
    rw [e]
    simpa [ol] using hown
  | some ad =>
    refine wpList_append_own _ hgd s x _ ho base _ i0 (.agg (OC ⟨0, 0, 0, 0, 0, 0⟩)) 6 48 Tryz.underlying29 hi0 hz0 hz1 hz2 rfl (by decide) v n xs hs hown ad m c (ol L) hx hlen ?_ (ol_one _) (by unfold maxLen; omega) (by omega) hbase (fun v' w' h1 h2 _ => h v' w' h1 (Below.grown ((Below.refl _ _).mono hbase) h2 hbase (fun k hk => (hown.lt k hk).1)))
    rcases HO.2.2.2 with h0 | ⟨b, off, e, _, _⟩
    · intro j u hu
      have := (List.getElem?_eq_some_iff.1 hu).1
      omega
    · injection e with e
      subst e
      have := Ods.part (i := 0) (m := m) HO (by omega)
      rw [List.drop_zero, List.take_of_length_le (by omega)] at this
      simpa using this

end Go.Proofs.YtpigkmfegmfelaaGreat
