/- share: the closure that hands out. -/
import Derived.Test.YthpgbghcmfjjoaaShA
import Derived.Deep.OwnRows
import Derived.Deep.RegionHeld3
import Derived.Deep.QuietTactic
import Derived.BigQuiet
namespace Go.Proofs.Ythpgbghcmfjjoaa
open Go.RowKit Go.Lib
set_option linter.unusedVariables false

/-- What the closure goes by: the orders, the lot, the parts, what is left. -/
structure Hst (w : World) (lB tB pB fB aB : Nat) (A : Option Addr) (n c : Nat) (lot left : Int) (f : Nat → Int) : Prop where
  l : Bx 22 w lB (.slice A n c)
  t : Bx 2 w tB (.int .i64 lot)
  p : Bx 27 w pB (.slice (some ⟨aB, 0, none⟩) n n)
  e : Bx 2 w fB (.int .i64 left)
  a : w.rowIs aB 2 n (fun i => .int .i64 (f i))

def HandIs (w : World) (aB fB i : Nat) (v left : Int) (e : Ending) (w' : World) : Prop :=
  e = .returned (.tuple #[]) ∧ ∃ q, w' = ((w.drewN q).setCell ⟨aB, i, none⟩ (.int .i64 v)).setCell ⟨fB, 0, none⟩ (.int .i64 left)

set_option maxHeartbeats 4000000 in
set_option maxRecDepth 100000 in
theorem hand_c (lB tB pB fB aB : Nat) (A : Option Addr) (n c : Nat) (L : List Od) (lot left : Int) (f : Nat → Int) (i : Nat) (m d z t : Int) (w : World)
    (H : Hst w lB tB pB fB aB A n c lot left f) (HO : Ods w A n L) (hi : i < n) (hn : n ≤ 1000) (hlot : InR lot) (hz : z = f i)
    (hq : InR L[i]!.qty) (ht : t = trimN lot L[i]!.qty) (h0 : 0 ≤ z ∧ z ≤ t) (h1 : t ≤ 1099511627776) (h2 : 0 ≤ left ∧ left ≤ 70368744177664) (h3 : 0 ≤ m ∧ m ≤ 70368744177664) (hd : d = min m (min left (t - z))) (hne : fB ≠ aB) :
    Calls Try.prog 14 #[.int .i64 i, .int .i64 m, .pointer (some ⟨fB, 0, none⟩), .pointer (some ⟨tB, 0, none⟩), .pointer (some ⟨lB, 0, none⟩), .pointer (some ⟨pB, 0, none⟩)] w (HandIs w aB fB i (z + d) (left - d)) := by
  obtain ⟨b, off, rfl, hb, hc⟩ : ∃ b off, A = some ⟨b, off, none⟩ ∧ b < w.heap.size ∧ ∀ i, i < n → (L[i]!).at w b (off + i * 6) := by
    rcases HO.2.2.2 with h | h
    · omega
    · exact h
  have kq := (hc i hi).2.2.2.2.1
  have k1 := H.l.c0
  have k2 := H.t.c0
  have k3 := H.p.c0
  have k4 := H.e.c0
  have k5 : w.cell? ⟨aB, i, none⟩ = some (.int .i64 z) := by rw [hz]; exact H.a.cell hi
  have f4 := H.e.f0
  have HE : Aside (Bx 2 w fB (.int .i64 left)) := H.e
  have f5 := H.a.frozen i
  have HT : Hid (∀ w, Calls Try.prog 13 #[.int .i64 lot, .int .i64 L[i]!.qty] w fun e w' => e = .returned (.int .i64 t) ∧ w' = w) := Lib.hid (fun w => by rw [ht]; exact (trim_c lot _ hq hlot w).mono fun _ _ h => ⟨h.1, h.2.symm⟩)
  have HD := Lib.hid hd
  generalize L[i]!.qty = q at *
  have hiI : (i : Int) < (n : Int) := by omega
  have hi0 : (0 : Int) ≤ (i : Int) := by omega
  clear H HO hz ht hd hc hlot hq
  go_enter Try.func14, Try.ntmps14
  go_wp2_with fail
  go_quiet (((with_reducible exact Calls.quiet_of_same (HT.out _))))
  have e : (if t - z < if left < m then left else m then t - z else if left < m then left else m) = d := by
    rw [HD.out]
    split <;> split <;> omega
  rw [e]
  have d0 : 0 ≤ d ∧ d ≤ t - z ∧ d ≤ left := by rw [HD.out]; omega
  obtain ⟨d1, d2, d3⟩ := d0
  clear e HD HT kq k1 k2
  have k6 : ((w.drewN nq).setCell ⟨aB, i, none⟩ (.int .i64 (z + d))).cell? ⟨fB, 0, none⟩ = some (.int .i64 left) := by
    have h : Bx 2 ((w.drewN nq).setCell ⟨aB, i, none⟩ (.int .i64 (z + d))) fB (.int .i64 left) := (heap_far hne).trans HE.out
    exact h.c0
  have f6 : ((w.drewN nq).setCell ⟨aB, i, none⟩ (.int .i64 (z + d))).frozen? ⟨fB, 0, none⟩ = false := by
    have h : Bx 2 ((w.drewN nq).setCell ⟨aB, i, none⟩ (.int .i64 (z + d))) fB (.int .i64 left) := (heap_far hne).trans HE.out
    exact h.f0
  go_wp2_with fail
  go_end0
  exact ⟨rfl, nq, rfl⟩

theorem Hst.handed {w : World} {lB tB pB fB aB : Nat} {A : Option Addr} {n c : Nat} {lot left : Int} {f : Nat → Int} (H : Hst w lB tB pB fB aB A n c lot left f) (q i : Nat) (v l2 : Int) (g : Nat → Int)
    (hg : ∀ j, j < n → g j = if j = i then v else f j) (d1 : lB ≠ aB) (d2 : lB ≠ fB) (d3 : tB ≠ aB) (d4 : tB ≠ fB) (d5 : pB ≠ aB) (d6 : pB ≠ fB) (d7 : fB ≠ aB) :
    Hst (((w.drewN q).setCell ⟨aB, i, none⟩ (.int .i64 v)).setCell ⟨fB, 0, none⟩ (.int .i64 l2)) lB tB pB fB aB A n c lot l2 g := by
  refine ⟨(heap_far d2).trans ((heap_far d1).trans H.l), (heap_far d4).trans ((heap_far d3).trans H.t), (heap_far d6).trans ((heap_far d5).trans H.p), Bx.set ((heap_far d7).trans H.e) _, ?_⟩
  have h : (w.drewN q).rowIs aB 2 n (fun i => .int .i64 (f i)) := H.a
  refine ((h.set i (.int .i64 v)).setOther (Ne.symm d7) _).congr (fun j hj => ?_)
  rw [hg j hj]
  show (if j = i then Value.int .i64 v else .int .i64 (f j)) = _
  split <;> rfl
theorem Hst.below {w w' : World} {lB tB pB fB aB : Nat} {A : Option Addr} {n c : Nat} {lot left : Int} {f : Nat → Int} (H : Hst w lB tB pB fB aB A n c lot left f) (hb : Below w.heap.size w w') : Hst w' lB tB pB fB aB A n c lot left f :=
  ⟨(hb.block _ (blk_lt H.l)).trans H.l, (hb.block _ (blk_lt H.t)).trans H.t, (hb.block _ (blk_lt H.p)).trans H.p, (hb.block _ (blk_lt H.e)).trans H.e, H.a.of_block (hb.block _ H.a.lt)⟩
end Go.Proofs.Ythpgbghcmfjjoaa
