/- chance's bounds: a source beside a call that is boxed. -/
import Derived.Test.YtacfboopkcaobabAskL
namespace Go.Proofs.Ytacfboopkcaobab
open Go.RowKit

/-- A source at g, and a call at q. -/
def SQ (B : Nat) (w0 w : World) (g q : Nat) (x : Asq) (l : List UInt8) : Prop :=
  Below B w0 w ∧ B ≤ w.heap.size ∧ B ≤ g ∧ w.heap[q]? = some (.cells #[.int .i64 x.k, .int .u64 x.n, .int .i64 x.lo, .int .i64 x.hi, .slice x.vA x.vL x.vC] 26 (0, 0)) ∧ SRC 39 w g l ∧ SlI w x.vA x.vL x.vZ
def CQ (w : World) (q : Nat) (x : Asq) : Prop := w.cell? ⟨q, 1, none⟩ = some (.int .u64 x.n) ∧ w.cell? ⟨q, 2, none⟩ = some (.int .i64 x.lo) ∧ w.cell? ⟨q, 3, none⟩ = some (.int .i64 x.hi) ∧ w.cell? ⟨q, 4, none⟩ = some (.slice x.vA x.vL x.vC)
section
variable {B g q : Nat} {w0 w w' : World} {x : Asq} {l l' : List UInt8}
theorem SQ.all (h : SQ B w0 w g q x l) : CQ w q x := by
  obtain ⟨_, _, _, h4, _⟩ := h
  refine ⟨?_, ?_, ?_, ?_⟩ <;> (rw [cell_of_row _ _ _ _ _ _ h4]; rfl)
theorem SQ.ne (h : SQ B w0 w g q x l) : q ≠ g := by
  obtain ⟨_, _, _, h4, ⟨A, n, c, h5, _⟩, _⟩ := h
  exact blk_ne h4 h5 (by decide)
theorem SQ.took (h : SQ B w0 w g q x l) (ht : TP (some ⟨g, 0, none⟩) w w') (hs : ST 39 w' (some ⟨g, 0, none⟩) l') : SQ B w0 w' g q x l' := by
  have hne := h.ne
  obtain ⟨h1, h2, h3, h4, h5, h6⟩ := h
  refine ⟨h1.trans (ht.below (fun y hy => by injection hy with hy; rw [← hy]; exact h3) h2), Nat.le_trans h2 ht.size, h3, ht.blk h4 (fun y hy => by injection hy with hy; rw [← hy]; exact hne), hs.src, ?_⟩
  refine h6.tp ht (fun a ha h0 y hy => ?_)
  injection hy with hy
  rw [← hy]
  obtain ⟨A', n', c', h0', _⟩ := h5
  exact h6.away h0' a ha h0
theorem SQ.drewN (h : SQ B w0 w g q x l) (n : Nat) : SQ B w0 (w.drewN n) g q x l := by
  obtain ⟨h1, h2, h3, h4, h5, h6⟩ := h
  exact ⟨⟨h1.1, h1.2, h1.3, h1.4, h1.5⟩, h2, h3, h4, h5, h6⟩
theorem SQ.drew (h : SQ B w0 w g q x l) : SQ B w0 w.drew g q x l := h.drewN 1

theorem sq_below {n : Nat} (h : SQ B w0 w g q x l) (hn : n < 18446744073709551616) :
    Calls Try.prog 11 #[.pointer (some ⟨g, 0, none⟩), .int .u64 (n : Int)] w fun e w' => e = .returned (.int .u64 ((belowN l n).1 : Int)) ∧ CQ w' q x ∧ Hid (SQ B w0 w' g q x (belowN l n).2) :=
  (below_c _ n l w h.2.2.2.2.1.st hn).mono fun _ _ ⟨he, hd⟩ => ⟨he, (h.took hd.out.1 hd.out.2).all, h.took hd.out.1 hd.out.2⟩
theorem sq_between (h : SQ B w0 w g q x l) {lo hi : Int} (hl0 : -9223372036854775808 ≤ lo) (hl1 : lo ≤ 9223372036854775807) (hh0 : -9223372036854775808 ≤ hi) (hh1 : hi ≤ 9223372036854775807) :
    Calls Try.prog 12 #[.pointer (some ⟨g, 0, none⟩), .int .i64 lo, .int .i64 hi] w fun e w' => e = .returned (.int .i64 (betweenN l lo hi).1) ∧ CQ w' q x ∧ Hid (SQ B w0 w' g q x (betweenN l lo hi).2) :=
  (between_c _ lo hi l w h.2.2.2.2.1.st hl0 hl1 hh0 hh1).mono fun _ _ ⟨he, hd⟩ => ⟨he, (h.took hd.out.1 hd.out.2).all, h.took hd.out.1 hd.out.2⟩
theorem sq_pick (h : SQ B w0 w g q x l) (hn : x.vL ≤ 60) :
    Calls Try.prog 13 #[.pointer (some ⟨g, 0, none⟩), .slice x.vA x.vL x.vC] w fun e w' => e = .returned (.int .i64 ((pickN l x.vZ).1 : Int)) ∧ CQ w' q x ∧ Hid (SQ B w0 w' g q x (pickN l x.vZ).2) :=
  (pick_c _ x.vA x.vL x.vC x.vZ l w h.2.2.2.2.1.st h.2.2.2.2.2 hn).mono fun _ _ ⟨he, hd⟩ => ⟨he, (h.took hd.out.1 hd.out.2).all, h.took hd.out.1 hd.out.2⟩
end
def anyW (zs : List Int) : Bool := zs.any (fun z => decide (0 < z))
theorem anyW_take {zs : List Int} {k : Nat} (h : k < zs.length) : anyW (zs.take (k + 1)) = (anyW (zs.take k) || decide (0 < zs.getD k 0)) := by
  unfold anyW
  rw [List.take_succ_eq_append_getElem h, List.any_append, List.getD_eq_getElem?_getD, List.getElem?_eq_getElem h]
  simp
theorem anyW_true {l : List UInt8} {zs : List Int} (h : anyW zs = true) : (pickN l zs).1 < zs.length ∧ 0 < zs.getD (pickN l zs).1 0 := by
  unfold anyW at h
  rw [List.any_eq_true] at h
  exact pickN_in (sumW_any (by obtain ⟨x, hx, h0⟩ := h; exact ⟨x, hx, of_decide_eq_true h0⟩))
theorem anyW_false {l : List UInt8} {zs : List Int} (h : anyW zs = false) : (pickN l zs).1 = 0 := by
  unfold anyW at h
  rw [List.any_eq_false] at h
  rw [pickN_zero (sumW_none (fun x hx h0 => h x hx (decide_eq_true h0)))]
end Go.Proofs.Ytacfboopkcaobab
