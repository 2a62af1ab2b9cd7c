/- chance's plays: a source, and the reference's, side by side. -/
import Derived.Test.YtacfboopkcaobaaAskL
import Derived.Test.YtacfboopkcaobaaChS
namespace Go.Proofs.Ytacfboopkcaobaa
open Go.RowKit

def P2 (B : Nat) (w0 w : World) (gs gw : Nat) (ls lw : List UInt8) : Prop :=
  Below B w0 w ∧ B ≤ w.heap.size ∧ (B ≤ gs ∧ B ≤ gw) ∧ SRC 89 w gs ls ∧ SRC 57 w gw lw
def P3 (B : Nat) (w0 w : World) (gs gw q : Nat) (x : Asq) (ls lw : List UInt8) : Prop :=
  P2 B w0 w gs gw ls lw ∧ w.heap[q]? = some (.cells #[.int .i64 x.k, .int .u64 x.n, .int .i64 x.lo, .int .i64 x.hi, .slice x.vA x.vL x.vC] 60 (0, 0)) ∧ x.ok w
def CA (w : World) (q : Nat) (x : Asq) : Prop := w.cell? ⟨q, 0, none⟩ = some (.int .i64 x.k) ∧ w.cell? ⟨q, 1, none⟩ = some (.int .u64 x.n) ∧ w.cell? ⟨q, 2, none⟩ = some (.int .i64 x.lo) ∧ w.cell? ⟨q, 3, none⟩ = some (.int .i64 x.hi) ∧ w.cell? ⟨q, 4, none⟩ = some (.slice x.vA x.vL x.vC)
theorem src_ne {T T' : TypeId} {w : World} {g g' : Nat} {l l' : List UInt8} (h : SRC T w g l) (h' : SRC T' w g' l') (hne : T ≠ T') : g ≠ g' := by
  obtain ⟨A, n, c, h0, _⟩ := h
  obtain ⟨A', n', c', h0', _⟩ := h'
  exact blk_ne h0 h0' hne
section
variable {B gs gw q : Nat} {w0 w w' : World} {x : Asq} {ls lw l' : List UInt8}
theorem P3.all (h : P3 B w0 w gs gw q x ls lw) : CA w q x := by
  obtain ⟨_, h4, _⟩ := h
  refine ⟨?_, ?_, ?_, ?_, ?_⟩ <;> (rw [cell_of_row _ _ _ _ _ _ h4]; rfl)
theorem P3.drew (h : P3 B w0 w gs gw q x ls lw) : P3 B w0 w.drew gs gw q x ls lw := by
  obtain ⟨⟨h1, h2, h3, h4, h5⟩, h6, h7⟩ := h
  exact ⟨⟨h1.drew, h2, h3, h4, h5⟩, h6, h7⟩
theorem P2.drew (h : P2 B w0 w gs gw ls lw) : P2 B w0 w.drew gs gw ls lw := by
  obtain ⟨h1, h2, h3, h4, h5⟩ := h
  exact ⟨h1.drew, h2, h3, h4, h5⟩
theorem ok_tch {T : TypeId} {g : Nat} {l : List UInt8} (h : x.ok w) (hs : SRC T w g l) (ht : Tch g w w') : x.ok w' := by
  obtain ⟨b0, b1, b2, b3, b4, b5⟩ := h
  refine ⟨b0, b1, b2, b3, b4.fr (Fr.tch ht) (fun a ha h0 e => ?_), b5⟩
  obtain ⟨A', n', c', h0', _⟩ := hs
  exact b4.away h0' a ha h0 e
theorem P3.q_ne {T : TypeId} {g : Nat} {l : List UInt8} (h : P3 B w0 w gs gw q x ls lw) (hs : SRC T w g l) (hT : 60 ≠ T) : q ≠ g := by
  obtain ⟨A, n, c, h5, _⟩ := hs
  exact blk_ne h.2.1 h5 hT
theorem P3.s (h : P3 B w0 w gs gw q x ls lw) (ht : Tch gs w w') (hs : SRC 89 w' gs l') : P3 B w0 w' gs gw q x l' lw := by
  have hq := h.q_ne h.1.2.2.2.1 (by decide)
  obtain ⟨⟨h1, h2, h3, h4, h5⟩, h6, h7⟩ := h
  exact ⟨⟨h1.trans (ht.below h3.1 h2), Nat.le_trans h2 ht.size, h3, hs, h5.keep h4 (src_ne h5 h4 (by decide)) ht⟩, ht.blk h6 hq, ok_tch h7 h4 ht⟩
theorem P3.ref (h : P3 B w0 w gs gw q x ls lw) (ht : Tch gw w w') (hs : SRC 57 w' gw l') : P3 B w0 w' gs gw q x ls l' := by
  have hq := h.q_ne h.1.2.2.2.2 (by decide)
  obtain ⟨⟨h1, h2, h3, h4, h5⟩, h6, h7⟩ := h
  exact ⟨⟨h1.trans (ht.below h3.2 h2), Nat.le_trans h2 ht.size, h3, h4.keep h5 (src_ne h4 h5 (by decide)) ht, hs⟩, ht.blk h6 hq, ok_tch h7 h5 ht⟩
theorem P2.call (h : P2 B w0 w gs gw ls lw) (hx : x.ok w) : P3 B w0 (w.alloc (.cells #[.int .i64 x.k, .int .u64 x.n, .int .i64 x.lo, .int .i64 x.hi, .slice x.vA x.vL x.vC] 60)) gs gw w.heap.size x ls lw := by
  obtain ⟨h1, h2, h3, h4, h5⟩ := h
  have hb : Below w.heap.size w (w.alloc (.cells #[.int .i64 x.k, .int .u64 x.n, .int .i64 x.lo, .int .i64 x.hi, .slice x.vA x.vL x.vC] 60)) := (Below.refl _ w).alloc (Nat.le_refl _) _
  exact ⟨⟨h1.trans (hb.mono h2), Nat.le_trans h2 hb.size, h3, h4.below hb, h5.below hb⟩, heap_alloc_new w _, Asq.ok_below hx hb⟩
theorem p_byte (h : P3 B w0 w gs gw q x ls lw) : Calls Try.prog 22 #[.pointer (some ⟨gs, 0, none⟩)] w fun e w' => e = .returned (.int .u8 ((ls.headD 0).toNat : Int)) ∧ CA w' q x ∧ Hid (P3 B w0 w' gs gw q x ls.tail lw) :=
  (sByte_c gs ls w h.1.2.2.2.1).mono fun _ _ ⟨he, hd⟩ => ⟨he, (h.s hd.out.1 hd.out.2).all, h.s hd.out.1 hd.out.2⟩
theorem p_byte2 (h : P3 B w0 w gs gw q x ls lw) : Calls Try.prog 23 #[.pointer (some ⟨gw, 0, none⟩)] w fun e w' => e = .returned (.int .u8 ((lw.headD 0).toNat : Int)) ∧ CA w' q x ∧ Hid (P3 B w0 w' gs gw q x ls lw.tail) :=
  (rByte_c gw lw w h.1.2.2.2.2).mono fun _ _ ⟨he, hd⟩ => ⟨he, (h.ref hd.out.1 hd.out.2).all, h.ref hd.out.1 hd.out.2⟩
theorem p_below {n : Nat} (h : P3 B w0 w gs gw q x ls lw) (hn : n < 18446744073709551616) : Calls Try.prog 24 #[.pointer (some ⟨gs, 0, none⟩), .int .u64 (n : Int)] w fun e w' => e = .returned (.int .u64 ((belowN ls n).1 : Int)) ∧ CA w' q x ∧ Hid (P3 B w0 w' gs gw q x (belowN ls n).2 lw) :=
  (below_c _ n ls w h.1.2.2.2.1.st hn).mono fun _ _ ⟨he, hd⟩ => ⟨he, (h.s hd.out.1 hd.out.2.src).all, h.s hd.out.1 hd.out.2.src⟩
theorem p_below2 {n : Nat} (h : P3 B w0 w gs gw q x ls lw) (hn : n < 18446744073709551616) : Calls Try.prog 25 #[.pointer (some ⟨gw, 0, none⟩), .int .u64 (n : Int)] w fun e w' => e = .returned (.int .u64 ((belowN lw n).1 : Int)) ∧ CA w' q x ∧ Hid (P3 B w0 w' gs gw q x ls (belowN lw n).2) :=
  (rBelow_c gw n lw w h.1.2.2.2.2 hn).mono fun _ _ ⟨he, hd⟩ => ⟨he, (h.ref hd.out.1 hd.out.2).all, h.ref hd.out.1 hd.out.2⟩
theorem p_between (h : P3 B w0 w gs gw q x ls lw) : Calls Try.prog 26 #[.pointer (some ⟨gs, 0, none⟩), .int .i64 x.lo, .int .i64 x.hi] w fun e w' => e = .returned (.int .i64 (betweenN ls x.lo x.hi).1) ∧ CA w' q x ∧ Hid (P3 B w0 w' gs gw q x (betweenN ls x.lo x.hi).2 lw) :=
  (between_c _ x.lo x.hi ls w h.1.2.2.2.1.st h.2.2.2.2.1.1 h.2.2.2.2.1.2 h.2.2.2.2.2.1.1 h.2.2.2.2.2.1.2).mono fun _ _ ⟨he, hd⟩ => ⟨he, (h.s hd.out.1 hd.out.2.src).all, h.s hd.out.1 hd.out.2.src⟩
theorem p_between2 (h : P3 B w0 w gs gw q x ls lw) : Calls Try.prog 27 #[.pointer (some ⟨gw, 0, none⟩), .int .i64 x.lo, .int .i64 x.hi] w fun e w' => e = .returned (.int .i64 (betweenN lw x.lo x.hi).1) ∧ CA w' q x ∧ Hid (P3 B w0 w' gs gw q x ls (betweenN lw x.lo x.hi).2) :=
  (rBetween_c gw x.lo x.hi lw w h.1.2.2.2.2 h.2.2.2.2.1.1 h.2.2.2.2.1.2 h.2.2.2.2.2.1.1 h.2.2.2.2.2.1.2).mono fun _ _ ⟨he, hd⟩ => ⟨he, (h.ref hd.out.1 hd.out.2).all, h.ref hd.out.1 hd.out.2⟩
theorem p_pick (h : P3 B w0 w gs gw q x ls lw) (hn : x.vL ≤ 60) : Calls Try.prog 28 #[.pointer (some ⟨gs, 0, none⟩), .slice x.vA x.vL x.vC] w fun e w' => e = .returned (.int .i64 ((pickN ls x.vZ).1 : Int)) ∧ CA w' q x ∧ Hid (P3 B w0 w' gs gw q x (pickN ls x.vZ).2 lw) :=
  (pick_c _ x.vA x.vL x.vC x.vZ ls w h.1.2.2.2.1.st h.2.2.2.2.2.2.1 hn).mono fun _ _ ⟨he, hd⟩ => ⟨he, (h.s hd.out.1 hd.out.2.src).all, h.s hd.out.1 hd.out.2.src⟩
theorem p_pick2 (h : P3 B w0 w gs gw q x ls lw) (hn : x.vL ≤ 60) : Calls Try.prog 29 #[.pointer (some ⟨gw, 0, none⟩), .slice x.vA x.vL x.vC] w fun e w' => e = .returned (.int .i64 ((pickN lw x.vZ).1 : Int)) ∧ CA w' q x ∧ Hid (P3 B w0 w' gs gw q x ls (pickN lw x.vZ).2) :=
  (rPick_c gw x.vA x.vL x.vC x.vZ lw w h.1.2.2.2.2 h.2.2.2.2.2.2.1 hn).mono fun _ _ ⟨he, hd⟩ => ⟨he, (h.ref hd.out.1 hd.out.2).all, h.ref hd.out.1 hd.out.2⟩
end
end Go.Proofs.Ytacfboopkcaobaa
