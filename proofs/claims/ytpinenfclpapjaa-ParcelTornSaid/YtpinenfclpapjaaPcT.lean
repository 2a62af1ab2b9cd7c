/- parcel: bits turned in a copy: what holds meanwhile. -/
import Derived.Test.YtpinenfclpapjaaPie
namespace Go.Proofs.Ytpinenfclpapjaa
open Go.RowKit

theorem own_set {w : World} {base n g cap i : Nat} {l : List UInt8} {v : UInt8} (h : w.ownsRow base 5 1 (.slice (some ⟨g, 0, none⟩) n cap) n (l.map byt)) (_hi : i < n) :
    (w.setCell ⟨g, i, none⟩ (byt v)).ownsRow base 5 1 (.slice (some ⟨g, 0, none⟩) n cap) n ((l.set i v).map byt) := by
  obtain ⟨h1, h2⟩ := h
  refine ⟨by rw [List.length_map, List.length_set]; rw [List.length_map] at h1; exact h1, ?_⟩
  rcases h2 with ⟨hx, _⟩ | ⟨k, cap', cur, hv, hb, hk, hc, hm, hs, ht⟩
  · cases hx
  · injection hv with e1 e2 e3
    injection e1 with e1
    injection e1 with e1 _ _
    subst e1; subst e3
    refine .inr ⟨g, cap, cur.setIfInBounds i (byt v), rfl, hb, heap_set hk, hc, hm, by rw [Array.size_setIfInBounds]; exact hs, ?_⟩
    rw [List.map_set, ← ht, Array.toList_setIfInBounds, List.take_set]

/-- A parcel b, its copy cl at block g, and the piece at the box. -/
def BW (w : World) (kd : Int) (bA : Option Addr) (bL bC k1 o1 L : Nat) (b : List UInt8) (g cg : Nat) (cl : List UInt8) (W : World) : Prop :=
  Below w.heap.size w W ∧ W.heap[w.heap.size]? = some (.cells #[.int .u8 kd, .slice bA bL bC] 39 (0, 0)) ∧ SlB W (some ⟨k1, o1, none⟩) L b ∧
    W.ownsRow w.heap.size 5 1 (.slice (some ⟨g, 0, none⟩) L cg) L (cl.map byt) ∧ cl.length = L ∧ w.heap.size < g ∧ g ≠ k1
theorem BW.set {w : World} {kd : Int} {bA : Option Addr} {bL bC k1 o1 L : Nat} {b : List UInt8} {g cg : Nat} {cl : List UInt8} {W : World} (h : BW w kd bA bL bC k1 o1 L b g cg cl W) {i : Nat} (hi : i < L) (v : UInt8) :
    BW w kd bA bL bC k1 o1 L b g cg (cl.set i v) (W.setCell ⟨g, i, none⟩ (byt v)) := by
  obtain ⟨h1, h2, h3, h4, h5, h6, h7⟩ := h
  refine ⟨h1.setCell (p := ⟨g, i, none⟩) (by show w.heap.size ≤ g; omega) _, (heap_far (a := ⟨g, i, none⟩) (by show w.heap.size ≠ g; omega)).trans h2, ?_, own_set h4 hi, by rw [List.length_set]; exact h5, h6, h7⟩
  refine ⟨h3.1, ?_⟩
  rcases h3.2 with h0 | ⟨b', off', ha, hb, hc⟩
  · exact .inl h0
  · injection ha with ha
    injection ha with e1 e2 _
    subst e1; subst e2
    refine .inr ⟨k1, o1, rfl, by rw [World.size_setCell]; exact hb, fun j hj => ?_⟩
    rw [World.cell?_of_block (w := W) (heap_far (a := ⟨g, i, none⟩) (by show k1 ≠ g; omega))]
    exact hc j hj
theorem BW.drew {w : World} {kd : Int} {bA : Option Addr} {bL bC k1 o1 L : Nat} {b : List UInt8} {g cg : Nat} {cl : List UInt8} {W : World} (h : BW w kd bA bL bC k1 o1 L b g cg cl W) : BW w kd bA bL bC k1 o1 L b g cg cl W.drew :=
  ⟨h.1.drew, h.2.1, h.2.2.1, h.2.2.2.1, h.2.2.2.2⟩
theorem BW.undrew {w : World} {kd : Int} {bA : Option Addr} {bL bC k1 o1 L : Nat} {b : List UInt8} {g cg : Nat} {cl : List UInt8} {W : World} (h : BW w kd bA bL bC k1 o1 L b g cg cl W) (n : Nat) : BW w kd bA bL bC k1 o1 L b g cg cl (W.drewN n) :=
  ⟨⟨h.1.os, h.1.tape, h.1.output, h.1.size, h.1.block⟩, h.2.1, h.2.2.1, h.2.2.2.1, h.2.2.2.2⟩
theorem BW.below {w : World} {kd : Int} {bA : Option Addr} {bL bC k1 o1 L : Nat} {b : List UInt8} {g cg : Nat} {cl : List UInt8} {W W' : World} (h : BW w kd bA bL bC k1 o1 L b g cg cl W) (hb : Below W.heap.size W W') : BW w kd bA bL bC k1 o1 L b g cg cl W' :=
  ⟨h.1.trans (hb.mono h.1.size), (hb.block _ (blk_lt h.2.1)).trans h.2.1, h.2.2.1.below hb, own_bl h.2.2.2.1 hb, h.2.2.2.2⟩
theorem BW.slb {w : World} {kd : Int} {bA : Option Addr} {bL bC k1 o1 L : Nat} {b : List UInt8} {g cg : Nat} {cl : List UInt8} {W : World} (h : BW w kd bA bL bC k1 o1 L b g cg cl W) : SlB W (some ⟨g, 0, none⟩) L cl := own_slb0 h.2.2.2.1
theorem BW.cell {w : World} {kd : Int} {bA : Option Addr} {bL bC k1 o1 L : Nat} {b : List UInt8} {g cg : Nat} {cl : List UInt8} {W : World} (h : BW w kd bA bL bC k1 o1 L b g cg cl W) {i : Nat} (hi : i < L) :
    W.cell? ⟨g, i, none⟩ = some (.int .u8 ((cl.getD i 0).toNat : Int)) ∧ W.frozen? ⟨g, i, none⟩ = false := by
  have hs := h.slb
  rcases hs.2 with h0 | ⟨b', off', ha, hb, hc⟩
  · omega
  · injection ha with ha
    injection ha with e1 e2 _
    subst e1; subst e2
    refine ⟨by have := hc i hi; rw [Nat.zero_add] at this; exact this, ?_⟩
    rcases h.2.2.2.1.2 with ⟨hx, _⟩ | ⟨k, cap', cur, hv, _, hk, _⟩
    · cases hx
    · injection hv with e1 _ _
      injection e1 with e1
      injection e1 with e1 _ _
      subst e1
      exact frozen_of_row _ _ _ _ _ hk
theorem BW.piece {w : World} {kd : Int} {bA : Option Addr} {bL bC k1 o1 L : Nat} {b : List UInt8} {g cg : Nat} {cl : List UInt8} {W : World} (h : BW w kd bA bL bC k1 o1 L b g cg cl W) :
    W.cell? ⟨w.heap.size, 0, none⟩ = some (.int .u8 kd) ∧ W.cell? ⟨w.heap.size, 1, none⟩ = some (.slice bA bL bC) :=
  ⟨by rw [cell_of_row _ _ _ _ _ _ h.2.1]; rfl, by rw [cell_of_row _ _ _ _ _ _ h.2.1]; rfl⟩
end Go.Proofs.Ytpinenfclpapjaa
