/- chance: New, Fork; the chapter's example. -/
import Derived.Test.YtacfboopkcaobaaChD
namespace Go.Proofs.Ytacfboopkcaobaa
open Go.RowKit

theorem bytI (l : List UInt8) : (l.map fun b => (b.toNat : Int)).map (Value.int .u8) = l.map byt := by rw [List.map_map]; rfl
theorem own_src {w : World} {base n : Nat} {v : Value} {l : List UInt8} (h : w.ownsRow base 5 1 v n (l.map byt)) : ∃ A c, v = .slice A n c ∧ SlB w A n l ∧ n ≤ c ∧ c ≤ maxLen := by
  obtain ⟨h1, h2⟩ := id h
  rcases h2 with ⟨hv, h0⟩ | ⟨k, cap, cur, hv, _, _, hc, hm, _⟩
  · subst h0; subst hv; exact ⟨none, 0, rfl, own_slb0 h, Nat.le_refl _, Nat.zero_le _⟩
  · subst hv; exact ⟨_, _, rfl, own_slb0 h, hc, hm⟩

/-- A slice of bytes, copied. -/
def Cloned (w : World) (n : Nat) (l : List UInt8) (e : Ending) (w' : World) : Prop := ∃ A c, e = .returned (.slice A n c) ∧ Hid (Below w.heap.size w w' ∧ SlB w' A n l ∧ n ≤ c ∧ c ≤ maxLen)
theorem clone_c (A : Option Addr) (n c : Nat) (l : List UInt8) (w : World) (h : SlB w A n l) (hn : n ≤ 100000) :
    Calls Try.prog 43 #[.slice A n c] w (Cloned w n l) := by
  have hl := h.1
  cases A with
  | none =>
    have h0 : n = 0 := by
      rcases h.2 with h0 | ⟨b, off, hA, _⟩
      · exact h0
      · cases hA
    subst h0
    have : l = [] := List.eq_nil_of_length_eq_zero hl
    subst this
    exact (Try.bytes_Clone_nil 0 c w).mono fun e w' ⟨he, hw⟩ => ⟨none, 0, he, by rw [hw]; exact ⟨Below.refl _ _, ⟨rfl, .inl rfl⟩, Nat.le_refl _, Nat.zero_le _⟩⟩
  | some a =>
    refine (Try.bytes_Clone_at a n c (l.map fun b => (b.toNat : Int)) w (by rw [List.length_map, hl]) (by omega) (fun i hi => ?_)).mono fun e w' ⟨v', he, ho, _, hb⟩ => ?_
    · rcases h.2 with h0 | ⟨b, off, hA, _, hc⟩
      · omega
      · injection hA with hA
        subst hA
        rw [addr_add, hc i hi]
        unfold byt
        simp only [List.getD_eq_getElem?_getD, List.getElem?_map]
        rw [List.getElem?_eq_getElem (by omega)]
        rfl
    · rw [bytI] at ho
      obtain ⟨A', c', rfl, hs⟩ := own_src ho
      exact ⟨A', c', he, hb, hs⟩

/-- A source was made. -/
def Made (w : World) (l : List UInt8) (e : Ending) (w' : World) : Prop := ∃ g, e = .returned (.pointer (some ⟨g, 0, none⟩)) ∧ Hid (w.heap.size ≤ g ∧ Below w.heap.size w w' ∧ SRC 89 w' g l)
set_option maxHeartbeats 2000000 in
theorem new_c (A : Option Addr) (n c : Nat) (l : List UInt8) (w : World) (h : SlB w A n l) (hn : n ≤ 100000) :
    Calls Try.prog 21 #[.slice A n c] w (Made w l) := by
  have H := Lib.hid (clone_c A n c l w h hn)
  clear h hn
  go_enter Try.func21, Try.ntmps21
  go_wp2_with fail
  ((with_reducible refine H.out.mono ?_); rintro e w1 ⟨A', c', rfl, hd⟩)
  clear H
  go_wp2_with fail
  go_ret
  refine ⟨w1.heap.size, rfl, hd.out.1.size, hd.out.1.alloc hd.out.1.size _, A', n, c', heap_alloc_new w1 _, ?_, hd.out.2.2⟩
  exact hd.out.2.1.fr0 (Fr.of_below (S := fun _ => False) ((Below.refl _ w1).alloc (Nat.le_refl _) _)) (fun _ _ _ h => h)

theorem ex1 : belowN [7, 1, 2] 5 = (2, [1, 2]) := by unfold belowN; rw [if_neg (by omega), digs_pos (by omega), show (5 - 1) / 256 = 0 from rfl, digs_zero]; rfl
theorem ex2 : belowN [1, 2] 1 = (0, [1, 2]) := rfl
theorem ex3 : belowN [1, 2] 300 = (258, []) := by unfold belowN; rw [if_neg (by omega), digs_pos (by omega), show (300 - 1) / 256 = 1 from rfl, digs_pos (by omega), show 1 / 256 = 0 from rfl, digs_zero]; rfl
set_option maxHeartbeats 4000000 in
set_option maxRecDepth 100000 in
theorem lives5_c (w : World) :
    Calls Try.prog 20 #[] w fun e w' => e = .returned (.bool true) ∧ Below w.heap.size w w' := by
  have HN : Hid (Calls Try.prog 21 #[.slice (some ⟨w.heap.size, 0, none⟩) 3 3] (w.alloc (.cells #[.int .u8 7, .int .u8 1, .int .u8 2] 5)) (Made (w.alloc (.cells #[.int .u8 7, .int .u8 1, .int .u8 2] 5)) [7, 1, 2])) :=
    new_c _ _ _ _ _ ⟨rfl, .inr ⟨w.heap.size, 0, rfl, by simp, fun i hi => by
      rw [cell_of_row _ _ _ _ _ _ (heap_alloc_new w _)]
      match i, hi with
      | 0, _ => rfl
      | 1, _ => rfl
      | 2, _ => rfl⟩⟩ (by omega)
  go_enter Try.func20, Try.ntmps20
  go_wp2_with fail
  ((with_reducible refine HN.out.mono ?_); rintro e w1 ⟨g, rfl, hd⟩)
  clear HN
  have hb1 : Hid (Below w.heap.size w w1) := ((Below.refl _ w).alloc (Nat.le_refl _) _).trans (hd.out.2.1.mono (by simp))
  have hg : Hid (w.heap.size ≤ g) := Nat.le_trans (by simp) hd.out.1
  have H1 := Lib.hid (below_c (some ⟨g, 0, none⟩) 5 [7, 1, 2] w1 hd.out.2.2.st (by omega))
  rw [ex1, show ((5 : Nat) : Int) = 5 from rfl] at H1
  simp only [show ((2 : Nat) : Int) = 2 from rfl] at H1
  clear hd
  go_wp2_with fail
  ((with_reducible refine H1.out.mono ?_); rintro e w2 ⟨rfl, hd⟩)
  clear H1
  have hb2 : Hid (Below w.heap.size w w2) := hb1.out.trans (hd.out.1.below (fun x hx => by injection hx with hx; rw [← hx]; exact hg.out) hb1.out.size)
  have H1 := Lib.hid (below_c (some ⟨g, 0, none⟩) 1 [1, 2] w2 hd.out.2 (by omega))
  rw [ex2, show ((1 : Nat) : Int) = 1 from rfl] at H1
  simp only [show ((0 : Nat) : Int) = 0 from rfl] at H1
  clear hd hb1
  go_wp2_with fail
  ((with_reducible refine H1.out.mono ?_); rintro e w3 ⟨rfl, hd⟩)
  clear H1
  have hb3 : Hid (Below w.heap.size w w3) := hb2.out.trans (hd.out.1.below (fun x hx => by injection hx with hx; rw [← hx]; exact hg.out) hb2.out.size)
  have H1 := Lib.hid (below_c (some ⟨g, 0, none⟩) 300 [1, 2] w3 hd.out.2 (by omega))
  rw [ex3, show ((300 : Nat) : Int) = 300 from rfl] at H1
  simp only [show ((258 : Nat) : Int) = 258 from rfl] at H1
  clear hd hb2
  go_wp2_with fail
  ((with_reducible refine H1.out.mono ?_); rintro e w4 ⟨rfl, hd⟩)
  clear H1
  have hb4 : Hid (Below w.heap.size w w4) := hb3.out.trans (hd.out.1.below (fun x hx => by injection hx with hx; rw [← hx]; exact hg.out) hb3.out.size)
  clear hd hb3
  go_wp2_with fail
  go_ret
  exact ⟨rfl, hb4.out⟩
end Go.Proofs.Ytacfboopkcaobaa
