/- chance's statements: any call of a source; two sources, and two without bytes, side by side. -/
import Derived.Test.YtacfboopkcaobabBnd
namespace Go.Proofs.Ytacfboopkcaobab
open Go.RowKit

def askV (l : List UInt8) (x : Asq) : Int :=
  if x.k = 0 then ((l.headD 0).toNat : Int) else if x.k = 1 then wrap64 ((belowN l x.n.toNat).1 : Int) else if x.k = 2 then (betweenN l x.lo x.hi).1 else ((pickN l x.vZ).1 : Int)
def askL (l : List UInt8) (x : Asq) : List UInt8 :=
  if x.k = 0 then l.tail else if x.k = 1 then (belowN l x.n.toNat).2 else if x.k = 2 then (betweenN l x.lo x.hi).2 else (pickN l x.vZ).2
theorem takeN_nil : ∀ k, takeN [] k = (0, [])
  | 0 => rfl
  | k + 1 => by simp only [takeN, takeN_nil k]; rfl
theorem belowN_nil (n : Nat) : belowN [] n = (0, []) := by
  unfold belowN
  split
  · rfl
  · rw [takeN_nil, Nat.zero_mod]
theorem betweenN_nil (lo hi : Int) : betweenN [] lo hi = (lo, []) := by
  unfold betweenN
  rw [belowN_nil, takeN_nil]
  split
  · rfl
  · split <;> simp
theorem askL_nil (x : Asq) : askL [] x = [] := by
  unfold askL
  rw [belowN_nil, betweenN_nil]
  unfold pickN
  rw [belowN_nil]
  simp

theorem TookP.boxed {T : TypeId} {w : World} {p : Option Addr} {l : List UInt8} {v : Value} {o : Obj} {e : Ending} {w' : World} (h : TookP T (w.alloc o) p l v e w') : TookP T w p l v e w' :=
  ⟨h.1, (TP.of_below p ((Below.refl _ w).alloc (Nat.le_refl _) o)).trans h.2.out.1, h.2.out.2⟩

theorem ask_vl (l : List UInt8) (x : Asq) (k : Int) (hk : x.k = k) : (k = 0 → askV l x = ((l.headD 0).toNat : Int) ∧ askL l x = l.tail) ∧ (k = 1 → askV l x = wrap64 ((belowN l x.n.toNat).1 : Int) ∧ askL l x = (belowN l x.n.toNat).2) ∧ (k = 2 → askV l x = (betweenN l x.lo x.hi).1 ∧ askL l x = (betweenN l x.lo x.hi).2) ∧
      (k ≠ 0 → k ≠ 1 → k ≠ 2 → askV l x = ((pickN l x.vZ).1 : Int) ∧ askL l x = (pickN l x.vZ).2) := by
  unfold askV askL
  refine ⟨fun h => ?_, fun h => ?_, fun h => ?_, fun h0 h1 h2 => ?_⟩
  · have e0 : x.k = 0 := by omega
    rw [if_pos e0, if_pos e0]; exact ⟨rfl, rfl⟩
  · have e0 : ¬ x.k = 0 := by omega
    have e1 : x.k = 1 := by omega
    rw [if_neg e0, if_pos e1, if_neg e0, if_pos e1]; exact ⟨rfl, rfl⟩
  · have e0 : ¬ x.k = 0 := by omega
    have e1 : ¬ x.k = 1 := by omega
    have e2 : x.k = 2 := by omega
    rw [if_neg e0, if_neg e1, if_pos e2, if_neg e0, if_neg e1, if_pos e2]; exact ⟨rfl, rfl⟩
  · have e0 : ¬ x.k = 0 := by omega
    have e1 : ¬ x.k = 1 := by omega
    have e2 : ¬ x.k = 2 := by omega
    rw [if_neg e0, if_neg e1, if_neg e2, if_neg e0, if_neg e1, if_neg e2]; exact ⟨rfl, rfl⟩

set_option maxHeartbeats 4000000 in
set_option maxRecDepth 100000 in
theorem ask_c (p : Option Addr) (x : Asq) (l : List UInt8) (w : World) (h : ST 39 w p l) (hx : x.ok w) (h60 : x.vL ≤ 60) :
    Calls Try.prog 16 #[.pointer p, x.val] w (TookP 39 w p (askL l x) (.int .i64 (askV l x))) := by
  have hV := Lib.hid (ask_vl l x)
  obtain ⟨va, hva⟩ : ∃ v, v = askV l x := ⟨_, rfl⟩
  obtain ⟨la, hla⟩ : ∃ v, v = askL l x := ⟨_, rfl⟩
  rw [← hva, ← hla] at hV ⊢
  clear hva hla
  obtain ⟨xk, xn, xl, xh, xA, xL, xC, xZ⟩ := x
  obtain ⟨b0, b1, b2, b3, b4, b5, b6⟩ := hx
  simp only at b0 b1 b2 b3 b4 b5 b6 h60 hV
  unfold Asq.val
  have hV := hV.out xk rfl
  obtain ⟨W, hW⟩ : ∃ W, W = w.alloc (.cells #[.int .i64 xk, .int .u64 xn, .int .i64 xl, .int .i64 xh, .slice xA xL xC] 26) := ⟨_, rfl⟩
  have HB : Hid (∀ l' v e w', TookP 39 W p l' v e w' → TookP 39 w p l' v e w') := by intro l' v e w' h; rw [hW] at h; exact h.boxed
  have hbel : Below w.heap.size w W := by rw [hW]; exact (Below.refl _ w).alloc (Nat.le_refl _) _
  have hS : ST 39 W p l := h.below hbel
  by_cases k0 : xk = 0
  · subst k0
    obtain ⟨hv1, hv2⟩ := hV.1 rfl
    have HC := Lib.hid (pByte_c p l W hS)
    rw [← hv2] at HC
    obtain ⟨u, hu⟩ : ∃ u, u = (l.headD 0).toNat := ⟨_, rfl⟩
    rw [← hu] at HC hv1
    have hub : (u : Int) ≤ 255 := by have := (l.headD 0).toNat_lt; omega
    have Hv1 := Lib.hid hv1
    clear hV hv2 hS hbel b0 b1 b2 b3 b4 b5 b6 h hu hv1
    have HW := Lib.hid hW.symm; clear hW
    go_enter Try.func16, Try.ntmps16
    go_wp2_with fail
    rw [HW.out]
    ((with_reducible refine HC.out.mono ?_); rintro e w1 ⟨rfl, hd⟩)
    go_wp2_with fail
    go_ret
    rw [Hv1.out]
    exact HB.out _ _ _ _ ⟨rfl, hd.out⟩
  · by_cases k1 : xk = 1
    · subst k1
      obtain ⟨hv1, hv2⟩ := hV.2.1 rfl
      obtain ⟨n, rfl⟩ : ∃ n : Nat, (n : Int) = xn := ⟨xn.toNat, by omega⟩
      rw [Int.toNat_natCast] at hv1 hv2
      have HC := Lib.hid (below_c p n l W hS (by omega))
      rw [← hv2] at HC
      obtain ⟨u, hu⟩ : ∃ u, u = (belowN l n).1 := ⟨_, rfl⟩
      rw [← hu] at HC hv1
      have Hv1 := Lib.hid hv1
      clear hV hv2 hS hbel b0 b1 b2 b3 b4 b5 b6 h hu hv1 k0
      have HW := Lib.hid hW.symm; clear hW
      go_enter Try.func16, Try.ntmps16
      go_wp2_with fail
      rw [HW.out]
      ((with_reducible refine HC.out.mono ?_); rintro e w1 ⟨rfl, hd⟩)
      go_wp2_with fail
      go_ret
      rw [Hv1.out]
      exact HB.out _ _ _ _ ⟨rfl, hd.out⟩
    · by_cases k2 : xk = 2
      · subst k2
        obtain ⟨hv1, hv2⟩ := hV.2.2.1 rfl
        have HC := Lib.hid (between_c p xl xh l W hS b2.1 b2.2 b3.1 b3.2)
        rw [← hv2, ← hv1] at HC
        clear hV hv2 hS hbel b0 b1 b2 b3 b4 b5 b6 h hv1 k0 k1
        have HW := Lib.hid hW.symm; clear hW
        go_enter Try.func16, Try.ntmps16
        go_wp2_with fail
        rw [HW.out]
        ((with_reducible refine HC.out.mono ?_); rintro e w1 ⟨rfl, hd⟩)
        go_wp2_with fail
        go_ret
        exact HB.out _ _ _ _ ⟨rfl, hd.out⟩
      · obtain ⟨hv1, hv2⟩ := hV.2.2.2 k0 k1 k2
        have HC := Lib.hid (pick_c p xA xL xC xZ l W hS (b4.below hbel) h60)
        rw [← hv2, ← hv1] at HC
        have q0 : (xk == 0) = false := by simp [k0]
        have q1 : (xk == 1) = false := by simp [k1]
        have q2 : (xk == 2) = false := by simp [k2]
        clear hV hv2 hS hbel b0 b1 b2 b3 b4 b5 b6 h hv1 k0 k1 k2
        have HW := Lib.hid hW.symm; clear hW
        go_enter Try.func16, Try.ntmps16
        go_wp2_with fail
        rw [HW.out]
        ((with_reducible refine HC.out.mono ?_); rintro e w1 ⟨rfl, hd⟩)
        go_wp2_with fail
        go_ret
        exact HB.out _ _ _ _ ⟨rfl, hd.out⟩

/-- Two sources, and one without bytes; a call beside them. -/
def S4 (B : Nat) (w0 w : World) (gs gt ge q : Nat) (x : Asq) (ls lt : List UInt8) : Prop :=
  Below B w0 w ∧ B ≤ w.heap.size ∧ (B ≤ gs ∧ B ≤ gt ∧ B ≤ ge) ∧ (gs ≠ gt ∧ gs ≠ ge ∧ gt ≠ ge) ∧ w.heap[q]? = some (.cells #[.int .i64 x.k, .int .u64 x.n, .int .i64 x.lo, .int .i64 x.hi, .slice x.vA x.vL x.vC] 26 (0, 0)) ∧ SRC 39 w gs ls ∧ SRC 39 w gt lt ∧ SRC 39 w ge [] ∧ x.ok w
def C5 (w : World) (q : Nat) (x : Asq) : Prop := w.cell? ⟨q, 0, none⟩ = some (.int .i64 x.k) ∧ w.cell? ⟨q, 1, none⟩ = some (.int .u64 x.n) ∧ w.cell? ⟨q, 2, none⟩ = some (.int .i64 x.lo) ∧ w.cell? ⟨q, 3, none⟩ = some (.int .i64 x.hi) ∧ w.cell? ⟨q, 4, none⟩ = some (.slice x.vA x.vL x.vC)
theorem SRC.tp {T T' : TypeId} {w w' : World} {g g' : Nat} {l l' : List UInt8} (h : SRC T w g l) (h' : SRC T' w g' l') (hne : g ≠ g') (ht : TP (some ⟨g', 0, none⟩) w w') : SRC T w' g l := h.keep h' hne ht
section
variable {B gs gt ge q : Nat} {w0 w w' : World} {x : Asq} {ls lt : List UInt8}
theorem S4.all (h : S4 B w0 w gs gt ge q x ls lt) : C5 w q x := by
  obtain ⟨_, _, _, _, h4, _⟩ := h
  refine ⟨?_, ?_, ?_, ?_, ?_⟩ <;> (rw [cell_of_row _ _ _ _ _ _ h4]; rfl)
theorem S4.drewN (h : S4 B w0 w gs gt ge q x ls lt) (n : Nat) : S4 B w0 (w.drewN n) gs gt ge q x ls lt := by
  obtain ⟨h1, h2, h3, h4, h5, h6, h7, h8, h9⟩ := h
  exact ⟨⟨h1.1, h1.2, h1.3, h1.4, h1.5⟩, h2, h3, h4, h5, h6, h7, h8, h9⟩
theorem S4.drew (h : S4 B w0 w gs gt ge q x ls lt) : S4 B w0 w.drew gs gt ge q x ls lt := h.drewN 1
theorem S4.nul (h : S4 B w0 w gs gt ge q x ls lt) (ht : TP none w w') : S4 B w0 w' gs gt ge q x ls lt := by
  obtain ⟨h1, h2, h3, h4, h5, h6, h7, h8, h9⟩ := h
  have hb : Below w.heap.size w w' := ht.below (fun y hy => by cases hy) (Nat.le_refl _)
  exact ⟨h1.trans (hb.mono h2), Nat.le_trans h2 ht.size, h3, h4, (hb.block q (blk_lt h5)).trans h5, h6.below hb, h7.below hb, h8.below hb, Asq.ok_below h9 hb⟩
theorem Asq.ok_tp {T : TypeId} {g : Nat} {l : List UInt8} (h : x.ok w) (hs : SRC T w g l) (ht : TP (some ⟨g, 0, none⟩) w w') : x.ok w' := by
  obtain ⟨b0, b1, b2, b3, b4, b5⟩ := h
  refine ⟨b0, b1, b2, b3, b4.tp ht (fun a ha h0 y hy => ?_), b5⟩
  injection hy with hy
  rw [← hy]
  obtain ⟨A', n', c', h0', _⟩ := hs
  exact b4.away h0' a ha h0
theorem S4.qne {g : Nat} {T : TypeId} {l : List UInt8} (h : S4 B w0 w gs gt ge q x ls lt) (hs : SRC T w g l) (hT : T = 39) : q ≠ g := by
  obtain ⟨_, _, _, _, h4, _⟩ := h
  obtain ⟨A, n, c, h5, _⟩ := hs
  subst hT
  exact blk_ne h4 h5 (by decide)
theorem S4.s (h : S4 B w0 w gs gt ge q x ls lt) {l' : List UInt8} (ht : TP (some ⟨gs, 0, none⟩) w w') (hs : SRC 39 w' gs l') : S4 B w0 w' gs gt ge q x l' lt := by
  have hq := h.qne h.2.2.2.2.2.1 rfl
  obtain ⟨h1, h2, h3, h4, h5, h6, h7, h8, h9⟩ := h
  exact ⟨h1.trans (ht.below (fun y hy => by injection hy with hy; rw [← hy]; exact h3.1) h2), Nat.le_trans h2 ht.size, h3, h4, ht.blk h5 (fun y hy => by injection hy with hy; rw [← hy]; exact hq), hs, h7.tp h6 (Ne.symm h4.1) ht, h8.tp h6 (Ne.symm h4.2.1) ht, Asq.ok_tp h9 h6 ht⟩
theorem S4.t (h : S4 B w0 w gs gt ge q x ls lt) {l' : List UInt8} (ht : TP (some ⟨gt, 0, none⟩) w w') (hs : SRC 39 w' gt l') : S4 B w0 w' gs gt ge q x ls l' := by
  have hq := h.qne h.2.2.2.2.2.2.1 rfl
  obtain ⟨h1, h2, h3, h4, h5, h6, h7, h8, h9⟩ := h
  exact ⟨h1.trans (ht.below (fun y hy => by injection hy with hy; rw [← hy]; exact h3.2.1) h2), Nat.le_trans h2 ht.size, h3, h4, ht.blk h5 (fun y hy => by injection hy with hy; rw [← hy]; exact hq), h6.tp h7 h4.1 ht, hs, h8.tp h7 (Ne.symm h4.2.2) ht, Asq.ok_tp h9 h7 ht⟩
theorem S4.e (h : S4 B w0 w gs gt ge q x ls lt) (ht : TP (some ⟨ge, 0, none⟩) w w') (hs : SRC 39 w' ge []) : S4 B w0 w' gs gt ge q x ls lt := by
  have hq := h.qne h.2.2.2.2.2.2.2.1 rfl
  obtain ⟨h1, h2, h3, h4, h5, h6, h7, h8, h9⟩ := h
  exact ⟨h1.trans (ht.below (fun y hy => by injection hy with hy; rw [← hy]; exact h3.2.2) h2), Nat.le_trans h2 ht.size, h3, h4, ht.blk h5 (fun y hy => by injection hy with hy; rw [← hy]; exact hq), h6.tp h8 h4.2.1 ht, h7.tp h8 h4.2.2 ht, hs, Asq.ok_tp h9 h8 ht⟩
theorem s4_s (h : S4 B w0 w gs gt ge q x ls lt) (h60 : x.vL ≤ 60) :
    Calls Try.prog 16 #[.pointer (some ⟨gs, 0, none⟩), x.val] w fun e w' => e = .returned (.int .i64 (askV ls x)) ∧ C5 w' q x ∧ Hid (S4 B w0 w' gs gt ge q x (askL ls x) lt) :=
  (ask_c _ x ls w h.2.2.2.2.2.1.st h.2.2.2.2.2.2.2.2 h60).mono fun _ _ ⟨he, hd⟩ => ⟨he, (h.s hd.out.1 hd.out.2.src).all, h.s hd.out.1 hd.out.2.src⟩
theorem s4_t (h : S4 B w0 w gs gt ge q x ls lt) (h60 : x.vL ≤ 60) :
    Calls Try.prog 16 #[.pointer (some ⟨gt, 0, none⟩), x.val] w fun e w' => e = .returned (.int .i64 (askV lt x)) ∧ C5 w' q x ∧ Hid (S4 B w0 w' gs gt ge q x ls (askL lt x)) :=
  (ask_c _ x lt w h.2.2.2.2.2.2.1.st h.2.2.2.2.2.2.2.2 h60).mono fun _ _ ⟨he, hd⟩ => ⟨he, (h.t hd.out.1 hd.out.2.src).all, h.t hd.out.1 hd.out.2.src⟩
theorem s4_n (h : S4 B w0 w gs gt ge q x ls lt) (h60 : x.vL ≤ 60) :
    Calls Try.prog 16 #[.pointer none, x.val] w fun e w' => e = .returned (.int .i64 (askV [] x)) ∧ C5 w' q x ∧ Hid (S4 B w0 w' gs gt ge q x ls lt) :=
  (ask_c none x [] w (ST.nil _ w) h.2.2.2.2.2.2.2.2 h60).mono fun _ _ ⟨he, hd⟩ => ⟨he, (h.nul hd.out.1).all, h.nul hd.out.1⟩
theorem s4_e (h : S4 B w0 w gs gt ge q x ls lt) (h60 : x.vL ≤ 60) :
    Calls Try.prog 16 #[.pointer (some ⟨ge, 0, none⟩), x.val] w fun e w' => e = .returned (.int .i64 (askV [] x)) ∧ C5 w' q x ∧ Hid (S4 B w0 w' gs gt ge q x ls lt) :=
  (ask_c _ x [] w h.2.2.2.2.2.2.2.1.st h.2.2.2.2.2.2.2.2 h60).mono fun _ _ ⟨he, hd⟩ => by
    have h2 := hd.out.2.src
    rw [askL_nil] at h2
    exact ⟨he, (h.e hd.out.1 h2).all, h.e hd.out.1 h2⟩
theorem s4_b (h : S4 B w0 w gs gt ge q x ls lt) :
    Calls Try.prog 12 #[.pointer none, .int .i64 x.lo, .int .i64 x.hi] w fun e w' => e = .returned (.int .i64 x.lo) ∧ C5 w' q x ∧ Hid (S4 B w0 w' gs gt ge q x ls lt) := by
  have hx := h.2.2.2.2.2.2.2.2
  have hc := between_c none x.lo x.hi [] w (ST.nil _ w) hx.2.2.1.1 hx.2.2.1.2 hx.2.2.2.1.1 hx.2.2.2.1.2
  rw [betweenN_nil] at hc
  exact hc.mono fun _ _ ⟨he, hd⟩ => ⟨he, (h.nul hd.out.1).all, h.nul hd.out.1⟩
end

/-- Two sources of the same bytes, and one without. -/
def S3 (B : Nat) (w0 w : World) (gs gt ge : Nat) (l : List UInt8) : Prop :=
  Below B w0 w ∧ B ≤ w.heap.size ∧ (B ≤ gs ∧ B ≤ gt ∧ B ≤ ge) ∧ (gs ≠ gt ∧ gs ≠ ge ∧ gt ≠ ge) ∧ SRC 39 w gs l ∧ SRC 39 w gt l ∧ SRC 39 w ge []
theorem S4.drop {B gs gt ge q : Nat} {w0 w : World} {x : Asq} {l : List UInt8} (h : S4 B w0 w gs gt ge q x l l) : S3 B w0 w gs gt ge l := by
  obtain ⟨h1, h2, h3, h4, _, h6, h7, h8, _⟩ := h
  exact ⟨h1, h2, h3, h4, h6, h7, h8⟩
theorem S3.call {B gs gt ge : Nat} {w0 w : World} {x : Asq} {l : List UInt8} (h : S3 B w0 w gs gt ge l) (hx : x.ok w) :
    S4 B w0 (w.alloc (.cells #[.int .i64 x.k, .int .u64 x.n, .int .i64 x.lo, .int .i64 x.hi, .slice x.vA x.vL x.vC] 26)) gs gt ge w.heap.size x l l := by
  obtain ⟨h1, h2, h3, h4, h6, h7, h8⟩ := h
  have hb : Below w.heap.size w (w.alloc (.cells #[.int .i64 x.k, .int .u64 x.n, .int .i64 x.lo, .int .i64 x.hi, .slice x.vA x.vL x.vC] 26)) := (Below.refl _ w).alloc (Nat.le_refl _) _
  exact ⟨h1.trans (hb.mono h2), Nat.le_trans h2 hb.size, h3, h4, heap_alloc_new w _, h6.below hb, h7.below hb, h8.below hb, Asq.ok_below hx hb⟩
theorem S3.below {B gs gt ge : Nat} {w0 w w' : World} {l : List UInt8} (h : S3 B w0 w gs gt ge l) (hb : Below w.heap.size w w') : S3 B w0 w' gs gt ge l := by
  obtain ⟨h1, h2, h3, h4, h6, h7, h8⟩ := h
  exact ⟨h1.trans (hb.mono h2), Nat.le_trans h2 hb.size, h3, h4, h6.below hb, h7.below hb, h8.below hb⟩
theorem S3.drew {B gs gt ge : Nat} {w0 w : World} {l : List UInt8} (h : S3 B w0 w gs gt ge l) : S3 B w0 w.drew gs gt ge l := h.below (Below.refl _ _).drew
end Go.Proofs.Ytacfboopkcaobab
