/- share: Share. (By mksh.py.) -/
import Derived.Test.YthpgbghcmfjjoaaShB
import Derived.Test.YthpgbghcmfjjoaaDivB
namespace Go.Proofs.Ythpgbghcmfjjoaa
open Go.RowKit Go.Lib
set_option linter.unusedVariables false

theorem below_drewN {B : Nat} {a w : World} (h : Below B a w) (n : Nat) : Below B a (w.drewN n) := ⟨h.os, h.tape, h.output, h.size, h.block⟩
/-- There is nothing to be shared. -/
def NoSh (mode : Int) (Q : List Int) (qty lot : Int) : Prop := ¬ (mode = 1 ∨ mode = 2) ∨ totN Q lot = 0 ∨ qty < 1 ∨ 4611686018427387904 < qty
theorem tot_on {wr w : World} {A : Option Addr} {n c : Nat} {L : List Od} {lot : Int} (hlot : InR lot) (HO : Ods w A n L) (hn : n ≤ 1000) :
    ∀ wr, Below w.heap.size w wr → Calls Try.prog 11 #[.slice A n c, .int .i64 lot] wr fun e w' => e = .returned (.int .i64 (totN (qs L) lot)) ∧ Below wr.heap.size wr w' :=
  fun wr hb => total_c A n c L lot hlot wr (HO.below hb) hn

set_option maxHeartbeats 4000000 in
set_option maxRecDepth 100000 in
theorem share_no (mode : Int) (A : Option Addr) (n c : Nat) (L : List Od) (qty lot : Int) (hlot : InR lot) (w : World) (HO : Ods w A n L) (hn : n ≤ 1000) (hno : NoSh mode (qs L) qty lot) :
    Calls Try.prog 9 #[.int .i64 mode, .slice A n c, .int .i64 qty, .int .i64 lot] w fun e w' => e = .returned (.slice none 0 0) ∧ Below w.heap.size w w' := by
  obtain ⟨T, hT⟩ : ∃ T, T = totN (qs L) lot := ⟨_, rfl⟩
  have HTot : Hid (∀ wr, Below w.heap.size w wr → Calls Try.prog 11 #[.slice A n c, .int .i64 lot] wr fun e w' => e = .returned (.int .i64 T) ∧ Below wr.heap.size wr w') := Lib.hid (by rw [hT]; exact tot_on (wr := w) hlot HO hn)
  have hb0 : Below w.heap.size w ((w.alloc (.cells #[.slice A n c] 22)).alloc (.cells #[.int .i64 lot] 2)) := ((Below.refl _ _).alloc (Nat.le_refl _) _).alloc (by simp) _
  unfold NoSh at hno
  rw [← hT] at hno
  clear HO hlot hT
  by_cases m1 : mode = 1
  · subst m1
    by_cases z : T = 0
    · subst z; clear hno
      go_enter Try.func9, Try.ntmps9
      go_wp2_with fail
      ((with_reducible refine (HTot.out _ hb0).mono ?_); rintro e w2 ⟨rfl, b2⟩)
      have hB := hb0.trans (b2.mono hb0.size)
      go_wp2_with fail
      go_ret
      exact ⟨rfl, hB⟩
    have z1 : (T == 0) = false := by simp [z]
    by_cases q1 : qty < 1
    · clear hno z
      have q2 : decide (qty < 1) = true := decide_eq_true q1
      go_enter Try.func9, Try.ntmps9
      go_wp2_with fail
      ((with_reducible refine (HTot.out _ hb0).mono ?_); rintro e w2 ⟨rfl, b2⟩)
      have hB := hb0.trans (b2.mono hb0.size)
      go_wp2_with fail
      go_ret
      exact ⟨rfl, hB⟩
    have q3 : 4611686018427387904 < qty := by omega
    have q4 : decide (qty < 1) = false := decide_eq_false q1
    have q5 : decide (4611686018427387904 < qty) = true := decide_eq_true q3
    clear hno z
    go_enter Try.func9, Try.ntmps9
    go_wp2_with fail
    ((with_reducible refine (HTot.out _ hb0).mono ?_); rintro e w2 ⟨rfl, b2⟩)
    have hB := hb0.trans (b2.mono hb0.size)
    go_wp2_with fail
    go_ret
    exact ⟨rfl, hB⟩
  by_cases m2 : mode = 2
  · subst m2
    by_cases z : T = 0
    · subst z; clear hno
      go_enter Try.func9, Try.ntmps9
      go_wp2_with fail
      ((with_reducible refine (HTot.out _ hb0).mono ?_); rintro e w2 ⟨rfl, b2⟩)
      have hB := hb0.trans (b2.mono hb0.size)
      go_wp2_with fail
      go_ret
      exact ⟨rfl, hB⟩
    have z1 : (T == 0) = false := by simp [z]
    by_cases q1 : qty < 1
    · clear hno z
      have q2 : decide (qty < 1) = true := decide_eq_true q1
      go_enter Try.func9, Try.ntmps9
      go_wp2_with fail
      ((with_reducible refine (HTot.out _ hb0).mono ?_); rintro e w2 ⟨rfl, b2⟩)
      have hB := hb0.trans (b2.mono hb0.size)
      go_wp2_with fail
      go_ret
      exact ⟨rfl, hB⟩
    have q3 : 4611686018427387904 < qty := by omega
    have q4 : decide (qty < 1) = false := decide_eq_false q1
    have q5 : decide (4611686018427387904 < qty) = true := decide_eq_true q3
    clear hno z
    go_enter Try.func9, Try.ntmps9
    go_wp2_with fail
    ((with_reducible refine (HTot.out _ hb0).mono ?_); rintro e w2 ⟨rfl, b2⟩)
    have hB := hb0.trans (b2.mono hb0.size)
    go_wp2_with fail
    go_ret
    exact ⟨rfl, hB⟩
  have e1 : (mode == 1) = false := by simp [m1]
  have e2 : (mode != 1) = true := by simp [m1]
  have e3 : (mode == 2) = false := by simp [m2]
  have e4 : (mode != 2) = true := by simp [m2]
  clear hno m1 m2
  go_enter Try.func9, Try.ntmps9
  go_wp2_with fail
  ((with_reducible refine (HTot.out _ hb0).mono ?_); rintro e w2 ⟨rfl, b2⟩)
  have hB := hb0.trans (b2.mono hb0.size)
  go_wp2_with fail
  go_ret
  exact ⟨rfl, hB⟩

/-- While the first parts are told. -/
structure St1 (w wr : World) (m : Nat) (A : Option Addr) (n c : Nat) (lot mode all T : Int) (Q : List Int) (k : Nat) : Prop where
  s : Hst wr w.heap.size (w.heap.size + 1) (m + 1) (m + 2) m A n c lot (lef1 mode all T lot Q k) (fun j => if j < k then p1 mode all T lot (Q.getD j 0) else 0)
  b : Below w.heap.size w wr
  m : w.heap.size + 2 ≤ m
/-- While what is left is handed out. -/
structure St2 (w wr : World) (m : Nat) (A : Option Addr) (n c : Nat) (lot mode all T : Int) (Q : List Int) (k : Nat) : Prop where
  s : Hst wr w.heap.size (w.heap.size + 1) (m + 1) (m + 2) m A n c lot (lef2 mode all T lot Q k) (fun j => if j < k then outN mode all T lot Q j else p1 mode all T lot (Q.getD j 0))
  b : Below w.heap.size w wr
  m : w.heap.size + 2 ≤ m
theorem St1.next {w wr : World} {m n c k : Nat} {A : Option Addr} {lot mode all T : Int} {Q : List Int} (h : St1 w wr m A n c lot mode all T Q k) {w1 : World} (hb : Below wr.heap.size wr w1) (q : Nat) (d : Int) (hd : d = p1 mode all T lot (Q.getD k 0)) :
    St1 w (((w1.drewN q).setCell ⟨m, k, none⟩ (.int .i64 (0 + d))).setCell ⟨m + 2, 0, none⟩ (.int .i64 (lef1 mode all T lot Q k - d))) m A n c lot mode all T Q (k + 1) := by
  have hm := h.m
  refine ⟨?_, ((below_drewN (h.b.trans (hb.mono h.b.size)) q).setCell (by show w.heap.size ≤ m; omega) _).setCell (by show w.heap.size ≤ m + 2; omega) _, hm⟩
  have e : lef1 mode all T lot Q (k + 1) = lef1 mode all T lot Q k - d := by rw [hd]; rfl
  rw [e]
  refine (h.s.below hb).handed q k (0 + d) (lef1 mode all T lot Q k - d) _ (fun j hj => ?_) (by omega) (by omega) (by omega) (by omega) (by omega) (by omega) (by omega)
  by_cases e1 : j = k
  · subst e1; rw [if_pos (by omega), if_pos rfl, hd]; omega
  · rw [if_neg e1]
    by_cases e2 : j < k
    · rw [if_pos (by omega), if_pos e2]
    · rw [if_neg (by omega), if_neg e2]
theorem St2.next {w wr : World} {m n c k : Nat} {A : Option Addr} {lot mode all T : Int} {Q : List Int} (h : St2 w wr m A n c lot mode all T Q k) (q : Nat) (z d : Int) (hz : z = p1 mode all T lot (Q.getD k 0)) (hd : d = min (lef2 mode all T lot Q k) (trimN lot (Q.getD k 0) - z)) :
    St2 w (((wr.drewN q).setCell ⟨m, k, none⟩ (.int .i64 (z + d))).setCell ⟨m + 2, 0, none⟩ (.int .i64 (lef2 mode all T lot Q k - d))) m A n c lot mode all T Q (k + 1) := by
  have hm := h.m
  refine ⟨?_, ((below_drewN h.b q).setCell (by show w.heap.size ≤ m; omega) _).setCell (by show w.heap.size ≤ m + 2; omega) _, hm⟩
  have e : lef2 mode all T lot Q (k + 1) = lef2 mode all T lot Q k - d := by rw [hd, hz]; rfl
  rw [e]
  refine h.s.handed q k (z + d) (lef2 mode all T lot Q k - d) _ (fun j hj => ?_) (by omega) (by omega) (by omega) (by omega) (by omega) (by omega) (by omega)
  by_cases e1 : j = k
  · subst e1; rw [if_pos (by omega), if_pos rfl, hd, hz]; rfl
  · rw [if_neg e1]
    by_cases e2 : j < k
    · rw [if_pos (by omega), if_pos e2]
    · rw [if_neg (by omega), if_neg e2]
theorem St1.st2 {w wr : World} {m n c : Nat} {A : Option Addr} {lot mode all T : Int} {Q : List Int} (h : St1 w wr m A n c lot mode all T Q n) (hn : Q.length = n) : St2 w wr m A n c lot mode all T Q 0 := by
  refine ⟨⟨h.s.l, h.s.t, h.s.p, ?_, h.s.a.congr (fun j hj => ?_)⟩, h.b, h.m⟩
  · have e : lef2 mode all T lot Q 0 = lef1 mode all T lot Q n := by show lef1 mode all T lot Q Q.length = _; rw [hn]
    rw [e]; exact h.s.e
  · show Value.int .i64 (if j < n then _ else 0) = .int .i64 (if j < 0 then _ else _)
    rw [if_pos hj, if_neg (by omega)]
theorem st1_new (w w2 : World) (A : Option Addr) (n c : Nat) (lot mode all T : Int) (Q : List Int) (hb : Below (w.heap.size + 2) ((w.alloc (.cells #[.slice A n c] 22)).alloc (.cells #[.int .i64 lot] 2)) w2) :
    St1 w (((w2.alloc (.cells (madeCells #[.int .i64 0] n) 2)).alloc (.cells #[.slice (some ⟨w2.heap.size, 0, none⟩) n n] 27)).alloc (.cells #[.int .i64 all] 2)) w2.heap.size A n c lot mode all T Q 0 := by
  have hs := hb.size
  simp at hs
  have b0 : Below w.heap.size w w2 := (((Below.refl _ _).alloc (Nat.le_refl _) _).alloc (by simp) _).trans (hb.mono (by omega))
  have k0 : w2.heap[w.heap.size]? = some (.cells #[.slice A n c] 22 (0, 0)) := (hb.block _ (by omega)).trans (heap_prev (by simp) (heap_last rfl))
  have k1 : w2.heap[w.heap.size + 1]? = some (.cells #[.int .i64 lot] 2 (0, 0)) := (hb.block _ (by omega)).trans (heap_last (by simp))
  refine ⟨⟨Bx.alloc (Bx.alloc (Bx.alloc k0 _) _) _, Bx.alloc (Bx.alloc (Bx.alloc k1 _) _) _, Bx.alloc (heap_last (by simp)) _, heap_last (by simp), ?_⟩, ((b0.alloc b0.size _).alloc (by simp; omega) _).alloc (by simp; omega) _, by omega⟩
  exact ((World.rowIs_made w2 (.int .i64 0) n _).alloc _).alloc _ |>.congr (fun j hj => by simp)
end Go.Proofs.Ythpgbghcmfjjoaa
