/- chance: a source in memory, the code's and the reference's; a byte is taken. -/
import Derived.Test.YtacfboopkcaobaaMem
import Derived.Test.YtacfboopkcaobaaChP
namespace Go.Proofs.Ytacfboopkcaobaa
open Go.RowKit

/-- A source at block g: what is left. T: the type's number. -/
def SRC (T : TypeId) (w : World) (g : Nat) (l : List UInt8) : Prop :=
  ∃ A n c, w.heap[g]? = some (.cells #[.slice A n c] T (0, 0)) ∧ SlB w A n l ∧ n ≤ c ∧ c ≤ maxLen
theorem SRC.lt {T : TypeId} {w : World} {g : Nat} {l : List UInt8} (h : SRC T w g l) : g < w.heap.size := by
  obtain ⟨A, n, c, h0, _⟩ := h; exact blk_lt h0
theorem SRC.drew {T : TypeId} {w : World} {g : Nat} {l : List UInt8} (h : SRC T w g l) : SRC T w.drew g l := h
theorem SRC.drewN {T : TypeId} {w : World} {g : Nat} {l : List UInt8} (h : SRC T w g l) (n : Nat) : SRC T (w.drewN n) g l := h
/-- What a source has lies in no source. -/
theorem SlB.away {T : TypeId} {w : World} {g : Nat} {A A' : Option Addr} {n n' c : Nat} {l : List UInt8} (hg : w.heap[g]? = some (.cells #[.slice A' n' c] T (0, 0))) (h : SlB w A n l) : ∀ a, A = some a → 0 < n → a.block ≠ g := by
  intro a ha h0 e
  obtain ⟨hl, h2⟩ := h
  rcases h2 with h2 | ⟨b, off, rfl, hb, hc⟩
  · omega
  · injection ha with ha
    subst ha
    have e' : b = g := e
    subst e'
    have h3 := hc 0 h0
    rw [Nat.add_zero, cell_of_row _ _ _ _ _ _ hg] at h3
    match off, h3 with
    | 0, h3 => simp [byt] at h3
    | k + 1, h3 => simp at h3
theorem SRC.keep {T T' : TypeId} {w w' : World} {g g' : Nat} {l l' : List UInt8} (h : SRC T w g l) (h' : SRC T' w g' l') (hne : g ≠ g') (ht : Tch g' w w') : SRC T w' g l := by
  obtain ⟨A, n, c, h0, hs, h1, h2⟩ := h
  obtain ⟨A', n', c', h0', _⟩ := h'
  exact ⟨A, n, c, ht.blk h0 hne, hs.fr0 (Fr.tch ht) (hs.away h0'), h1, h2⟩
theorem SRC.below {T : TypeId} {w w' : World} {g : Nat} {l : List UInt8} (h : SRC T w g l) (hb : Below w.heap.size w w') : SRC T w' g l := by
  obtain ⟨A, n, c, h0, hs, h1, h2⟩ := h
  exact ⟨A, n, c, (hb.block g (blk_lt h0)).trans h0, hs.fr0 (Fr.of_below (S := fun _ => False) hb) (fun _ _ _ h => h), h1, h2⟩
theorem SRC.alloc {T : TypeId} {w : World} {g : Nat} {l : List UInt8} (h : SRC T w g l) (o : Obj) : SRC T (w.alloc o) g l := h.below ((Below.refl _ _).alloc (Nat.le_refl _) _)
theorem SRC.slice {T : TypeId} {w : World} {g : Nat} {l : List UInt8} (h : SRC T w g l) : ∃ A n c, n = l.length ∧ w.cell? ⟨g, 0, none⟩ = some (.slice A n c) ∧ w.frozen? ⟨g, 0, none⟩ = false ∧ n ≤ c ∧ c ≤ maxLen ∧ SlB w A n l := by
  obtain ⟨A, n, c, h0, hs, h1, h2⟩ := h
  exact ⟨A, n, c, hs.1.symm, by rw [cell_of_row _ _ _ _ _ _ h0]; rfl, frozen_of_row _ _ _ _ _ h0, h1, h2, hs⟩
/-- The first one is cut off. -/
theorem SRC.cut {T : TypeId} {w : World} {g b off n c : Nat} {x : UInt8} {l : List UInt8} (h0 : w.heap[g]? = some (.cells #[.slice (some ⟨b, off, none⟩) n c] T (0, 0))) (hs : SlB w (some ⟨b, off, none⟩) n (x :: l)) (h1 : n ≤ c) (h2 : c ≤ maxLen) {A : Option Addr} {n' c' : Nat}
    (hn : n' = n - 1) (hc : c' = c - 1) (hA : 1 < n → A = some ⟨b, off + 1, none⟩) : SRC T (w.setCell ⟨g, 0, none⟩ (.slice A n' c')) g l := by
  subst hn; subst hc
  refine ⟨A, n - 1, c - 1, by rw [heap_set h0]; rfl, ?_, by omega, by omega⟩
  have hd := hs.drop 1 (by have := hs.1; simp at this; omega)
  simp only [Option.map_some, addr_add, List.drop_one, List.tail_cons] at hd
  by_cases h3 : 1 < n
  · rw [hA h3]
    exact hd.fr0 (Fr.tch ((Tch.refl g w).set 0 _)) (hd.away h0)
  · refine ⟨?_, .inl (by omega)⟩
    have := hs.1
    simp at this ⊢
    omega

/-- What a call leaves behind that takes from a source: only this one has turned. -/
def Took (T : TypeId) (w : World) (g : Nat) (l : List UInt8) (v : Value) (e : Ending) (w' : World) : Prop := e = .returned v ∧ Hid (Tch g w w' ∧ SRC T w' g l)

theorem sLeft_c (g : Nat) (l : List UInt8) (w : World) (h : SRC 89 w g l) :
    Calls Try.prog 30 #[.pointer (some ⟨g, 0, none⟩)] w fun e w' => e = .returned (.int .i64 (l.length : Int)) ∧ w = w' := by
  obtain ⟨A, n, c, hn, k0, _, _, _, _⟩ := h.slice
  rw [← hn]
  clear h hn
  go_enter Try.func30, Try.ntmps30
  go_wp2
  go_ret
  exact ⟨rfl, rfl⟩

set_option maxHeartbeats 1000000 in
theorem sByte_nil (g : Nat) (w : World) (h : SRC 89 w g []) :
    Calls Try.prog 22 #[.pointer (some ⟨g, 0, none⟩)] w fun e w' => e = .returned (.int .u8 0) ∧ w = w' := by
  have h0 := Lib.hid (sLeft_c g [] w h)
  clear h
  go_enter Try.func22, Try.ntmps22
  go_wp2_with fail
  ((with_reducible refine h0.out.mono ?_); rintro e w1 ⟨rfl, rfl⟩)
  go_wp2_with fail
  go_ret
  exact ⟨rfl, rfl⟩

set_option maxHeartbeats 2000000 in
theorem sByte_cons (g : Nat) (x : UInt8) (l : List UInt8) (w : World) (h : SRC 89 w g (x :: l)) :
    Calls Try.prog 22 #[.pointer (some ⟨g, 0, none⟩)] w (Took 89 w g l (.int .u8 (x.toNat : Int))) := by
  have h0 := Lib.hid (sLeft_c g _ w h)
  obtain ⟨A, n, c, hh, hs, h1, h2⟩ := h
  have hs' := hs
  obtain ⟨hl, h3⟩ := hs'
  rcases h3 with h3 | ⟨b, off, rfl, hb, hc⟩
  · simp at hl; omega
  have hn : 0 < n := by simp at hl; omega
  have k0 : w.cell? ⟨g, 0, none⟩ = some (.slice (some ⟨b, off, none⟩) n c) := by rw [cell_of_row _ _ _ _ _ _ hh]; rfl
  have f0 : w.frozen? ⟨g, 0, none⟩ = false := frozen_of_row _ _ _ _ _ hh
  have k1 : w.cell? ⟨b, off, none⟩ = some (.int .u8 (x.toNat : Int)) := by have := hc 0 hn; simpa [byt] using this
  have hmx : (c : Int) ≤ 9223372036854775807 := by unfold maxLen at h2; omega
  have hn1 : (1 : Int) ≤ (n : Int) := by omega
  have hnc : (n : Int) ≤ (c : Int) := by omega
  have HC := Lib.hid (fun A n' c' => SRC.cut (A := A) (n' := n') (c' := c') hh hs h1 h2)
  have HL := Lib.hid hl
  clear hh hs hl hc h2
  by_cases h4 : n = 1
  · subst h4
    go_enter Try.func22, Try.ntmps22
    go_wp2_with fail
    ((with_reducible refine h0.out.mono ?_); rintro e w1 ⟨rfl, rfl⟩)
    go_wp2_with fail
    all_goals
      go_ret
      exact ⟨rfl, (Tch.refl g w).set 0 _, HC.out _ _ _ (by first | rfl | omega) (by first | rfl | omega) (fun h => absurd h (by omega))⟩
  · have h5 : 1 < c := by omega
    have h6 : (1 : Int) < (c : Int) := by omega
    go_enter Try.func22, Try.ntmps22
    go_wp2_with fail
    ((with_reducible refine h0.out.mono ?_); rintro e w1 ⟨rfl, rfl⟩)
    go_wp2_with fail
    all_goals
      go_ret
      exact ⟨rfl, (Tch.refl g w).set 0 _, HC.out _ _ _ (by first | rfl | omega) (by first | rfl | omega) (fun _ => by first | rfl | omega)⟩

theorem sByte_c (g : Nat) (l : List UInt8) (w : World) (h : SRC 89 w g l) :
    Calls Try.prog 22 #[.pointer (some ⟨g, 0, none⟩)] w (Took 89 w g l.tail (.int .u8 ((l.headD 0).toNat : Int))) := by
  cases l with
  | nil => exact (sByte_nil g w h).mono fun e w' ⟨he, hw⟩ => ⟨he, hw ▸ ⟨Tch.refl g w, h⟩⟩
  | cons x l => exact sByte_cons g x l w h

/-! ### A source, or none -/
/-- At a pointer: a source, or nil, which has nothing. -/
def ST (T : TypeId) (w : World) (p : Option Addr) (l : List UInt8) : Prop := (p = none ∧ l = []) ∨ ∃ g, p = some ⟨g, 0, none⟩ ∧ SRC T w g l
/-- Only the source has turned. -/
def TP (p : Option Addr) (w w' : World) : Prop := w.grownBy w' (p.map (·.block))
theorem TP.refl (p : Option Addr) (w : World) : TP p w w := World.grownBy.refl _ _
theorem TP.trans {p : Option Addr} {a b c : World} (h : TP p a b) (k : TP p b c) : TP p a c := World.grownBy.trans h k
theorem TP.size {p : Option Addr} {a b : World} (h : TP p a b) : a.heap.size ≤ b.heap.size := World.grownBy.size h
theorem TP.of_below (p : Option Addr) {a b : World} (h : Below a.heap.size a b) : TP p a b := ⟨h.os, h.tape, h.output, h.size, fun i hi _ => h.block i hi⟩
theorem TP.fresh {p : Option Addr} {c : Nat} {a b b' : World} (h : TP p a b) (k : Tch c b b') (hc : a.heap.size ≤ c) : TP p a b' :=
  ⟨k.1.trans h.1, k.2.trans h.2, k.3.trans h.3, Nat.le_trans h.size k.size, fun i hi hne => (World.grownBy.block k i (Nat.lt_of_lt_of_le hi h.size) (fun e => by injection e with e; omega)).trans (World.grownBy.block h i hi hne)⟩
theorem TP.below {p : Option Addr} {B : Nat} {a b : World} (h : TP p a b) (hB : ∀ x, p = some x → B ≤ x.block) (hs : B ≤ a.heap.size) : Below B a b :=
  ⟨World.grownBy.os h, World.grownBy.tape h, World.grownBy.output h, h.size, fun k hk => World.grownBy.block h k (by omega) (fun e => by
    cases p with
    | none => cases e
    | some x => have := hB x rfl; have e2 : k = x.block := by simpa using e
                omega)⟩
theorem TP.blk {p : Option Addr} {k : Nat} {a b : World} {o : Obj} (h : TP p a b) (ho : a.heap[k]? = some o) (hne : ∀ x, p = some x → k ≠ x.block) : b.heap[k]? = some o :=
  (World.grownBy.block h k (blk_lt ho) (fun e => by
    cases p with
    | none => cases e
    | some x => exact hne x rfl (by simpa using e))).trans ho
theorem ST.below {T : TypeId} {w w' : World} {p : Option Addr} {l : List UInt8} (h : ST T w p l) (hb : Below w.heap.size w w') : ST T w' p l := by
  rcases h with h | ⟨g, hp, h⟩
  · exact .inl h
  · exact .inr ⟨g, hp, h.below hb⟩
theorem ST.lt {T : TypeId} {w : World} {p : Option Addr} {l : List UInt8} (h : ST T w p l) : ∀ x, p = some x → x.block < w.heap.size := by
  intro x hx
  rcases h with ⟨h, _⟩ | ⟨g, hp, h⟩
  · rw [h] at hx; cases hx
  · rw [hp] at hx; injection hx with hx; rw [← hx]; exact h.lt
theorem SRC.st {T : TypeId} {w : World} {g : Nat} {l : List UInt8} (h : SRC T w g l) : ST T w (some ⟨g, 0, none⟩) l := .inr ⟨g, rfl, h⟩
theorem ST.src {T : TypeId} {w : World} {g : Nat} {l : List UInt8} (h : ST T w (some ⟨g, 0, none⟩) l) : SRC T w g l := by
  rcases h with ⟨h, _⟩ | ⟨g', hp, h⟩
  · cases h
  · injection hp with hp; injection hp with hp; subst hp; exact h
theorem ST.nil (T : TypeId) (w : World) : ST T w none [] := .inl ⟨rfl, rfl⟩
def TookP (T : TypeId) (w : World) (p : Option Addr) (l : List UInt8) (v : Value) (e : Ending) (w' : World) : Prop := e = .returned v ∧ Hid (TP p w w' ∧ ST T w' p l)

theorem nLeft_c (w : World) : Calls Try.prog 30 #[.pointer none] w fun e w' => e = .returned (.int .i64 0) ∧ w = w' := by
  go_enter Try.func30, Try.ntmps30
  go_wp2
  go_ret
  exact ⟨rfl, rfl⟩
theorem nByte_c (w : World) : Calls Try.prog 22 #[.pointer none] w fun e w' => e = .returned (.int .u8 0) ∧ w = w' := by
  go_enter Try.func22, Try.ntmps22
  go_wp2_with fail
  ((with_reducible refine (nLeft_c _).mono ?_); rintro e w1 ⟨rfl, rfl⟩)
  go_wp2_with fail
  go_ret
  exact ⟨rfl, rfl⟩
theorem pLeft_c (p : Option Addr) (l : List UInt8) (w : World) (h : ST 89 w p l) :
    Calls Try.prog 30 #[.pointer p] w fun e w' => e = .returned (.int .i64 (l.length : Int)) ∧ w = w' := by
  rcases h with ⟨rfl, rfl⟩ | ⟨g, rfl, h⟩
  · exact nLeft_c w
  · exact sLeft_c g l w h
theorem pByte_c (p : Option Addr) (l : List UInt8) (w : World) (h : ST 89 w p l) :
    Calls Try.prog 22 #[.pointer p] w (TookP 89 w p l.tail (.int .u8 ((l.headD 0).toNat : Int))) := by
  rcases h with ⟨rfl, rfl⟩ | ⟨g, rfl, h⟩
  · exact (nByte_c w).mono fun e w' ⟨he, hw⟩ => ⟨he, hw ▸ ⟨TP.refl none w, .inl ⟨rfl, rfl⟩⟩⟩
  · exact (sByte_c g l w h).mono fun e w' ⟨he, hw⟩ => ⟨he, hw.out.1, hw.out.2.st⟩
end Go.Proofs.Ytacfboopkcaobaa
