/- codec: items, written and read back: their bytes, in plain words; an item's copy. -/
import Derived.Test.YtoechhbdpkjppaaLight
import Derived.Deep.RegionHeld3
namespace Go.Proofs.Ytoechhbdpkjppaa
open Go.RowKit

/-- An item's bytes: its number, its whole one, its flag, its text. -/
def itB (x : Itm) : List UInt8 := natB x.n.toNat ++ natB (fz x.i) ++ natB (if x.is then 1 else 0) ++ natB x.s.size ++ x.s.data.toList
def itsB (l : List Itm) : List UInt8 := l.flatMap itB
theorem itsB_take {l : List Itm} {k : Nat} (h : k < l.length) : itsB (l.take (k + 1)) = itsB (l.take k) ++ itB l[k]! := by
  unfold itsB
  rw [List.take_succ_eq_append_getElem h, List.flatMap_append, List.getElem!_eq_getElem?_getD, List.getElem?_eq_getElem h]
  simp
theorem itsB_drop {l : List Itm} {k : Nat} (h : k < l.length) : itsB (l.drop k) = itB l[k]! ++ itsB (l.drop (k + 1)) := by
  unfold itsB
  rw [List.drop_eq_getElem_cons h, List.flatMap_cons, List.getElem!_eq_getElem?_getD, List.getElem?_eq_getElem h]
  simp
theorem itB_len {x : Itm} (h : x.ok) (hs : x.s.size ≤ 1000) : (itB x).length ≤ 1040 := by
  obtain ⟨_, h1, h2, _, _⟩ := h
  have a := natB_len10 (n := x.n.toNat) (by omega)
  have b := natB_len10 (n := fz x.i) (fz_lt h2.1 h2.2)
  have c := natB_len10 (n := if x.is then 1 else 0) (by split <;> omega)
  have d := natB_len10 (n := x.s.size) (by omega)
  have e : x.s.data.toList.length = x.s.size := rfl
  unfold itB
  simp only [List.length_append]
  omega
theorem itsB_len : ∀ (l : List Itm), (∀ x ∈ l, x.ok ∧ x.s.size ≤ 1000) → (itsB l).length ≤ 1040 * l.length
  | [], _ => by simp [itsB]
  | x :: l, h => by
    have h1 := itB_len (h x (by simp)).1 (h x (by simp)).2
    have h2 := itsB_len l (fun y hy => h y (by simp [hy]))
    have e : itsB (x :: l) = itB x ++ itsB l := by simp [itsB]
    rw [e, List.length_append, List.length_cons]
    omega

/-- An item's copy. -/
def Cpy (w : World) (q : Nat) (x : Itm) : Prop := w.heap[q]? = some (.cells #[.int .i64 x.k, .int .u64 x.n, .int .i64 x.i, .bool x.is, .string x.s, .int .i64 x.m] 31 (0, 0))
theorem Cpy.c0 {w : World} {q : Nat} {x : Itm} (h : Cpy w q x) : w.cell? ⟨q, 0, none⟩ = some (.int .i64 x.k) := by rw [cell_of_row _ _ _ _ _ _ h]; rfl
theorem Cpy.c1 {w : World} {q : Nat} {x : Itm} (h : Cpy w q x) : w.cell? ⟨q, 1, none⟩ = some (.int .u64 x.n) := by rw [cell_of_row _ _ _ _ _ _ h]; rfl
theorem Cpy.c2 {w : World} {q : Nat} {x : Itm} (h : Cpy w q x) : w.cell? ⟨q, 2, none⟩ = some (.int .i64 x.i) := by rw [cell_of_row _ _ _ _ _ _ h]; rfl
theorem Cpy.c3 {w : World} {q : Nat} {x : Itm} (h : Cpy w q x) : w.cell? ⟨q, 3, none⟩ = some (.bool x.is) := by rw [cell_of_row _ _ _ _ _ _ h]; rfl
theorem Cpy.c4 {w : World} {q : Nat} {x : Itm} (h : Cpy w q x) : w.cell? ⟨q, 4, none⟩ = some (.string x.s) := by rw [cell_of_row _ _ _ _ _ _ h]; rfl
theorem Cpy.c5 {w : World} {q : Nat} {x : Itm} (h : Cpy w q x) : w.cell? ⟨q, 5, none⟩ = some (.int .i64 x.m) := by rw [cell_of_row _ _ _ _ _ _ h]; rfl

/-- What an item of the slice's cells read, the world having grown. -/
theorem Items.at_ {w wr : World} {a : Option Addr} {len k : Nat} {its : List Itm} (h : Items w a len its) (hb : Below w.heap.size w wr) (hk : k < len) :
    ∃ b off, a = some ⟨b, off, none⟩ ∧ wr.cell? ⟨b, off + k * 6, none⟩ = some (.int .i64 its[k]!.k) ∧ wr.cell? ⟨b, off + k * 6 + 1, none⟩ = some (.int .u64 its[k]!.n) ∧ wr.cell? ⟨b, off + k * 6 + 2, none⟩ = some (.int .i64 its[k]!.i) ∧
    wr.cell? ⟨b, off + k * 6 + 3, none⟩ = some (.bool its[k]!.is) ∧ wr.cell? ⟨b, off + k * 6 + 4, none⟩ = some (.string its[k]!.s) ∧ wr.cell? ⟨b, off + k * 6 + 5, none⟩ = some (.int .i64 its[k]!.m) ∧ its[k]!.ok := by
  have h' := h.below hb
  have hl := h'.1
  rcases h'.2.2.2 with h0 | ⟨b, off, rfl, _, hc⟩
  · omega
  · obtain ⟨p0, p1, p2, p3, p4, p5⟩ := hc k hk
    refine ⟨b, off, rfl, p0, p1, p2, p3, p4, p5, ?_⟩
    refine h.2.2.1 _ ?_
    rw [List.getElem!_eq_getElem?_getD, List.getElem?_eq_getElem (by omega)]
    exact List.getElem_mem _

/-- The writer of a law, with what lies below. -/
def WK (base : Nat) (w0 w : World) (g : Nat) (bs : List UInt8) : Prop := Below base w0 w ∧ ∃ S, WS w g S bs ∧ ∀ k, S k → base ≤ k
theorem WK.added {base g : Nat} {w0 w w' : World} {bs' : List UInt8} {S : Nat → Prop} (hb : Below base w0 w) (hB : base ≤ w.heap.size) (hS : ∀ k, S k → base ≤ k) (h : Added g S bs' w (.returned (.tuple #[])) w') : WK base w0 w' g bs' := by
  obtain ⟨_, S2, hws2, hfr, hsub⟩ := h
  refine ⟨hb.trans (hfr.below hS hB), S2, hws2, fun k hk => ?_⟩
  rcases hsub k hk with h | h
  · exact hS k h
  · omega
theorem WK.at_ {base g : Nat} {w0 w : World} {bs : List UInt8} (h : WK base w0 w g bs) : g < w.heap.size := by
  obtain ⟨_, S, hws, _⟩ := h
  exact hws.lt g hws.1
end Go.Proofs.Ytoechhbdpkjppaa
