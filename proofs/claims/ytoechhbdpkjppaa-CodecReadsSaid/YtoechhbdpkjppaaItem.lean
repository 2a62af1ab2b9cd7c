/- A slice of items that came in, in cells; whether it is light. -/
import Derived.Test.YtoechhbdpkjppaaCodL
import Derived.Deep.Slices
import Derived.Deep.Fields
import Derived.ChangeSame
namespace Go.Proofs.Ytoechhbdpkjppaa
open Go.RowKit Go.ChangeShapes Go.WideShapes Go.Deep

/-- An item. -/
structure Itm where
  k : Int
  n : Int
  i : Int
  is : Bool
  s : ByteArray
  m : Int
def Itm.ok (x : Itm) : Prop := (-9223372036854775808 ≤ x.k ∧ x.k ≤ 9223372036854775807) ∧ (0 ≤ x.n ∧ x.n ≤ 18446744073709551615) ∧ (-9223372036854775808 ≤ x.i ∧ x.i ≤ 9223372036854775807) ∧ (-9223372036854775808 ≤ x.m ∧ x.m ≤ 9223372036854775807) ∧ x.s.size ≤ maxLen
instance : Inhabited Itm := ⟨⟨0, 0, 0, false, ByteArray.empty, 0⟩⟩

/-- Items in a slice. -/
def Items (w : World) (a : Option Addr) (len : Nat) (its : List Itm) : Prop :=
  its.length = len ∧ len ≤ 9223372036854775807 ∧ (∀ x ∈ its, x.ok) ∧ (len = 0 ∨ ∃ b off, a = some ⟨b, off, none⟩ ∧ b < w.heap.size ∧ ∀ i, i < len →
    w.cell? ⟨b, off + i * 6, none⟩ = some (.int .i64 its[i]!.k) ∧ w.cell? ⟨b, off + i * 6 + 1, none⟩ = some (.int .u64 its[i]!.n) ∧ w.cell? ⟨b, off + i * 6 + 2, none⟩ = some (.int .i64 its[i]!.i) ∧
    w.cell? ⟨b, off + i * 6 + 3, none⟩ = some (.bool its[i]!.is) ∧ w.cell? ⟨b, off + i * 6 + 4, none⟩ = some (.string its[i]!.s) ∧ w.cell? ⟨b, off + i * 6 + 5, none⟩ = some (.int .i64 its[i]!.m))

theorem fields_one : oneCellFields Try.prog (match Try.prog.underlying 31 with | some (.struct fs) => fs | _ => #[]) = true := by kernel_rfl
theorem item_cells : Try.prog.cellsOf 31 = 6 := by kernel_rfl

set_option maxRecDepth 100000 in
set_option maxHeartbeats 1000000 in
theorem open_items {H : Type} {enc : TypeId × Value → H} {w : World} {a : Option Addr} {len cap : Nat} {d : DataW H} {p : List MemPlace}
    (h : DataW.Trod enc Try.prog w 0 (fun _ => true) true 22 (.slice a len cap) d p) : ∃ its, Items w a len its := by
  obtain ⟨fuel, hf⟩ := h
  have hlt := DataW.trod_lt _ _ _ _ hf
  rcases open_slice Try.underlying22 hf with ⟨hcs, _⟩ | ⟨x, l, c, m, n, D, Pl, hcs, _, hl, hm, hmm, hx, hi⟩
  · simp [Value.cells] at hcs
    obtain ⟨rfl, rfl, rfl⟩ := hcs
    exact ⟨[], rfl, by omega, by simp, .inl rfl⟩
  · simp [Value.cells] at hcs
    obtain ⟨rfl, rfl, rfl⟩ := hcs
    rw [if_pos rfl] at hmm
    subst hmm
    have one : ∀ i, i < len → ∃ y : Itm, y.ok ∧ w.cell? (x.add (i * 6)) = some (.int .i64 y.k) ∧ w.cell? (x.add (i * 6 + 1)) = some (.int .u64 y.n) ∧ w.cell? (x.add (i * 6 + 2)) = some (.int .i64 y.i) ∧
        w.cell? (x.add (i * 6 + 3)) = some (.bool y.is) ∧ w.cell? (x.add (i * 6 + 4)) = some (.string y.s) ∧ w.cell? (x.add (i * 6 + 5)) = some (.int .i64 y.m) := by
      intro i hil
      obtain ⟨cs', hc, ht⟩ := hi i (by omega)
      rw [item_cells] at hc
      obtain ⟨_, hlen, hcell⟩ := World.cells?_some hc
      obtain ⟨xs, n', _, _, _, hxl, hg⟩ := DataW.trod_struct Try.underlying31 ht
      have fone := fields_one
      rw [Try.underlying31] at fone
      have at_ : ∀ (j : Nat) (f : Field), j < 6 → f.offset = j ∧ Try.prog.cellsOf f.type = 1 → DataW.trod enc Try.prog w 0 (fun _ => true) true n' f.type ((cs'.drop f.offset).take (Try.prog.cellsOf f.type)) = xs[j]? →
          ∃ v y, w.cell? (x.add (i * 6 + j)) = some v ∧ DataW.trod enc Try.prog w 0 (fun _ => true) true n' f.type [v] = some y := by
        intro j f hj ⟨ho, hk⟩ htr
        rw [ho, hk] at htr
        have hjl : j < cs'.length := by omega
        have e1 : (cs'.drop j).take 1 = [cs'[j]] := by
          rw [List.drop_eq_getElem_cons hjl]; rfl
        rw [e1] at htr
        have hxj : j < xs.length := by rw [hxl]; exact hj
        rw [List.getElem?_eq_getElem hxj] at htr
        refine ⟨_, _, ?_, htr⟩
        rw [← add_add, hcell j hj, List.getElem?_eq_getElem hjl]
      obtain ⟨v0, y0, p0, q0⟩ := at_ 0 _ (by omega) (hone_of fone 0 _ rfl) (hg 0 _ rfl)
      obtain ⟨v1, y1, p1, q1⟩ := at_ 1 _ (by omega) (hone_of fone 1 _ rfl) (hg 1 _ rfl)
      obtain ⟨v2, y2, p2, q2⟩ := at_ 2 _ (by omega) (hone_of fone 2 _ rfl) (hg 2 _ rfl)
      obtain ⟨v3, y3, p3, q3⟩ := at_ 3 _ (by omega) (hone_of fone 3 _ rfl) (hg 3 _ rfl)
      obtain ⟨v4, y4, p4, q4⟩ := at_ 4 _ (by omega) (hone_of fone 4 _ rfl) (hg 4 _ rfl)
      obtain ⟨v5, y5, p5, q5⟩ := at_ 5 _ (by omega) (hone_of fone 5 _ rfl) (hg 5 _ rfl)
      obtain ⟨k0, e0, _, w0⟩ := DataW.trod_int Try.underlying3 q0
      obtain ⟨k1, e1, _, w1⟩ := DataW.trod_int Try.underlying29 q1
      obtain ⟨k2, e2, _, w2⟩ := DataW.trod_int Try.underlying2 q2
      obtain ⟨k3, e3, _⟩ := DataW.trod_bool Try.underlying4 q3
      obtain ⟨k4, e4, _, w4⟩ := DataW.trod_string Try.underlying9 q4
      obtain ⟨k5, e5, _, w5⟩ := DataW.trod_int Try.underlying3 q5
      injection e0 with e0; injection e1 with e1; injection e2 with e2; injection e3 with e3; injection e4 with e4; injection e5 with e5
      subst e0; subst e1; subst e2; subst e3; subst e4; subst e5
      exact ⟨⟨k0, k1, k2, k3, k4, k5⟩, ⟨bounds_i64 w0, bounds_u64 w1, bounds_i64 w2, bounds_i64 w5, w4⟩, p0, p1, p2, p3, p4, p5⟩
    by_cases h0 : len = 0
    · subst h0; exact ⟨[], rfl, by omega, by simp, .inl rfl⟩
    · obtain ⟨b, off, spot⟩ := x
      obtain ⟨y, _, hy, _⟩ := one 0 (by omega)
      have hspot : spot = none := by simpa [Addr.add] using World.cell?_spot hy
      subst hspot
      have hb : b < w.heap.size := World.block_lt_of_cell? w ⟨b, off + 0 * 6, none⟩ (by rw [← addr_add]; exact hy)
      refine ⟨(List.range len).map fun i => if h : i < len then Classical.choose (one i h) else default, by simp, by unfold maxLen at hm; omega, fun z hz => ?_, .inr ⟨b, off, rfl, hb, fun i hil => ?_⟩⟩
      · obtain ⟨i, hi1, rfl⟩ := List.mem_map.1 hz
        have hil : i < len := by simpa using hi1
        rw [dif_pos hil]
        exact (Classical.choose_spec (one i hil)).1
      · have e : ((List.range len).map fun i => if h : i < len then Classical.choose (one i h) else (default : Itm))[i]! = Classical.choose (one i hil) := by
          rw [List.getElem!_eq_getElem?_getD, List.getElem?_map, List.getElem?_range hil]
          simp [hil]
        have hs := (Classical.choose_spec (one i hil)).2
        rw [e]
        simpa only [addr_add, ← Nat.add_assoc] using hs
end Go.Proofs.Ytoechhbdpkjppaa
