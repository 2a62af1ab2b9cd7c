/- jobber/jobberlaw25.Op: opened, by value and in a slice. (By mkopen.py.) -/
import Derived.Test.YthbocddkomhpoaaAcW
import Derived.OpenShut
import Derived.Deep.Slices
import Derived.Deep.Fields
import Derived.ChangeSame
namespace Go.Proofs.Ythbocddkomhpoaa
open Go.RowKit Go.ChangeShapes Go.WideShapes Go.Deep
set_option linter.unusedVariables false

structure Opa where
  k : Int
  r : Int
  v : Int
instance : Inhabited Opa := ⟨⟨0, 0, 0⟩⟩
def Opa.ok (w : World) (x : Opa) : Prop := (-9223372036854775808 ≤ x.k ∧ x.k ≤ 9223372036854775807) ∧ (-9223372036854775808 ≤ x.r ∧ x.r ≤ 9223372036854775807) ∧ (-9223372036854775808 ≤ x.v ∧ x.v ≤ 9223372036854775807)
def Opa.val (x : Opa) : Value := .agg #[(.int .i64 x.k), (.int .i64 x.r), (.int .i64 x.v)]
/-- The cells of one at an address. -/
def Opa.at (x : Opa) (w : World) (b o : Nat) : Prop := w.cell? ⟨b, o, none⟩ = some (.int .i64 x.k) ∧ w.cell? ⟨b, o + 1, none⟩ = some (.int .i64 x.r) ∧ w.cell? ⟨b, o + 2, none⟩ = some (.int .i64 x.v)
theorem Opa.ok_below {w w' : World} {x : Opa} (h : x.ok w) (hb : Below w.heap.size w w') : x.ok w' := by
  exact h
theorem Opa.at_below {w w' : World} {x : Opa} {b o : Nat} (h : x.at w b o) (hl : b < w.heap.size) (hb : Below w.heap.size w w') : x.at w' b o := by
  unfold Opa.at at h ⊢
  simpa only [hb.cell (p := ⟨b, o, none⟩) hl, hb.cell (p := ⟨b, o + 1, none⟩) hl, hb.cell (p := ⟨b, o + 2, none⟩) hl] using h
/-- Some of them in a slice. -/
def Opas (w : World) (a : Option Addr) (len : Nat) (its : List Opa) : Prop :=
  its.length = len ∧ len ≤ 9223372036854775807 ∧ (∀ x ∈ its, x.ok w) ∧ (len = 0 ∨ ∃ b off, a = some ⟨b, off, none⟩ ∧ b < w.heap.size ∧ ∀ i, i < len → (its[i]!).at w b (off + i * 3))
theorem Opas.below {w w' : World} {a : Option Addr} {len : Nat} {its : List Opa} (h : Opas w a len its) (hb : Below w.heap.size w w') : Opas w' a len its := by
  obtain ⟨h1, hle, h2, h3⟩ := h
  refine ⟨h1, hle, fun x hx => Opa.ok_below (h2 x hx) hb, ?_⟩
  rcases h3 with h0 | ⟨b, off, rfl, hlt, hc⟩
  · exact .inl h0
  · exact .inr ⟨b, off, rfl, Nat.lt_of_lt_of_le hlt hb.size, fun i hi => Opa.at_below (hc i hi) hlt hb⟩
theorem fields_opa : oneCellFields Try.prog (match Try.prog.underlying 37 with | some (.struct fs) => fs | _ => #[]) = true := by kernel_rfl
theorem cells_opa : Try.prog.cellsOf 37 = 3 := by kernel_rfl

set_option maxRecDepth 100000 in
set_option maxHeartbeats 2000000 in
theorem open_opa {H : Type} {enc : TypeId × Value → H} {w : World} {fuel : Nat} {cs : List Value} {y : DataW H × List MemPlace} (hl : cs.length = 3) (h : DataW.trod enc Try.prog w 0 (fun _ => true) true fuel 37 cs = some y) :
    ∃ x : Opa, x.ok w ∧ cs[0]? = some (.int .i64 x.k) ∧ cs[1]? = some (.int .i64 x.r) ∧ cs[2]? = some (.int .i64 x.v) := by
  obtain ⟨xs, n', _, _, _, hxl, hg⟩ := DataW.trod_struct Try.underlying37 h
  have fone := fields_opa
  rw [Try.underlying37] at fone
  have at_ : ∀ (j : Nat) (f : Field), j < 3 → f.offset = j ∧ Try.prog.cellsOf f.type = 1 → DataW.trod enc Try.prog w 0 (fun _ => true) true n' f.type ((cs.drop f.offset).take (Try.prog.cellsOf f.type)) = xs[j]? →
      ∃ v y, cs[j]? = some v ∧ DataW.trod enc Try.prog w 0 (fun _ => true) true n' f.type [v] = some y := by
    intro j f hj ⟨ho, hk⟩ htr
    rw [ho, hk] at htr
    have hjl : j < cs.length := by omega
    have e1 : (cs.drop j).take 1 = [cs[j]] := by
      rw [List.drop_eq_getElem_cons hjl]; rfl
    rw [e1] at htr
    have hxj : j < xs.length := by rw [hxl]; exact hj
    rw [List.getElem?_eq_getElem hxj] at htr
    exact ⟨_, _, List.getElem?_eq_getElem hjl, htr⟩
  obtain ⟨v0, y0, p0, q0⟩ := at_ 0 _ (by omega) (hone_of fone 0 _ rfl) (hg 0 _ rfl)
  obtain ⟨v1, y1, p1, q1⟩ := at_ 1 _ (by omega) (hone_of fone 1 _ rfl) (hg 1 _ rfl)
  obtain ⟨v2, y2, p2, q2⟩ := at_ 2 _ (by omega) (hone_of fone 2 _ rfl) (hg 2 _ rfl)
  obtain ⟨k0, e0, _, w0⟩ := DataW.trod_int Try.underlying3 q0
  obtain ⟨k1, e1, _, w1⟩ := DataW.trod_int Try.underlying3 q1
  obtain ⟨k2, e2, _, w2⟩ := DataW.trod_int Try.underlying3 q2
  injection e0 with e0; injection e1 with e1; injection e2 with e2
  subst e0; subst e1; subst e2
  exact ⟨⟨k0, k1, k2⟩, ⟨bounds_i64 w0, bounds_i64 w1, bounds_i64 w2⟩, p0, p1, p2⟩

set_option maxRecDepth 100000 in
set_option maxHeartbeats 2000000 in
theorem open_opa_val {H : Type} {enc : TypeId × Value → H} {w : World} {r : Reach} {b0 : Nat} {v : Value} {d : DataW H} {p : List MemPlace} (hv : Value.okWide Try.prog w r b0 37 v) (h : DataW.Trod enc Try.prog w 0 (fun _ => true) true 37 v d p) : ∃ x : Opa, x.ok w ∧ v = x.val := by
  obtain ⟨cs, rfl, hsz⟩ := okWide_struct Try.underlying37 hv
  obtain ⟨fuel, hf⟩ := h
  have hl : cs.toList.length = 3 := by rw [Array.length_toList, hsz, cells_opa]
  obtain ⟨x, hx, p0, p1, p2⟩ := open_opa hl hf
  refine ⟨x, hx, ?_⟩
  unfold Opa.val
  congr 1
  apply Array.ext'
  match cs.toList, hl, p0, p1, p2 with
  | [v0, v1, v2], _, p0, p1, p2 => simp at p0 p1 p2; simp [p0, p1, p2]

set_option maxRecDepth 100000 in
set_option maxHeartbeats 2000000 in
theorem open_opas {H : Type} {enc : TypeId × Value → H} {w : World} {a : Option Addr} {len cap : Nat} {d : DataW H} {p : List MemPlace}
    (h : DataW.Trod enc Try.prog w 0 (fun _ => true) true 22 (.slice a len cap) d p) : ∃ its, Opas w a len its ∧ len ≤ cap ∧ cap ≤ maxLen := by
  obtain ⟨fuel, hf⟩ := h
  have hlt := DataW.trod_lt _ _ _ _ hf
  rcases open_slice Try.underlying22 hf with ⟨hcs, _⟩ | ⟨x, l, c, m, n, D, Pl, hcs, _, hl, hm, hmm, hx, hi⟩
  · simp [Value.cells] at hcs
    obtain ⟨rfl, rfl, rfl⟩ := hcs
    exact ⟨[], ⟨rfl, by omega, by simp, .inl rfl⟩, Nat.le_refl _, Nat.zero_le _⟩
  · simp [Value.cells] at hcs
    obtain ⟨rfl, rfl, rfl⟩ := hcs
    rw [if_pos rfl] at hmm
    subst hmm
    have one : ∀ i, i < len → ∃ y : Opa, y.ok w ∧ w.cell? ((x.add (i * 3)).add 0) = some (.int .i64 y.k) ∧ w.cell? ((x.add (i * 3)).add 1) = some (.int .i64 y.r) ∧ w.cell? ((x.add (i * 3)).add 2) = some (.int .i64 y.v) := by
      intro i hil
      obtain ⟨cs', hc, ht⟩ := hi i (by omega)
      rw [cells_opa] at hc
      obtain ⟨_, hlen, hcell⟩ := World.cells?_some hc
      obtain ⟨y, hy, p0, p1, p2⟩ := open_opa hlen ht
      exact ⟨y, hy, by rw [hcell 0 (by omega), p0], by rw [hcell 1 (by omega), p1], by rw [hcell 2 (by omega), p2]⟩
    refine ⟨(List.range len).map fun i => if h : i < len then Classical.choose (one i h) else default, ⟨by simp, by unfold maxLen at hm; omega, fun z hz => ?_, ?_⟩, hl, hm⟩
    · obtain ⟨i, hi1, rfl⟩ := List.mem_map.1 hz
      have hil : i < len := by simpa using hi1
      rw [dif_pos hil]
      exact (Classical.choose_spec (one i hil)).1
    · by_cases h0 : len = 0
      · exact .inl h0
      obtain ⟨b, off, spot⟩ := x
      obtain ⟨y, _, hy, _⟩ := one 0 (by omega)
      have hspot : spot = none := by simpa [Addr.add] using World.cell?_spot hy
      subst hspot
      have hb : b < w.heap.size := World.block_lt_of_cell? w ⟨b, off + 0 * 3 + 0, none⟩ (by simpa only [addr_add] using hy)
      refine .inr ⟨b, off, rfl, hb, fun i hil => ?_⟩
      have e : ((List.range len).map fun i => if h : i < len then Classical.choose (one i h) else (default : Opa))[i]! = Classical.choose (one i hil) := by
        rw [List.getElem!_eq_getElem?_getD, List.getElem?_map, List.getElem?_range hil]
        simp [hil]
      have hs := (Classical.choose_spec (one i hil)).2
      rw [e]
      unfold Opa.at
      simpa only [addr_add, ← Nat.add_assoc, Nat.add_zero] using hs
end Go.Proofs.Ythbocddkomhpoaa
