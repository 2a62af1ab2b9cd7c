/- jobberlaw03.Piece: opened, by value and in a slice. (By mkopen.py.) -/
import Derived.Test.YtpinenfclpapjaaPcS
import Derived.OpenShut
import Derived.Deep.Slices
import Derived.Deep.Fields
import Derived.ChangeSame
namespace Go.Proofs.Ytpinenfclpapjaa
open Go.RowKit Go.ChangeShapes Go.WideShapes Go.Deep
set_option linter.unusedVariables false

structure Pie where
  kd : Int
  bA : Option Addr
  bL : Nat
  bC : Nat
  bZ : List UInt8
instance : Inhabited Pie := ⟨⟨0, none, 0, 0, []⟩⟩
def Pie.ok (w : World) (x : Pie) : Prop := (0 ≤ x.kd ∧ x.kd ≤ 255) ∧ (SlB w x.bA x.bL x.bZ ∧ x.bL ≤ x.bC ∧ x.bC ≤ maxLen ∧ (x.bA = none → x.bC = 0))
def Pie.val (x : Pie) : Value := .agg #[(.int .u8 x.kd), (.slice x.bA x.bL x.bC)]
/-- The cells of one at an address. -/
def Pie.at (x : Pie) (w : World) (b o : Nat) : Prop := w.cell? ⟨b, o, none⟩ = some (.int .u8 x.kd) ∧ w.cell? ⟨b, o + 1, none⟩ = some (.slice x.bA x.bL x.bC)
theorem Pie.ok_below {w w' : World} {x : Pie} (h : x.ok w) (hb : Below w.heap.size w w') : x.ok w' := by
  obtain ⟨h0, h1⟩ := h
  exact ⟨h0, ⟨h1.1.below hb, h1.2⟩⟩
theorem Pie.at_below {w w' : World} {x : Pie} {b o : Nat} (h : x.at w b o) (hl : b < w.heap.size) (hb : Below w.heap.size w w') : x.at w' b o := by
  unfold Pie.at at h ⊢
  simpa only [hb.cell (p := ⟨b, o, none⟩) hl, hb.cell (p := ⟨b, o + 1, none⟩) hl] using h
/-- Some of them in a slice. -/
def Pies (w : World) (a : Option Addr) (len : Nat) (its : List Pie) : Prop :=
  its.length = len ∧ len ≤ 9223372036854775807 ∧ (∀ x ∈ its, x.ok w) ∧ (len = 0 ∨ ∃ b off, a = some ⟨b, off, none⟩ ∧ b < w.heap.size ∧ ∀ i, i < len → (its[i]!).at w b (off + i * 2))
theorem Pies.below {w w' : World} {a : Option Addr} {len : Nat} {its : List Pie} (h : Pies w a len its) (hb : Below w.heap.size w w') : Pies w' a len its := by
  obtain ⟨h1, hle, h2, h3⟩ := h
  refine ⟨h1, hle, fun x hx => Pie.ok_below (h2 x hx) hb, ?_⟩
  rcases h3 with h0 | ⟨b, off, rfl, hlt, hc⟩
  · exact .inl h0
  · exact .inr ⟨b, off, rfl, Nat.lt_of_lt_of_le hlt hb.size, fun i hi => Pie.at_below (hc i hi) hlt hb⟩
theorem fields_pie : oneCellFields Try.prog (match Try.prog.underlying 39 with | some (.struct fs) => fs | _ => #[]) = true := by kernel_rfl
theorem cells_pie : Try.prog.cellsOf 39 = 2 := by kernel_rfl

set_option maxRecDepth 100000 in
set_option maxHeartbeats 2000000 in
theorem open_slb {H : Type} {enc : TypeId × Value → H} {w : World} {fuel : Nat} {v : Value} {y : DataW H × List MemPlace} (q : DataW.trod enc Try.prog w 0 (fun _ => true) true fuel 22 [v] = some y) :
    ∃ A L C Z, [v] = [.slice A L C] ∧ (SlB w A L Z ∧ L ≤ C ∧ C ≤ maxLen ∧ (A = none → C = 0)) := by
  rcases open_ints Try.underlying22 Try.underlying5 (by kernel_rfl) q with ⟨hcs, _⟩ | ⟨x, l, c, zs, hcs, _, hl, hm, hz, _, hcell, hwz⟩
  · exact ⟨none, 0, 0, [], hcs, ⟨rfl, .inl rfl⟩, Nat.le_refl _, Nat.zero_le _, fun _ => rfl⟩
  · obtain ⟨Z, hZ⟩ := slB_of_row (w := w) (a := some x) (len := l) (cap := c) (zs := zs) (.inr ⟨x, rfl, hl, hm, by simpa using hz, hcell, hwz⟩)
    exact ⟨some x, l, c, Z, hcs, hZ, hl, hm, fun h => by cases h⟩

set_option maxRecDepth 100000 in
set_option maxHeartbeats 2000000 in
theorem open_pie {H : Type} {enc : TypeId × Value → H} {w : World} {fuel : Nat} {cs : List Value} {y : DataW H × List MemPlace} (hl : cs.length = 2) (h : DataW.trod enc Try.prog w 0 (fun _ => true) true fuel 39 cs = some y) :
    ∃ x : Pie, x.ok w ∧ cs[0]? = some (.int .u8 x.kd) ∧ cs[1]? = some (.slice x.bA x.bL x.bC) := by
  obtain ⟨xs, n', _, _, _, hxl, hg⟩ := DataW.trod_struct Try.underlying39 h
  have fone := fields_pie
  rw [Try.underlying39] at fone
  have at_ : ∀ (j : Nat) (f : Field), j < 2 → f.offset = j ∧ Try.prog.cellsOf f.type = 1 → DataW.trod enc Try.prog w 0 (fun _ => true) true n' f.type ((cs.drop f.offset).take (Try.prog.cellsOf f.type)) = xs[j]? →
      ∃ v y, cs[j]? = some v ∧ DataW.trod enc Try.prog w 0 (fun _ => true) true n' f.type [v] = some y := by
    intro j f hj ⟨ho, hk⟩ htr
    rw [ho, hk] at htr
    have hjl : j < cs.length := by omega
    have e1 : (cs.drop j).take 1 = [cs[j]] := by
      rw [List.drop_eq_getElem_cons hjl]; rfl
    rw [e1] at htr
    have hxj : j < xs.length := by rw [hxl]; exact hj
    rw [List.getElem?_eq_getElem hxj] at htr
    exact ⟨_, _, List.getElem?_eq_getElem hjl, htr⟩
  obtain ⟨v0, y0, p0, q0⟩ := at_ 0 _ (by omega) (hone_of fone 0 _ rfl) (hg 0 _ rfl)
  obtain ⟨v1, y1, p1, q1⟩ := at_ 1 _ (by omega) (hone_of fone 1 _ rfl) (hg 1 _ rfl)
  obtain ⟨k0, e0, _, w0⟩ := DataW.trod_int Try.underlying5 q0
  obtain ⟨A1, L1, C1, Z1, e1, w1⟩ : ∃ A L C Z, [v1] = [.slice A L C] ∧ (SlB w A L Z ∧ L ≤ C ∧ C ≤ maxLen ∧ (A = none → C = 0)) := open_slb q1
  injection e0 with e0; injection e1 with e1
  subst e0; subst e1
  exact ⟨⟨k0, A1, L1, C1, Z1⟩, ⟨bounds_u8 w0, w1⟩, p0, p1⟩

set_option maxRecDepth 100000 in
set_option maxHeartbeats 2000000 in
theorem open_pie_val {H : Type} {enc : TypeId × Value → H} {w : World} {r : Reach} {b0 : Nat} {v : Value} {d : DataW H} {p : List MemPlace} (hv : Value.okWide Try.prog w r b0 39 v) (h : DataW.Trod enc Try.prog w 0 (fun _ => true) true 39 v d p) : ∃ x : Pie, x.ok w ∧ v = x.val := by
  obtain ⟨cs, rfl, hsz⟩ := okWide_struct Try.underlying39 hv
  obtain ⟨fuel, hf⟩ := h
  have hl : cs.toList.length = 2 := by rw [Array.length_toList, hsz, cells_pie]
  obtain ⟨x, hx, p0, p1⟩ := open_pie hl hf
  refine ⟨x, hx, ?_⟩
  unfold Pie.val
  congr 1
  apply Array.ext'
  match cs.toList, hl, p0, p1 with
  | [v0, v1], _, p0, p1 => simp at p0 p1; simp [p0, p1]

set_option maxRecDepth 100000 in
set_option maxHeartbeats 2000000 in
theorem open_pies {H : Type} {enc : TypeId × Value → H} {w : World} {a : Option Addr} {len cap : Nat} {d : DataW H} {p : List MemPlace}
    (h : DataW.Trod enc Try.prog w 0 (fun _ => true) true 35 (.slice a len cap) d p) : ∃ its, Pies w a len its ∧ len ≤ cap ∧ cap ≤ maxLen := by
  obtain ⟨fuel, hf⟩ := h
  have hlt := DataW.trod_lt _ _ _ _ hf
  rcases open_slice Try.underlying35 hf with ⟨hcs, _⟩ | ⟨x, l, c, m, n, D, Pl, hcs, _, hl, hm, hmm, hx, hi⟩
  · simp [Value.cells] at hcs
    obtain ⟨rfl, rfl, rfl⟩ := hcs
    exact ⟨[], ⟨rfl, by omega, by simp, .inl rfl⟩, Nat.le_refl _, Nat.zero_le _⟩
  · simp [Value.cells] at hcs
    obtain ⟨rfl, rfl, rfl⟩ := hcs
    rw [if_pos rfl] at hmm
    subst hmm
    have one : ∀ i, i < len → ∃ y : Pie, y.ok w ∧ w.cell? ((x.add (i * 2)).add 0) = some (.int .u8 y.kd) ∧ w.cell? ((x.add (i * 2)).add 1) = some (.slice y.bA y.bL y.bC) := by
      intro i hil
      obtain ⟨cs', hc, ht⟩ := hi i (by omega)
      rw [cells_pie] at hc
      obtain ⟨_, hlen, hcell⟩ := World.cells?_some hc
      obtain ⟨y, hy, p0, p1⟩ := open_pie hlen ht
      exact ⟨y, hy, by rw [hcell 0 (by omega), p0], by rw [hcell 1 (by omega), p1]⟩
    refine ⟨(List.range len).map fun i => if h : i < len then Classical.choose (one i h) else default, ⟨by simp, by unfold maxLen at hm; omega, fun z hz => ?_, ?_⟩, hl, hm⟩
    · obtain ⟨i, hi1, rfl⟩ := List.mem_map.1 hz
      have hil : i < len := by simpa using hi1
      rw [dif_pos hil]
      exact (Classical.choose_spec (one i hil)).1
    · by_cases h0 : len = 0
      · exact .inl h0
      obtain ⟨b, off, spot⟩ := x
      obtain ⟨y, _, hy, _⟩ := one 0 (by omega)
      have hspot : spot = none := by simpa [Addr.add] using World.cell?_spot hy
      subst hspot
      have hb : b < w.heap.size := World.block_lt_of_cell? w ⟨b, off + 0 * 2 + 0, none⟩ (by simpa only [addr_add] using hy)
      refine .inr ⟨b, off, rfl, hb, fun i hil => ?_⟩
      have e : ((List.range len).map fun i => if h : i < len then Classical.choose (one i h) else (default : Pie))[i]! = Classical.choose (one i hil) := by
        rw [List.getElem!_eq_getElem?_getD, List.getElem?_map, List.getElem?_range hil]
        simp [hil]
      have hs := (Classical.choose_spec (one i hil)).2
      rw [e]
      unfold Pie.at
      simpa only [addr_add, ← Nat.add_assoc, Nat.add_zero] using hs
end Go.Proofs.Ytpinenfclpapjaa
