/- jobberlaw05.Ask: opened, by value and in a slice. (By mkopen.py.) -/
import Derived.Test.YtacfboopkcaobaaChE
import Derived.OpenShut
import Derived.Deep.Slices
import Derived.Deep.Fields
import Derived.ChangeSame
namespace Go.Proofs.Ytacfboopkcaobaa
open Go.RowKit Go.ChangeShapes Go.WideShapes Go.Deep
set_option linter.unusedVariables false

structure Asq where
  k : Int
  n : Int
  lo : Int
  hi : Int
  vA : Option Addr
  vL : Nat
  vC : Nat
  vZ : List Int
instance : Inhabited Asq := ⟨⟨0, 0, 0, 0, none, 0, 0, []⟩⟩
def Asq.ok (w : World) (x : Asq) : Prop := (-9223372036854775808 ≤ x.k ∧ x.k ≤ 9223372036854775807) ∧ (0 ≤ x.n ∧ x.n ≤ 18446744073709551615) ∧ (-9223372036854775808 ≤ x.lo ∧ x.lo ≤ 9223372036854775807) ∧ (-9223372036854775808 ≤ x.hi ∧ x.hi ≤ 9223372036854775807) ∧ (SlI w x.vA x.vL x.vZ ∧ x.vL ≤ x.vC ∧ x.vC ≤ maxLen)
def Asq.val (x : Asq) : Value := .agg #[(.int .i64 x.k), (.int .u64 x.n), (.int .i64 x.lo), (.int .i64 x.hi), (.slice x.vA x.vL x.vC)]
/-- The cells of one at an address. -/
def Asq.at (x : Asq) (w : World) (b o : Nat) : Prop := w.cell? ⟨b, o, none⟩ = some (.int .i64 x.k) ∧ w.cell? ⟨b, o + 1, none⟩ = some (.int .u64 x.n) ∧ w.cell? ⟨b, o + 2, none⟩ = some (.int .i64 x.lo) ∧ w.cell? ⟨b, o + 3, none⟩ = some (.int .i64 x.hi) ∧ w.cell? ⟨b, o + 4, none⟩ = some (.slice x.vA x.vL x.vC)
theorem Asq.ok_below {w w' : World} {x : Asq} (h : x.ok w) (hb : Below w.heap.size w w') : x.ok w' := by
  obtain ⟨h0, h1, h2, h3, h4⟩ := h
  exact ⟨h0, h1, h2, h3, ⟨h4.1.below hb, h4.2⟩⟩
theorem Asq.at_below {w w' : World} {x : Asq} {b o : Nat} (h : x.at w b o) (hl : b < w.heap.size) (hb : Below w.heap.size w w') : x.at w' b o := by
  unfold Asq.at at h ⊢
  simpa only [hb.cell (p := ⟨b, o, none⟩) hl, hb.cell (p := ⟨b, o + 1, none⟩) hl, hb.cell (p := ⟨b, o + 2, none⟩) hl, hb.cell (p := ⟨b, o + 3, none⟩) hl, hb.cell (p := ⟨b, o + 4, none⟩) hl] using h
/-- Some of them in a slice. -/
def Asqs (w : World) (a : Option Addr) (len : Nat) (its : List Asq) : Prop :=
  its.length = len ∧ len ≤ 9223372036854775807 ∧ (∀ x ∈ its, x.ok w) ∧ (len = 0 ∨ ∃ b off, a = some ⟨b, off, none⟩ ∧ b < w.heap.size ∧ ∀ i, i < len → (its[i]!).at w b (off + i * 5))
theorem Asqs.below {w w' : World} {a : Option Addr} {len : Nat} {its : List Asq} (h : Asqs w a len its) (hb : Below w.heap.size w w') : Asqs w' a len its := by
  obtain ⟨h1, hle, h2, h3⟩ := h
  refine ⟨h1, hle, fun x hx => Asq.ok_below (h2 x hx) hb, ?_⟩
  rcases h3 with h0 | ⟨b, off, rfl, hlt, hc⟩
  · exact .inl h0
  · exact .inr ⟨b, off, rfl, Nat.lt_of_lt_of_le hlt hb.size, fun i hi => Asq.at_below (hc i hi) hlt hb⟩
theorem fields_asq : oneCellFields Try.prog (match Try.prog.underlying 60 with | some (.struct fs) => fs | _ => #[]) = true := by kernel_rfl
theorem cells_asq : Try.prog.cellsOf 60 = 5 := by kernel_rfl

set_option maxRecDepth 100000 in
set_option maxHeartbeats 2000000 in
theorem open_sli {H : Type} {enc : TypeId × Value → H} {w : World} {fuel : Nat} {v : Value} {y : DataW H × List MemPlace} (q : DataW.trod enc Try.prog w 0 (fun _ => true) true fuel 46 [v] = some y) :
    ∃ A L C Z, [v] = [.slice A L C] ∧ (SlI w A L Z ∧ L ≤ C ∧ C ≤ maxLen) := by
  rcases open_ints Try.underlying46 Try.underlying3 (by kernel_rfl) q with ⟨hcs, _⟩ | ⟨x, l, c, zs, hcs, _, hl, hm, hz, _, hcell, hwz⟩
  · exact ⟨none, 0, 0, [], hcs, ⟨rfl, by simp, .inl rfl⟩, Nat.le_refl _, Nat.zero_le _⟩
  · refine ⟨some x, l, c, zs.take l, hcs, ⟨?_, ?_, ?_⟩, hl, hm⟩
    · have : zs.length = c := by simpa using hz
      simp; omega
    · intro z hz'
      exact bounds_i64 (hwz z (List.mem_of_mem_take hz'))
    · have hz2 : zs.length = c := by simpa using hz
      by_cases h0 : l = 0
      · exact .inl h0
      · obtain ⟨b, off, rfl, hc'⟩ := ints_at hcell (by omega)
        refine .inr ⟨b, off, rfl, World.block_lt_of_cell? w ⟨b, off + 0, none⟩ (hc' 0 (by omega)), fun i hi => ?_⟩
        rw [hc' i (by omega)]
        simp [List.getD_eq_getElem?_getD, hi]

set_option maxRecDepth 100000 in
set_option maxHeartbeats 2000000 in
theorem open_asq {H : Type} {enc : TypeId × Value → H} {w : World} {fuel : Nat} {cs : List Value} {y : DataW H × List MemPlace} (hl : cs.length = 5) (h : DataW.trod enc Try.prog w 0 (fun _ => true) true fuel 60 cs = some y) :
    ∃ x : Asq, x.ok w ∧ cs[0]? = some (.int .i64 x.k) ∧ cs[1]? = some (.int .u64 x.n) ∧ cs[2]? = some (.int .i64 x.lo) ∧ cs[3]? = some (.int .i64 x.hi) ∧ cs[4]? = some (.slice x.vA x.vL x.vC) := by
  obtain ⟨xs, n', _, _, _, hxl, hg⟩ := DataW.trod_struct Try.underlying60 h
  have fone := fields_asq
  rw [Try.underlying60] at fone
  have at_ : ∀ (j : Nat) (f : Field), j < 5 → f.offset = j ∧ Try.prog.cellsOf f.type = 1 → DataW.trod enc Try.prog w 0 (fun _ => true) true n' f.type ((cs.drop f.offset).take (Try.prog.cellsOf f.type)) = xs[j]? →
      ∃ v y, cs[j]? = some v ∧ DataW.trod enc Try.prog w 0 (fun _ => true) true n' f.type [v] = some y := by
    intro j f hj ⟨ho, hk⟩ htr
    rw [ho, hk] at htr
    have hjl : j < cs.length := by omega
    have e1 : (cs.drop j).take 1 = [cs[j]] := by
      rw [List.drop_eq_getElem_cons hjl]; rfl
    rw [e1] at htr
    have hxj : j < xs.length := by rw [hxl]; exact hj
    rw [List.getElem?_eq_getElem hxj] at htr
    exact ⟨_, _, List.getElem?_eq_getElem hjl, htr⟩
  obtain ⟨v0, y0, p0, q0⟩ := at_ 0 _ (by omega) (hone_of fone 0 _ rfl) (hg 0 _ rfl)
  obtain ⟨v1, y1, p1, q1⟩ := at_ 1 _ (by omega) (hone_of fone 1 _ rfl) (hg 1 _ rfl)
  obtain ⟨v2, y2, p2, q2⟩ := at_ 2 _ (by omega) (hone_of fone 2 _ rfl) (hg 2 _ rfl)
  obtain ⟨v3, y3, p3, q3⟩ := at_ 3 _ (by omega) (hone_of fone 3 _ rfl) (hg 3 _ rfl)
  obtain ⟨v4, y4, p4, q4⟩ := at_ 4 _ (by omega) (hone_of fone 4 _ rfl) (hg 4 _ rfl)
  obtain ⟨k0, e0, _, w0⟩ := DataW.trod_int Try.underlying3 q0
  obtain ⟨k1, e1, _, w1⟩ := DataW.trod_int Try.underlying58 q1
  obtain ⟨k2, e2, _, w2⟩ := DataW.trod_int Try.underlying2 q2
  obtain ⟨k3, e3, _, w3⟩ := DataW.trod_int Try.underlying2 q3
  obtain ⟨A4, L4, C4, Z4, e4, w4⟩ : ∃ A L C Z, [v4] = [.slice A L C] ∧ (SlI w A L Z ∧ L ≤ C ∧ C ≤ maxLen) := open_sli q4
  injection e0 with e0; injection e1 with e1; injection e2 with e2; injection e3 with e3; injection e4 with e4
  subst e0; subst e1; subst e2; subst e3; subst e4
  exact ⟨⟨k0, k1, k2, k3, A4, L4, C4, Z4⟩, ⟨bounds_i64 w0, bounds_u64 w1, bounds_i64 w2, bounds_i64 w3, w4⟩, p0, p1, p2, p3, p4⟩

set_option maxRecDepth 100000 in
set_option maxHeartbeats 2000000 in
theorem open_asq_val {H : Type} {enc : TypeId × Value → H} {w : World} {r : Reach} {b0 : Nat} {v : Value} {d : DataW H} {p : List MemPlace} (hv : Value.okWide Try.prog w r b0 60 v) (h : DataW.Trod enc Try.prog w 0 (fun _ => true) true 60 v d p) : ∃ x : Asq, x.ok w ∧ v = x.val := by
  obtain ⟨cs, rfl, hsz⟩ := okWide_struct Try.underlying60 hv
  obtain ⟨fuel, hf⟩ := h
  have hl : cs.toList.length = 5 := by rw [Array.length_toList, hsz, cells_asq]
  obtain ⟨x, hx, p0, p1, p2, p3, p4⟩ := open_asq hl hf
  refine ⟨x, hx, ?_⟩
  unfold Asq.val
  congr 1
  apply Array.ext'
  match cs.toList, hl, p0, p1, p2, p3, p4 with
  | [v0, v1, v2, v3, v4], _, p0, p1, p2, p3, p4 => simp at p0 p1 p2 p3 p4; simp [p0, p1, p2, p3, p4]

set_option maxRecDepth 100000 in
set_option maxHeartbeats 2000000 in
theorem open_asqs {H : Type} {enc : TypeId × Value → H} {w : World} {a : Option Addr} {len cap : Nat} {d : DataW H} {p : List MemPlace}
    (h : DataW.Trod enc Try.prog w 0 (fun _ => true) true 51 (.slice a len cap) d p) : ∃ its, Asqs w a len its ∧ len ≤ cap ∧ cap ≤ maxLen := by
  obtain ⟨fuel, hf⟩ := h
  have hlt := DataW.trod_lt _ _ _ _ hf
  rcases open_slice Try.underlying51 hf with ⟨hcs, _⟩ | ⟨x, l, c, m, n, D, Pl, hcs, _, hl, hm, hmm, hx, hi⟩
  · simp [Value.cells] at hcs
    obtain ⟨rfl, rfl, rfl⟩ := hcs
    exact ⟨[], ⟨rfl, by omega, by simp, .inl rfl⟩, Nat.le_refl _, Nat.zero_le _⟩
  · simp [Value.cells] at hcs
    obtain ⟨rfl, rfl, rfl⟩ := hcs
    rw [if_pos rfl] at hmm
    subst hmm
    have one : ∀ i, i < len → ∃ y : Asq, y.ok w ∧ w.cell? ((x.add (i * 5)).add 0) = some (.int .i64 y.k) ∧ w.cell? ((x.add (i * 5)).add 1) = some (.int .u64 y.n) ∧ w.cell? ((x.add (i * 5)).add 2) = some (.int .i64 y.lo) ∧ w.cell? ((x.add (i * 5)).add 3) = some (.int .i64 y.hi) ∧ w.cell? ((x.add (i * 5)).add 4) = some (.slice y.vA y.vL y.vC) := by
      intro i hil
      obtain ⟨cs', hc, ht⟩ := hi i (by omega)
      rw [cells_asq] at hc
      obtain ⟨_, hlen, hcell⟩ := World.cells?_some hc
      obtain ⟨y, hy, p0, p1, p2, p3, p4⟩ := open_asq hlen ht
      exact ⟨y, hy, by rw [hcell 0 (by omega), p0], by rw [hcell 1 (by omega), p1], by rw [hcell 2 (by omega), p2], by rw [hcell 3 (by omega), p3], by rw [hcell 4 (by omega), p4]⟩
    refine ⟨(List.range len).map fun i => if h : i < len then Classical.choose (one i h) else default, ⟨by simp, by unfold maxLen at hm; omega, fun z hz => ?_, ?_⟩, hl, hm⟩
    · obtain ⟨i, hi1, rfl⟩ := List.mem_map.1 hz
      have hil : i < len := by simpa using hi1
      rw [dif_pos hil]
      exact (Classical.choose_spec (one i hil)).1
    · by_cases h0 : len = 0
      · exact .inl h0
      obtain ⟨b, off, spot⟩ := x
      obtain ⟨y, _, hy, _⟩ := one 0 (by omega)
      have hspot : spot = none := by simpa [Addr.add] using World.cell?_spot hy
      subst hspot
      have hb : b < w.heap.size := World.block_lt_of_cell? w ⟨b, off + 0 * 5 + 0, none⟩ (by simpa only [addr_add] using hy)
      refine .inr ⟨b, off, rfl, hb, fun i hil => ?_⟩
      have e : ((List.range len).map fun i => if h : i < len then Classical.choose (one i h) else (default : Asq))[i]! = Classical.choose (one i hil) := by
        rw [List.getElem!_eq_getElem?_getD, List.getElem?_map, List.getElem?_range hil]
        simp [hil]
      have hs := (Classical.choose_spec (one i hil)).2
      rw [e]
      unfold Asq.at
      simpa only [addr_add, ← Nat.add_assoc, Nat.add_zero] using hs
end Go.Proofs.Ytacfboopkcaobaa
