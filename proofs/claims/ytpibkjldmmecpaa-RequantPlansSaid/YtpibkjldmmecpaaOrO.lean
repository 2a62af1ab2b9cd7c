/- jobber/api.Order: opened, by value and in a slice. (By mkopen.py.) -/
import Derived.Test.YtpibkjldmmecpaaOrA
import Derived.OpenShut
import Derived.Deep.Slices
import Derived.Deep.Fields
import Derived.ChangeSame
namespace Go.Proofs.Ytpibkjldmmecpaa
open Go.RowKit Go.ChangeShapes Go.WideShapes Go.Deep
set_option linter.unusedVariables false

structure Od where
  id : Int
  acc : Int
  side : Int
  price : Int
  qty : Int
  seq : Int
instance : Inhabited Od := ⟨⟨0, 0, 0, 0, 0, 0⟩⟩
def Od.ok (w : World) (x : Od) : Prop := (0 ≤ x.id ∧ x.id ≤ 18446744073709551615) ∧ (-9223372036854775808 ≤ x.acc ∧ x.acc ≤ 9223372036854775807) ∧ (-9223372036854775808 ≤ x.side ∧ x.side ≤ 9223372036854775807) ∧ (-9223372036854775808 ≤ x.price ∧ x.price ≤ 9223372036854775807) ∧ (-9223372036854775808 ≤ x.qty ∧ x.qty ≤ 9223372036854775807) ∧ (0 ≤ x.seq ∧ x.seq ≤ 18446744073709551615)
def Od.val (x : Od) : Value := .agg #[(.int .u64 x.id), (.int .i64 x.acc), (.int .i64 x.side), (.int .i64 x.price), (.int .i64 x.qty), (.int .u64 x.seq)]
/-- The cells of one at an address. -/
def Od.at (x : Od) (w : World) (b o : Nat) : Prop := w.cell? ⟨b, o, none⟩ = some (.int .u64 x.id) ∧ w.cell? ⟨b, o + 1, none⟩ = some (.int .i64 x.acc) ∧ w.cell? ⟨b, o + 2, none⟩ = some (.int .i64 x.side) ∧ w.cell? ⟨b, o + 3, none⟩ = some (.int .i64 x.price) ∧ w.cell? ⟨b, o + 4, none⟩ = some (.int .i64 x.qty) ∧ w.cell? ⟨b, o + 5, none⟩ = some (.int .u64 x.seq)
theorem Od.ok_below {w w' : World} {x : Od} (h : x.ok w) (hb : Below w.heap.size w w') : x.ok w' := by
  exact h
theorem Od.at_below {w w' : World} {x : Od} {b o : Nat} (h : x.at w b o) (hl : b < w.heap.size) (hb : Below w.heap.size w w') : x.at w' b o := by
  unfold Od.at at h ⊢
  simpa only [hb.cell (p := ⟨b, o, none⟩) hl, hb.cell (p := ⟨b, o + 1, none⟩) hl, hb.cell (p := ⟨b, o + 2, none⟩) hl, hb.cell (p := ⟨b, o + 3, none⟩) hl, hb.cell (p := ⟨b, o + 4, none⟩) hl, hb.cell (p := ⟨b, o + 5, none⟩) hl] using h
/-- Some of them in a slice. -/
def Ods (w : World) (a : Option Addr) (len : Nat) (its : List Od) : Prop :=
  its.length = len ∧ len ≤ 9223372036854775807 ∧ (∀ x ∈ its, x.ok w) ∧ (len = 0 ∨ ∃ b off, a = some ⟨b, off, none⟩ ∧ b < w.heap.size ∧ ∀ i, i < len → (its[i]!).at w b (off + i * 6))
theorem Ods.below {w w' : World} {a : Option Addr} {len : Nat} {its : List Od} (h : Ods w a len its) (hb : Below w.heap.size w w') : Ods w' a len its := by
  obtain ⟨h1, hle, h2, h3⟩ := h
  refine ⟨h1, hle, fun x hx => Od.ok_below (h2 x hx) hb, ?_⟩
  rcases h3 with h0 | ⟨b, off, rfl, hlt, hc⟩
  · exact .inl h0
  · exact .inr ⟨b, off, rfl, Nat.lt_of_lt_of_le hlt hb.size, fun i hi => Od.at_below (hc i hi) hlt hb⟩
theorem fields_od : oneCellFields Try.prog (match Try.prog.underlying 29 with | some (.struct fs) => fs | _ => #[]) = true := by kernel_rfl
theorem cells_od : Try.prog.cellsOf 29 = 6 := by kernel_rfl

set_option maxRecDepth 100000 in
set_option maxHeartbeats 2000000 in
theorem open_od {H : Type} {enc : TypeId × Value → H} {w : World} {fuel : Nat} {cs : List Value} {y : DataW H × List MemPlace} (hl : cs.length = 6) (h : DataW.trod enc Try.prog w 0 (fun _ => true) true fuel 29 cs = some y) :
    ∃ x : Od, x.ok w ∧ cs[0]? = some (.int .u64 x.id) ∧ cs[1]? = some (.int .i64 x.acc) ∧ cs[2]? = some (.int .i64 x.side) ∧ cs[3]? = some (.int .i64 x.price) ∧ cs[4]? = some (.int .i64 x.qty) ∧ cs[5]? = some (.int .u64 x.seq) := by
  obtain ⟨xs, n', _, _, _, hxl, hg⟩ := DataW.trod_struct Try.underlying29 h
  have fone := fields_od
  rw [Try.underlying29] at fone
  have at_ : ∀ (j : Nat) (f : Field), j < 6 → f.offset = j ∧ Try.prog.cellsOf f.type = 1 → DataW.trod enc Try.prog w 0 (fun _ => true) true n' f.type ((cs.drop f.offset).take (Try.prog.cellsOf f.type)) = xs[j]? →
      ∃ v y, cs[j]? = some v ∧ DataW.trod enc Try.prog w 0 (fun _ => true) true n' f.type [v] = some y := by
    intro j f hj ⟨ho, hk⟩ htr
    rw [ho, hk] at htr
    have hjl : j < cs.length := by omega
    have e1 : (cs.drop j).take 1 = [cs[j]] := by
      rw [List.drop_eq_getElem_cons hjl]; rfl
    rw [e1] at htr
    have hxj : j < xs.length := by rw [hxl]; exact hj
    rw [List.getElem?_eq_getElem hxj] at htr
    exact ⟨_, _, List.getElem?_eq_getElem hjl, htr⟩
  obtain ⟨v0, y0, p0, q0⟩ := at_ 0 _ (by omega) (hone_of fone 0 _ rfl) (hg 0 _ rfl)
  obtain ⟨v1, y1, p1, q1⟩ := at_ 1 _ (by omega) (hone_of fone 1 _ rfl) (hg 1 _ rfl)
  obtain ⟨v2, y2, p2, q2⟩ := at_ 2 _ (by omega) (hone_of fone 2 _ rfl) (hg 2 _ rfl)
  obtain ⟨v3, y3, p3, q3⟩ := at_ 3 _ (by omega) (hone_of fone 3 _ rfl) (hg 3 _ rfl)
  obtain ⟨v4, y4, p4, q4⟩ := at_ 4 _ (by omega) (hone_of fone 4 _ rfl) (hg 4 _ rfl)
  obtain ⟨v5, y5, p5, q5⟩ := at_ 5 _ (by omega) (hone_of fone 5 _ rfl) (hg 5 _ rfl)
  obtain ⟨k0, e0, _, w0⟩ := DataW.trod_int Try.underlying27 q0
  obtain ⟨k1, e1, _, w1⟩ := DataW.trod_int Try.underlying3 q1
  obtain ⟨k2, e2, _, w2⟩ := DataW.trod_int Try.underlying3 q2
  obtain ⟨k3, e3, _, w3⟩ := DataW.trod_int Try.underlying2 q3
  obtain ⟨k4, e4, _, w4⟩ := DataW.trod_int Try.underlying2 q4
  obtain ⟨k5, e5, _, w5⟩ := DataW.trod_int Try.underlying27 q5
  injection e0 with e0; injection e1 with e1; injection e2 with e2; injection e3 with e3; injection e4 with e4; injection e5 with e5
  subst e0; subst e1; subst e2; subst e3; subst e4; subst e5
  exact ⟨⟨k0, k1, k2, k3, k4, k5⟩, ⟨bounds_u64 w0, bounds_i64 w1, bounds_i64 w2, bounds_i64 w3, bounds_i64 w4, bounds_u64 w5⟩, p0, p1, p2, p3, p4, p5⟩

set_option maxRecDepth 100000 in
set_option maxHeartbeats 2000000 in
theorem open_od_val {H : Type} {enc : TypeId × Value → H} {w : World} {r : Reach} {b0 : Nat} {v : Value} {d : DataW H} {p : List MemPlace} (hv : Value.okWide Try.prog w r b0 29 v) (h : DataW.Trod enc Try.prog w 0 (fun _ => true) true 29 v d p) : ∃ x : Od, x.ok w ∧ v = x.val := by
  obtain ⟨cs, rfl, hsz⟩ := okWide_struct Try.underlying29 hv
  obtain ⟨fuel, hf⟩ := h
  have hl : cs.toList.length = 6 := by rw [Array.length_toList, hsz, cells_od]
  obtain ⟨x, hx, p0, p1, p2, p3, p4, p5⟩ := open_od hl hf
  refine ⟨x, hx, ?_⟩
  unfold Od.val
  congr 1
  apply Array.ext'
  match cs.toList, hl, p0, p1, p2, p3, p4, p5 with
  | [v0, v1, v2, v3, v4, v5], _, p0, p1, p2, p3, p4, p5 => simp at p0 p1 p2 p3 p4 p5; simp [p0, p1, p2, p3, p4, p5]

set_option maxRecDepth 100000 in
set_option maxHeartbeats 2000000 in
theorem open_ods {H : Type} {enc : TypeId × Value → H} {w : World} {a : Option Addr} {len cap : Nat} {d : DataW H} {p : List MemPlace}
    (h : DataW.Trod enc Try.prog w 0 (fun _ => true) true 22 (.slice a len cap) d p) : ∃ its, Ods w a len its ∧ len ≤ cap ∧ cap ≤ maxLen := by
  obtain ⟨fuel, hf⟩ := h
  have hlt := DataW.trod_lt _ _ _ _ hf
  rcases open_slice Try.underlying22 hf with ⟨hcs, _⟩ | ⟨x, l, c, m, n, D, Pl, hcs, _, hl, hm, hmm, hx, hi⟩
  · simp [Value.cells] at hcs
    obtain ⟨rfl, rfl, rfl⟩ := hcs
    exact ⟨[], ⟨rfl, by omega, by simp, .inl rfl⟩, Nat.le_refl _, Nat.zero_le _⟩
  · simp [Value.cells] at hcs
    obtain ⟨rfl, rfl, rfl⟩ := hcs
    rw [if_pos rfl] at hmm
    subst hmm
    have one : ∀ i, i < len → ∃ y : Od, y.ok w ∧ w.cell? ((x.add (i * 6)).add 0) = some (.int .u64 y.id) ∧ w.cell? ((x.add (i * 6)).add 1) = some (.int .i64 y.acc) ∧ w.cell? ((x.add (i * 6)).add 2) = some (.int .i64 y.side) ∧ w.cell? ((x.add (i * 6)).add 3) = some (.int .i64 y.price) ∧ w.cell? ((x.add (i * 6)).add 4) = some (.int .i64 y.qty) ∧ w.cell? ((x.add (i * 6)).add 5) = some (.int .u64 y.seq) := by
      intro i hil
      obtain ⟨cs', hc, ht⟩ := hi i (by omega)
      rw [cells_od] at hc
      obtain ⟨_, hlen, hcell⟩ := World.cells?_some hc
      obtain ⟨y, hy, p0, p1, p2, p3, p4, p5⟩ := open_od hlen ht
      exact ⟨y, hy, by rw [hcell 0 (by omega), p0], by rw [hcell 1 (by omega), p1], by rw [hcell 2 (by omega), p2], by rw [hcell 3 (by omega), p3], by rw [hcell 4 (by omega), p4], by rw [hcell 5 (by omega), p5]⟩
    refine ⟨(List.range len).map fun i => if h : i < len then Classical.choose (one i h) else default, ⟨by simp, by unfold maxLen at hm; omega, fun z hz => ?_, ?_⟩, hl, hm⟩
    · obtain ⟨i, hi1, rfl⟩ := List.mem_map.1 hz
      have hil : i < len := by simpa using hi1
      rw [dif_pos hil]
      exact (Classical.choose_spec (one i hil)).1
    · by_cases h0 : len = 0
      · exact .inl h0
      obtain ⟨b, off, spot⟩ := x
      obtain ⟨y, _, hy, _⟩ := one 0 (by omega)
      have hspot : spot = none := by simpa [Addr.add] using World.cell?_spot hy
      subst hspot
      have hb : b < w.heap.size := World.block_lt_of_cell? w ⟨b, off + 0 * 6 + 0, none⟩ (by simpa only [addr_add] using hy)
      refine .inr ⟨b, off, rfl, hb, fun i hil => ?_⟩
      have e : ((List.range len).map fun i => if h : i < len then Classical.choose (one i h) else (default : Od))[i]! = Classical.choose (one i hil) := by
        rw [List.getElem!_eq_getElem?_getD, List.getElem?_map, List.getElem?_range hil]
        simp [hil]
      have hs := (Classical.choose_spec (one i hil)).2
      rw [e]
      unfold Od.at
      simpa only [addr_add, ← Nat.add_assoc, Nat.add_zero] using hs
end Go.Proofs.Ytpibkjldmmecpaa
