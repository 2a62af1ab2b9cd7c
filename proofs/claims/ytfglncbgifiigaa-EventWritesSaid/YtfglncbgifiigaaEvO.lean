/- jobber/api.Event: opened, by value and in a slice. (By mkopen.py.) -/
import Derived.Test.YtfglncbgifiigaaMem
import Derived.OpenShut
import Derived.Deep.Slices
import Derived.Deep.Fields
import Derived.ChangeSame
namespace Go.Proofs.Ytfglncbgifiigaa
open Go.RowKit Go.ChangeShapes Go.WideShapes Go.Deep
set_option linter.unusedVariables false

structure Ev where
  kd : Int
  acc : Int
  id : Int
  oth : Int
  side : Int
  pr : Int
  qty : Int
  fee : Int
  fee2 : Int
  code : Int
  ver : Int
  idx : Int
instance : Inhabited Ev := ⟨⟨0, 0, 0, 0, 0, 0, 0, 0, 0, 0, 0, 0⟩⟩
def Ev.ok (w : World) (x : Ev) : Prop := (-9223372036854775808 ≤ x.kd ∧ x.kd ≤ 9223372036854775807) ∧ (-9223372036854775808 ≤ x.acc ∧ x.acc ≤ 9223372036854775807) ∧ (0 ≤ x.id ∧ x.id ≤ 18446744073709551615) ∧ (0 ≤ x.oth ∧ x.oth ≤ 18446744073709551615) ∧ (-9223372036854775808 ≤ x.side ∧ x.side ≤ 9223372036854775807) ∧ (-9223372036854775808 ≤ x.pr ∧ x.pr ≤ 9223372036854775807) ∧ (-9223372036854775808 ≤ x.qty ∧ x.qty ≤ 9223372036854775807) ∧ (-9223372036854775808 ≤ x.fee ∧ x.fee ≤ 9223372036854775807) ∧ (-9223372036854775808 ≤ x.fee2 ∧ x.fee2 ≤ 9223372036854775807) ∧ (-9223372036854775808 ≤ x.code ∧ x.code ≤ 9223372036854775807) ∧ (-9223372036854775808 ≤ x.ver ∧ x.ver ≤ 9223372036854775807) ∧ (0 ≤ x.idx ∧ x.idx ≤ 18446744073709551615)
def Ev.val (x : Ev) : Value := .agg #[(.int .i64 x.kd), (.int .i64 x.acc), (.int .u64 x.id), (.int .u64 x.oth), (.int .i64 x.side), (.int .i64 x.pr), (.int .i64 x.qty), (.int .i64 x.fee), (.int .i64 x.fee2), (.int .i64 x.code), (.int .i64 x.ver), (.int .u64 x.idx)]
/-- The cells of one at an address. -/
def Ev.at (x : Ev) (w : World) (b o : Nat) : Prop := w.cell? ⟨b, o, none⟩ = some (.int .i64 x.kd) ∧ w.cell? ⟨b, o + 1, none⟩ = some (.int .i64 x.acc) ∧ w.cell? ⟨b, o + 2, none⟩ = some (.int .u64 x.id) ∧ w.cell? ⟨b, o + 3, none⟩ = some (.int .u64 x.oth) ∧ w.cell? ⟨b, o + 4, none⟩ = some (.int .i64 x.side) ∧ w.cell? ⟨b, o + 5, none⟩ = some (.int .i64 x.pr) ∧ w.cell? ⟨b, o + 6, none⟩ = some (.int .i64 x.qty) ∧ w.cell? ⟨b, o + 7, none⟩ = some (.int .i64 x.fee) ∧ w.cell? ⟨b, o + 8, none⟩ = some (.int .i64 x.fee2) ∧ w.cell? ⟨b, o + 9, none⟩ = some (.int .i64 x.code) ∧ w.cell? ⟨b, o + 10, none⟩ = some (.int .i64 x.ver) ∧ w.cell? ⟨b, o + 11, none⟩ = some (.int .u64 x.idx)
theorem Ev.ok_below {w w' : World} {x : Ev} (h : x.ok w) (hb : Below w.heap.size w w') : x.ok w' := by
  exact h
theorem Ev.at_below {w w' : World} {x : Ev} {b o : Nat} (h : x.at w b o) (hl : b < w.heap.size) (hb : Below w.heap.size w w') : x.at w' b o := by
  unfold Ev.at at h ⊢
  simpa only [hb.cell (p := ⟨b, o, none⟩) hl, hb.cell (p := ⟨b, o + 1, none⟩) hl, hb.cell (p := ⟨b, o + 2, none⟩) hl, hb.cell (p := ⟨b, o + 3, none⟩) hl, hb.cell (p := ⟨b, o + 4, none⟩) hl, hb.cell (p := ⟨b, o + 5, none⟩) hl, hb.cell (p := ⟨b, o + 6, none⟩) hl, hb.cell (p := ⟨b, o + 7, none⟩) hl, hb.cell (p := ⟨b, o + 8, none⟩) hl, hb.cell (p := ⟨b, o + 9, none⟩) hl, hb.cell (p := ⟨b, o + 10, none⟩) hl, hb.cell (p := ⟨b, o + 11, none⟩) hl] using h
/-- Some of them in a slice. -/
def Evs (w : World) (a : Option Addr) (len : Nat) (its : List Ev) : Prop :=
  its.length = len ∧ len ≤ 9223372036854775807 ∧ (∀ x ∈ its, x.ok w) ∧ (len = 0 ∨ ∃ b off, a = some ⟨b, off, none⟩ ∧ b < w.heap.size ∧ ∀ i, i < len → (its[i]!).at w b (off + i * 12))
theorem Evs.below {w w' : World} {a : Option Addr} {len : Nat} {its : List Ev} (h : Evs w a len its) (hb : Below w.heap.size w w') : Evs w' a len its := by
  obtain ⟨h1, hle, h2, h3⟩ := h
  refine ⟨h1, hle, fun x hx => Ev.ok_below (h2 x hx) hb, ?_⟩
  rcases h3 with h0 | ⟨b, off, rfl, hlt, hc⟩
  · exact .inl h0
  · exact .inr ⟨b, off, rfl, Nat.lt_of_lt_of_le hlt hb.size, fun i hi => Ev.at_below (hc i hi) hlt hb⟩
theorem fields_ev : oneCellFields Try.prog (match Try.prog.underlying 51 with | some (.struct fs) => fs | _ => #[]) = true := by kernel_rfl
theorem cells_ev : Try.prog.cellsOf 51 = 12 := by kernel_rfl

set_option maxRecDepth 100000 in
set_option maxHeartbeats 2000000 in
theorem open_ev {H : Type} {enc : TypeId × Value → H} {w : World} {fuel : Nat} {cs : List Value} {y : DataW H × List MemPlace} (hl : cs.length = 12) (h : DataW.trod enc Try.prog w 0 (fun _ => true) true fuel 51 cs = some y) :
    ∃ x : Ev, x.ok w ∧ cs[0]? = some (.int .i64 x.kd) ∧ cs[1]? = some (.int .i64 x.acc) ∧ cs[2]? = some (.int .u64 x.id) ∧ cs[3]? = some (.int .u64 x.oth) ∧ cs[4]? = some (.int .i64 x.side) ∧ cs[5]? = some (.int .i64 x.pr) ∧ cs[6]? = some (.int .i64 x.qty) ∧ cs[7]? = some (.int .i64 x.fee) ∧ cs[8]? = some (.int .i64 x.fee2) ∧ cs[9]? = some (.int .i64 x.code) ∧ cs[10]? = some (.int .i64 x.ver) ∧ cs[11]? = some (.int .u64 x.idx) := by
  obtain ⟨xs, n', _, _, _, hxl, hg⟩ := DataW.trod_struct Try.underlying51 h
  have fone := fields_ev
  rw [Try.underlying51] at fone
  have at_ : ∀ (j : Nat) (f : Field), j < 12 → f.offset = j ∧ Try.prog.cellsOf f.type = 1 → DataW.trod enc Try.prog w 0 (fun _ => true) true n' f.type ((cs.drop f.offset).take (Try.prog.cellsOf f.type)) = xs[j]? →
      ∃ v y, cs[j]? = some v ∧ DataW.trod enc Try.prog w 0 (fun _ => true) true n' f.type [v] = some y := by
    intro j f hj ⟨ho, hk⟩ htr
    rw [ho, hk] at htr
    have hjl : j < cs.length := by omega
    have e1 : (cs.drop j).take 1 = [cs[j]] := by
      rw [List.drop_eq_getElem_cons hjl]; rfl
    rw [e1] at htr
    have hxj : j < xs.length := by rw [hxl]; exact hj
    rw [List.getElem?_eq_getElem hxj] at htr
    exact ⟨_, _, List.getElem?_eq_getElem hjl, htr⟩
  obtain ⟨v0, y0, p0, q0⟩ := at_ 0 _ (by omega) (hone_of fone 0 _ rfl) (hg 0 _ rfl)
  obtain ⟨v1, y1, p1, q1⟩ := at_ 1 _ (by omega) (hone_of fone 1 _ rfl) (hg 1 _ rfl)
  obtain ⟨v2, y2, p2, q2⟩ := at_ 2 _ (by omega) (hone_of fone 2 _ rfl) (hg 2 _ rfl)
  obtain ⟨v3, y3, p3, q3⟩ := at_ 3 _ (by omega) (hone_of fone 3 _ rfl) (hg 3 _ rfl)
  obtain ⟨v4, y4, p4, q4⟩ := at_ 4 _ (by omega) (hone_of fone 4 _ rfl) (hg 4 _ rfl)
  obtain ⟨v5, y5, p5, q5⟩ := at_ 5 _ (by omega) (hone_of fone 5 _ rfl) (hg 5 _ rfl)
  obtain ⟨v6, y6, p6, q6⟩ := at_ 6 _ (by omega) (hone_of fone 6 _ rfl) (hg 6 _ rfl)
  obtain ⟨v7, y7, p7, q7⟩ := at_ 7 _ (by omega) (hone_of fone 7 _ rfl) (hg 7 _ rfl)
  obtain ⟨v8, y8, p8, q8⟩ := at_ 8 _ (by omega) (hone_of fone 8 _ rfl) (hg 8 _ rfl)
  obtain ⟨v9, y9, p9, q9⟩ := at_ 9 _ (by omega) (hone_of fone 9 _ rfl) (hg 9 _ rfl)
  obtain ⟨v10, y10, p10, q10⟩ := at_ 10 _ (by omega) (hone_of fone 10 _ rfl) (hg 10 _ rfl)
  obtain ⟨v11, y11, p11, q11⟩ := at_ 11 _ (by omega) (hone_of fone 11 _ rfl) (hg 11 _ rfl)
  obtain ⟨k0, e0, _, w0⟩ := DataW.trod_int Try.underlying3 q0
  obtain ⟨k1, e1, _, w1⟩ := DataW.trod_int Try.underlying3 q1
  obtain ⟨k2, e2, _, w2⟩ := DataW.trod_int Try.underlying49 q2
  obtain ⟨k3, e3, _, w3⟩ := DataW.trod_int Try.underlying49 q3
  obtain ⟨k4, e4, _, w4⟩ := DataW.trod_int Try.underlying3 q4
  obtain ⟨k5, e5, _, w5⟩ := DataW.trod_int Try.underlying2 q5
  obtain ⟨k6, e6, _, w6⟩ := DataW.trod_int Try.underlying2 q6
  obtain ⟨k7, e7, _, w7⟩ := DataW.trod_int Try.underlying2 q7
  obtain ⟨k8, e8, _, w8⟩ := DataW.trod_int Try.underlying2 q8
  obtain ⟨k9, e9, _, w9⟩ := DataW.trod_int Try.underlying25 q9
  obtain ⟨k10, e10, _, w10⟩ := DataW.trod_int Try.underlying3 q10
  obtain ⟨k11, e11, _, w11⟩ := DataW.trod_int Try.underlying49 q11
  injection e0 with e0; injection e1 with e1; injection e2 with e2; injection e3 with e3; injection e4 with e4; injection e5 with e5; injection e6 with e6; injection e7 with e7; injection e8 with e8; injection e9 with e9; injection e10 with e10; injection e11 with e11
  subst e0; subst e1; subst e2; subst e3; subst e4; subst e5; subst e6; subst e7; subst e8; subst e9; subst e10; subst e11
  exact ⟨⟨k0, k1, k2, k3, k4, k5, k6, k7, k8, k9, k10, k11⟩, ⟨bounds_i64 w0, bounds_i64 w1, bounds_u64 w2, bounds_u64 w3, bounds_i64 w4, bounds_i64 w5, bounds_i64 w6, bounds_i64 w7, bounds_i64 w8, bounds_i64 w9, bounds_i64 w10, bounds_u64 w11⟩, p0, p1, p2, p3, p4, p5, p6, p7, p8, p9, p10, p11⟩

set_option maxRecDepth 100000 in
set_option maxHeartbeats 2000000 in
theorem open_ev_val {H : Type} {enc : TypeId × Value → H} {w : World} {r : Reach} {b0 : Nat} {v : Value} {d : DataW H} {p : List MemPlace} (hv : Value.okWide Try.prog w r b0 51 v) (h : DataW.Trod enc Try.prog w 0 (fun _ => true) true 51 v d p) : ∃ x : Ev, x.ok w ∧ v = x.val := by
  obtain ⟨cs, rfl, hsz⟩ := okWide_struct Try.underlying51 hv
  obtain ⟨fuel, hf⟩ := h
  have hl : cs.toList.length = 12 := by rw [Array.length_toList, hsz, cells_ev]
  obtain ⟨x, hx, p0, p1, p2, p3, p4, p5, p6, p7, p8, p9, p10, p11⟩ := open_ev hl hf
  refine ⟨x, hx, ?_⟩
  unfold Ev.val
  congr 1
  apply Array.ext'
  match cs.toList, hl, p0, p1, p2, p3, p4, p5, p6, p7, p8, p9, p10, p11 with
  | [v0, v1, v2, v3, v4, v5, v6, v7, v8, v9, v10, v11], _, p0, p1, p2, p3, p4, p5, p6, p7, p8, p9, p10, p11 => simp at p0 p1 p2 p3 p4 p5 p6 p7 p8 p9 p10 p11; simp [p0, p1, p2, p3, p4, p5, p6, p7, p8, p9, p10, p11]

set_option maxRecDepth 100000 in
set_option maxHeartbeats 2000000 in
theorem open_evs {H : Type} {enc : TypeId × Value → H} {w : World} {a : Option Addr} {len cap : Nat} {d : DataW H} {p : List MemPlace}
    (h : DataW.Trod enc Try.prog w 0 (fun _ => true) true 22 (.slice a len cap) d p) : ∃ its, Evs w a len its ∧ len ≤ cap ∧ cap ≤ maxLen := by
  obtain ⟨fuel, hf⟩ := h
  have hlt := DataW.trod_lt _ _ _ _ hf
  rcases open_slice Try.underlying22 hf with ⟨hcs, _⟩ | ⟨x, l, c, m, n, D, Pl, hcs, _, hl, hm, hmm, hx, hi⟩
  · simp [Value.cells] at hcs
    obtain ⟨rfl, rfl, rfl⟩ := hcs
    exact ⟨[], ⟨rfl, by omega, by simp, .inl rfl⟩, Nat.le_refl _, Nat.zero_le _⟩
  · simp [Value.cells] at hcs
    obtain ⟨rfl, rfl, rfl⟩ := hcs
    rw [if_pos rfl] at hmm
    subst hmm
    have one : ∀ i, i < len → ∃ y : Ev, y.ok w ∧ w.cell? ((x.add (i * 12)).add 0) = some (.int .i64 y.kd) ∧ w.cell? ((x.add (i * 12)).add 1) = some (.int .i64 y.acc) ∧ w.cell? ((x.add (i * 12)).add 2) = some (.int .u64 y.id) ∧ w.cell? ((x.add (i * 12)).add 3) = some (.int .u64 y.oth) ∧ w.cell? ((x.add (i * 12)).add 4) = some (.int .i64 y.side) ∧ w.cell? ((x.add (i * 12)).add 5) = some (.int .i64 y.pr) ∧ w.cell? ((x.add (i * 12)).add 6) = some (.int .i64 y.qty) ∧ w.cell? ((x.add (i * 12)).add 7) = some (.int .i64 y.fee) ∧ w.cell? ((x.add (i * 12)).add 8) = some (.int .i64 y.fee2) ∧ w.cell? ((x.add (i * 12)).add 9) = some (.int .i64 y.code) ∧ w.cell? ((x.add (i * 12)).add 10) = some (.int .i64 y.ver) ∧ w.cell? ((x.add (i * 12)).add 11) = some (.int .u64 y.idx) := by
      intro i hil
      obtain ⟨cs', hc, ht⟩ := hi i (by omega)
      rw [cells_ev] at hc
      obtain ⟨_, hlen, hcell⟩ := World.cells?_some hc
      obtain ⟨y, hy, p0, p1, p2, p3, p4, p5, p6, p7, p8, p9, p10, p11⟩ := open_ev hlen ht
      exact ⟨y, hy, by rw [hcell 0 (by omega), p0], by rw [hcell 1 (by omega), p1], by rw [hcell 2 (by omega), p2], by rw [hcell 3 (by omega), p3], by rw [hcell 4 (by omega), p4], by rw [hcell 5 (by omega), p5], by rw [hcell 6 (by omega), p6], by rw [hcell 7 (by omega), p7], by rw [hcell 8 (by omega), p8], by rw [hcell 9 (by omega), p9], by rw [hcell 10 (by omega), p10], by rw [hcell 11 (by omega), p11]⟩
    refine ⟨(List.range len).map fun i => if h : i < len then Classical.choose (one i h) else default, ⟨by simp, by unfold maxLen at hm; omega, fun z hz => ?_, ?_⟩, hl, hm⟩
    · obtain ⟨i, hi1, rfl⟩ := List.mem_map.1 hz
      have hil : i < len := by simpa using hi1
      rw [dif_pos hil]
      exact (Classical.choose_spec (one i hil)).1
    · by_cases h0 : len = 0
      · exact .inl h0
      obtain ⟨b, off, spot⟩ := x
      obtain ⟨y, _, hy, _⟩ := one 0 (by omega)
      have hspot : spot = none := by simpa [Addr.add] using World.cell?_spot hy
      subst hspot
      have hb : b < w.heap.size := World.block_lt_of_cell? w ⟨b, off + 0 * 12 + 0, none⟩ (by simpa only [addr_add] using hy)
      refine .inr ⟨b, off, rfl, hb, fun i hil => ?_⟩
      have e : ((List.range len).map fun i => if h : i < len then Classical.choose (one i h) else (default : Ev))[i]! = Classical.choose (one i hil) := by
        rw [List.getElem!_eq_getElem?_getD, List.getElem?_map, List.getElem?_range hil]
        simp [hil]
      have hs := (Classical.choose_spec (one i hil)).2
      rw [e]
      unfold Ev.at
      simpa only [addr_add, ← Nat.add_assoc, Nat.add_zero] using hs
end Go.Proofs.Ytfglncbgifiigaa
