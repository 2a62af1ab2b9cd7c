/- jobber/api.Rules: opened, by value and in a slice. (By mkopen.py.) -/
import Derived.Test.YtpibkjldmmecpaaGrO
import Derived.OpenShut
import Derived.Deep.Slices
import Derived.Deep.Fields
import Derived.ChangeSame
namespace Go.Proofs.Ytpibkjldmmecpaa
open Go.RowKit Go.ChangeShapes Go.WideShapes Go.Deep
set_option linter.unusedVariables false

structure Rul where
  ver : Int
  tkA : Option Addr
  tkL : Nat
  tkC : Nat
  tkZ : List Tk
  lot : Int
  band : Int
  feA : Option Addr
  feL : Nat
  feC : Nat
  rnd : Int
  pri : Int
  self : Int
  lay : Int
instance : Inhabited Rul := ⟨⟨0, none, 0, 0, [], 0, 0, none, 0, 0, 0, 0, 0, 0⟩⟩
def Rul.ok (w : World) (x : Rul) : Prop := (-9223372036854775808 ≤ x.ver ∧ x.ver ≤ 9223372036854775807) ∧ (Tks w x.tkA x.tkL x.tkZ ∧ x.tkL ≤ x.tkC ∧ x.tkC ≤ maxLen) ∧ (-9223372036854775808 ≤ x.lot ∧ x.lot ≤ 9223372036854775807) ∧ (-9223372036854775808 ≤ x.band ∧ x.band ≤ 9223372036854775807) ∧ True ∧ (-9223372036854775808 ≤ x.rnd ∧ x.rnd ≤ 9223372036854775807) ∧ (-9223372036854775808 ≤ x.pri ∧ x.pri ≤ 9223372036854775807) ∧ (-9223372036854775808 ≤ x.self ∧ x.self ≤ 9223372036854775807) ∧ (-9223372036854775808 ≤ x.lay ∧ x.lay ≤ 9223372036854775807)
def Rul.val (x : Rul) : Value := .agg #[(.int .i64 x.ver), (.slice x.tkA x.tkL x.tkC), (.int .i64 x.lot), (.int .i64 x.band), (.slice x.feA x.feL x.feC), (.int .i64 x.rnd), (.int .i64 x.pri), (.int .i64 x.self), (.int .i64 x.lay)]
/-- The cells of one at an address. -/
def Rul.at (x : Rul) (w : World) (b o : Nat) : Prop := w.cell? ⟨b, o, none⟩ = some (.int .i64 x.ver) ∧ w.cell? ⟨b, o + 1, none⟩ = some (.slice x.tkA x.tkL x.tkC) ∧ w.cell? ⟨b, o + 2, none⟩ = some (.int .i64 x.lot) ∧ w.cell? ⟨b, o + 3, none⟩ = some (.int .i64 x.band) ∧ w.cell? ⟨b, o + 4, none⟩ = some (.slice x.feA x.feL x.feC) ∧ w.cell? ⟨b, o + 5, none⟩ = some (.int .i64 x.rnd) ∧ w.cell? ⟨b, o + 6, none⟩ = some (.int .i64 x.pri) ∧ w.cell? ⟨b, o + 7, none⟩ = some (.int .i64 x.self) ∧ w.cell? ⟨b, o + 8, none⟩ = some (.int .i64 x.lay)
theorem Rul.ok_below {w w' : World} {x : Rul} (h : x.ok w) (hb : Below w.heap.size w w') : x.ok w' := by
  obtain ⟨h0, h1, h2, h3, h4, h5, h6, h7, h8⟩ := h
  exact ⟨h0, ⟨h1.1.below hb, h1.2⟩, h2, h3, h4, h5, h6, h7, h8⟩
theorem Rul.at_below {w w' : World} {x : Rul} {b o : Nat} (h : x.at w b o) (hl : b < w.heap.size) (hb : Below w.heap.size w w') : x.at w' b o := by
  unfold Rul.at at h ⊢
  simpa only [hb.cell (p := ⟨b, o, none⟩) hl, hb.cell (p := ⟨b, o + 1, none⟩) hl, hb.cell (p := ⟨b, o + 2, none⟩) hl, hb.cell (p := ⟨b, o + 3, none⟩) hl, hb.cell (p := ⟨b, o + 4, none⟩) hl, hb.cell (p := ⟨b, o + 5, none⟩) hl, hb.cell (p := ⟨b, o + 6, none⟩) hl, hb.cell (p := ⟨b, o + 7, none⟩) hl, hb.cell (p := ⟨b, o + 8, none⟩) hl] using h
/-- Some of them in a slice. -/
def Ruls (w : World) (a : Option Addr) (len : Nat) (its : List Rul) : Prop :=
  its.length = len ∧ len ≤ 9223372036854775807 ∧ (∀ x ∈ its, x.ok w) ∧ (len = 0 ∨ ∃ b off, a = some ⟨b, off, none⟩ ∧ b < w.heap.size ∧ ∀ i, i < len → (its[i]!).at w b (off + i * 9))
theorem Ruls.below {w w' : World} {a : Option Addr} {len : Nat} {its : List Rul} (h : Ruls w a len its) (hb : Below w.heap.size w w') : Ruls w' a len its := by
  obtain ⟨h1, hle, h2, h3⟩ := h
  refine ⟨h1, hle, fun x hx => Rul.ok_below (h2 x hx) hb, ?_⟩
  rcases h3 with h0 | ⟨b, off, rfl, hlt, hc⟩
  · exact .inl h0
  · exact .inr ⟨b, off, rfl, Nat.lt_of_lt_of_le hlt hb.size, fun i hi => Rul.at_below (hc i hi) hlt hb⟩
theorem fields_rul : oneCellFields Try.prog (match Try.prog.underlying 26 with | some (.struct fs) => fs | _ => #[]) = true := by kernel_rfl
theorem cells_rul : Try.prog.cellsOf 26 = 9 := by kernel_rfl

theorem open_any {H : Type} {enc : TypeId × Value → H} {w : World} {fuel : Nat} {v : Value} {y : DataW H × List MemPlace} {T E : TypeId} (hu : Try.prog.underlying T = some (.slice E)) (q : DataW.trod enc Try.prog w 0 (fun _ => true) true fuel T [v] = some y) :
    ∃ A L C, [v] = [.slice A L C] := by
  rcases open_slice hu q with ⟨hcs, _⟩ | ⟨x, l, c, m, n, D, Pl, hcs, _⟩
  · exact ⟨none, 0, 0, hcs⟩
  · exact ⟨some x, l, c, hcs⟩

theorem open_tkl {H : Type} {enc : TypeId × Value → H} {w : World} {fuel : Nat} {v : Value} {y : DataW H × List MemPlace} (q : DataW.trod enc Try.prog w 0 (fun _ => true) true fuel 23 [v] = some y) :
    ∃ A L C Z, [v] = [.slice A L C] ∧ (Tks w A L Z ∧ L ≤ C ∧ C ≤ maxLen) := by
  obtain ⟨A, L, C, e⟩ := open_any Try.underlying23 q
  injection e with e
  subst e
  obtain ⟨its, h⟩ := open_tks (a := A) (len := L) (cap := C) (d := y.1) (p := y.2) ⟨fuel, q⟩
  exact ⟨A, L, C, its, rfl, h⟩

set_option maxRecDepth 100000 in
set_option maxHeartbeats 2000000 in
theorem open_rul {H : Type} {enc : TypeId × Value → H} {w : World} {fuel : Nat} {cs : List Value} {y : DataW H × List MemPlace} (hl : cs.length = 9) (h : DataW.trod enc Try.prog w 0 (fun _ => true) true fuel 26 cs = some y) :
    ∃ x : Rul, x.ok w ∧ cs[0]? = some (.int .i64 x.ver) ∧ cs[1]? = some (.slice x.tkA x.tkL x.tkC) ∧ cs[2]? = some (.int .i64 x.lot) ∧ cs[3]? = some (.int .i64 x.band) ∧ cs[4]? = some (.slice x.feA x.feL x.feC) ∧ cs[5]? = some (.int .i64 x.rnd) ∧ cs[6]? = some (.int .i64 x.pri) ∧ cs[7]? = some (.int .i64 x.self) ∧ cs[8]? = some (.int .i64 x.lay) := by
  obtain ⟨xs, n', _, _, _, hxl, hg⟩ := DataW.trod_struct Try.underlying26 h
  have fone := fields_rul
  rw [Try.underlying26] at fone
  have at_ : ∀ (j : Nat) (f : Field), j < 9 → f.offset = j ∧ Try.prog.cellsOf f.type = 1 → DataW.trod enc Try.prog w 0 (fun _ => true) true n' f.type ((cs.drop f.offset).take (Try.prog.cellsOf f.type)) = xs[j]? →
      ∃ v y, cs[j]? = some v ∧ DataW.trod enc Try.prog w 0 (fun _ => true) true n' f.type [v] = some y := by
    intro j f hj ⟨ho, hk⟩ htr
    rw [ho, hk] at htr
    have hjl : j < cs.length := by omega
    have e1 : (cs.drop j).take 1 = [cs[j]] := by
      rw [List.drop_eq_getElem_cons hjl]; rfl
    rw [e1] at htr
    have hxj : j < xs.length := by rw [hxl]; exact hj
    rw [List.getElem?_eq_getElem hxj] at htr
    exact ⟨_, _, List.getElem?_eq_getElem hjl, htr⟩
  obtain ⟨v0, y0, p0, q0⟩ := at_ 0 _ (by omega) (hone_of fone 0 _ rfl) (hg 0 _ rfl)
  obtain ⟨v1, y1, p1, q1⟩ := at_ 1 _ (by omega) (hone_of fone 1 _ rfl) (hg 1 _ rfl)
  obtain ⟨v2, y2, p2, q2⟩ := at_ 2 _ (by omega) (hone_of fone 2 _ rfl) (hg 2 _ rfl)
  obtain ⟨v3, y3, p3, q3⟩ := at_ 3 _ (by omega) (hone_of fone 3 _ rfl) (hg 3 _ rfl)
  obtain ⟨v4, y4, p4, q4⟩ := at_ 4 _ (by omega) (hone_of fone 4 _ rfl) (hg 4 _ rfl)
  obtain ⟨v5, y5, p5, q5⟩ := at_ 5 _ (by omega) (hone_of fone 5 _ rfl) (hg 5 _ rfl)
  obtain ⟨v6, y6, p6, q6⟩ := at_ 6 _ (by omega) (hone_of fone 6 _ rfl) (hg 6 _ rfl)
  obtain ⟨v7, y7, p7, q7⟩ := at_ 7 _ (by omega) (hone_of fone 7 _ rfl) (hg 7 _ rfl)
  obtain ⟨v8, y8, p8, q8⟩ := at_ 8 _ (by omega) (hone_of fone 8 _ rfl) (hg 8 _ rfl)
  obtain ⟨k0, e0, _, w0⟩ := DataW.trod_int Try.underlying3 q0
  obtain ⟨A1, L1, C1, Z1, e1, w1⟩ : ∃ A L C Z, [v1] = [.slice A L C] ∧ (Tks w A L Z ∧ L ≤ C ∧ C ≤ maxLen) := open_tkl q1
  obtain ⟨k2, e2, _, w2⟩ := DataW.trod_int Try.underlying2 q2
  obtain ⟨k3, e3, _, w3⟩ := DataW.trod_int Try.underlying2 q3
  obtain ⟨A4, L4, C4, e4⟩ : ∃ A L C, [v4] = [.slice A L C] := open_any Try.underlying24 q4
  obtain ⟨k5, e5, _, w5⟩ := DataW.trod_int Try.underlying3 q5
  obtain ⟨k6, e6, _, w6⟩ := DataW.trod_int Try.underlying3 q6
  obtain ⟨k7, e7, _, w7⟩ := DataW.trod_int Try.underlying3 q7
  obtain ⟨k8, e8, _, w8⟩ := DataW.trod_int Try.underlying3 q8
  injection e0 with e0; injection e1 with e1; injection e2 with e2; injection e3 with e3; injection e4 with e4; injection e5 with e5; injection e6 with e6; injection e7 with e7; injection e8 with e8
  subst e0; subst e1; subst e2; subst e3; subst e4; subst e5; subst e6; subst e7; subst e8
  exact ⟨⟨k0, A1, L1, C1, Z1, k2, k3, A4, L4, C4, k5, k6, k7, k8⟩, ⟨bounds_i64 w0, w1, bounds_i64 w2, bounds_i64 w3, trivial, bounds_i64 w5, bounds_i64 w6, bounds_i64 w7, bounds_i64 w8⟩, p0, p1, p2, p3, p4, p5, p6, p7, p8⟩

set_option maxRecDepth 100000 in
set_option maxHeartbeats 2000000 in
theorem open_rul_val {H : Type} {enc : TypeId × Value → H} {w : World} {r : Reach} {b0 : Nat} {v : Value} {d : DataW H} {p : List MemPlace} (hv : Value.okWide Try.prog w r b0 26 v) (h : DataW.Trod enc Try.prog w 0 (fun _ => true) true 26 v d p) : ∃ x : Rul, x.ok w ∧ v = x.val := by
  obtain ⟨cs, rfl, hsz⟩ := okWide_struct Try.underlying26 hv
  obtain ⟨fuel, hf⟩ := h
  have hl : cs.toList.length = 9 := by rw [Array.length_toList, hsz, cells_rul]
  obtain ⟨x, hx, p0, p1, p2, p3, p4, p5, p6, p7, p8⟩ := open_rul hl hf
  refine ⟨x, hx, ?_⟩
  unfold Rul.val
  congr 1
  apply Array.ext'
  match cs.toList, hl, p0, p1, p2, p3, p4, p5, p6, p7, p8 with
  | [v0, v1, v2, v3, v4, v5, v6, v7, v8], _, p0, p1, p2, p3, p4, p5, p6, p7, p8 => simp at p0 p1 p2 p3 p4 p5 p6 p7 p8; simp [p0, p1, p2, p3, p4, p5, p6, p7, p8]

end Go.Proofs.Ytpibkjldmmecpaa
