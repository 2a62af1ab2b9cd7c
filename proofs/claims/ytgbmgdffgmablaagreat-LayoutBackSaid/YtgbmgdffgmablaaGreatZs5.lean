/- What the laws lean on, in one row of texts (by shake.py): part 5 of 5. -/
import Derived.Test.YtgbmgdffgmablaaGreatZs4
import Derived.Maps.RangeWalk
import Derived.OpenShut
import Derived.Deep.Slices
import Derived.Deep.Fields
import Derived.ChangeSame
import Derived.BigQuiet
import Derived.Sort.AssemblyPlain
import Derived.Deep.CutRange
import Derived.Deep.CutBlock
import Derived.Deep.DeepCutAuto

namespace Go.Proofs.YtgbmgdffgmablaaGreat
open Go.RowKit Go.Sort Go.Lib Go.Maps Go.Shelf
set_option linter.unusedVariables false

theorem ranges_fr {S : Nat → Prop} {w w' : World} {P : Program} {K : TypeId} {R : Value → Option (DataW Value × List MemPlace)} {b r n cnt : Nat} {D : DataW Value} {left : Lit → Bool} (h : w.ranges P K R b r n D left cnt) (hf : Fr S w w') (hb' : ¬ S b) (hr' : ¬ S r) : w'.ranges P K R b r n D left cnt := by
  have h1 := h.owns.lt
  have h2 := h.lt
  obtain ⟨es, clock, since, seen, c0, hb, F, hs, hD, hr, rest⟩ := h
  exact ⟨es, clock, since, seen, c0, (hf.block b h1 hb').trans hb, F, hs, hD, (hf.block r h2 hr').trans hr, rest⟩
theorem same_u {a b : Int} : (Lit.int .u64 a).sameKey (.int .u64 b) = decide (a = b) := by
  simp [Lit.sameKey]
/-- What Clone's loop leaves: those whose IDs have come are in the new book. -/
structure gClI (w wr : World) (q : Nat) (m' : Nat × Nat) (t1 t2 : Gd) (b r : Nat) (D : DataW Value) (left : Lit → Bool) (cnt : Nat) (L : List Od) : Prop where
  wh : gWhole wr q m' t1 t2
  mem : ∀ x, x ∈ bookL t1.rs t2.rs ↔ x ∈ L ∧ left (.int .u64 x.id) = false
  len : (bookL t1.rs t2.rs).length + cnt ≤ 64
  rg : wr.ranges Tryz.prog 35 RV b r 64 D left cnt
  lf : ∀ id, left (.int .u64 id) = true → ∃ x ∈ L, x.id = id
  nr : ¬ gft q m' t1 t2 r
  nb : b < w.heap.size
  rlo : w.heap.size ≤ r
  be : Below w.heap.size w wr
  lo : ∀ j, gft q m' t1 t2 j → w.heap.size ≤ j
section
variable {w wr w' : World} {q b r cnt cnt' : Nat} {m' : Nat × Nat} {t1 t2 t1' t2' : Gd} {D : DataW Value} {left left' : Lit → Bool} {L : List Od}
/-- An order has come, and gone in. -/
theorem gClI.put {w2 : World} {x : Od} (h : gClI w wr q m' t1 t2 b r D left cnt L) (hi : Ids L) (hx : x ∈ L) (hl : left (.int .u64 x.id) = true) (hg : wr.grownBy w2 (some r)) (hrg : w2.ranges Tryz.prog 35 RV b r 64 D (fun z => left z && !z.sameKey (.int .u64 x.id)) cnt') (hlt : cnt' < cnt)
    (hP : gPutIs w2 w' q m' t1 t2 t1' t2' x) : gClI w w' q m' t1' t2' b r D (fun z => left z && !z.sameKey (.int .u64 x.id)) cnt' L := by
  have f2 := fr_grown hg
  have hsz := f2.size
  have be2 : Below w.heap.size w w2 := h.be.trans (f2.below (fun j hj => by rw [hj]; exact h.rlo) h.be.size)
  have hbl : ¬ gft q m' t1 t2 b := fun hb => by have := h.lo b hb; have := h.nb; omega
  refine ⟨hP.tu.wh, fun y => ?_, ?_, ranges_fr hrg hP.tu.fr hbl h.nr, fun id hid => h.lf id ?_, fun hf => ?_, h.nb, h.rlo, be2.trans (hP.tu.fr.below h.lo be2.size), fun j hj => ?_⟩
  · rw [hP.perm.mem_iff, List.mem_cons, h.mem, same_u]
    constructor
    · rintro (rfl | ⟨h1, h2⟩)
      · exact ⟨hx, by simp⟩
      · exact ⟨h1, by rw [h2]; rfl⟩
    · rintro ⟨h1, h2⟩
      by_cases e : y.id = x.id
      · exact .inl (ids_eq hi h1 hx e)
      · refine .inr ⟨h1, ?_⟩
        rw [decide_eq_false e] at h2
        simpa using h2
  · rw [hP.perm.length_eq, List.length_cons]
    have := h.len
    omega
  · have : (left (.int .u64 id) && !(Lit.int .u64 id).sameKey (.int .u64 x.id)) = true := hid
    rw [Bool.and_eq_true] at this
    exact this.1
  · rcases hP.tu.ft r hf with h' | h'
    · exact h.nr h'
    · have := h.rg.lt; omega
  · rcases hP.tu.ft j hj with h' | h'
    · exact h.lo j h'
    · exact Nat.le_trans be2.size h'
end
theorem gWhole.gw {w : World} {p : Nat} {m : Nat × Nat} {s1 s2 : Gd} (h : gWhole w p m s1 s2) : ∃ D, w.ownsMap Tryz.prog 35 RV m.1 64 D ∧ OmT D (bookL s1.rs s2.rs) := by
  obtain ⟨D, h⟩ := h
  exact ⟨D, h.gk.om _ _ rfl, h.om⟩
end Go.Proofs.YtgbmgdffgmablaaGreat

namespace Go.Proofs.YtgbmgdffgmablaaGreat
open Go.RowKit Go.Sort Go.Lib Go.Maps Go.Shelf
set_option linter.unusedVariables false

/-- Two books and the reference's one, side by side. -/
structure gTri (w W : World) (pa : Nat) (ma : Nat × Nat) (a1 a2 : Gd) (pb : Nat) (mb : Nat × Nat) (b1 b2 : Gd) (wb : Nat) (M : List Od) : Prop where
  wa : gWhole W pa ma a1 a2
  wv : gWhole W pb mb b1 b2
  rb : RB W wb M
  be : Below w.heap.size w W
  loa : ∀ k, gft pa ma a1 a2 k → w.heap.size ≤ k
  lob : ∀ k, gft pb mb b1 b2 k → w.heap.size ≤ k
  low : w.heap.size ≤ wb
  dj : ∀ k, gft pa ma a1 a2 k → ¬ gft pb mb b1 b2 k
section
variable {w W W' : World} {pa pb wb : Nat} {ma mb : Nat × Nat} {a1 a2 b1 b2 : Gd} {M : List Od}
theorem gTri.below (h : gTri w W pa ma a1 a2 pb mb b1 b2 wb M) (hb : Below W.heap.size W W') : gTri w W' pa ma a1 a2 pb mb b1 b2 wb M :=
  ⟨h.wa.below hb, h.wv.below hb, rb_low h.rb hb, h.be.trans (hb.mono h.be.size), h.loa, h.lob, h.low, h.dj⟩
end
end Go.Proofs.YtgbmgdffgmablaaGreat

namespace Go.Proofs.YtgbmgdffgmablaaGreat
open Go.RowKit Go.ChangeShapes Go.WideShapes Go.Deep
set_option linter.unusedVariables false

structure Op where
  kind : Int
  id : Int
  acc : Int
  side : Int
  price : Int
  qt : Int
  seq : Int
  n : Int
  qty : Int
instance : Inhabited Op := ⟨⟨0, 0, 0, 0, 0, 0, 0, 0, 0⟩⟩
def Op.ok (w : World) (x : Op) : Prop := (-9223372036854775808 ≤ x.kind ∧ x.kind ≤ 9223372036854775807) ∧ (0 ≤ x.id ∧ x.id ≤ 18446744073709551615) ∧ (-9223372036854775808 ≤ x.acc ∧ x.acc ≤ 9223372036854775807) ∧ (-9223372036854775808 ≤ x.side ∧ x.side ≤ 9223372036854775807) ∧ (-9223372036854775808 ≤ x.price ∧ x.price ≤ 9223372036854775807) ∧ (-9223372036854775808 ≤ x.qt ∧ x.qt ≤ 9223372036854775807) ∧ (0 ≤ x.seq ∧ x.seq ≤ 18446744073709551615) ∧ (0 ≤ x.n ∧ x.n ≤ 18446744073709551615) ∧ (-9223372036854775808 ≤ x.qty ∧ x.qty ≤ 9223372036854775807)
def Op.val (x : Op) : Value := .agg #[(.int .i64 x.kind), (.int .u64 x.id), (.int .i64 x.acc), (.int .i64 x.side), (.int .i64 x.price), (.int .i64 x.qt), (.int .u64 x.seq), (.int .u64 x.n), (.int .i64 x.qty)]
/-- The cells of one at an address. -/
def Op.at (x : Op) (w : World) (b o : Nat) : Prop := w.cell? ⟨b, o, none⟩ = some (.int .i64 x.kind) ∧ w.cell? ⟨b, o + 1, none⟩ = some (.int .u64 x.id) ∧ w.cell? ⟨b, o + 2, none⟩ = some (.int .i64 x.acc) ∧ w.cell? ⟨b, o + 3, none⟩ = some (.int .i64 x.side) ∧ w.cell? ⟨b, o + 4, none⟩ = some (.int .i64 x.price) ∧ w.cell? ⟨b, o + 5, none⟩ = some (.int .i64 x.qt) ∧ w.cell? ⟨b, o + 6, none⟩ = some (.int .u64 x.seq) ∧ w.cell? ⟨b, o + 7, none⟩ = some (.int .u64 x.n) ∧ w.cell? ⟨b, o + 8, none⟩ = some (.int .i64 x.qty)
theorem Op.ok_below {w w' : World} {x : Op} (h : x.ok w) (hb : Below w.heap.size w w') : x.ok w' := by
  exact h
theorem Op.at_below {w w' : World} {x : Op} {b o : Nat} (h : x.at w b o) (hl : b < w.heap.size) (hb : Below w.heap.size w w') : x.at w' b o := by
  unfold Op.at at h ⊢
  simpa only [hb.cell (p := ⟨b, o, none⟩) hl, hb.cell (p := ⟨b, o + 1, none⟩) hl, hb.cell (p := ⟨b, o + 2, none⟩) hl, hb.cell (p := ⟨b, o + 3, none⟩) hl, hb.cell (p := ⟨b, o + 4, none⟩) hl, hb.cell (p := ⟨b, o + 5, none⟩) hl, hb.cell (p := ⟨b, o + 6, none⟩) hl, hb.cell (p := ⟨b, o + 7, none⟩) hl, hb.cell (p := ⟨b, o + 8, none⟩) hl] using h
/-- Some of them in a slice. -/
def Ops (w : World) (a : Option Addr) (len : Nat) (its : List Op) : Prop :=
  its.length = len ∧ len ≤ 9223372036854775807 ∧ (∀ x ∈ its, x.ok w) ∧ (len = 0 ∨ ∃ b off, a = some ⟨b, off, none⟩ ∧ b < w.heap.size ∧ ∀ i, i < len → (its[i]!).at w b (off + i * 9))
theorem Ops.below {w w' : World} {a : Option Addr} {len : Nat} {its : List Op} (h : Ops w a len its) (hb : Below w.heap.size w w') : Ops w' a len its := by
  obtain ⟨h1, hle, h2, h3⟩ := h
  refine ⟨h1, hle, fun x hx => Op.ok_below (h2 x hx) hb, ?_⟩
  rcases h3 with h0 | ⟨b, off, rfl, hlt, hc⟩
  · exact .inl h0
  · exact .inr ⟨b, off, rfl, Nat.lt_of_lt_of_le hlt hb.size, fun i hi => Op.at_below (hc i hi) hlt hb⟩
end Go.Proofs.YtgbmgdffgmablaaGreat

namespace Go.Proofs.YtgbmgdffgmablaaGreat
open Go.RowKit Go.Shelf Go.Sort Go.Lib Go.Maps
set_option linter.unusedVariables false

def gRs (s1 s2 : Gd) (sd : Int) : List Rw := rsq s1.rs s2.rs sd
theorem gWhole.ids {w : World} {p : Nat} {m : Nat × Nat} {s1 s2 : Gd} (h : gWhole w p m s1 s2) : Ids (bookL s1.rs s2.rs) := by
  obtain ⟨D, h⟩ := h; exact h.ids
/-- A book of the call's own. -/
structure gOne (w W : World) (p : Nat) (m : Nat × Nat) (s1 s2 : Gd) : Prop where
  wh : gWhole W p m s1 s2
  be : Below w.heap.size w W
  lo : ∀ k, gft p m s1 s2 k → w.heap.size ≤ k
/-- A turn of the book. -/
def gTurn (W W' : World) (p : Nat) (m : Nat × Nat) (s1 s2 s1' s2' : Gd) : Prop :=
  gWhole W' p m s1' s2' ∧ Fr (gft p m s1 s2) W W' ∧ ∀ k, gft p m s1' s2' k → gft p m s1 s2 k ∨ W.heap.size ≤ k
theorem gOne.below {w W W' : World} {p : Nat} {m : Nat × Nat} {s1 s2 : Gd} (h : gOne w W p m s1 s2) (hb : Below W.heap.size W W') : gOne w W' p m s1 s2 := ⟨h.wh.below hb, h.be.trans (hb.mono h.be.size), h.lo⟩
theorem gOne.turn {w W W' : World} {p : Nat} {m : Nat × Nat} {s1 s2 s1' s2' : Gd} (h : gOne w W p m s1 s2) (t : gTurn W W' p m s1 s2 s1' s2') : gOne w W' p m s1' s2' :=
  ⟨t.1, h.be.trans (t.2.1.below h.lo h.be.size), fun k hk => (t.2.2 k hk).elim (h.lo k) (fun e => Nat.le_trans h.be.size e)⟩
/-- What is kept beside the book. -/
structure gKept (w W : World) (p : Nat) (m : Nat × Nat) (s1 s2 : Gd) (sd : Int) (R : List Rw) (v : Value) (n : Nat) (l : List Int) (fb : Nat) (z : Od) : Prop where
  one : gOne w W p m s1 s2
  rs : gRs s1 s2 sd = R
  was : W.ownsRow 0 2 1 v n (l.map (fun p => Value.int .i64 p))
  bx : Cl 38 W fb (OC z)
  nf : ¬ gft p m s1 s2 fb
  nv : ∀ j, v.ownBlock = some j → ¬ gft p m s1 s2 j
section
variable {w W W' : World} {p n fb : Nat} {m : Nat × Nat} {s1 s2 s1' s2' : Gd} {sd : Int} {R : List Rw} {v : Value} {l : List Int} {z : Od}
theorem gKept.below (h : gKept w W p m s1 s2 sd R v n l fb z) (hb : Below W.heap.size W W') : gKept w W' p m s1 s2 sd R v n l fb z :=
  ⟨h.one.below hb, h.rs, own_low h.was hb, (hb.block _ (blk_lt h.bx)).trans h.bx, h.nf, h.nv⟩
theorem gKept.turn (h : gKept w W p m s1 s2 sd R v n l fb z) (t : gTurn W W' p m s1 s2 s1' s2' ∧ gRs s1' s2' sd = gRs s1 s2 sd) : gKept w W' p m s1' s2' sd R v n l fb z := by
  obtain ⟨t, e⟩ := t
  refine ⟨h.one.turn t, e.trans h.rs, own_fr h.was t.2.1 (fun j hj => h.nv j hj), t.2.1.blk h.bx h.nf, fun hk => ?_, fun j hj hk => ?_⟩
  · rcases t.2.2 fb hk with h' | h'
    · exact h.nf h'
    · have := blk_lt h.bx; omega
  · rcases t.2.2 j hk with h' | h'
    · exact h.nv j hj h'
    · have := (own_lt h.was j hj).2; omega
end
end Go.Proofs.YtgbmgdffgmablaaGreat

namespace Go.Proofs.YtgbmgdffgmablaaGreat
open Go.RowKit Go.Shelf Go.Sort Go.Maps Go.Lib
set_option linter.unusedVariables false

/-- A turn of the book. -/
def gTrn (W W' : World) (p : Nat) (m : Nat × Nat) (s1 s2 s1' s2' : Gd) : Prop :=
  gWhole W' p m s1' s2' ∧ Fr (gft p m s1 s2) W W' ∧ ∀ k, gft p m s1' s2' k → gft p m s1 s2 k ∨ W.heap.size ≤ k
/-- A book and the reference's one, of the call's own. -/
structure gPl (w W : World) (p : Nat) (m : Nat × Nat) (s1 s2 : Gd) (wb : Nat) (M : List Od) : Prop where
  wh : gWhole W p m s1 s2
  rb : RB W wb M
  be : Below w.heap.size w W
  lo : ∀ k, gft p m s1 s2 k → w.heap.size ≤ k
  low : w.heap.size ≤ wb
section
variable {w W W' : World} {p wb : Nat} {m : Nat × Nat} {s1 s2 s1' s2' : Gd} {M M' : List Od}
theorem gPl.below (h : gPl w W p m s1 s2 wb M) (hb : Below W.heap.size W W') : gPl w W' p m s1 s2 wb M := ⟨h.wh.below hb, rb_low h.rb hb, h.be.trans (hb.mono h.be.size), h.lo, h.low⟩
theorem gPl.turn (h : gPl w W p m s1 s2 wb M) (t : gTrn W W' p m s1 s2 s1' s2') : gPl w W' p m s1' s2' wb M :=
  ⟨t.1, grb_fr h.rb h.wh t.2.1, h.be.trans (t.2.1.below h.lo h.be.size), fun k hk => (t.2.2 k hk).elim (h.lo k) (fun e => Nat.le_trans h.be.size e), h.low⟩
end

/-- What is left behind one that was taken. -/
theorem gtake_same {w w' : World} {p : Nat} {m : Nat × Nat} {s1 s2 s1' s2' : Gd} {o : Od} {id : Int} (H : gWhole w p m s1 s2) (k : gTakeIs w w' p m s1 s2 s1' s2' o) (ho : o ∈ bookL s1.rs s2.rs) (he : o.id = id) : (bookL s1.rs s2.rs).eraseIdx (idxN id (bookL s1.rs s2.rs)) = bookL s1'.rs s2'.rs := by
  obtain ⟨h1, h2⟩ := idx_of H.ids ho he
  have hp := era_perm h1 h2
  refine uniq ?_ ?_ k.tu.wh.pw
  · exact (List.Perm.cons_inv (hp.symm.trans k.perm))
  · exact H.pw.sublist (List.eraseIdx_sublist _ _)
end Go.Proofs.YtgbmgdffgmablaaGreat

namespace Go.Proofs.YtgbmgdffgmablaaGreat
open Go.RowKit Go.Shelf Go.Sort Go.Maps Go.Lib
set_option linter.unusedVariables false

abbrev ptA (b : Nat) : Value := .pointer (some ⟨b, 0, none⟩)
abbrev lvl (p : Nat) : Value := .iface 102 (ptA p)
abbrev gvl (p : Nat) : Value := .iface 104 (ptA p)
abbrev oV (o : Od) : Value := .agg #[.int .u64 o.id, .int .i64 o.acc, .int .i64 o.side, .int .i64 o.price, .int .i64 o.qty, .int .u64 o.seq]
/-- What an interface value holds: a book of layout k, with the orders L; its own blocks: S. -/
inductive Held (w : World) : Value → Int → List Od → (Nat → Prop) → Prop
  | lad (p m : Nat) (s1 s2 : Sd) (h : Whole w p m s1 s2) : Held w (lvl p) 1 (bookL s1.rs s2.rs) (foot (some ⟨p, 0, none⟩) (some m) s1 s2)
  | gro (p : Nat) (m : Nat × Nat) (s1 s2 : Gd) (h : gWhole w p m s1 s2) : Held w (gvl p) 2 (bookL s1.rs s2.rs) (gft p m s1 s2)
section
variable {w w' : World} {v : Value} {k : Int} {L : List Od} {S : Nat → Prop}
theorem Held.len (h : Held w v k L S) : L.length ≤ 64 := by cases h with | lad _ _ _ _ h => exact h.len | gro _ _ _ _ h => exact h.len
theorem Held.ids (h : Held w v k L S) : Ids L := by cases h with | lad _ _ _ _ h => exact h.ids | gro _ _ _ _ h => exact h.ids
theorem Held.ok (h : Held w v k L S) : ∀ x ∈ L, Od.ok w x ∧ goodO x = true := by cases h with | lad _ _ _ _ h => exact h.ok | gro _ _ _ _ h => exact h.ok
theorem Held.pw (h : Held w v k L S) : L.Pairwise (fun x y => ltO x y = true) := by cases h with | lad _ _ _ _ h => exact h.pw | gro _ _ _ _ h => exact h.pw
theorem Held.lt (h : Held w v k L S) : ∀ j, S j → j < w.heap.size := by cases h with | lad _ _ _ _ h => exact fun j hj => h.bk.lt hj | gro _ _ _ _ h => exact gft.lt h
theorem Held.fr {R : Nat → Prop} (h : Held w v k L S) (hf : Fr R w w') (hn : ∀ j, S j → ¬ R j) : Held w' v k L S := by
  cases h with | lad p m s1 s2 h => exact .lad p m s1 s2 (h.fr hf hn) | gro p m s1 s2 h => exact .gro p m s1 s2 (h.fr hf hn)
theorem Held.below (h : Held w v k L S) (hb : Below w.heap.size w w') : Held w' v k L S := by
  cases h with | lad p m s1 s2 h => exact .lad p m s1 s2 (h.below hb) | gro p m s1 s2 h => exact .gro p m s1 s2 (h.below hb)
theorem Held.kind {T : TypeId} {j : Nat} {cs : Array Value} (h : Held w v k L S) (hj : S j) (hc : Cl T w j cs) : T = 132 ∨ T = 247 ∨ T = 38 ∨ T = 138 ∨ T = 3 ∨ T = 156 ∨ T = 278 ∨ T = 35 := by
  cases h with
  | lad p m s1 s2 h => rcases foot_kind h.bk hj hc with e | e | e <;> simp [e]
  | gro p m s1 s2 h => rcases gft_kind h hj hc with e | e | e | e | e <;> simp [e]
end
/-- A turn of it. -/
structure HTurn (w w' : World) (v : Value) (k : Int) (S : Nat → Prop) (L' : List Od) (S' : Nat → Prop) : Prop where
  hd : Held w' v k L' S'
  fr : Fr S w w'
  ft : ∀ j, S' j → S j ∨ w.heap.size ≤ j
theorem HTurn.same {w w' : World} {v : Value} {k : Int} {L : List Od} {S : Nat → Prop} (h : Held w v k L S) (hb : Below w.heap.size w w') : HTurn w w' v k S L S := ⟨h.below hb, Fr.of_below hb, fun _ h => .inl h⟩
theorem HTurn.after {w w1 w2 : World} {v : Value} {k : Int} {L' : List Od} {S S' : Nat → Prop} (hb : Below w.heap.size w w1) (h : HTurn w1 w2 v k S L' S') : HTurn w w2 v k S L' S' :=
  ⟨h.hd, (Fr.of_below hb : Fr S w w1).trans h.fr (fun _ h => .inl h), fun j hj => (h.ft j hj).imp id (fun h' => Nat.le_trans hb.size h')⟩

/-- What Add tells, and what is there then. -/
def addP (L : List Od) (o : Od) : Int × List Od :=
  if goodO o = false then (2, L) else if (L.any fun x => x.id == o.id) = true then (52, L) else if L.length = 64 then (50, L) else (0, sortO (L ++ [o]))
theorem addP_bad {L : List Od} {o : Od} (h : goodO o = false) : addP L o = (2, L) := if_pos h
theorem addP_there {L : List Od} {o : Od} (h : goodO o = true) (hx : ∃ x ∈ L, x.id = o.id) : addP L o = (52, L) := by
  unfold addP
  rw [if_neg (by rw [h]; decide), if_pos]
  obtain ⟨x, hx, he⟩ := hx
  exact List.any_eq_true.2 ⟨x, hx, by simpa using he⟩
theorem any_no {L : List Od} {o : Od} (hx : ∀ x ∈ L, ¬ x.id = o.id) : ¬ (L.any fun x => x.id == o.id) = true := fun h => by
  obtain ⟨x, hm, he⟩ := List.any_eq_true.1 h
  exact hx x hm (by simpa using he)
theorem addP_full {L : List Od} {o : Od} (h : goodO o = true) (hx : ∀ x ∈ L, ¬ x.id = o.id) (hl : L.length = 64) : addP L o = (50, L) := by
  unfold addP
  rw [if_neg (by rw [h]; decide), if_neg (any_no hx), if_pos hl]
theorem addP_put {L : List Od} {o : Od} (h : goodO o = true) (hx : ∀ x ∈ L, ¬ x.id = o.id) (hl : L.length < 64) : addP L o = (0, sortO (L ++ [o])) := by
  unfold addP
  rw [if_neg (by rw [h]; decide), if_neg (any_no hx), if_neg (by omega)]
def AddEnd (w : World) (v : Value) (k : Int) (S : Nat → Prop) (L : List Od) (o : Od) (e : Ending) (w' : World) : Prop :=
  ∃ S', e = .returned (.int .i64 (addP L o).1) ∧ Hid (HTurn w w' v k S (addP L o).2 S')
theorem addL (p m : Nat) (s1 s2 : Sd) (o : Od) (w : World) (H : Whole w p m s1 s2) (ho : Od.ok w o) :
    Calls Tryz.prog 168 #[ptA p, oV o] w (AddEnd w (lvl p) 1 (foot (some ⟨p, 0, none⟩) (some m) s1 s2) (bookL s1.rs s2.rs) o) := by
  refine (lAdd_c p m s1 s2 o w H ho).mono ?_
  rintro e w' ⟨c, s1', s2', rfl, h⟩
  have h := h.out
  rcases h with ⟨rfl, hg, rfl, rfl, hb⟩ | ⟨hg, rfl, hx, rfl, rfl, hb⟩ | ⟨hg, hid, ⟨rfl, hl', rfl, rfl, hb⟩ | ⟨rfl, hl', hp⟩⟩
  · exact ⟨_, by rw [addP_bad hg], Lib.hid (by rw [addP_bad hg]; exact HTurn.same (.lad p m _ _ H) hb)⟩
  · exact ⟨_, by rw [addP_there hg hx], Lib.hid (by rw [addP_there hg hx]; exact HTurn.same (.lad p m _ _ H) hb)⟩
  · exact ⟨_, by rw [addP_full hg hid hl'], Lib.hid (by rw [addP_full hg hid hl']; exact HTurn.same (.lad p m _ _ H) hb)⟩
  · refine ⟨foot (some ⟨p, 0, none⟩) (some m) s1' s2', by rw [addP_put hg hid hl'], Lib.hid ?_⟩
    rw [addP_put hg hid hl', show ((0 : Int), sortO (bookL s1.rs s2.rs ++ [o])).2 = bookL s1'.rs s2'.rs from put_sort hp]
    exact ⟨.lad p m _ _ hp.wh, hp.fr, hp.ft⟩
theorem addG (p : Nat) (m : Nat × Nat) (s1 s2 : Gd) (o : Od) (w : World) (H : gWhole w p m s1 s2) (ho : Od.ok w o) :
    Calls Tryz.prog 199 #[ptA p, oV o] w (AddEnd w (gvl p) 2 (gft p m s1 s2) (bookL s1.rs s2.rs) o) := by
  refine (gAdd_c p m s1 s2 o w H ho).mono ?_
  rintro e w' ⟨c, s1', s2', rfl, h⟩
  have h := h.out
  rcases h with ⟨rfl, hg, rfl, rfl, hb⟩ | ⟨hg, rfl, hx, rfl, rfl, hb⟩ | ⟨hg, hid, ⟨rfl, hl', rfl, rfl, hb⟩ | ⟨rfl, hl', hp⟩⟩
  · exact ⟨_, by rw [addP_bad hg], Lib.hid (by rw [addP_bad hg]; exact HTurn.same (.gro p m _ _ H) hb)⟩
  · exact ⟨_, by rw [addP_there hg hx], Lib.hid (by rw [addP_there hg hx]; exact HTurn.same (.gro p m _ _ H) hb)⟩
  · exact ⟨_, by rw [addP_full hg hid hl'], Lib.hid (by rw [addP_full hg hid hl']; exact HTurn.same (.gro p m _ _ H) hb)⟩
  · refine ⟨gft p m s1' s2', by rw [addP_put hg hid hl'], Lib.hid ?_⟩
    rw [addP_put hg hid hl', show ((0 : Int), sortO (bookL s1.rs s2.rs ++ [o])).2 = bookL s1'.rs s2'.rs from gput_sort hp]
    exact ⟨.gro p m _ _ hp.tu.wh, hp.tu.fr, hp.tu.ft⟩
/-- Take. -/
def oZ (r : Option Od) : Od := r.getD ⟨0, 0, 0, 0, 0, 0⟩
theorem opt_oZ (r : Option Od) : optV r = .agg (OC (oZ r)) := by cases r <;> rfl
def TakEnd (w : World) (v : Value) (k : Int) (S : Nat → Prop) (L : List Od) (id : Int) (e : Ending) (w' : World) : Prop :=
  ∃ S', e = .returned (.tuple #[.agg (OC (oZ (getO id L))), .bool (getO id L).isSome]) ∧ Hid (HTurn w w' v k S (L.eraseIdx (idxN id L)) S')
theorem takL (p m : Nat) (s1 s2 : Sd) (id : Int) (W : World) (H : Whole W p m s1 s2) :
    Calls Tryz.prog 176 #[ptA p, .int .u64 id] W (TakEnd W (lvl p) 1 (foot (some ⟨p, 0, none⟩) (some m) s1 s2) (bookL s1.rs s2.rs) id) := by
  have hz := H.n1
  by_cases hx : ∃ x ∈ bookL s1.rs s2.rs, x.id = id
  · obtain ⟨o, ho, hid⟩ := hx
    refine (lTake_c p m s1 s2 o id W H ho hid).mono ?_
    rintro e w' ⟨rfl, t1, t2, h⟩
    refine ⟨foot (some ⟨p, 0, none⟩) (some m) t1 t2, by rw [get_some H.ids ho hid, ← opt_oZ]; rfl, Lib.hid ?_⟩
    rw [take_same H h.out ho hid]
    exact ⟨.lad p m _ _ h.out.tu.wh, h.out.tu.fr, h.out.tu.ft⟩
  · have hno : ∀ x ∈ bookL s1.rs s2.rs, ¬ x.id = id := fun x hx' he => hx ⟨x, hx', he⟩
    refine (take_no _ _ s1 s2 id W H.bk (by omega) (by omega) (by omega) hno).mono ?_
    rintro e w' ⟨rfl, h⟩
    refine ⟨foot (some ⟨p, 0, none⟩) (some m) s1 s2, by rw [get_none hno, ← opt_oZ]; rfl, Lib.hid ?_⟩
    rw [erase_none hno]
    exact HTurn.same (.lad p m _ _ H) h.out
theorem takG (p : Nat) (m : Nat × Nat) (s1 s2 : Gd) (id : Int) (hwf : (Lit.int .u64 id).wf = true) (W : World) (H : gWhole W p m s1 s2) :
    Calls Tryz.prog 207 #[ptA p, .int .u64 id] W (TakEnd W (gvl p) 2 (gft p m s1 s2) (bookL s1.rs s2.rs) id) := by
  by_cases hx : ∃ x ∈ bookL s1.rs s2.rs, x.id = id
  · obtain ⟨o, ho, hid⟩ := hx
    refine (gTake_c p m s1 s2 o id W H ho hid).mono ?_
    rintro e w' ⟨rfl, t1, t2, h⟩
    refine ⟨gft p m t1 t2, by rw [get_some H.ids ho hid, ← opt_oZ]; rfl, Lib.hid ?_⟩
    rw [gtake_same H h.out ho hid]
    exact ⟨.gro p m _ _ h.out.tu.wh, h.out.tu.fr, h.out.tu.ft⟩
  · have hno : ∀ x ∈ bookL s1.rs s2.rs, ¬ x.id = id := fun x hx' he => hx ⟨x, hx', he⟩
    refine (gTake_none p m s1 s2 id hwf W H hno).mono ?_
    rintro e w' ⟨rfl, h⟩
    refine ⟨gft p m s1 s2, by rw [get_none hno, ← opt_oZ]; rfl, Lib.hid ?_⟩
    rw [erase_none hno]
    exact HTurn.same (.gro p m _ _ H) h.out
def RowEnd (w : World) (L : List Od) (e : Ending) (w' : World) : Prop := ∃ v, e = .returned v ∧ Hid (w'.ownsRow w.heap.size 38 6 v L.length (ol L) ∧ Below w.heap.size w w')
theorem allL (p m : Nat) (s1 s2 : Sd) (W : World) (H : Whole W p m s1 s2) :
    Calls Tryz.prog 169 #[ptA p] W (RowEnd W (bookL s1.rs s2.rs)) := by
  have hz := H.n1
  exact lAll_c _ _ s1 s2 W H.bk (by omega) (by omega) (by omega) H.ne
theorem allG (p : Nat) (m : Nat × Nat) (s1 s2 : Gd) (W : World) (H : gWhole W p m s1 s2) :
    Calls Tryz.prog 200 #[ptA p] W (RowEnd W (bookL s1.rs s2.rs)) := hAll p m s1 s2 W H
end Go.Proofs.YtgbmgdffgmablaaGreat

namespace Go.Proofs.YtgbmgdffgmablaaGreat
open Go.RowKit Go.Shelf Go.Sort Go.Maps Go.Lib
set_option linter.unusedVariables false

/-- A book of layout's. -/
structure LyB (w : World) (b : Nat) (v : Value) (k : Int) (L : List Od) (S : Nat → Prop) : Prop where
  cl : Cl 97 w b #[.int .i64 k, v]
  hd : Held w v k L S
section
variable {w w' : World} {b : Nat} {v : Value} {k : Int} {L L' : List Od} {S S' : Nat → Prop}
theorem LyB.below (h : LyB w b v k L S) (hb : Below w.heap.size w w') : LyB w' b v k L S := ⟨(hb.block _ (blk_lt h.cl)).trans h.cl, h.hd.below hb⟩
theorem LyB.nf (h : LyB w b v k L S) : ¬ S b := fun hs => by
  rcases h.hd.kind hs h.cl with e | e | e | e | e | e | e | e <;> exact absurd e (by decide)
theorem LyB.fr {R : Nat → Prop} (h : LyB w b v k L S) (hf : Fr R w w') (hb : ¬ R b) (hn : ∀ j, S j → ¬ R j) : LyB w' b v k L S := ⟨hf.blk h.cl hb, h.hd.fr hf hn⟩
theorem LyB.turn (h : LyB w b v k L S) (t : HTurn w w' v k S L' S') : LyB w' b v k L' S' := ⟨t.fr.blk h.cl h.nf, t.hd⟩
end
theorem shape {w : World} {v : Value} {k : Int} {L : List Od} {S : Nat → Prop} (h : Held w v k L S) : (∃ p, v = lvl p ∧ k = 1) ∨ (∃ p, v = gvl p ∧ k = 2) := by
  cases h with | lad p => exact .inl ⟨p, rfl, rfl⟩ | gro p => exact .inr ⟨p, rfl, rfl⟩
theorem neqLy (k : Int) (v : Value) (hv : (∃ p, v = lvl p ∧ k = 1) ∨ (∃ p, v = gvl p ∧ k = 2)) (w : World) : (binOp .neq 97 (.agg #[.int .i64 k, v]) (.agg #[.int .i64 0, .nilIface])).run Tryz.prog w = .ok (.bool true) w := by
  rcases hv with ⟨p, rfl, rfl⟩ | ⟨p, rfl, rfl⟩ <;> kernel_rfl
theorem eqgLy (k : Int) (v : Value) (hv : (∃ p, v = lvl p ∧ k = 1) ∨ (∃ p, v = gvl p ∧ k = 2)) (x y : Nat) (w : World) : (eqGuard .neq 97 (.tmp x) (.tmp y) (.agg #[.int .i64 k, v]) (.agg #[.int .i64 0, .nilIface])).run Tryz.prog w = .ok () w := by
  rcases hv with ⟨p, rfl, rfl⟩ | ⟨p, rfl, rfl⟩ <;> kernel_rfl
set_option maxHeartbeats 4000000 in
set_option maxRecDepth 100000 in
theorem made15_c (b : Nat) (v : Value) (k : Int) (L : List Od) (S : Nat → Prop) (w : World) (H : LyB w b v k L S) :
    Calls Tryz.prog 47 #[ptA b] w fun e w' => e = .returned (.bool true) ∧ w = w' := by
  have h0 : w.cell? ⟨b, 0, none⟩ = some (.int .i64 k) := (H.cl.c 0).trans rfl
  have h1 : w.cell? ⟨b, 1, none⟩ = some v := (H.cl.c 1).trans rfl
  have hq := neqLy k v (shape H.hd)
  have hg := eqgLy k v (shape H.hd)
  clear H
  go_enter Tryz.func47, Tryz.ntmps47
  go_wp2_with fail
  go_ret
  exact ⟨rfl, rfl⟩
set_option maxHeartbeats 4000000 in
set_option maxRecDepth 100000 in
theorem held_c (b : Nat) (v : Value) (k : Int) (L : List Od) (S : Nat → Prop) (w : World) (H : LyB w b v k L S) :
    Calls Tryz.prog 48 #[ptA b] w fun e w' => e = .returned v ∧ w = w' := by
  have h1 : w.cell? ⟨b, 1, none⟩ = some v := (H.cl.c 1).trans rfl
  have HM := Lib.hid (made15_c b v k L S w H)
  clear H
  go_enter Tryz.func48, Tryz.ntmps48
  go_wp2_with ((with_reducible refine HM.out.mono ?_); rintro e w' ⟨rfl, rfl⟩)
  go_ret
  exact ⟨rfl, rfl⟩
set_option maxHeartbeats 4000000 in
set_option maxRecDepth 100000 in
theorem kind_c (b : Nat) (v : Value) (k : Int) (L : List Od) (S : Nat → Prop) (w : World) (H : LyB w b v k L S) :
    Calls Tryz.prog 13 #[ptA b] w fun e w' => e = .returned (.int .i64 k) ∧ w = w' := by
  have h1 : w.cell? ⟨b, 0, none⟩ = some (.int .i64 k) := (H.cl.c 0).trans rfl
  have HM := Lib.hid (made15_c b v k L S w H)
  clear H
  go_enter Tryz.func13, Tryz.ntmps13
  go_wp2_with ((with_reducible refine HM.out.mono ?_); rintro e w' ⟨rfl, rfl⟩)
  go_ret
  exact ⟨rfl, rfl⟩
theorem zo_cl (w : World) : Cl 38 (w.alloc (.cells (OC ⟨0, 0, 0, 0, 0, 0⟩) 38)) w.heap.size (OC ⟨0, 0, 0, 0, 0, 0⟩) := hd_last rfl
/-- The result's box is written behind the call. -/
theorem tak_end {w w0 w' : World} {cs : Array Value} {v : Value} {k : Int} {L' : List Od} {S S' : Nat → Prop} (b0 : Below w.heap.size w w0) (h : HTurn w0 w' v k S L' S') (hc : w.heap.size < w0.heap.size) (nf : ¬ S w.heap.size) :
    HTurn w (w'.setRow w.heap.size cs) v k S L' S' := by
  have hn : ¬ S' w.heap.size := fun hj => by
    rcases h.ft _ hj with h' | h'
    · exact nf h'
    · omega
  have f1 : Fr (fun j => j = w.heap.size) w' (w'.setRow w.heap.size cs) := ⟨rfl, rfl, rfl, by simp [World.setRow], fun j hj hne => setRow_other w' _ j cs hne⟩
  refine ⟨h.hd.fr f1 (fun j hj e => hn (by rw [← e]; exact hj)), ?_, fun j hj => (h.ft j hj).imp id (fun h' => Nat.le_trans b0.size h')⟩
  have f0 : Fr S w w' := (Fr.of_below b0 : Fr S w w0).trans h.fr (fun _ h => .inl h)
  refine ⟨f1.os.trans f0.os, f1.tape.trans f0.tape, f1.output.trans f0.output, Nat.le_trans f0.size f1.size, fun j hj hs => ?_⟩
  exact (f1.block j (Nat.lt_of_lt_of_le hj f0.size) (by omega)).trans (f0.block j hj hs)
theorem b1_of (w : World) (o : Obj) : Below w.heap.size w (w.alloc o) := (Below.refl _ _).alloc (Nat.le_refl _) _
set_option maxHeartbeats 4000000 in
set_option maxRecDepth 100000 in
theorem yTakeL (b p : Nat) (m : Nat) (s1 s2 : Sd) (id : Int) (hwf : (Lit.int .u64 id).wf = true) (w : World) (hc : Cl 97 w b #[.int .i64 1, lvl p]) (H : Whole w p m s1 s2) :
    Calls Tryz.prog 17 #[ptA b, .int .u64 id] w (TakEnd w (lvl p) 1 (foot (some ⟨p, 0, none⟩) (some m) s1 s2) (bookL s1.rs s2.rs) id) := by
  have hm : ∀ (x : Value) (w : World), (Go.method 386 102 x "Take").run Tryz.prog w = .ok (176, x) w := fun x _ => by kernel_rfl
  obtain ⟨w0, hw0⟩ : ∃ w0, w.alloc (.cells (OC ⟨0, 0, 0, 0, 0, 0⟩) 38) = w0 := ⟨_, rfl⟩
  have b0 : Below w.heap.size w w0 := by rw [← hw0]; exact b1_of _ _
  have c0 : Cl 38 w0 w.heap.size (OC ⟨0, 0, 0, 0, 0, 0⟩) := by rw [← hw0]; exact zo_cl w
  have HH := Lib.hid (held_c b _ _ _ _ w0 ⟨(b0.block _ (blk_lt hc)).trans hc, .lad p m s1 s2 (H.below b0)⟩)
  have HC := Lib.hid (takL p m s1 s2 id w0 (H.below b0))
  have hlt : ∀ j, (foot (some ⟨p, 0, none⟩) (some m) s1 s2) j → j < w.heap.size := fun j hj => H.bk.lt hj
  have HB := Lib.hid (And.intro b0 (And.intro c0 hlt))
  clear H hc b0 c0 hlt
  go_enter Tryz.func17, Tryz.ntmps17
  go_wp2_with ((with_reducible refine HH.out.mono ?_); rintro e w' ⟨rfl, rfl⟩)
  ((with_reducible refine HC.out.mono ?_); rintro e w' ⟨S', rfl, h⟩)
  have nf : ¬ (foot (some ⟨p, 0, none⟩) (some m) s1 s2) w.heap.size := fun hj => Nat.lt_irrefl _ (HB.out.2.2 _ hj)
  have c1 : Cl 38 w' w.heap.size (OC ⟨0, 0, 0, 0, 0, 0⟩) := h.out.fr.blk HB.out.2.1 nf
  have C1 := Lib.hid c1
  have hT : HTurn w (w'.setRow w.heap.size (OC (oZ (getO id (bookL s1.rs s2.rs))))) (lvl p) 1 (foot (some ⟨p, 0, none⟩) (some m) s1 s2) ((bookL s1.rs s2.rs).eraseIdx (idxN id (bookL s1.rs s2.rs))) S' := tak_end HB.out.1 h.out (blk_lt HB.out.2.1) nf
  have HT := Lib.hid hT
  clear hT
  obtain ⟨there, hth⟩ : ∃ t, (getO id (bookL s1.rs s2.rs)).isSome = t := ⟨_, rfl⟩
  obtain ⟨z, hz⟩ : ∃ t, oZ (getO id (bookL s1.rs s2.rs)) = t := ⟨_, rfl⟩
  rw [hz] at HT
  rw [hth, hz]
  go_wp2_with ((with_reducible apply storeOd); rfl; rfl; rfl; rfl; exact C1.out; skip)
  refine bodyPost_ret (retOt rfl _ _ _ rfl z _ (setRow_heap _ _ _ _ _ _ C1.out) _ rfl) rfl ?_
  subst hth hz
  exact ⟨S', rfl, HT⟩
set_option maxHeartbeats 4000000 in
set_option maxRecDepth 100000 in
theorem yTakeG (b p : Nat) (m : Nat × Nat) (s1 s2 : Gd) (id : Int) (hwf : (Lit.int .u64 id).wf = true) (w : World) (hc : Cl 97 w b #[.int .i64 2, gvl p]) (H : gWhole w p m s1 s2) :
    Calls Tryz.prog 17 #[ptA b, .int .u64 id] w (TakEnd w (gvl p) 2 (gft p m s1 s2) (bookL s1.rs s2.rs) id) := by
  have hm : ∀ (x : Value) (w : World), (Go.method 386 104 x "Take").run Tryz.prog w = .ok (207, x) w := fun x _ => by kernel_rfl
  obtain ⟨w0, hw0⟩ : ∃ w0, w.alloc (.cells (OC ⟨0, 0, 0, 0, 0, 0⟩) 38) = w0 := ⟨_, rfl⟩
  have b0 : Below w.heap.size w w0 := by rw [← hw0]; exact b1_of _ _
  have c0 : Cl 38 w0 w.heap.size (OC ⟨0, 0, 0, 0, 0, 0⟩) := by rw [← hw0]; exact zo_cl w
  have HH := Lib.hid (held_c b _ _ _ _ w0 ⟨(b0.block _ (blk_lt hc)).trans hc, .gro p m s1 s2 (H.below b0)⟩)
  have HC := Lib.hid (takG p m s1 s2 id hwf w0 (H.below b0))
  have hlt : ∀ j, (gft p m s1 s2) j → j < w.heap.size := gft.lt H
  have HB := Lib.hid (And.intro b0 (And.intro c0 hlt))
  clear H hc b0 c0 hlt
  go_enter Tryz.func17, Tryz.ntmps17
  go_wp2_with ((with_reducible refine HH.out.mono ?_); rintro e w' ⟨rfl, rfl⟩)
  ((with_reducible refine HC.out.mono ?_); rintro e w' ⟨S', rfl, h⟩)
  have nf : ¬ (gft p m s1 s2) w.heap.size := fun hj => Nat.lt_irrefl _ (HB.out.2.2 _ hj)
  have c1 : Cl 38 w' w.heap.size (OC ⟨0, 0, 0, 0, 0, 0⟩) := h.out.fr.blk HB.out.2.1 nf
  have C1 := Lib.hid c1
  have hT : HTurn w (w'.setRow w.heap.size (OC (oZ (getO id (bookL s1.rs s2.rs))))) (gvl p) 2 (gft p m s1 s2) ((bookL s1.rs s2.rs).eraseIdx (idxN id (bookL s1.rs s2.rs))) S' := tak_end HB.out.1 h.out (blk_lt HB.out.2.1) nf
  have HT := Lib.hid hT
  clear hT
  obtain ⟨there, hth⟩ : ∃ t, (getO id (bookL s1.rs s2.rs)).isSome = t := ⟨_, rfl⟩
  obtain ⟨z, hz⟩ : ∃ t, oZ (getO id (bookL s1.rs s2.rs)) = t := ⟨_, rfl⟩
  rw [hz] at HT
  rw [hth, hz]
  go_wp2_with ((with_reducible apply storeOd); rfl; rfl; rfl; rfl; exact C1.out; skip)
  refine bodyPost_ret (retOt rfl _ _ _ rfl z _ (setRow_heap _ _ _ _ _ _ C1.out) _ rfl) rfl ?_
  subst hth hz
  exact ⟨S', rfl, HT⟩
theorem yTake_c (b : Nat) (v : Value) (k : Int) (L : List Od) (S : Nat → Prop) (id : Int) (hwf : (Lit.int .u64 id).wf = true) (w : World) (H : LyB w b v k L S) :
    Calls Tryz.prog 17 #[ptA b, .int .u64 id] w (TakEnd w v k S L id) := by
  obtain ⟨hc, h⟩ := H
  cases h with
  | lad p m s1 s2 h => exact yTakeL b p m s1 s2 id hwf w hc h
  | gro p m s1 s2 h => exact yTakeG b p m s1 s2 id hwf w hc h
set_option maxHeartbeats 4000000 in
set_option maxRecDepth 100000 in
theorem yAllL (b p : Nat) (m : Nat) (s1 s2 : Sd)  (w : World) (hc : Cl 97 w b #[.int .i64 1, lvl p]) (H : Whole w p m s1 s2) :
    Calls Tryz.prog 15 #[ptA b] w (RowEnd w (bookL s1.rs s2.rs)) := by
  have hm : ∀ (x : Value) (w : World), (Go.method 386 102 x "All").run Tryz.prog w = .ok (169, x) w := fun x _ => by kernel_rfl
  have HH := Lib.hid (held_c b _ _ _ _ w ⟨hc, .lad p m s1 s2 H⟩)
  have HC := Lib.hid (allL p m s1 s2  w H)
  clear H hc
  go_enter Tryz.func15, Tryz.ntmps15
  go_wp2_with ((with_reducible refine HH.out.mono ?_); rintro e w' ⟨rfl, rfl⟩)
  ((with_reducible refine HC.out.mono ?_); rintro e w' ⟨v', rfl, h⟩)
  go_wp2_with fail
  go_ret
  exact ⟨v', rfl, h⟩
set_option maxHeartbeats 4000000 in
set_option maxRecDepth 100000 in
theorem yAllG (b p : Nat) (m : Nat × Nat) (s1 s2 : Gd)  (w : World) (hc : Cl 97 w b #[.int .i64 2, gvl p]) (H : gWhole w p m s1 s2) :
    Calls Tryz.prog 15 #[ptA b] w (RowEnd w (bookL s1.rs s2.rs)) := by
  have hm : ∀ (x : Value) (w : World), (Go.method 386 104 x "All").run Tryz.prog w = .ok (200, x) w := fun x _ => by kernel_rfl
  have HH := Lib.hid (held_c b _ _ _ _ w ⟨hc, .gro p m s1 s2 H⟩)
  have HC := Lib.hid (allG p m s1 s2  w H)
  clear H hc
  go_enter Tryz.func15, Tryz.ntmps15
  go_wp2_with ((with_reducible refine HH.out.mono ?_); rintro e w' ⟨rfl, rfl⟩)
  ((with_reducible refine HC.out.mono ?_); rintro e w' ⟨v', rfl, h⟩)
  go_wp2_with fail
  go_ret
  exact ⟨v', rfl, h⟩
theorem yAll_c (b : Nat) (v : Value) (k : Int) (L : List Od) (S : Nat → Prop)  (w : World) (H : LyB w b v k L S) :
    Calls Tryz.prog 15 #[ptA b] w (RowEnd w L) := by
  obtain ⟨hc, h⟩ := H
  cases h with
  | lad p m s1 s2 h => exact yAllL b p m s1 s2  w hc h
  | gro p m s1 s2 h => exact yAllG b p m s1 s2  w hc h
set_option maxHeartbeats 4000000 in
set_option maxRecDepth 100000 in
theorem yAddL (b p : Nat) (m : Nat) (s1 s2 : Sd) (x : Od) (w : World) (hc : Cl 97 w b #[.int .i64 1, lvl p]) (H : Whole w p m s1 s2) (hx : Od.ok w x) :
    Calls Tryz.prog 23 #[ptA b, oV x] w (AddEnd w (lvl p) 1 (foot (some ⟨p, 0, none⟩) (some m) s1 s2) (bookL s1.rs s2.rs) x) := by
  have hm : ∀ (x : Value) (w : World), (Go.method 386 102 x "Add").run Tryz.prog w = .ok (168, x) w := fun x _ => by kernel_rfl
  obtain ⟨w0, hw0⟩ : ∃ w0, w.alloc (.cells (OC x) 38) = w0 := ⟨_, rfl⟩
  have b0 : Below w.heap.size w w0 := by rw [← hw0]; exact b1_of _ _
  have c0 : Cl 38 w0 w.heap.size (OC x) := by rw [← hw0]; exact hd_last rfl
  have HC0 : Hid (Cl 38 w0.drew w.heap.size (OC x)) := Lib.hid (hd_drew c0)
  have NF : Hid (¬ (foot (some ⟨p, 0, none⟩) (some m) s1 s2) w.heap.size) := Lib.hid (fun h => Nat.lt_irrefl _ (H.bk.lt h))
  have HH : Hid (∀ W, Below w0.heap.size w0 W → Calls Tryz.prog 48 #[ptA b] W fun e w' => e = .returned (lvl p) ∧ W = w') := Lib.hid fun W hW => by
    have bb := b0.trans (hW.mono b0.size)
    exact (held_c b _ _ _ _ W ⟨(bb.block _ (blk_lt hc)).trans hc, .lad p m s1 s2 (H.below bb)⟩)
  have HC : Hid (∀ W, Below w0.heap.size w0 W → Calls Tryz.prog 168 #[ptA p, oV x] W (AddEnd W (lvl p) 1 (foot (some ⟨p, 0, none⟩) (some m) s1 s2) (bookL s1.rs s2.rs) x)) := Lib.hid fun W hW => addL p m s1 s2 x W (H.below (b0.trans (hW.mono b0.size))) hx
  have HB0 := Lib.hid b0
  clear H hc b0 c0
  go_enter Tryz.func23, Tryz.ntmps23
  go_wp2_with fail
  refine wp_region_held_drew (S := fun W => Cl 38 W w.heap.size (OC x)) (by kernel_rfl) (by exact HC0.out) (fun hHeld => ?_)
  refine wpAnyH_take (i := 0) (oi := ⟨some 5, _, _, _, _, _⟩) (v := ?_) rfl (by kernel_rfl) (by kernel_rfl) (by kernel_rfl) (fun _ _ _ h => h) (Or.inl ⟨by kernel_rfl, ?_⟩) (by assumption) ?_
  rotate_left
  · (intro w hSw; (try dsimp only at hSw); go_simp; try with_reducible rfl)
  (repeat (first | simp only [Act.put] | simp only [List.setIfInBounds_toArray] | simp only [List.set_cons_succ] | simp only [List.set_cons_zero]))
  refine wpAnyH_take (i := 2) (oi := ⟨some 7, _, _, _, _, _⟩) (v := ?_) rfl (by kernel_rfl) (by kernel_rfl) (by kernel_rfl) (fun _ _ _ h => h) (Or.inl ⟨by kernel_rfl, ?_⟩) (by assumption) ?_
  rotate_left
  · (intro w hSw; obtain ⟨hs0, hs1, hs2, hs3, hs4, hs5⟩ := six_of hSw; (try dsimp only at hSw); go_simp; try with_reducible rfl)
  (repeat (first | simp only [Act.put] | simp only [List.setIfInBounds_toArray] | simp only [List.set_cons_succ] | simp only [List.set_cons_zero]))
  refine wpAnyH_ready (rs := [1]) (by kernel_rfl) (by simp) ?_
  refine AllReadyH.cons (o := ⟨some 6, _, _, _, _, _⟩) rfl (fun K hK => ?_) AllReadyH.nil
  go_simp
  ((with_reducible refine (HH.out _ ((Below.refl _ _).drew)).mono ?_); rintro e y1 ⟨rfl, rfl⟩)
  refine hK.out _ _ (by exact hHeld) (fun hHeld => ?_)
  clear hK K
  (repeat (first | simp only [Act.put] | simp only [List.setIfInBounds_toArray] | simp only [List.set_cons_succ] | simp only [List.set_cons_zero]))
  refine wpAnyH_ready (rs := [3]) (by kernel_rfl) (by simp) ?_
  refine AllReadyH.cons (o := ⟨some 8, _, _, _, _, _⟩) rfl (fun K hK => ?_) AllReadyH.nil
  go_simp
  ((with_reducible refine (HC.out _ ((Below.refl _ _).drew)).mono ?_); rintro e y2 ⟨S', rfl, h2⟩)
  have h3 := Lib.hid (HTurn.after (HB0.out.trans ((Below.refl _ w0).drew.mono HB0.out.size)) h2.out)
  refine hK.out _ _ (by exact h2.out.fr.blk hHeld NF.out) (fun hHeld => ?_)
  clear hK K
  (repeat (first | simp only [Act.put] | simp only [List.setIfInBounds_toArray] | simp only [List.set_cons_succ] | simp only [List.set_cons_zero]))
  refine wpAnyH_take (i := 4) (oi := ⟨some 4, _, _, _, _, _⟩) (v := ?_) rfl (by kernel_rfl) (by kernel_rfl) (by kernel_rfl) (fun _ _ _ h => h) (Or.inl ⟨by kernel_rfl, ?_⟩) (by assumption) ?_
  rotate_left
  · (intro w hSw; (try dsimp only at hSw); go_simp; try with_reducible rfl)
  (repeat (first | simp only [Act.put] | simp only [List.setIfInBounds_toArray] | simp only [List.set_cons_succ] | simp only [List.set_cons_zero]))
  refine wpAnyH_done (by kernel_rfl) ?_ _
  go_wp2_with fail
  go_ret
  exact ⟨S', rfl, h3⟩
set_option maxHeartbeats 4000000 in
set_option maxRecDepth 100000 in
theorem yAddG (b p : Nat) (m : Nat × Nat) (s1 s2 : Gd) (x : Od) (w : World) (hc : Cl 97 w b #[.int .i64 2, gvl p]) (H : gWhole w p m s1 s2) (hx : Od.ok w x) :
    Calls Tryz.prog 23 #[ptA b, oV x] w (AddEnd w (gvl p) 2 (gft p m s1 s2) (bookL s1.rs s2.rs) x) := by
  have hm : ∀ (x : Value) (w : World), (Go.method 386 104 x "Add").run Tryz.prog w = .ok (199, x) w := fun x _ => by kernel_rfl
  obtain ⟨w0, hw0⟩ : ∃ w0, w.alloc (.cells (OC x) 38) = w0 := ⟨_, rfl⟩
  have b0 : Below w.heap.size w w0 := by rw [← hw0]; exact b1_of _ _
  have c0 : Cl 38 w0 w.heap.size (OC x) := by rw [← hw0]; exact hd_last rfl
  have HC0 : Hid (Cl 38 w0.drew w.heap.size (OC x)) := Lib.hid (hd_drew c0)
  have NF : Hid (¬ (gft p m s1 s2) w.heap.size) := Lib.hid (fun h => Nat.lt_irrefl _ (gft.lt H _ h))
  have HH : Hid (∀ W, Below w0.heap.size w0 W → Calls Tryz.prog 48 #[ptA b] W fun e w' => e = .returned (gvl p) ∧ W = w') := Lib.hid fun W hW => by
    have bb := b0.trans (hW.mono b0.size)
    exact (held_c b _ _ _ _ W ⟨(bb.block _ (blk_lt hc)).trans hc, .gro p m s1 s2 (H.below bb)⟩)
  have HC : Hid (∀ W, Below w0.heap.size w0 W → Calls Tryz.prog 199 #[ptA p, oV x] W (AddEnd W (gvl p) 2 (gft p m s1 s2) (bookL s1.rs s2.rs) x)) := Lib.hid fun W hW => addG p m s1 s2 x W (H.below (b0.trans (hW.mono b0.size))) hx
  have HB0 := Lib.hid b0
  clear H hc b0 c0
  go_enter Tryz.func23, Tryz.ntmps23
  go_wp2_with fail
  refine wp_region_held_drew (S := fun W => Cl 38 W w.heap.size (OC x)) (by kernel_rfl) (by exact HC0.out) (fun hHeld => ?_)
  refine wpAnyH_take (i := 0) (oi := ⟨some 5, _, _, _, _, _⟩) (v := ?_) rfl (by kernel_rfl) (by kernel_rfl) (by kernel_rfl) (fun _ _ _ h => h) (Or.inl ⟨by kernel_rfl, ?_⟩) (by assumption) ?_
  rotate_left
  · (intro w hSw; (try dsimp only at hSw); go_simp; try with_reducible rfl)
  (repeat (first | simp only [Act.put] | simp only [List.setIfInBounds_toArray] | simp only [List.set_cons_succ] | simp only [List.set_cons_zero]))
  refine wpAnyH_take (i := 2) (oi := ⟨some 7, _, _, _, _, _⟩) (v := ?_) rfl (by kernel_rfl) (by kernel_rfl) (by kernel_rfl) (fun _ _ _ h => h) (Or.inl ⟨by kernel_rfl, ?_⟩) (by assumption) ?_
  rotate_left
  · (intro w hSw; obtain ⟨hs0, hs1, hs2, hs3, hs4, hs5⟩ := six_of hSw; (try dsimp only at hSw); go_simp; try with_reducible rfl)
  (repeat (first | simp only [Act.put] | simp only [List.setIfInBounds_toArray] | simp only [List.set_cons_succ] | simp only [List.set_cons_zero]))
  refine wpAnyH_ready (rs := [1]) (by kernel_rfl) (by simp) ?_
  refine AllReadyH.cons (o := ⟨some 6, _, _, _, _, _⟩) rfl (fun K hK => ?_) AllReadyH.nil
  go_simp
  ((with_reducible refine (HH.out _ ((Below.refl _ _).drew)).mono ?_); rintro e y1 ⟨rfl, rfl⟩)
  refine hK.out _ _ (by exact hHeld) (fun hHeld => ?_)
  clear hK K
  (repeat (first | simp only [Act.put] | simp only [List.setIfInBounds_toArray] | simp only [List.set_cons_succ] | simp only [List.set_cons_zero]))
  refine wpAnyH_ready (rs := [3]) (by kernel_rfl) (by simp) ?_
  refine AllReadyH.cons (o := ⟨some 8, _, _, _, _, _⟩) rfl (fun K hK => ?_) AllReadyH.nil
  go_simp
  ((with_reducible refine (HC.out _ ((Below.refl _ _).drew)).mono ?_); rintro e y2 ⟨S', rfl, h2⟩)
  have h3 := Lib.hid (HTurn.after (HB0.out.trans ((Below.refl _ w0).drew.mono HB0.out.size)) h2.out)
  refine hK.out _ _ (by exact h2.out.fr.blk hHeld NF.out) (fun hHeld => ?_)
  clear hK K
  (repeat (first | simp only [Act.put] | simp only [List.setIfInBounds_toArray] | simp only [List.set_cons_succ] | simp only [List.set_cons_zero]))
  refine wpAnyH_take (i := 4) (oi := ⟨some 4, _, _, _, _, _⟩) (v := ?_) rfl (by kernel_rfl) (by kernel_rfl) (by kernel_rfl) (fun _ _ _ h => h) (Or.inl ⟨by kernel_rfl, ?_⟩) (by assumption) ?_
  rotate_left
  · (intro w hSw; (try dsimp only at hSw); go_simp; try with_reducible rfl)
  (repeat (first | simp only [Act.put] | simp only [List.setIfInBounds_toArray] | simp only [List.set_cons_succ] | simp only [List.set_cons_zero]))
  refine wpAnyH_done (by kernel_rfl) ?_ _
  go_wp2_with fail
  go_ret
  exact ⟨S', rfl, h3⟩
theorem yAdd_c (b : Nat) (v : Value) (k : Int) (L : List Od) (S : Nat → Prop) (x : Od) (w : World) (H : LyB w b v k L S) (hx : Od.ok w x) :
    Calls Tryz.prog 23 #[ptA b, oV x] w (AddEnd w v k S L x) := by
  obtain ⟨hc, h⟩ := H
  cases h with
  | lad p m s1 s2 h => exact yAddL b p m s1 s2 x w hc h hx
  | gro p m s1 s2 h => exact yAddG b p m s1 s2 x w hc h hx
end Go.Proofs.YtgbmgdffgmablaaGreat

namespace Go.Proofs.YtgbmgdffgmablaaGreat
open Go.RowKit Go.Sort Go.Lib Go.Shelf

theorem book_iff (L : List Od) : bookO L = true ↔ L.length ≤ 64 ∧ (∀ x ∈ L, goodO x = true) ∧ (L.map Od.id).Nodup ∧ L = sortO L := by
  unfold bookO
  rw [Bool.and_eq_true, Bool.and_eq_true, Bool.and_eq_true, decide_eq_true_iff, decide_eq_true_iff, List.all_eq_true, eqL_iff]
theorem book_no {L : List Od} (h : ¬ (L.length ≤ 64 ∧ (∀ x ∈ L, goodO x = true) ∧ (L.map Od.id).Nodup ∧ L = sortO L)) : bookO L = false := by
  cases e : bookO L with
  | false => rfl
  | true => exact absurd ((book_iff L).1 e) h
theorem book_unlike {L : List Od} {i : Nat} (h : eqO (sortO L)[i]! L[i]! = false) : bookO L = false :=
  book_no fun hc => by
    rw [← hc.2.2.2] at h
    have := (eqO_iff L[i]! L[i]!).2 rfl
    rw [h] at this
    cases this
theorem book_pair {L : List Od} {i k : Nat} (hk : k < i) (hi : i < L.length) (h : (L[k]!).id = (L[i]!).id) : bookO L = false :=
  book_no fun hc => by
    have := List.pairwise_iff_getElem.1 hc.2.2.1 k i (by rw [List.length_map]; omega) (by rw [List.length_map]; exact hi) hk
    rw [List.getElem_map, List.getElem_map] at this
    rw [getElem!_pos L k (by omega), getElem!_pos L i hi] at h
    exact this h
theorem book_yes {L : List Od} (h64 : L.length ≤ 64) (h : ∀ i, i < L.length → goodO L[i]! = true ∧ eqO (sortO L)[i]! L[i]! = true ∧ ∀ k, k < i → (L[k]!).id ≠ (L[i]!).id) : bookO L = true := by
  rw [book_iff]
  refine ⟨h64, fun x hx => ?_, ?_, ?_⟩
  · obtain ⟨i, hi, rfl⟩ := List.getElem_of_mem hx
    have := (h i hi).1
    rw [getElem!_pos L i hi] at this
    exact this
  · refine List.pairwise_iff_getElem.2 fun k i hk hi hki => ?_
    rw [List.length_map] at hk hi
    rw [List.getElem_map, List.getElem_map]
    have := (h i hi).2.2 k hki
    rw [getElem!_pos L k hk, getElem!_pos L i hi] at this
    exact this
  · refine List.ext_getElem (sortO_len L).symm fun i h1 h2 => ?_
    have := (eqO_iff _ _).1 (h i h1).2.1
    rw [getElem!_pos L i h1, getElem!_pos _ i h2] at this
    exact this.symm

theorem rGoodG (x : Od) (W : World) : Calls Tryz.prog 46 #[.agg (OC x)] W fun e w' => e = .returned (.bool (goodO x)) ∧ ∃ q os, w' = Go.Sort.grow (W.drewN q) os :=
  (rGood_c x W).mono fun _ _ h => ⟨h.1, h.2.grow⟩

set_option maxHeartbeats 1000000 in
set_option maxRecDepth 1000000 in
theorem rBook_c (A : Option Addr) (n c : Nat) (L : List Od) (w : World) (H : Ods w A n L) (hn : n ≤ 1000) :
    Calls Tryz.prog 11 #[.slice A n c] w (BookIs w (bookO L)) := by
  have mixed : Tryz.prog.follows .mixedOrders = true := by kernel_rfl
  by_cases h64 : n ≤ 64
  case neg =>
    have e : bookO L = false := book_long (by rw [H.1]; exact h64)
    rw [e]
    have hz : (64 : Int) < (n : Int) := by omega
    clear h64 H
    go_enter Tryz.func11, Tryz.ntmps11
    go_wp2_with fail
    go_ret
    exact ⟨rfl, Below.refl _ _⟩
  have hz64 : ¬ (64 : Int) < (n : Int) := by omega
  have HG := Lib.hid rGoodG
  have HO : Aside (Ods w A n L) := H
  have HLn := Lib.hid H.1
  have HS := Lib.hid (rSorted_c A n c L w H hn)
  clear H
  go_enter Tryz.func11, Tryz.ntmps11
  go_wp2_with ((with_reducible refine (HS.out).mono ?_); rintro e w1 ⟨A1, n1, c1, rfl, HF⟩)
  have B1 : Hid (Below w.heap.size w w1) := HF.out.1
  have HS1 : Aside (Ods w1 A1 n1 (sortO L)) := HF.out.2.1
  obtain rfl : n1 = n := by
    have h1 := HF.out.2.1.1
    rw [sortO_len, HLn.out] at h1
    exact h1.symm
  clear HF HS
  go_loopg [4] n1 (fun kx s4 wr => ∃ i : Nat, s4 = .int .i64 i ∧ i ≤ n1 ∧ n1 - i ≤ kx ∧ Hid (Below w1.heap.size w1 wr) ∧ Hid (∀ j, j < i → goodO L[j]! = true ∧ eqO (sortO L)[j]! L[j]! = true ∧ ∀ k, k < j → (L[k]!).id ≠ (L[j]!).id))
  case atStart => exact ⟨0, rfl, by omega, by omega, Below.refl _ _, Lib.hid (fun j hj => by omega)⟩
  case round =>
  obtain ⟨i, rfl, hin, hkx, hd, HJ⟩ := hrel
  by_cases hlt : i < n1
  case neg =>
    have hltz : ¬ (i : Int) < (n1 : Int) := by omega
    obtain rfl : i = n1 := by omega
    have e : Hid (bookO L = true) := book_yes (by rw [HLn.out]; exact h64) (fun j hj => HJ.out j (by rw [HLn.out] at hj; exact hj))
    have B2 : Hid (Below w.heap.size w wr) := B1.out.trans (hd.out.mono B1.out.size)
    clear HJ hd B1
    go_wp2_with fail
    go_ret
    rw [e.out]
    exact ⟨rfl, B2.out⟩
  have hltz : (i : Int) < (n1 : Int) := by omega
  have B2 : Hid (Below w.heap.size w wr) := B1.out.trans (hd.out.mono B1.out.size)
  have h1 := (HO.out.below B2.out).2.2.2
  have k1 := (HS1.out.below hd.out).2.2.2
  rcases h1 with h1 | ⟨b, off, rfl, hb, hc⟩
  · omega
  rcases k1 with k1 | ⟨b', off', rfl, hb', kc⟩
  · omega
  have hx := hc i hlt
  have hy := kc i hlt
  clear hc kc
  obtain ⟨x, ex⟩ : ∃ x, L[i]! = x := ⟨_, rfl⟩
  obtain ⟨y, ey⟩ : ∃ y, (sortO L)[i]! = y := ⟨_, rfl⟩
  rw [ex] at hx
  rw [ey] at hy
  have EX := Lib.hid ex
  have EY := Lib.hid ey
  clear ex ey
  obtain ⟨x0, x1, x2, x3, x4, x5⟩ := hx
  obtain ⟨y0, y1, y2, y3, y4, y5⟩ := hy
  have X0 := fun n os => cell_grown (a := ⟨b, _, none⟩) hb x0 n os
  have Y0 := fun n os => cell_grown (a := ⟨b', _, none⟩) hb' y0 n os
  have X1 := fun n os => cell_grown (a := ⟨b, _, none⟩) hb x1 n os
  have Y1 := fun n os => cell_grown (a := ⟨b', _, none⟩) hb' y1 n os
  have X2 := fun n os => cell_grown (a := ⟨b, _, none⟩) hb x2 n os
  have Y2 := fun n os => cell_grown (a := ⟨b', _, none⟩) hb' y2 n os
  have X3 := fun n os => cell_grown (a := ⟨b, _, none⟩) hb x3 n os
  have Y3 := fun n os => cell_grown (a := ⟨b', _, none⟩) hb' y3 n os
  have X4 := fun n os => cell_grown (a := ⟨b, _, none⟩) hb x4 n os
  have Y4 := fun n os => cell_grown (a := ⟨b', _, none⟩) hb' y4 n os
  have X5 := fun n os => cell_grown (a := ⟨b, _, none⟩) hb x5 n os
  have Y5 := fun n os => cell_grown (a := ⟨b', _, none⟩) hb' y5 n os
  clear x0 x1 x2 x3 x4 x5 y0 y1 y2 y3 y4 y5
  have hcg := fun W => HG.out x W
  have hq := neqR y x
  go_upto_region 7 with fail
  cases hg : goodO x with
  | false =>
    have HB : Hid (bookO L = false) := Lib.hid (book_bad (i := i) (by rw [HLn.out]; exact hlt) (by rw [EX.out]; exact hg))
    rw [hg] at hcg
    clear hg
    refine wp_region_quiet_grown (by assumption) (by kernel_rfl) ?_
    iterate 7 (quiet_step ((go_at_call 46; with_reducible refine Calls.grown_of (hcg _))))
    iterate 9 (go_big_quiet_skip)
    go_big_quiet_step (fail)
    refine wpQuiet_nil ?_
    intro _ hw'
    obtain ⟨⟨nq, osq⟩, hw''⟩ := hw'
    subst hw''
    have B3 : Hid (Below w.heap.size w (grow (wr.drewN nq) osq)) := B2.out.trans ((gw_grow wr nq osq).b.mono B2.out.size)
    clear hcg X0 X1 X2 X3 X4 X5 Y0 Y1 Y2 Y3 Y4 Y5 hq
    generalize grow (wr.drewN nq) osq = w2 at B3 ⊢
    go_wp2_with fail
    go_ret
    rw [HB.out]
    exact ⟨rfl, B3.out⟩
  | true =>
  have HGd : Hid (goodO L[i]! = true) := by
    show _ = _
    rw [EX.out]; exact hg
  rw [hg] at hcg
  clear hg
  cases he : eqO y x with
  | false =>
    have HB : Hid (bookO L = false) := Lib.hid (book_unlike (i := i) (by rw [EX.out, EY.out]; exact he))
    rw [he] at hq
    clear he
    go_quiet_grown ((go_at_call 46; with_reducible refine Calls.grown_of (hcg _)))
    have B3 : Hid (Below w.heap.size w (grow (wr.drewN nq) osq)) := B2.out.trans ((gw_grow wr nq osq).b.mono B2.out.size)
    clear hcg X0 X1 X2 X3 X4 X5 Y0 Y1 Y2 Y3 Y4 Y5 hq
    generalize grow (wr.drewN nq) osq = w2 at B3 ⊢
    go_wp2_with fail
    go_ret
    rw [HB.out]
    exact ⟨rfl, B3.out⟩
  | true =>
  have HEq : Hid (eqO (sortO L)[i]! L[i]! = true) := by
    show _ = _
    rw [EX.out, EY.out]; exact he
  rw [he] at hq
  clear he
  go_quiet_grown ((go_at_call 46; with_reducible refine Calls.grown_of (hcg _)))
  have D3 : Hid (Below w1.heap.size w1 (grow (wr.drewN nq) osq)) := hd.out.trans ((gw_grow wr nq osq).b.mono hd.out.size)
  clear hcg X0 X1 X2 X3 X4 X5 Y0 Y1 Y2 Y3 Y4 Y5 hq EX EY hd B2 hb hb'
  generalize grow (wr.drewN nq) osq = w2 at D3 ⊢
  go_wp2_with fail
  go_loopg [5] i (fun kx s5 wx => ∃ k : Nat, s5 = .int .i64 k ∧ k ≤ i ∧ i - k ≤ kx ∧ Hid (Below w1.heap.size w1 wx) ∧ Hid (∀ j, j < k → (L[j]!).id ≠ (L[i]!).id))
  case atStart => exact ⟨0, rfl, by omega, by omega, D3, Lib.hid (fun j hj => by omega)⟩
  case round =>
  clear D3
  obtain ⟨k, rfl, hki, hkk, hd, HK⟩ := hrel
  by_cases hk : k < i
  case neg =>
    have hkz : ¬ (k : Int) < (i : Int) := by omega
    obtain rfl : k = i := by omega
    have HN : Hid (∀ j, j < k + 1 → goodO L[j]! = true ∧ eqO (sortO L)[j]! L[j]! = true ∧ ∀ q, q < j → (L[q]!).id ≠ (L[j]!).id) := Lib.hid (fun j hj => by
      by_cases e : j < k
      · exact HJ.out j e
      · obtain rfl : j = k := by omega
        exact ⟨HGd.out, HEq.out, fun q hq => HK.out q hq⟩)
    clear HJ HK
    go_wp2_with fail
    go_roundg (n1 - (k + 1))
    case measure => omega
    case rel => exact ⟨k + 1, by go_num, by omega, by omega, hd, HN⟩
  have hkz : (k : Int) < (i : Int) := by omega
  have hkn : (k : Int) < (n1 : Int) := by omega
  have B2 : Hid (Below w.heap.size w wr) := B1.out.trans (hd.out.mono B1.out.size)
  have hx := (HO.out.below B2.out).cellsAt hlt
  have hy := (HO.out.below B2.out).cellsAt (show k < n1 by omega)
  obtain ⟨x, ex⟩ : ∃ x, L[i]! = x := ⟨_, rfl⟩
  obtain ⟨y, ey⟩ : ∃ y, L[k]! = y := ⟨_, rfl⟩
  rw [ex] at hx
  rw [ey] at hy
  have EX := Lib.hid ex
  have EY := Lib.hid ey
  clear ex ey
  obtain ⟨x0, _, _, _, _, _⟩ := hx
  obtain ⟨y0, _, _, _, _, _⟩ := hy
  by_cases he : y.id = x.id
  · have HB : Hid (bookO L = false) := Lib.hid (book_pair hk (by rw [HLn.out]; exact hlt) (by rw [EX.out, EY.out]; exact he))
    have e1 : (y.id == x.id) = true := by simp [he]
    clear he
    go_wp2_with fail
    go_quiet (fail)
    have B3 : Hid (Below w.heap.size w (wr.drewN nq)) := below_drewN B2.out nq
    go_wp2_with fail
    go_ret
    rw [HB.out]
    exact ⟨rfl, B3.out⟩
  · have e1 : (y.id == x.id) = false := by simp [he]
    have HN : Hid (∀ j, j < k + 1 → (L[j]!).id ≠ (L[i]!).id) := Lib.hid (fun j hj => by
      by_cases e : j < k
      · exact HK.out j e
      · obtain rfl : j = k := by omega
        rw [EX.out, EY.out]; exact he)
    clear he HK
    go_wp2_with fail
    go_quiet (fail)
    have B3 : Hid (Below w1.heap.size w1 (wr.drewN nq)) := below_drewN hd.out nq
    generalize wr.drewN nq = w3 at B3 ⊢
    go_wp2_with fail
    go_roundg (i - (k + 1))
    case measure => omega
    case rel => exact ⟨k + 1, by go_num, by omega, by omega, B3, HN⟩
end Go.Proofs.YtgbmgdffgmablaaGreat

namespace Go.Proofs.YtgbmgdffgmablaaGreat
open Go.RowKit Go.Sort Go.Lib Go.Shelf

theorem sd_stop {hi first r : Nat} {d : Array Int} (h : hi ≤ 2 * r + 1) : siftDown ltInt hi first r d = d := by
  rw [siftDown, dif_pos h]
theorem sd_A {hi first r : Nat} {d : Array Int} (h : 2 * r + 2 < hi) (hl : ltInt d[first + (2 * r + 1)]! d[first + (2 * r + 1) + 1]! = true) :
    siftDown ltInt hi first r d = if ltInt d[first + r]! d[first + (2 * r + 2)]! = true then siftDown ltInt hi first (2 * r + 2) (swp d (first + r) (first + (2 * r + 2))) else d := by
  rw [siftDown, dif_neg (by omega), if_pos (by rw [hl, Bool.and_true]; exact decide_eq_true (by omega))]
  cases ltInt d[first + r]! d[first + (2 * r + 2)]! with
  | true => rw [if_neg (by decide), dif_pos h, if_pos rfl]
  | false => rw [if_pos (by decide), if_neg (by decide)]
theorem sd_B {hi first r : Nat} {d : Array Int} (h0 : 2 * r + 1 < hi) (h : ¬ 2 * r + 2 < hi ∨ ltInt d[first + (2 * r + 1)]! d[first + (2 * r + 1) + 1]! = false) :
    siftDown ltInt hi first r d = if ltInt d[first + r]! d[first + (2 * r + 1)]! = true then siftDown ltInt hi first (2 * r + 1) (swp d (first + r) (first + (2 * r + 1))) else d := by
  rw [siftDown, dif_neg (by omega), if_neg (by
    intro hc
    rw [Bool.and_eq_true, decide_eq_true_iff] at hc
    rcases h with h | h
    · omega
    · rw [h] at hc; cases hc.2)]
  cases ltInt d[first + r]! d[first + (2 * r + 1)]! with
  | true => rw [if_neg (by decide), if_pos rfl]
  | false => rw [if_pos (by decide), if_neg (by decide)]

set_option maxHeartbeats 4000000 in
set_option maxRecDepth 1000000 in
theorem sift_c (blk off cap : Nat) (lo hi first : Nat) (zl zh zf : Int) (hzl : zl = lo) (hzh : zh = hi) (hzf : zf = first) (d0 d : Array Int) (w0 w : World) (n : Nat) (hn : n = d.size) (R : Row1 eU w0 blk off d0) (hs : d0.size = d.size) (S : SW eU w0 blk off d w) (hsz : d.size < 4611686018427387904) (hf : first + hi ≤ d.size) (hlo : lo ≤ d.size) :
    Calls Tryz.prog 133 #[.slice (some ⟨blk, off, none⟩) n cap, .int .i64 zl, .int .i64 zh, .int .i64 zf] w fun e w' => e = .returned (.tuple #[]) ∧ SW eU w0 blk off (siftDown ltInt hi first lo d) w' := by
  subst hn hzl hzh hzf
  have mixed : Tryz.prog.follows .mixedOrders = true := by kernel_rfl
  have S0 : Aside (SW eU w0 blk off d w) := S
  have HS := Lib.hid hs
  have HL := Lib.hid lessU_c
  clear S hs
  go_enter Tryz.func133, Tryz.ntmps133
  go_wp2
  go_loopg [8] (hi + 1) (fun kx s8 wr => ∃ (r : Nat) (dk : Array Int), s8 = .int .i64 r ∧ hi + 1 - r ≤ kx + 1 ∧ dk.size = d.size ∧ Aside (SW eU w0 blk off dk wr) ∧ Hid (siftDown ltInt hi first r dk = siftDown ltInt hi first lo d) ∧ (r < hi ∨ r = lo) ∧ r ≤ lo + hi)
  case atStart => exact ⟨lo, d, rfl, by omega, rfl, S0, Lib.hid rfl, .inr rfl, by omega⟩
  case round =>
    clear S0
    obtain ⟨r, dk, rfl, hkx, hds, S1, HE, hrl, hrb⟩ := hrel
    have HD := Lib.hid hds
    clear hds
    have hrd : r ≤ d.size := by omega
    by_cases hlt : hi ≤ 2 * r + 1
    · have hz : (hi : Int) ≤ 2 * (r : Int) + 1 := by omega
      go_wp2_with fail
      go_end0
      refine ⟨rfl, ?_⟩
      rw [← HE.out, sd_stop hlt]
      exact S1.out
    · obtain ⟨c1, hc1⟩ : ∃ c, c = 2 * r + 1 := ⟨_, rfl⟩
      obtain ⟨c2, hc2⟩ : ∃ c, c = 2 * r + 2 := ⟨_, rfl⟩
      obtain ⟨f1, hf1⟩ : ∃ c, c = first + c1 := ⟨_, rfl⟩
      obtain ⟨f2, hf2⟩ : ∃ c, c = first + c2 := ⟨_, rfl⟩
      obtain ⟨fr, hfr⟩ : ∃ c, c = first + r := ⟨_, rfl⟩
      have hz : (hi : Int) - 1 ≥ (c1 : Int) := by omega
      have hz0 : ¬ (hi : Int) ≤ (c1 : Int) := by omega
      have q1 : 2 * (r : Int) + 1 = (c1 : Int) := by omega
      have q2 : IntKind.i64.wrap ((c1 : Int) + 1) = (c2 : Int) := by rw [IntKind.wrap_i64]; omega
      have q2' : (c1 : Int) + 1 = (c2 : Int) := by omega
      have q3 : IntKind.i64.wrap ((first : Int) + (c1 : Int)) = (f1 : Int) := by rw [IntKind.wrap_i64]; omega
      have q4 : IntKind.i64.wrap ((f1 : Int) + 1) = (f2 : Int) := by rw [IntKind.wrap_i64]; omega
      have q5 : IntKind.i64.wrap ((first : Int) + (r : Int)) = (fr : Int) := by rw [IntKind.wrap_i64]; omega
      have q6 : IntKind.i64.wrap ((first : Int) + (c2 : Int)) = (f2 : Int) := by rw [IntKind.wrap_i64]; omega
      have HN := Lib.hid (And.intro hc1 (And.intro hc2 (And.intro hf1 (And.intro hf2 hfr))))
      have n1 : c1 < hi := by omega
      have n2 : f1 < first + hi := by omega
      have n3 : fr < f1 := by omega
      have l1 : f1 ≤ first + c1 := by omega
      have l2 : first + c1 ≤ f1 := by omega
      have l3 : f2 ≤ first + c2 := by omega
      have l4 : first + c2 ≤ f2 := by omega
      have l5 : fr ≤ first + r := by omega
      have l6 : first + r ≤ fr := by omega
      have l7 : c1 ≤ 2 * r + 1 := by omega
      have l8 : 2 * r + 1 ≤ c1 := by omega
      have l9 : c2 ≤ c1 + 1 := by omega
      have l10 : c1 + 1 ≤ c2 := by omega
      clear hc1 hc2 hf1 hf2 hfr hlt hrl
      by_cases h2 : c2 < hi
      · have h2z : (c2 : Int) < (hi : Int) := by omega
        have hsz2 := HD.out
        obtain ⟨y, hy⟩ : ∃ x, dk[f1]! = x := ⟨_, rfl⟩
        have cy := S1.out.c1 R (by rw [HD.out]; exact HS.out.symm) (f1) (by omega)
        rw [hy] at cy
        replace cy : wr.cell? ⟨blk, off + f1, none⟩ = some (.int .u64 y) := cy
        have Xy := Lib.hid hy
        clear hy
        have bby : (f1 : Int) < (d.size : Int) := by omega
        obtain ⟨u, hu⟩ : ∃ x, dk[f2]! = x := ⟨_, rfl⟩
        have cu := S1.out.c1 R (by rw [HD.out]; exact HS.out.symm) (f2) (by omega)
        rw [hu] at cu
        replace cu : wr.cell? ⟨blk, off + f2, none⟩ = some (.int .u64 u) := cu
        have Xu := Lib.hid hu
        clear hu
        have bbu : (f2 : Int) < (d.size : Int) := by omega
        clear hsz2
        cases hl : ltInt y u with
        | true =>
          have HA : Hid (2 * r + 2 < hi ∧ ltInt dk[first + (2 * r + 1)]! dk[first + (2 * r + 1) + 1]! = true) := by
            refine Lib.hid ⟨by omega, ?_⟩
            rw [← HN.out.1, ← HN.out.2.2.1, show f1 + 1 = f2 by omega, Xy.out, Xu.out]; exact hl
          go_wp2_with fail
          go_quiet ((go_at_call 110; with_reducible exact Calls.quiet_of_same (HL.out _ _ _)))
          have S3 : Aside (SW eU w0 blk off dk (wr.drewN nq)) := S1.out.drewN nq
          clear cy bby cu bbu S1
          generalize wr.drewN nq = wq at S3 ⊢
          clear hl
          go_wp2_with fail
          have hsz2 := HD.out
          obtain ⟨x, hx⟩ : ∃ x, dk[fr]! = x := ⟨_, rfl⟩
          have cx := S3.out.c1 R (by rw [HD.out]; exact HS.out.symm) (fr) (by omega)
          rw [hx] at cx
          replace cx : wq.cell? ⟨blk, off + fr, none⟩ = some (.int .u64 x) := cx
          have Xx := Lib.hid hx
          clear hx
          have bbx : (fr : Int) < (d.size : Int) := by omega
          obtain ⟨z, hz⟩ : ∃ x, dk[f2]! = x := ⟨_, rfl⟩
          have cz := S3.out.c1 R (by rw [HD.out]; exact HS.out.symm) (f2) (by omega)
          rw [hz] at cz
          replace cz : wq.cell? ⟨blk, off + f2, none⟩ = some (.int .u64 z) := cz
          have Xz := Lib.hid hz
          clear hz
          have bbz : (f2 : Int) < (d.size : Int) := by omega
          clear hsz2
          cases hl2 : ltInt x z with
          | true =>
            have HN2 : Hid (siftDown ltInt hi first c2 (swp dk fr f2) = siftDown ltInt hi first lo d) := by
              have e := sd_A (hi := hi) (first := first) (r := r) (d := dk) HA.out.1 HA.out.2
              rw [← HN.out.2.1] at e
              rw [← HN.out.2.2.2.2, ← HN.out.2.2.2.1, Xx.out, Xz.out, if_pos hl2] at e
              show _ = _
              rw [← HE.out, e]
            go_wp2_with fail
            go_quiet ((go_at_call 110; with_reducible exact Calls.quiet_of_same (HL.out _ _ _)))
            have S4 : Aside (SW eU w0 blk off dk (wq.drewN nq)) := S3.out.drewN nq
            clear cx bbx cz bbz S3
            generalize wq.drewN nq = wt at S4 ⊢
            clear hl2 HE
            go_wp2_with fail
            have hsz2 := HD.out
            have bI : (fr : Int) < (d.size : Int) := by omega
            have bJ : (f2 : Int) < (d.size : Int) := by omega
            have S2 := S4.out.swapped R (fr) (f2) (by omega) (by omega)
            have ca := S4.out.c1 R (by rw [HD.out]; exact HS.out.symm) (fr) (by omega)
            have cb := S4.out.c1 R (by rw [HD.out]; exact HS.out.symm) (f2) (by omega)
            have fa := S4.out.f1 R (by rw [HD.out]; exact HS.out.symm) (fr) (by omega)
            have fb := S4.out.f1 R (by rw [HD.out]; exact HS.out.symm) (f2) (by omega)
            obtain ⟨uc, cc⟩ := S4.out.c2 R (by rw [HD.out]; exact HS.out.symm) (fr) (f2) (by omega) (by omega) (eU dk[f2]!)
            clear hsz2
            generalize dk[fr]! = vI at S2 ca cc
            generalize dk[f2]! = vJ at S2 cb cc
            replace S2 : Aside (SW eU w0 blk off (swp dk (fr) (f2)) ((wt.setCell ⟨blk, off + fr, none⟩ (.int .u64 vJ)).setCell ⟨blk, off + f2, none⟩ (.int .u64 vI)).drew) := S2
            replace ca : wt.cell? ⟨blk, off + fr, none⟩ = some (.int .u64 vI) := ca
            replace cb : wt.cell? ⟨blk, off + f2, none⟩ = some (.int .u64 vJ) := cb
            replace cc : (wt.setCell ⟨blk, off + fr, none⟩ (.int .u64 vJ)).cell? ⟨blk, off + f2, none⟩ = some uc := cc
            clear S4
            go_wp2_with fail
            go_big_region
            clear ca cb fa fb cc bI bJ
            generalize ((wt.setCell ⟨blk, off + fr, none⟩ (.int .u64 vJ)).setCell ⟨blk, off + f2, none⟩ (.int .u64 vI)).drew = w2 at S2 ⊢
            go_wp2
            go_roundg (hi - c2)
            case measure => omega
            case rel => exact ⟨c2, swp dk fr f2, rfl, by omega, by rw [size_swp]; exact HD.out, S2, HN2, .inl (by omega), by omega⟩
          | false =>
            have HN2 : Hid (siftDown ltInt hi first lo d = dk) := by
              have e := sd_A (hi := hi) (first := first) (r := r) (d := dk) HA.out.1 HA.out.2
              rw [← HN.out.2.1] at e
              rw [← HN.out.2.2.2.2, ← HN.out.2.2.2.1, Xx.out, Xz.out, if_neg (by rw [hl2]; decide)] at e
              show _ = _
              rw [← HE.out, e]
            go_wp2_with fail
            go_quiet ((go_at_call 110; with_reducible exact Calls.quiet_of_same (HL.out _ _ _)))
            have S4 : Aside (SW eU w0 blk off dk (wq.drewN nq)) := S3.out.drewN nq
            clear cx bbx cz bbz S3
            generalize wq.drewN nq = wt at S4 ⊢
            go_wp2_with fail
            first | go_end0 | ((try simp only [Exit.inBlock, Exit.then]); refine bodyPost_ret (results_none rfl _ _ _) rfl ?_)
            refine ⟨rfl, ?_⟩
            rw [HN2.out]
            exact S4.out
        | false =>
          have HA : Hid (2 * r + 1 < hi ∧ ltInt dk[first + (2 * r + 1)]! dk[first + (2 * r + 1) + 1]! = false) := by
            refine Lib.hid ⟨by omega, ?_⟩
            rw [← HN.out.1, ← HN.out.2.2.1, show f1 + 1 = f2 by omega, Xy.out, Xu.out]; exact hl
          go_wp2_with fail
          go_quiet ((go_at_call 110; with_reducible exact Calls.quiet_of_same (HL.out _ _ _)))
          have S3 : Aside (SW eU w0 blk off dk (wr.drewN nq)) := S1.out.drewN nq
          clear cy bby cu bbu S1
          generalize wr.drewN nq = wq at S3 ⊢
          clear hl
          go_wp2_with fail
          have hsz2 := HD.out
          obtain ⟨x, hx⟩ : ∃ x, dk[fr]! = x := ⟨_, rfl⟩
          have cx := S3.out.c1 R (by rw [HD.out]; exact HS.out.symm) (fr) (by omega)
          rw [hx] at cx
          replace cx : wq.cell? ⟨blk, off + fr, none⟩ = some (.int .u64 x) := cx
          have Xx := Lib.hid hx
          clear hx
          have bbx : (fr : Int) < (d.size : Int) := by omega
          obtain ⟨z, hz⟩ : ∃ x, dk[f1]! = x := ⟨_, rfl⟩
          have cz := S3.out.c1 R (by rw [HD.out]; exact HS.out.symm) (f1) (by omega)
          rw [hz] at cz
          replace cz : wq.cell? ⟨blk, off + f1, none⟩ = some (.int .u64 z) := cz
          have Xz := Lib.hid hz
          clear hz
          have bbz : (f1 : Int) < (d.size : Int) := by omega
          clear hsz2
          cases hl2 : ltInt x z with
          | true =>
            have HN2 : Hid (siftDown ltInt hi first c1 (swp dk fr f1) = siftDown ltInt hi first lo d) := by
              have e := sd_B (hi := hi) (first := first) (r := r) (d := dk) HA.out.1 (.inr HA.out.2)
              rw [← HN.out.1] at e
              rw [← HN.out.2.2.2.2, ← HN.out.2.2.1, Xx.out, Xz.out, if_pos hl2] at e
              show _ = _
              rw [← HE.out, e]
            go_wp2_with fail
            go_quiet ((go_at_call 110; with_reducible exact Calls.quiet_of_same (HL.out _ _ _)))
            have S4 : Aside (SW eU w0 blk off dk (wq.drewN nq)) := S3.out.drewN nq
            clear cx bbx cz bbz S3
            generalize wq.drewN nq = wt at S4 ⊢
            clear hl2 HE
            go_wp2_with fail
            have hsz2 := HD.out
            have bI : (fr : Int) < (d.size : Int) := by omega
            have bJ : (f1 : Int) < (d.size : Int) := by omega
            have S2 := S4.out.swapped R (fr) (f1) (by omega) (by omega)
            have ca := S4.out.c1 R (by rw [HD.out]; exact HS.out.symm) (fr) (by omega)
            have cb := S4.out.c1 R (by rw [HD.out]; exact HS.out.symm) (f1) (by omega)
            have fa := S4.out.f1 R (by rw [HD.out]; exact HS.out.symm) (fr) (by omega)
            have fb := S4.out.f1 R (by rw [HD.out]; exact HS.out.symm) (f1) (by omega)
            obtain ⟨uc, cc⟩ := S4.out.c2 R (by rw [HD.out]; exact HS.out.symm) (fr) (f1) (by omega) (by omega) (eU dk[f1]!)
            clear hsz2
            generalize dk[fr]! = vI at S2 ca cc
            generalize dk[f1]! = vJ at S2 cb cc
            replace S2 : Aside (SW eU w0 blk off (swp dk (fr) (f1)) ((wt.setCell ⟨blk, off + fr, none⟩ (.int .u64 vJ)).setCell ⟨blk, off + f1, none⟩ (.int .u64 vI)).drew) := S2
            replace ca : wt.cell? ⟨blk, off + fr, none⟩ = some (.int .u64 vI) := ca
            replace cb : wt.cell? ⟨blk, off + f1, none⟩ = some (.int .u64 vJ) := cb
            replace cc : (wt.setCell ⟨blk, off + fr, none⟩ (.int .u64 vJ)).cell? ⟨blk, off + f1, none⟩ = some uc := cc
            clear S4
            go_wp2_with fail
            go_big_region
            clear ca cb fa fb cc bI bJ
            generalize ((wt.setCell ⟨blk, off + fr, none⟩ (.int .u64 vJ)).setCell ⟨blk, off + f1, none⟩ (.int .u64 vI)).drew = w2 at S2 ⊢
            go_wp2
            go_roundg (hi - c1)
            case measure => omega
            case rel => exact ⟨c1, swp dk fr f1, rfl, by omega, by rw [size_swp]; exact HD.out, S2, HN2, .inl (by omega), by omega⟩
          | false =>
            have HN2 : Hid (siftDown ltInt hi first lo d = dk) := by
              have e := sd_B (hi := hi) (first := first) (r := r) (d := dk) HA.out.1 (.inr HA.out.2)
              rw [← HN.out.1] at e
              rw [← HN.out.2.2.2.2, ← HN.out.2.2.1, Xx.out, Xz.out, if_neg (by rw [hl2]; decide)] at e
              show _ = _
              rw [← HE.out, e]
            go_wp2_with fail
            go_quiet ((go_at_call 110; with_reducible exact Calls.quiet_of_same (HL.out _ _ _)))
            have S4 : Aside (SW eU w0 blk off dk (wq.drewN nq)) := S3.out.drewN nq
            clear cx bbx cz bbz S3
            generalize wq.drewN nq = wt at S4 ⊢
            go_wp2_with fail
            first | go_end0 | ((try simp only [Exit.inBlock, Exit.then]); refine bodyPost_ret (results_none rfl _ _ _) rfl ?_)
            refine ⟨rfl, ?_⟩
            rw [HN2.out]
            exact S4.out
      · have h2z : ¬ (c2 : Int) < (hi : Int) := by omega
        have HA : Hid (2 * r + 1 < hi ∧ ¬ 2 * r + 2 < hi) := Lib.hid ⟨by omega, by omega⟩
        go_wp2_with fail
        go_quiet ((go_at_call 110; with_reducible exact Calls.quiet_of_same (HL.out _ _ _)))
        have S3 : Aside (SW eU w0 blk off dk (wr.drewN nq)) := S1.out.drewN nq
        clear S1
        generalize wr.drewN nq = wq at S3 ⊢
        go_wp2_with fail
        have hsz2 := HD.out
        obtain ⟨x, hx⟩ : ∃ x, dk[fr]! = x := ⟨_, rfl⟩
        have cx := S3.out.c1 R (by rw [HD.out]; exact HS.out.symm) (fr) (by omega)
        rw [hx] at cx
        replace cx : wq.cell? ⟨blk, off + fr, none⟩ = some (.int .u64 x) := cx
        have Xx := Lib.hid hx
        clear hx
        have bbx : (fr : Int) < (d.size : Int) := by omega
        obtain ⟨z, hz⟩ : ∃ x, dk[f1]! = x := ⟨_, rfl⟩
        have cz := S3.out.c1 R (by rw [HD.out]; exact HS.out.symm) (f1) (by omega)
        rw [hz] at cz
        replace cz : wq.cell? ⟨blk, off + f1, none⟩ = some (.int .u64 z) := cz
        have Xz := Lib.hid hz
        clear hz
        have bbz : (f1 : Int) < (d.size : Int) := by omega
        clear hsz2
        cases hl2 : ltInt x z with
        | true =>
          have HN2 : Hid (siftDown ltInt hi first c1 (swp dk fr f1) = siftDown ltInt hi first lo d) := by
            have e := sd_B (hi := hi) (first := first) (r := r) (d := dk) HA.out.1 (.inl HA.out.2)
            rw [← HN.out.1] at e
            rw [← HN.out.2.2.2.2, ← HN.out.2.2.1, Xx.out, Xz.out, if_pos hl2] at e
            show _ = _
            rw [← HE.out, e]
          go_wp2_with fail
          go_quiet ((go_at_call 110; with_reducible exact Calls.quiet_of_same (HL.out _ _ _)))
          have S4 : Aside (SW eU w0 blk off dk (wq.drewN nq)) := S3.out.drewN nq
          clear cx bbx cz bbz S3
          generalize wq.drewN nq = wt at S4 ⊢
          clear hl2 HE
          go_wp2_with fail
          have hsz2 := HD.out
          have bI : (fr : Int) < (d.size : Int) := by omega
          have bJ : (f1 : Int) < (d.size : Int) := by omega
          have S2 := S4.out.swapped R (fr) (f1) (by omega) (by omega)
          have ca := S4.out.c1 R (by rw [HD.out]; exact HS.out.symm) (fr) (by omega)
          have cb := S4.out.c1 R (by rw [HD.out]; exact HS.out.symm) (f1) (by omega)
          have fa := S4.out.f1 R (by rw [HD.out]; exact HS.out.symm) (fr) (by omega)
          have fb := S4.out.f1 R (by rw [HD.out]; exact HS.out.symm) (f1) (by omega)
          obtain ⟨uc, cc⟩ := S4.out.c2 R (by rw [HD.out]; exact HS.out.symm) (fr) (f1) (by omega) (by omega) (eU dk[f1]!)
          clear hsz2
          generalize dk[fr]! = vI at S2 ca cc
          generalize dk[f1]! = vJ at S2 cb cc
          replace S2 : Aside (SW eU w0 blk off (swp dk (fr) (f1)) ((wt.setCell ⟨blk, off + fr, none⟩ (.int .u64 vJ)).setCell ⟨blk, off + f1, none⟩ (.int .u64 vI)).drew) := S2
          replace ca : wt.cell? ⟨blk, off + fr, none⟩ = some (.int .u64 vI) := ca
          replace cb : wt.cell? ⟨blk, off + f1, none⟩ = some (.int .u64 vJ) := cb
          replace cc : (wt.setCell ⟨blk, off + fr, none⟩ (.int .u64 vJ)).cell? ⟨blk, off + f1, none⟩ = some uc := cc
          clear S4
          go_wp2_with fail
          go_big_region
          clear ca cb fa fb cc bI bJ
          generalize ((wt.setCell ⟨blk, off + fr, none⟩ (.int .u64 vJ)).setCell ⟨blk, off + f1, none⟩ (.int .u64 vI)).drew = w2 at S2 ⊢
          go_wp2
          go_roundg (hi - c1)
          case measure => omega
          case rel => exact ⟨c1, swp dk fr f1, rfl, by omega, by rw [size_swp]; exact HD.out, S2, HN2, .inl (by omega), by omega⟩
        | false =>
          have HN2 : Hid (siftDown ltInt hi first lo d = dk) := by
            have e := sd_B (hi := hi) (first := first) (r := r) (d := dk) HA.out.1 (.inl HA.out.2)
            rw [← HN.out.1] at e
            rw [← HN.out.2.2.2.2, ← HN.out.2.2.1, Xx.out, Xz.out, if_neg (by rw [hl2]; decide)] at e
            show _ = _
            rw [← HE.out, e]
          go_wp2_with fail
          go_quiet ((go_at_call 110; with_reducible exact Calls.quiet_of_same (HL.out _ _ _)))
          have S4 : Aside (SW eU w0 blk off dk (wq.drewN nq)) := S3.out.drewN nq
          clear cx bbx cz bbz S3
          generalize wq.drewN nq = wt at S4 ⊢
          go_wp2_with fail
          first | go_end0 | ((try simp only [Exit.inBlock, Exit.then]); refine bodyPost_ret (results_none rfl _ _ _) rfl ?_)
          refine ⟨rfl, ?_⟩
          rw [HN2.out]
          exact S4.out
end Go.Proofs.YtgbmgdffgmablaaGreat

namespace Go.Proofs.YtgbmgdffgmablaaGreat
open Go.RowKit Go.Sort Go.Lib Go.Shelf

theorem size_sift (hi first : Nat) : ∀ (n r : Nat) (d : Array Int), hi - r ≤ n → (siftDown ltInt hi first r d).size = d.size
  | 0, r, d, h => by rw [sd_stop (by omega)]
  | n + 1, r, d, h => by
    by_cases h1 : hi ≤ 2 * r + 1
    · rw [sd_stop h1]
    · by_cases h2 : 2 * r + 2 < hi ∧ ltInt d[first + (2 * r + 1)]! d[first + (2 * r + 1) + 1]! = true
      · rw [sd_A h2.1 h2.2]
        split
        · rw [size_sift hi first n _ _ (by omega), size_swp]
        · rfl
      · rw [sd_B (by omega) (by
          by_cases h3 : 2 * r + 2 < hi
          · right
            cases e : ltInt d[first + (2 * r + 1)]! d[first + (2 * r + 1) + 1]! with
            | false => rfl
            | true => exact absurd ⟨h3, e⟩ h2
          · exact .inl h3)]
        split
        · rw [size_sift hi first n _ _ (by omega), size_swp]
        · rfl

set_option maxHeartbeats 4000000 in
set_option maxRecDepth 1000000 in
theorem heap_c (blk off cap : Nat) (a b : Nat) (za zb : Int) (hza : za = a) (hzb : zb = b) (d0 d : Array Int) (w0 w : World) (n : Nat) (hn : n = d.size) (R : Row1 eU w0 blk off d0) (hs : d0.size = d.size) (S : SW eU w0 blk off d w) (hsz : d.size < 4611686018427387904) (hab : a < b) (hb : b ≤ d.size) :
    Calls Tryz.prog 105 #[.slice (some ⟨blk, off, none⟩) n cap, .int .i64 za, .int .i64 zb] w fun e w' => e = .returned (.tuple #[]) ∧ ∃ d', SW eU w0 blk off d' w' ∧ PermIn a b d d' ∧ SortedIn ltInt a b d' := by
  subst hn hza hzb
  have HF := Lib.hid (heapSort_holds (lt := ltInt) swo_ltInt d a b (by omega) hb)
  have HSD := Lib.hid (fun lo hi first zl zh zf dk wk n h1 h2 h3 h4 h5 h6 h7 h8 h9 => sift_c blk off cap lo hi first zl zh zf h1 h2 h3 d0 dk w0 wk n h4 R h5 h6 h7 h8 h9)
  obtain ⟨hi, hhi⟩ : ∃ h, h = b - a := ⟨_, rfl⟩
  have q0 : (b : Int) - (a : Int) = (hi : Int) := by omega
  obtain ⟨k0, hk0⟩ : ∃ k, k = (hi - 1) / 2 := ⟨_, rfl⟩
  have q1 : ((hi : Int) - 1) / 2 = (k0 : Int) := by omega
  have q1' : ((hi : Int) - 1).tdiv 2 = (k0 : Int) := by rw [Int.tdiv_eq_ediv_of_nonneg (by omega)]; exact q1
  have HK := Lib.hid (And.intro hhi hk0)
  have m1 : 0 < hi := by omega
  have m2 : a + hi ≤ b := by omega
  have m3 : b ≤ a + hi := by omega
  have m4 : k0 ≤ hi := by omega
  clear hhi hk0
  have mixed : Tryz.prog.follows .mixedOrders = true := by kernel_rfl
  have S0 : Aside (SW eU w0 blk off d w) := S
  have HS := Lib.hid hs
  have HL := Lib.hid lessU_c
  clear S hs
  go_enter Tryz.func105, Tryz.ntmps105
  go_wp2
  go_loopg [9] (k0 + 1) (fun kx s9 wr => ∃ (k : Nat) (z : Int) (dk : Array Int), s9 = .int .i64 z ∧ z + 1 = (k : Int) ∧ k ≤ k0 + 1 ∧ k ≤ kx ∧ dk.size = d.size ∧ Aside (SW eU w0 blk off dk wr) ∧ Hid (heapBuild ltInt hi a k dk = heapBuild ltInt hi a (k0 + 1) d))
  case atStart => exact ⟨k0 + 1, k0, d, rfl, by omega, by omega, by omega, rfl, S0, Lib.hid rfl⟩
  case round =>
    clear S0
    obtain ⟨k, z, dk, rfl, hzk, hk0, hkx, hds, S1, HE⟩ := hrel
    have HD := Lib.hid hds
    clear hds
    by_cases hk : 0 < k
    · obtain ⟨j, rfl⟩ : ∃ j, k = j + 1 := ⟨k - 1, by omega⟩
      obtain rfl : z = (j : Int) := by omega
      have hz : (0 : Int) ≤ (j : Int) := by omega
      clear hzk
      go_wp2_with (((with_reducible refine (HSD.out j hi a _ _ _ dk _ d.size rfl rfl rfl ?_ ?_ ?_ ?_ ?_ ?_).mono ?_); exact HD.out.symm; (rw [HD.out]; exact HS.out); exact S1.out; (rw [HD.out]; omega); (rw [HD.out]; omega); (rw [HD.out]; omega)); rintro e w2 ⟨rfl, S2⟩)
      have S3 : Aside (SW eU w0 blk off (siftDown ltInt hi a j dk) w2) := S2
      have HD3 : Hid ((siftDown ltInt hi a j dk).size = d.size) := Lib.hid (by rw [size_sift hi a hi j dk (by omega)]; exact HD.out)
      have HE3 : Hid (heapBuild ltInt hi a j (siftDown ltInt hi a j dk) = heapBuild ltInt hi a (k0 + 1) d) := by
        show _ = _
        rw [← HE.out]; rfl
      clear S2 S1 HE
      go_roundg (j)
      case measure => omega
      case rel => exact ⟨j, (j : Int) - 1, _, rfl, by omega, by omega, by omega, HD3.out, S3, HE3⟩
    · obtain rfl : k = 0 := by omega
      obtain rfl : z = -1 := by omega
      have HB : Hid (dk = heapBuild ltInt hi a (k0 + 1) d) := by
        show _ = _
        rw [← HE.out]; rfl
      clear hk hzk HE
      go_wp2
      go_loopg [10] (hi) (fun kx s10 wr => ∃ (k : Nat) (z : Int) (dj : Array Int), s10 = .int .i64 z ∧ z + 1 = (k : Int) ∧ k ≤ hi ∧ k ≤ kx ∧ dj.size = d.size ∧ Aside (SW eU w0 blk off dj wr) ∧ Hid (heapPop ltInt a k dj = heapPop ltInt a hi dk))
      case atStart => exact ⟨hi, (hi : Int) - 1, dk, rfl, by omega, by omega, by omega, HD.out, S1, Lib.hid rfl⟩
      case round =>
        clear S1 HD
        obtain ⟨k, z, dj, rfl, hzk, hk0', hkx', hds, S1, HE⟩ := hrel
        have HD := Lib.hid hds
        clear hds
        by_cases hk : 0 < k
        · obtain ⟨j, rfl⟩ : ∃ j, k = j + 1 := ⟨k - 1, by omega⟩
          obtain rfl : z = (j : Int) := by omega
          have hz : (0 : Int) ≤ (j : Int) := by omega
          obtain ⟨aj, haj⟩ : ∃ x, x = a + j := ⟨_, rfl⟩
          have q2 : IntKind.i64.wrap ((a : Int) + (j : Int)) = (aj : Int) := by rw [IntKind.wrap_i64]; omega
          have l1 : aj ≤ a + j := by omega
          have l2 : a + j ≤ aj := by omega
          have HAJ := Lib.hid haj
          clear hzk haj
          go_wp2_with fail
          have hsz2 := HD.out
          have bI : (a : Int) < (d.size : Int) := by omega
          have bJ : (aj : Int) < (d.size : Int) := by omega
          have S2 := S1.out.swapped R (a) (aj) (by omega) (by omega)
          have ca := S1.out.c1 R (by rw [HD.out]; exact HS.out.symm) (a) (by omega)
          have cb := S1.out.c1 R (by rw [HD.out]; exact HS.out.symm) (aj) (by omega)
          have fa := S1.out.f1 R (by rw [HD.out]; exact HS.out.symm) (a) (by omega)
          have fb := S1.out.f1 R (by rw [HD.out]; exact HS.out.symm) (aj) (by omega)
          obtain ⟨uc, cc⟩ := S1.out.c2 R (by rw [HD.out]; exact HS.out.symm) (a) (aj) (by omega) (by omega) (eU dj[aj]!)
          clear hsz2
          generalize dj[a]! = vI at S2 ca cc
          generalize dj[aj]! = vJ at S2 cb cc
          replace S2 : Aside (SW eU w0 blk off (swp dj (a) (aj)) ((wr.setCell ⟨blk, off + a, none⟩ (.int .u64 vJ)).setCell ⟨blk, off + aj, none⟩ (.int .u64 vI)).drew) := S2
          replace ca : wr.cell? ⟨blk, off + a, none⟩ = some (.int .u64 vI) := ca
          replace cb : wr.cell? ⟨blk, off + aj, none⟩ = some (.int .u64 vJ) := cb
          replace cc : (wr.setCell ⟨blk, off + a, none⟩ (.int .u64 vJ)).cell? ⟨blk, off + aj, none⟩ = some uc := cc
          clear S1
          go_wp2_with fail
          go_big_region
          clear ca cb fa fb cc bI bJ
          generalize ((wr.setCell ⟨blk, off + a, none⟩ (.int .u64 vJ)).setCell ⟨blk, off + aj, none⟩ (.int .u64 vI)).drew = w2 at S2 ⊢
          have HD2 : Hid ((swp dj a aj).size = d.size) := Lib.hid (by rw [size_swp]; exact HD.out)
          go_wp2_with (((with_reducible refine (HSD.out 0 j a _ _ _ (swp dj a aj) _ d.size ?_ rfl rfl ?_ ?_ ?_ ?_ ?_ ?_).mono ?_); rfl; exact HD2.out.symm; (rw [HD2.out]; exact HS.out); exact S2.out; (rw [HD2.out]; omega); (rw [HD2.out]; omega); (rw [HD2.out]; omega)); rintro e w3 ⟨rfl, S3⟩)
          have S4 : Aside (SW eU w0 blk off (siftDown ltInt j a 0 (swp dj a aj)) w3) := S3
          have HD3 : Hid ((siftDown ltInt j a 0 (swp dj a aj)).size = d.size) := Lib.hid (by rw [size_sift j a j 0 _ (by omega)]; exact HD2.out)
          have HE3 : Hid (heapPop ltInt a j (siftDown ltInt j a 0 (swp dj a aj)) = heapPop ltInt a hi dk) := by
            show _ = _
            rw [← HE.out, HAJ.out]; rfl
          clear S3 S2 HE
          go_roundg (j)
          case measure => omega
          case rel => exact ⟨j, (j : Int) - 1, _, rfl, by omega, by omega, by omega, HD3.out, S4, HE3⟩
        · obtain rfl : k = 0 := by omega
          obtain rfl : z = -1 := by omega
          have HX : Hid (heapSort ltInt d a b = dj) := by
            show _ = _
            unfold heapSort
            rw [← HK.out.1, ← HK.out.2, ← HB.out, ← HE.out]; rfl
          clear hk hzk HE
          go_wp2
          go_end0
          refine ⟨rfl, dj, S1.out, ?_⟩
          rw [← HX.out]
          exact HF.out
end Go.Proofs.YtgbmgdffgmablaaGreat

namespace Go.Proofs.YtgbmgdffgmablaaGreat
open Go.RowKit Go.Sort Go.Lib Go.Shelf

/-- Between a and i the low ones, behind j the others; the pivot at a. -/
structure PInv (L : Int → Bool) (a b i j : Nat) (v : Int) (d dk : Array Int) : Prop where
  i1 : a + 1 ≤ i
  ij : i ≤ j + 1
  jb : j < b
  v : dk[a]! = v
  lo : ∀ p, a < p → p < i → L dk[p]! = true
  hi : ∀ p, j < p → p < b → L dk[p]! = false
  perm : PermIn a b d dk
theorem PInv.start (L : Int → Bool) {a b pv : Nat} {d : Array Int} (h1 : a ≤ pv) (h2 : pv < b) (hb : b ≤ d.size) : PInv L a b (a + 1) (b - 1) d[pv]! d (swp d a pv) :=
  ⟨Nat.le_refl _, by omega, by omega, by
    by_cases e : a = pv
    · subst e; rw [swp_right _ _ _ (by omega)]
    · exact swp_left _ _ _ (by omega) e, fun p h h' => by omega, fun p h h' => by omega, swp_permIn d a b a pv (Nat.le_refl _) (by omega) h1 h2 hb⟩
theorem PInv.up {L : Int → Bool} {a b i j : Nat} {v : Int} {d dk : Array Int} (h : PInv L a b i j v d dk) (hij : i ≤ j) (hl : L dk[i]! = true) : PInv L a b (i + 1) j v d dk :=
  ⟨by have := h.i1; omega, by omega, h.jb, h.v, fun p h1 h2 => by
    by_cases e : p = i
    · rw [e]; exact hl
    · exact h.lo p h1 (by omega), h.hi, h.perm⟩
theorem PInv.down {L : Int → Bool} {a b i j : Nat} {v : Int} {d dk : Array Int} (h : PInv L a b i (j + 1) v d dk) (hij : i ≤ j + 1) (hl : L dk[j + 1]! = false) : PInv L a b i j v d dk :=
  ⟨h.i1, hij, by have := h.jb; omega, h.v, h.lo, fun p h1 h2 => by
    by_cases e : p = j + 1
    · rw [e]; exact hl
    · exact h.hi p (by omega) h2, h.perm⟩
theorem PInv.swap {L : Int → Bool} {a b i j : Nat} {v : Int} {d dk : Array Int} (h : PInv L a b i (j + 1) v d dk) (hij : i ≤ j + 1) (h1 : L dk[i]! = false) (h2 : L dk[j + 1]! = true) (hb : b ≤ d.size) : i ≤ j ∧ PInv L a b (i + 1) j v d (swp dk i (j + 1)) := by
  have hs : dk.size = d.size := h.perm.1
  have hne : i ≠ j + 1 := by rintro rfl; rw [h1] at h2; cases h2
  have b1 := h.i1
  have b2 := h.jb
  refine ⟨by omega, by omega, by omega, by omega, ?_, fun p q1 q2 => ?_, fun p q1 q2 => ?_, permIn_trans _ _ _ _ _ h.perm (swp_permIn dk a b i (j + 1) (by omega) (by omega) (by omega) (by omega) (by omega))⟩
  · rw [swp_other _ _ _ _ (by omega) (by omega)]; exact h.v
  · by_cases e : p = i
    · rw [e, swp_left _ _ _ (by omega) hne]; exact h2
    · rw [swp_other _ _ _ _ e (by omega)]; exact h.lo p q1 (by omega)
  · by_cases e : p = j + 1
    · rw [e, swp_right _ _ _ (by omega)]; exact h1
    · rw [swp_other _ _ _ _ (by omega) e]; exact h.hi p (by omega) q2
theorem PInv.swapj {L : Int → Bool} {a b i j : Nat} {v : Int} {d dk : Array Int} (h : PInv L a b i j v d dk) (hij : i ≤ j) (h1 : L dk[i]! = false) (h2 : L dk[j]! = true) (hb : b ≤ d.size) : i < j ∧ PInv L a b (i + 1) (j - 1) v d (swp dk i j) := by
  have b1 := h.i1
  obtain ⟨j2, rfl⟩ : ∃ j2, j = j2 + 1 := ⟨j - 1, by omega⟩
  have := h.swap hij h1 h2 hb
  exact ⟨by omega, this.2⟩
def lowE (v x : Int) : Bool := !ltInt v x
def lowP (v x : Int) : Bool := ltInt x v
/-- What partitionEqual leaves. -/
def PEq (a b m : Nat) (v : Int) (d d' : Array Int) : Prop := PermIn a b d d' ∧ a < m ∧ m ≤ b ∧ (∀ p, a ≤ p → p < m → ltInt v d'[p]! = false) ∧ ∀ p, m ≤ p → p < b → ltInt v d'[p]! = true
theorem peq_of {a b i j : Nat} {v : Int} {d dk : Array Int} (h : PInv (lowE v) a b i j v d dk) (hij : j < i) : PEq a b i v d dk := by
  have b1 := h.i1; have b2 := h.ij; have b3 := h.jb
  refine ⟨h.perm, by omega, by omega, fun p q1 q2 => ?_, fun p q1 q2 => ?_⟩
  · by_cases e : p = a
    · rw [e, h.v]; exact swo_ltInt.irrefl _
    · have := h.lo p (by omega) q2
      unfold lowE at this; simpa using this
  · have := h.hi p (by omega) q2
    unfold lowE at this; simpa using this
/-- What partition leaves. -/
def PPart (a b m : Nat) (d d' : Array Int) : Prop := PermIn a b d d' ∧ a ≤ m ∧ m < b ∧ (∀ p, a ≤ p → p < m → ltInt d'[p]! d'[m]! = true) ∧ ∀ p, m < p → p < b → ltInt d'[p]! d'[m]! = false
theorem ppart_of {a b i j : Nat} {v : Int} {d dk : Array Int} (h : PInv (lowP v) a b i j v d dk) (hij : j < i) (hb : b ≤ d.size) : PPart a b j d (swp dk j a) := by
  have b1 := h.i1; have b2 := h.ij; have b3 := h.jb
  have hs : dk.size = d.size := h.perm.1
  have hj : (swp dk j a)[j]! = v := by
    by_cases e : j = a
    · rw [e, swp_right _ _ _ (by omega)]; exact h.v
    · rw [swp_left _ _ _ (by omega) e]; exact h.v
  refine ⟨permIn_trans _ _ _ _ _ h.perm (swp_permIn dk a b j a (by omega) (by omega) (by omega) (by omega) (by omega)), by omega, b3, fun p q1 q2 => ?_, fun p q1 q2 => ?_⟩
  · rw [hj]
    by_cases e : p = a
    · rw [e, swp_right _ _ _ (by omega)]
      have := h.lo j (by omega) (by omega)
      exact this
    · rw [swp_other _ _ _ _ (by omega) e]
      exact h.lo p (by omega) (by omega)
  · rw [hj, swp_other _ _ _ _ (by omega) (by omega)]
    exact h.hi p q1 q2

set_option maxHeartbeats 4000000 in
set_option maxRecDepth 1000000 in
theorem peq_c (blk off cap : Nat) (a b pv : Nat) (za zb zp : Int) (hza : za = a) (hzb : zb = b) (hzp : zp = pv) (d0 d : Array Int) (w0 w : World) (n : Nat) (hn : n = d.size) (R : Row1 eU w0 blk off d0) (hs : d0.size = d.size) (S : SW eU w0 blk off d w) (hsz : d.size < 4611686018427387904) (h1 : a ≤ pv) (h2 : pv < b) (hb : b ≤ d.size) :
    Calls Tryz.prog 111 #[.slice (some ⟨blk, off, none⟩) n cap, .int .i64 za, .int .i64 zb, .int .i64 zp] w fun e w' => ∃ m : Nat, e = .returned (.int .i64 m) ∧ ∃ d', SW eU w0 blk off d' w' ∧ PEq a b m d[pv]! d d' := by
  subst hn hza hzb hzp
  obtain ⟨v, hv⟩ : ∃ v, d[pv]! = v := ⟨_, rfl⟩
  have P0 := PInv.start (lowE v) h1 h2 hb
  rw [hv] at P0
  rw [hv]
  have HP0 := Lib.hid P0
  have HD : Hid (d.size ≤ d.size) := Nat.le_refl _
  clear P0 hv
  have mixed : Tryz.prog.follows .mixedOrders = true := by kernel_rfl
  have S0 : Aside (SW eU w0 blk off d w) := S
  have HS := Lib.hid hs
  have HL := Lib.hid lessU_c
  clear S hs
  go_enter Tryz.func111, Tryz.ntmps111
  go_wp2_with fail
  have hsz2 := HD.out
  have bI : (a : Int) < (d.size : Int) := by omega
  have bJ : (pv : Int) < (d.size : Int) := by omega
  have S2 := S0.out.swapped R (a) (pv) (by omega) (by omega)
  have ca := S0.out.c1 R HS.out.symm (a) (by omega)
  have cb := S0.out.c1 R HS.out.symm (pv) (by omega)
  have fa := S0.out.f1 R HS.out.symm (a) (by omega)
  have fb := S0.out.f1 R HS.out.symm (pv) (by omega)
  obtain ⟨uc, cc⟩ := S0.out.c2 R HS.out.symm (a) (pv) (by omega) (by omega) (eU d[pv]!)
  clear hsz2
  generalize d[a]! = vI at S2 ca cc
  generalize d[pv]! = vJ at S2 cb cc
  replace S2 : Aside (SW eU w0 blk off (swp d (a) (pv)) ((w.setCell ⟨blk, off + a, none⟩ (.int .u64 vJ)).setCell ⟨blk, off + pv, none⟩ (.int .u64 vI)).drew) := S2
  replace ca : w.cell? ⟨blk, off + a, none⟩ = some (.int .u64 vI) := ca
  replace cb : w.cell? ⟨blk, off + pv, none⟩ = some (.int .u64 vJ) := cb
  replace cc : (w.setCell ⟨blk, off + a, none⟩ (.int .u64 vJ)).cell? ⟨blk, off + pv, none⟩ = some uc := cc
  clear S0
  go_wp2_with fail
  go_big_region
  clear ca cb fa fb cc bI bJ
  generalize ((w.setCell ⟨blk, off + a, none⟩ (.int .u64 vJ)).setCell ⟨blk, off + pv, none⟩ (.int .u64 vI)).drew = w2 at S2 ⊢
  clear HD
  go_wp2_with fail
  go_loopg [9, 10] b (fun kx s9 s10 wr => ∃ (i j : Nat) (dk : Array Int), s9 = .int .i64 i ∧ s10 = .int .i64 j ∧ i ≤ j + 1 ∧ a + 1 ≤ i ∧ j < b ∧ j ≤ kx ∧ Aside (SW eU w0 blk off dk wr) ∧ Hid (PInv (lowE v) a b i j v d dk))
  case atStart => exact ⟨a + 1, b - 1, swp d a pv, by go_num, by rw [Int.ofNat_sub (by omega)]; rfl, by omega, by omega, by omega, by omega, S2, HP0⟩
  case round =>
    clear S2 HP0
    obtain ⟨i0, j0, dk, rfl, rfl, hij0, hi0, hj0, hkx0, S1, PV⟩ := hrel
    have HD : Hid (dk.size = d.size) := PV.out.perm.1
    go_upto_block 2 with fail
    go_cut [9] from 29 to 45 (fun sx wx => ∃ i : Nat, sx = .int .i64 i ∧ i ≤ j0 + 1 ∧ a + 1 ≤ i ∧ Aside (SW eU w0 blk off dk wx) ∧ Hid (PInv (lowE v) a b i j0 v d dk) ∧ Hid (i ≤ j0 → lowE v dk[i]! = false))
    case first =>
      go_wp2_with fail
      go_loopg [9] (j0 + 1 - i0) (fun kx sx wx => ∃ i' : Nat, sx = .int .i64 i' ∧ i' ≤ j0 + 1 ∧ a + 1 ≤ i' ∧ j0 + 1 - i' ≤ kx ∧ Aside (SW eU w0 blk off dk wx) ∧ Hid (PInv (lowE v) a b i' j0 v d dk))
      case atStart => exact ⟨i0, rfl, by omega, by omega, Nat.le_refl _, S1, PV⟩
      case round =>
        clear S1 PV
        obtain ⟨i', rfl, hi1, hi2, hkx, S1, PV⟩ := hrel
        by_cases hij : i' ≤ j0
        · have hz : (i' : Int) ≤ (j0 : Int) := by omega
          have hsz2 := HD.out
          obtain ⟨x, hx⟩ : ∃ x, dk[i']! = x := ⟨_, rfl⟩
          have cx := S1.out.c1 R (by rw [HD.out]; exact HS.out.symm) (i') (by omega)
          rw [hx] at cx
          have cv := S1.out.c1 R (by rw [HD.out]; exact HS.out.symm) a (by omega)
          rw [PV.out.v] at cv
          replace cx : wr.cell? ⟨blk, off + i', none⟩ = some (.int .u64 x) := cx
          replace cv : wr.cell? ⟨blk, off + a, none⟩ = some (.int .u64 v) := cv
          have bx : (i' : Int) < (d.size : Int) := by omega
          have bv : (a : Int) < (d.size : Int) := by omega
          have EX := Lib.hid hx
          clear hx hsz2
          cases hl : ltInt v x with
          | true =>
              have HLx : Hid (lowE v dk[i']! = false) := by
                show _ = _
                rw [EX.out]; unfold lowE; rw [hl]; rfl
              go_wp2_with fail
              go_quiet ((go_at_call 110; with_reducible exact Calls.quiet_of_same (HL.out _ _ _)))
              have S2 : Aside (SW eU w0 blk off dk (wr.drewN nq)) := S1.out.drewN nq
              clear cx cv bx bv S1
              generalize wr.drewN nq = wq at S2 ⊢
              go_wp2
              go_meet
              case rel => exact ⟨i', rfl, by omega, by omega, S2, PV, Lib.hid (fun _ => HLx.out)⟩
          | false =>
              have HLx : Hid (lowE v dk[i']! = true) := by
                show _ = _
                rw [EX.out]; unfold lowE; rw [hl]; rfl
              go_wp2_with fail
              go_quiet ((go_at_call 110; with_reducible exact Calls.quiet_of_same (HL.out _ _ _)))
              have S2 : Aside (SW eU w0 blk off dk (wr.drewN nq)) := S1.out.drewN nq
              clear cx cv bx bv S1
              generalize wr.drewN nq = wq at S2 ⊢
              have HN : Hid (PInv (lowE v) a b (i' + 1) j0 v d dk) := Lib.hid (PV.out.up hij HLx.out)
              clear PV
              go_wp2
              go_roundg (j0 + 1 - (i' + 1))
              case measure => omega
              case rel => exact ⟨i' + 1, by go_num, by omega, by omega, Nat.le_refl _, S2, HN⟩
        · have hz : ¬ (i' : Int) ≤ (j0 : Int) := by omega
          have hzd : decide ((i' : Int) ≤ (j0 : Int)) = false := decide_eq_false hz
          go_wp2_with fail
          go_quiet ((go_at_call 110; with_reducible exact Calls.quiet_of_same (HL.out _ _ _)))
          have S2 : Aside (SW eU w0 blk off dk (wr.drewN nq)) := S1.out.drewN nq
          clear S1
          generalize wr.drewN nq = wq at S2 ⊢
          go_wp2
          go_meet
          case rel => exact ⟨i', rfl, by omega, by omega, S2, PV, Lib.hid (fun h => absurd h hij)⟩
    case rest =>
    obtain ⟨i, rfl, hij1, hi1, S3, PV, NI⟩ := hcut
    go_upto_block 4 with fail
    go_cut [10] from 46 to 61 (fun sx wx => ∃ j : Nat, sx = .int .i64 j ∧ i ≤ j + 1 ∧ j < b ∧ j ≤ j0 ∧ Aside (SW eU w0 blk off dk wx) ∧ Hid (PInv (lowE v) a b i j v d dk) ∧ Hid (i ≤ j → lowE v dk[j]! = true))
    case first =>
      go_wp2_with fail
      go_loopg [10] j0 (fun kx sx wx => ∃ j' : Nat, sx = .int .i64 j' ∧ i ≤ j' + 1 ∧ j' < b ∧ j' ≤ j0 ∧ j' ≤ kx ∧ Aside (SW eU w0 blk off dk wx) ∧ Hid (PInv (lowE v) a b i j' v d dk))
      case atStart => exact ⟨j0, rfl, by omega, by omega, Nat.le_refl _, Nat.le_refl _, S3, PV⟩
      case round =>
        clear S3 PV
        obtain ⟨j', rfl, hj1, hj2, hj3, hkx, S1, PV⟩ := hrel
        by_cases hij : i ≤ j'
        · have hz : (i : Int) ≤ (j' : Int) := by omega
          have hsz2 := HD.out
          obtain ⟨x, hx⟩ : ∃ x, dk[j']! = x := ⟨_, rfl⟩
          have cx := S1.out.c1 R (by rw [HD.out]; exact HS.out.symm) (j') (by omega)
          rw [hx] at cx
          have cv := S1.out.c1 R (by rw [HD.out]; exact HS.out.symm) a (by omega)
          rw [PV.out.v] at cv
          replace cx : wr.cell? ⟨blk, off + j', none⟩ = some (.int .u64 x) := cx
          replace cv : wr.cell? ⟨blk, off + a, none⟩ = some (.int .u64 v) := cv
          have bx : (j' : Int) < (d.size : Int) := by omega
          have bv : (a : Int) < (d.size : Int) := by omega
          have EX := Lib.hid hx
          clear hx hsz2
          cases hl : ltInt v x with
          | true =>
              have HLx : Hid (lowE v dk[j']! = false) := by
                show _ = _
                rw [EX.out]; unfold lowE; rw [hl]; rfl
              go_wp2_with fail
              go_quiet ((go_at_call 110; with_reducible exact Calls.quiet_of_same (HL.out _ _ _)))
              have S2 : Aside (SW eU w0 blk off dk (wr.drewN nq)) := S1.out.drewN nq
              clear cx cv bx bv S1
              generalize wr.drewN nq = wq at S2 ⊢
              obtain ⟨j2, rfl⟩ : ∃ j2, j' = j2 + 1 := ⟨j' - 1, by omega⟩
              have HN : Hid (PInv (lowE v) a b i j2 v d dk) := Lib.hid (PV.out.down hij HLx.out)
              clear PV
              go_wp2
              go_roundg (j2)
              case measure => omega
              case rel => exact ⟨j2, by go_num, by omega, by omega, by omega, Nat.le_refl _, S2, HN⟩
          | false =>
              have HLx : Hid (lowE v dk[j']! = true) := by
                show _ = _
                rw [EX.out]; unfold lowE; rw [hl]; rfl
              go_wp2_with fail
              go_quiet ((go_at_call 110; with_reducible exact Calls.quiet_of_same (HL.out _ _ _)))
              have S2 : Aside (SW eU w0 blk off dk (wr.drewN nq)) := S1.out.drewN nq
              clear cx cv bx bv S1
              generalize wr.drewN nq = wq at S2 ⊢
              go_wp2
              go_meet
              case rel => exact ⟨j', rfl, by omega, by omega, hj3, S2, PV, Lib.hid (fun _ => HLx.out)⟩
        · have hz : ¬ (i : Int) ≤ (j' : Int) := by omega
          have hzd : decide ((i : Int) ≤ (j' : Int)) = false := decide_eq_false hz
          go_wp2_with fail
          go_quiet ((go_at_call 110; with_reducible exact Calls.quiet_of_same (HL.out _ _ _)))
          have S2 : Aside (SW eU w0 blk off dk (wr.drewN nq)) := S1.out.drewN nq
          clear S1
          generalize wr.drewN nq = wq at S2 ⊢
          go_wp2
          go_meet
          case rel => exact ⟨j', rfl, by omega, by omega, hj3, S2, PV, Lib.hid (fun h => absurd h hij)⟩
    case rest =>
    obtain ⟨j, rfl, hij2, hj2, hj3, S4, PV, NJ⟩ := hcut
    by_cases hgt : j < i
    · have hz : (j : Int) < (i : Int) := by omega
      have HF := Lib.hid (peq_of PV.out hgt)
      clear PV NI NJ
      go_wp2_with fail
      go_ret
      exact ⟨i, rfl, dk, S4.out, HF.out⟩
    · have hz : ¬ (j : Int) < (i : Int) := by omega
      obtain ⟨hlt, PN0⟩ := PV.out.swapj (by omega) (NI.out (by omega)) (NJ.out (by omega)) hb
      have PN := Lib.hid PN0
      clear PN0 PV NI NJ
      go_wp2_with fail
      have hsz2 := HD.out
      have bI : (i : Int) < (d.size : Int) := by omega
      have bJ : (j : Int) < (d.size : Int) := by omega
      have S2 := S4.out.swapped R (i) (j) (by omega) (by omega)
      have ca := S4.out.c1 R (by rw [HD.out]; exact HS.out.symm) (i) (by omega)
      have cb := S4.out.c1 R (by rw [HD.out]; exact HS.out.symm) (j) (by omega)
      have fa := S4.out.f1 R (by rw [HD.out]; exact HS.out.symm) (i) (by omega)
      have fb := S4.out.f1 R (by rw [HD.out]; exact HS.out.symm) (j) (by omega)
      obtain ⟨uc, cc⟩ := S4.out.c2 R (by rw [HD.out]; exact HS.out.symm) (i) (j) (by omega) (by omega) (eU dk[j]!)
      clear hsz2
      generalize dk[i]! = vI at S2 ca cc
      generalize dk[j]! = vJ at S2 cb cc
      replace S2 : Aside (SW eU w0 blk off (swp dk (i) (j)) ((wc.setCell ⟨blk, off + i, none⟩ (.int .u64 vJ)).setCell ⟨blk, off + j, none⟩ (.int .u64 vI)).drew) := S2
      replace ca : wc.cell? ⟨blk, off + i, none⟩ = some (.int .u64 vI) := ca
      replace cb : wc.cell? ⟨blk, off + j, none⟩ = some (.int .u64 vJ) := cb
      replace cc : (wc.setCell ⟨blk, off + i, none⟩ (.int .u64 vJ)).cell? ⟨blk, off + j, none⟩ = some uc := cc
      clear S4
      go_wp2_with fail
      go_big_region
      clear ca cb fa fb cc bI bJ
      generalize ((wc.setCell ⟨blk, off + i, none⟩ (.int .u64 vJ)).setCell ⟨blk, off + j, none⟩ (.int .u64 vI)).drew = w2 at S2 ⊢
      go_wp2_with fail
      go_roundg (j - 1)
      case measure => omega
      case rel => exact ⟨i + 1, j - 1, swp dk i j, by go_num, by rw [Int.ofNat_sub (by omega)]; rfl, by omega, by omega, by omega, Nat.le_refl _, S2, PN⟩

set_option maxHeartbeats 4000000 in
set_option maxRecDepth 1000000 in
theorem part_c (blk off cap : Nat) (a b pv : Nat) (za zb zp : Int) (hza : za = a) (hzb : zb = b) (hzp : zp = pv) (d0 d : Array Int) (w0 w : World) (n : Nat) (hn : n = d.size) (R : Row1 eU w0 blk off d0) (hs : d0.size = d.size) (S : SW eU w0 blk off d w) (hsz : d.size < 4611686018427387904) (h1 : a ≤ pv) (h2 : pv < b) (hb : b ≤ d.size) :
    Calls Tryz.prog 112 #[.slice (some ⟨blk, off, none⟩) n cap, .int .i64 za, .int .i64 zb, .int .i64 zp] w fun e w' => ∃ (m : Nat) (t : Bool), e = .returned (.tuple #[.int .i64 m, .bool t]) ∧ ∃ d', SW eU w0 blk off d' w' ∧ PPart a b m d d' := by
  subst hn hza hzb hzp
  obtain ⟨v, hv⟩ : ∃ v, d[pv]! = v := ⟨_, rfl⟩
  have P0 := PInv.start (lowP v) h1 h2 hb
  rw [hv] at P0
  have HP0 := Lib.hid P0
  have HD : Hid (d.size ≤ d.size) := Nat.le_refl _
  clear P0 hv
  have mixed : Tryz.prog.follows .mixedOrders = true := by kernel_rfl
  have S0 : Aside (SW eU w0 blk off d w) := S
  have HS := Lib.hid hs
  have HL := Lib.hid lessU_c
  clear S hs
  go_enter Tryz.func112, Tryz.ntmps112
  go_wp2_with fail
  have hsz2 := HD.out
  have bI : (a : Int) < (d.size : Int) := by omega
  have bJ : (pv : Int) < (d.size : Int) := by omega
  have S2 := S0.out.swapped R (a) (pv) (by omega) (by omega)
  have ca := S0.out.c1 R HS.out.symm (a) (by omega)
  have cb := S0.out.c1 R HS.out.symm (pv) (by omega)
  have fa := S0.out.f1 R HS.out.symm (a) (by omega)
  have fb := S0.out.f1 R HS.out.symm (pv) (by omega)
  obtain ⟨uc, cc⟩ := S0.out.c2 R HS.out.symm (a) (pv) (by omega) (by omega) (eU d[pv]!)
  clear hsz2
  generalize d[a]! = vI at S2 ca cc
  generalize d[pv]! = vJ at S2 cb cc
  replace S2 : Aside (SW eU w0 blk off (swp d (a) (pv)) ((w.setCell ⟨blk, off + a, none⟩ (.int .u64 vJ)).setCell ⟨blk, off + pv, none⟩ (.int .u64 vI)).drew) := S2
  replace ca : w.cell? ⟨blk, off + a, none⟩ = some (.int .u64 vI) := ca
  replace cb : w.cell? ⟨blk, off + pv, none⟩ = some (.int .u64 vJ) := cb
  replace cc : (w.setCell ⟨blk, off + a, none⟩ (.int .u64 vJ)).cell? ⟨blk, off + pv, none⟩ = some uc := cc
  clear S0
  go_wp2_with fail
  go_big_region
  clear ca cb fa fb cc bI bJ
  generalize ((w.setCell ⟨blk, off + a, none⟩ (.int .u64 vJ)).setCell ⟨blk, off + pv, none⟩ (.int .u64 vI)).drew = w2 at S2 ⊢
  clear HD
  obtain ⟨dk, hdk⟩ : ∃ x, x = swp d a pv := ⟨_, rfl⟩
  rw [← hdk] at S2 HP0
  clear hdk
  have PV := HP0
  have HD : Hid (dk.size = d.size) := PV.out.perm.1
  clear HP0
  obtain ⟨i0, hi0e⟩ : ∃ x, x = a + 1 := ⟨_, rfl⟩
  obtain ⟨j0, hj0e⟩ : ∃ x, x = b - 1 := ⟨_, rfl⟩
  have z1 : (a : Int) + 1 = (i0 : Int) := by omega
  have z2 : (b : Int) - 1 = (j0 : Int) := by omega
  rw [← hi0e, ← hj0e] at PV
  have hij0 : i0 ≤ j0 + 1 := by omega
  have hi0 : a + 1 ≤ i0 := by omega
  have hj0 : j0 < b := by omega
  have hj0' : b ≤ j0 + 1 := by omega
  clear hi0e hj0e
  go_upto_block 0 with fail
  go_cut [10]  (fun sx wx => ∃ i : Nat, sx = .int .i64 i ∧ i ≤ j0 + 1 ∧ a + 1 ≤ i ∧ Aside (SW eU w0 blk off dk wx) ∧ Hid (PInv (lowP v) a b i j0 v d dk) ∧ Hid (i ≤ j0 → lowP v dk[i]! = false))
  case first =>
    go_wp2_with fail
    go_loopg [10] (j0 + 1 - i0) (fun kx sx wx => ∃ i' : Nat, sx = .int .i64 i' ∧ i' ≤ j0 + 1 ∧ a + 1 ≤ i' ∧ j0 + 1 - i' ≤ kx ∧ Aside (SW eU w0 blk off dk wx) ∧ Hid (PInv (lowP v) a b i' j0 v d dk))
    case atStart => exact ⟨i0, rfl, by omega, by omega, Nat.le_refl _, S2, PV⟩
    case round =>
      clear S2 PV
      obtain ⟨i', rfl, hi1, hi2, hkx, S1, PV⟩ := hrel
      by_cases hij : i' ≤ j0
      · have hz : (i' : Int) ≤ (j0 : Int) := by omega
        have hsz2 := HD.out
        obtain ⟨x, hx⟩ : ∃ x, dk[i']! = x := ⟨_, rfl⟩
        have cx := S1.out.c1 R (by rw [HD.out]; exact HS.out.symm) (i') (by omega)
        rw [hx] at cx
        have cv := S1.out.c1 R (by rw [HD.out]; exact HS.out.symm) a (by omega)
        rw [PV.out.v] at cv
        replace cx : wr.cell? ⟨blk, off + i', none⟩ = some (.int .u64 x) := cx
        replace cv : wr.cell? ⟨blk, off + a, none⟩ = some (.int .u64 v) := cv
        have bx : (i' : Int) < (d.size : Int) := by omega
        have bv : (a : Int) < (d.size : Int) := by omega
        have EX := Lib.hid hx
        clear hx hsz2
        cases hl : ltInt x v with
        | true =>
            have HLx : Hid (lowP v dk[i']! = true) := by
              show _ = _
              rw [EX.out]; unfold lowP; rw [hl]
            go_wp2_with fail
            go_quiet ((go_at_call 110; with_reducible exact Calls.quiet_of_same (HL.out _ _ _)))
            have S2 : Aside (SW eU w0 blk off dk (wr.drewN nq)) := S1.out.drewN nq
            clear cx cv bx bv S1
            generalize wr.drewN nq = wq at S2 ⊢
            have HN : Hid (PInv (lowP v) a b (i' + 1) j0 v d dk) := Lib.hid (PV.out.up hij HLx.out)
            clear PV
            go_wp2
            go_roundg (j0 + 1 - (i' + 1))
            case measure => omega
            case rel => exact ⟨i' + 1, by go_num, by omega, by omega, Nat.le_refl _, S2, HN⟩
        | false =>
            have HLx : Hid (lowP v dk[i']! = false) := by
              show _ = _
              rw [EX.out]; unfold lowP; rw [hl]
            go_wp2_with fail
            go_quiet ((go_at_call 110; with_reducible exact Calls.quiet_of_same (HL.out _ _ _)))
            have S2 : Aside (SW eU w0 blk off dk (wr.drewN nq)) := S1.out.drewN nq
            clear cx cv bx bv S1
            generalize wr.drewN nq = wq at S2 ⊢
            go_wp2
            go_meet
            case rel => exact ⟨i', rfl, by omega, by omega, S2, PV, Lib.hid (fun _ => HLx.out)⟩
      · have hz : ¬ (i' : Int) ≤ (j0 : Int) := by omega
        have hzd : decide ((i' : Int) ≤ (j0 : Int)) = false := decide_eq_false hz
        go_wp2_with fail
        go_quiet ((go_at_call 110; with_reducible exact Calls.quiet_of_same (HL.out _ _ _)))
        have S2 : Aside (SW eU w0 blk off dk (wr.drewN nq)) := S1.out.drewN nq
        clear S1
        generalize wr.drewN nq = wq at S2 ⊢
        go_wp2
        go_meet
        case rel => exact ⟨i', rfl, by omega, by omega, S2, PV, Lib.hid (fun h => absurd h hij)⟩
  case rest =>
  obtain ⟨i, rfl, hij1, hi1, S3, PV, NI⟩ := hcut
  go_upto_block 2 with fail
  go_cut [11]  (fun sx wx => ∃ j : Nat, sx = .int .i64 j ∧ i ≤ j + 1 ∧ j < b ∧ j ≤ j0 ∧ Aside (SW eU w0 blk off dk wx) ∧ Hid (PInv (lowP v) a b i j v d dk) ∧ Hid (i ≤ j → lowP v dk[j]! = true))
  case first =>
    go_wp2_with fail
    go_loopg [11] j0 (fun kx sx wx => ∃ j' : Nat, sx = .int .i64 j' ∧ i ≤ j' + 1 ∧ j' < b ∧ j' ≤ j0 ∧ j' ≤ kx ∧ Aside (SW eU w0 blk off dk wx) ∧ Hid (PInv (lowP v) a b i j' v d dk))
    case atStart => exact ⟨j0, rfl, by omega, by omega, Nat.le_refl _, Nat.le_refl _, S3, PV⟩
    case round =>
      clear S3 PV
      obtain ⟨j', rfl, hj1, hj2, hj3, hkx, S1, PV⟩ := hrel
      by_cases hij : i ≤ j'
      · have hz : (i : Int) ≤ (j' : Int) := by omega
        have hsz2 := HD.out
        obtain ⟨x, hx⟩ : ∃ x, dk[j']! = x := ⟨_, rfl⟩
        have cx := S1.out.c1 R (by rw [HD.out]; exact HS.out.symm) (j') (by omega)
        rw [hx] at cx
        have cv := S1.out.c1 R (by rw [HD.out]; exact HS.out.symm) a (by omega)
        rw [PV.out.v] at cv
        replace cx : wr.cell? ⟨blk, off + j', none⟩ = some (.int .u64 x) := cx
        replace cv : wr.cell? ⟨blk, off + a, none⟩ = some (.int .u64 v) := cv
        have bx : (j' : Int) < (d.size : Int) := by omega
        have bv : (a : Int) < (d.size : Int) := by omega
        have EX := Lib.hid hx
        clear hx hsz2
        cases hl : ltInt x v with
        | true =>
            have HLx : Hid (lowP v dk[j']! = true) := by
              show _ = _
              rw [EX.out]; unfold lowP; rw [hl]
            go_wp2_with fail
            go_quiet ((go_at_call 110; with_reducible exact Calls.quiet_of_same (HL.out _ _ _)))
            have S2 : Aside (SW eU w0 blk off dk (wr.drewN nq)) := S1.out.drewN nq
            clear cx cv bx bv S1
            generalize wr.drewN nq = wq at S2 ⊢
            go_wp2
            go_meet
            case rel => exact ⟨j', rfl, by omega, by omega, hj3, S2, PV, Lib.hid (fun _ => HLx.out)⟩
        | false =>
            have HLx : Hid (lowP v dk[j']! = false) := by
              show _ = _
              rw [EX.out]; unfold lowP; rw [hl]
            go_wp2_with fail
            go_quiet ((go_at_call 110; with_reducible exact Calls.quiet_of_same (HL.out _ _ _)))
            have S2 : Aside (SW eU w0 blk off dk (wr.drewN nq)) := S1.out.drewN nq
            clear cx cv bx bv S1
            generalize wr.drewN nq = wq at S2 ⊢
            obtain ⟨j2, rfl⟩ : ∃ j2, j' = j2 + 1 := ⟨j' - 1, by omega⟩
            have HN : Hid (PInv (lowP v) a b i j2 v d dk) := Lib.hid (PV.out.down hij HLx.out)
            clear PV
            go_wp2
            go_roundg (j2)
            case measure => omega
            case rel => exact ⟨j2, by go_num, by omega, by omega, by omega, Nat.le_refl _, S2, HN⟩
      · have hz : ¬ (i : Int) ≤ (j' : Int) := by omega
        have hzd : decide ((i : Int) ≤ (j' : Int)) = false := decide_eq_false hz
        go_wp2_with fail
        go_quiet ((go_at_call 110; with_reducible exact Calls.quiet_of_same (HL.out _ _ _)))
        have S2 : Aside (SW eU w0 blk off dk (wr.drewN nq)) := S1.out.drewN nq
        clear S1
        generalize wr.drewN nq = wq at S2 ⊢
        go_wp2
        go_meet
        case rel => exact ⟨j', rfl, by omega, by omega, hj3, S2, PV, Lib.hid (fun h => absurd h hij)⟩
  case rest =>
  obtain ⟨j, rfl, hij2, hj2, hj3, S4, PV, NJ⟩ := hcut
  by_cases hgt : j < i
  · have hz : (j : Int) < (i : Int) := by omega
    have HF := Lib.hid (ppart_of PV.out hgt hb)
    have hja : a ≤ j := by have := PV.out.i1; omega
    clear PV NI NJ
    go_wp2_with fail
    have hsz2 := HD.out
    have bI : (j : Int) < (d.size : Int) := by omega
    have bJ : (a : Int) < (d.size : Int) := by omega
    have S2 := S4.out.swapped R (j) (a) (by omega) (by omega)
    have ca := S4.out.c1 R (by rw [HD.out]; exact HS.out.symm) (j) (by omega)
    have cb := S4.out.c1 R (by rw [HD.out]; exact HS.out.symm) (a) (by omega)
    have fa := S4.out.f1 R (by rw [HD.out]; exact HS.out.symm) (j) (by omega)
    have fb := S4.out.f1 R (by rw [HD.out]; exact HS.out.symm) (a) (by omega)
    obtain ⟨uc, cc⟩ := S4.out.c2 R (by rw [HD.out]; exact HS.out.symm) (j) (a) (by omega) (by omega) (eU dk[a]!)
    clear hsz2
    generalize dk[j]! = vI at S2 ca cc
    generalize dk[a]! = vJ at S2 cb cc
    replace S2 : Aside (SW eU w0 blk off (swp dk (j) (a)) ((wc.setCell ⟨blk, off + j, none⟩ (.int .u64 vJ)).setCell ⟨blk, off + a, none⟩ (.int .u64 vI)).drew) := S2
    replace ca : wc.cell? ⟨blk, off + j, none⟩ = some (.int .u64 vI) := ca
    replace cb : wc.cell? ⟨blk, off + a, none⟩ = some (.int .u64 vJ) := cb
    replace cc : (wc.setCell ⟨blk, off + j, none⟩ (.int .u64 vJ)).cell? ⟨blk, off + a, none⟩ = some uc := cc
    clear S4
    go_wp2_with fail
    go_big_region
    clear ca cb fa fb cc bI bJ
    generalize ((wc.setCell ⟨blk, off + j, none⟩ (.int .u64 vJ)).setCell ⟨blk, off + a, none⟩ (.int .u64 vI)).drew = w2 at S2 ⊢
    go_wp2_with fail
    go_ret2
    exact ⟨j, true, rfl, _, S2, HF.out⟩
  · have hz : ¬ (j : Int) < (i : Int) := by omega
    obtain ⟨hlt, PN0⟩ := PV.out.swapj (by omega) (NI.out (by omega)) (NJ.out (by omega)) hb
    have PN := Lib.hid PN0
    clear PN0 PV NI NJ
    go_wp2_with fail
    have hsz2 := HD.out
    have bI : (i : Int) < (d.size : Int) := by omega
    have bJ : (j : Int) < (d.size : Int) := by omega
    have S2 := S4.out.swapped R (i) (j) (by omega) (by omega)
    have ca := S4.out.c1 R (by rw [HD.out]; exact HS.out.symm) (i) (by omega)
    have cb := S4.out.c1 R (by rw [HD.out]; exact HS.out.symm) (j) (by omega)
    have fa := S4.out.f1 R (by rw [HD.out]; exact HS.out.symm) (i) (by omega)
    have fb := S4.out.f1 R (by rw [HD.out]; exact HS.out.symm) (j) (by omega)
    obtain ⟨uc, cc⟩ := S4.out.c2 R (by rw [HD.out]; exact HS.out.symm) (i) (j) (by omega) (by omega) (eU dk[j]!)
    clear hsz2
    generalize dk[i]! = vI at S2 ca cc
    generalize dk[j]! = vJ at S2 cb cc
    replace S2 : Aside (SW eU w0 blk off (swp dk (i) (j)) ((wc.setCell ⟨blk, off + i, none⟩ (.int .u64 vJ)).setCell ⟨blk, off + j, none⟩ (.int .u64 vI)).drew) := S2
    replace ca : wc.cell? ⟨blk, off + i, none⟩ = some (.int .u64 vI) := ca
    replace cb : wc.cell? ⟨blk, off + j, none⟩ = some (.int .u64 vJ) := cb
    replace cc : (wc.setCell ⟨blk, off + i, none⟩ (.int .u64 vJ)).cell? ⟨blk, off + j, none⟩ = some uc := cc
    clear S4
    go_wp2_with fail
    go_big_region
    clear ca cb fa fb cc bI bJ
    generalize ((wc.setCell ⟨blk, off + i, none⟩ (.int .u64 vJ)).setCell ⟨blk, off + j, none⟩ (.int .u64 vI)).drew = w2 at S2 ⊢
    clear HD
    go_wp2_with fail
    go_loopg [10, 11] b (fun kx s10 s11 wr => ∃ (i j : Nat) (dk : Array Int), s10 = .int .i64 i ∧ s11 = .int .i64 j ∧ i ≤ j + 1 ∧ a + 1 ≤ i ∧ j < b ∧ j ≤ kx ∧ Aside (SW eU w0 blk off dk wr) ∧ Hid (PInv (lowP v) a b i j v d dk))
    case atStart => exact ⟨i + 1, j - 1, swp dk i j, by go_num, by rw [Int.ofNat_sub (by omega)]; rfl, by omega, by omega, by omega, by omega, S2, PN⟩
    case round =>
      clear S2 PN hlt hz hgt hij2 hj2 hj3 hij1 hi1 hij0 hi0 hj0 hj0' z1 z2
      obtain ⟨i0, j0, dk, rfl, rfl, hij0, hi0, hj0, hkx0, S1, PV⟩ := hrel
      have HD : Hid (dk.size = d.size) := PV.out.perm.1
      go_upto_block 6 with fail
      go_cut [10] from 99 to 114 (fun sx wx => ∃ i : Nat, sx = .int .i64 i ∧ i ≤ j0 + 1 ∧ a + 1 ≤ i ∧ Aside (SW eU w0 blk off dk wx) ∧ Hid (PInv (lowP v) a b i j0 v d dk) ∧ Hid (i ≤ j0 → lowP v dk[i]! = false))
      case first =>
        go_wp2_with fail
        go_loopg [10] (j0 + 1 - i0) (fun kx sx wx => ∃ i' : Nat, sx = .int .i64 i' ∧ i' ≤ j0 + 1 ∧ a + 1 ≤ i' ∧ j0 + 1 - i' ≤ kx ∧ Aside (SW eU w0 blk off dk wx) ∧ Hid (PInv (lowP v) a b i' j0 v d dk))
        case atStart => exact ⟨i0, rfl, by omega, by omega, Nat.le_refl _, S1, PV⟩
        case round =>
          clear S1 PV
          obtain ⟨i', rfl, hi1, hi2, hkx, S1, PV⟩ := hrel
          by_cases hij : i' ≤ j0
          · have hz : (i' : Int) ≤ (j0 : Int) := by omega
            have hsz2 := HD.out
            obtain ⟨x, hx⟩ : ∃ x, dk[i']! = x := ⟨_, rfl⟩
            have cx := S1.out.c1 R (by rw [HD.out]; exact HS.out.symm) (i') (by omega)
            rw [hx] at cx
            have cv := S1.out.c1 R (by rw [HD.out]; exact HS.out.symm) a (by omega)
            rw [PV.out.v] at cv
            replace cx : wr.cell? ⟨blk, off + i', none⟩ = some (.int .u64 x) := cx
            replace cv : wr.cell? ⟨blk, off + a, none⟩ = some (.int .u64 v) := cv
            have bx : (i' : Int) < (d.size : Int) := by omega
            have bv : (a : Int) < (d.size : Int) := by omega
            have EX := Lib.hid hx
            clear hx hsz2
            cases hl : ltInt x v with
            | true =>
                have HLx : Hid (lowP v dk[i']! = true) := by
                  show _ = _
                  rw [EX.out]; unfold lowP; rw [hl]
                go_wp2_with fail
                go_quiet ((go_at_call 110; with_reducible exact Calls.quiet_of_same (HL.out _ _ _)))
                have S2 : Aside (SW eU w0 blk off dk (wr.drewN nq)) := S1.out.drewN nq
                clear cx cv bx bv S1
                generalize wr.drewN nq = wq at S2 ⊢
                have HN : Hid (PInv (lowP v) a b (i' + 1) j0 v d dk) := Lib.hid (PV.out.up hij HLx.out)
                clear PV
                go_wp2
                go_roundg (j0 + 1 - (i' + 1))
                case measure => omega
                case rel => exact ⟨i' + 1, by go_num, by omega, by omega, Nat.le_refl _, S2, HN⟩
            | false =>
                have HLx : Hid (lowP v dk[i']! = false) := by
                  show _ = _
                  rw [EX.out]; unfold lowP; rw [hl]
                go_wp2_with fail
                go_quiet ((go_at_call 110; with_reducible exact Calls.quiet_of_same (HL.out _ _ _)))
                have S2 : Aside (SW eU w0 blk off dk (wr.drewN nq)) := S1.out.drewN nq
                clear cx cv bx bv S1
                generalize wr.drewN nq = wq at S2 ⊢
                go_wp2
                go_meet
                case rel => exact ⟨i', rfl, by omega, by omega, S2, PV, Lib.hid (fun _ => HLx.out)⟩
          · have hz : ¬ (i' : Int) ≤ (j0 : Int) := by omega
            have hzd : decide ((i' : Int) ≤ (j0 : Int)) = false := decide_eq_false hz
            go_wp2_with fail
            go_quiet ((go_at_call 110; with_reducible exact Calls.quiet_of_same (HL.out _ _ _)))
            have S2 : Aside (SW eU w0 blk off dk (wr.drewN nq)) := S1.out.drewN nq
            clear S1
            generalize wr.drewN nq = wq at S2 ⊢
            go_wp2
            go_meet
            case rel => exact ⟨i', rfl, by omega, by omega, S2, PV, Lib.hid (fun h => absurd h hij)⟩
      case rest =>
      obtain ⟨i, rfl, hij1, hi1, S3, PV, NI⟩ := hcut
      go_upto_block 8 with fail
      go_cut [11] from 115 to 131 (fun sx wx => ∃ j : Nat, sx = .int .i64 j ∧ i ≤ j + 1 ∧ j < b ∧ j ≤ j0 ∧ Aside (SW eU w0 blk off dk wx) ∧ Hid (PInv (lowP v) a b i j v d dk) ∧ Hid (i ≤ j → lowP v dk[j]! = true))
      case first =>
        go_wp2_with fail
        go_loopg [11] j0 (fun kx sx wx => ∃ j' : Nat, sx = .int .i64 j' ∧ i ≤ j' + 1 ∧ j' < b ∧ j' ≤ j0 ∧ j' ≤ kx ∧ Aside (SW eU w0 blk off dk wx) ∧ Hid (PInv (lowP v) a b i j' v d dk))
        case atStart => exact ⟨j0, rfl, by omega, by omega, Nat.le_refl _, Nat.le_refl _, S3, PV⟩
        case round =>
          clear S3 PV
          obtain ⟨j', rfl, hj1, hj2, hj3, hkx, S1, PV⟩ := hrel
          by_cases hij : i ≤ j'
          · have hz : (i : Int) ≤ (j' : Int) := by omega
            have hsz2 := HD.out
            obtain ⟨x, hx⟩ : ∃ x, dk[j']! = x := ⟨_, rfl⟩
            have cx := S1.out.c1 R (by rw [HD.out]; exact HS.out.symm) (j') (by omega)
            rw [hx] at cx
            have cv := S1.out.c1 R (by rw [HD.out]; exact HS.out.symm) a (by omega)
            rw [PV.out.v] at cv
            replace cx : wr.cell? ⟨blk, off + j', none⟩ = some (.int .u64 x) := cx
            replace cv : wr.cell? ⟨blk, off + a, none⟩ = some (.int .u64 v) := cv
            have bx : (j' : Int) < (d.size : Int) := by omega
            have bv : (a : Int) < (d.size : Int) := by omega
            have EX := Lib.hid hx
            clear hx hsz2
            cases hl : ltInt x v with
            | true =>
                have HLx : Hid (lowP v dk[j']! = true) := by
                  show _ = _
                  rw [EX.out]; unfold lowP; rw [hl]
                go_wp2_with fail
                go_quiet ((go_at_call 110; with_reducible exact Calls.quiet_of_same (HL.out _ _ _)))
                have S2 : Aside (SW eU w0 blk off dk (wr.drewN nq)) := S1.out.drewN nq
                clear cx cv bx bv S1
                generalize wr.drewN nq = wq at S2 ⊢
                go_wp2
                go_meet
                case rel => exact ⟨j', rfl, by omega, by omega, hj3, S2, PV, Lib.hid (fun _ => HLx.out)⟩
            | false =>
                have HLx : Hid (lowP v dk[j']! = false) := by
                  show _ = _
                  rw [EX.out]; unfold lowP; rw [hl]
                go_wp2_with fail
                go_quiet ((go_at_call 110; with_reducible exact Calls.quiet_of_same (HL.out _ _ _)))
                have S2 : Aside (SW eU w0 blk off dk (wr.drewN nq)) := S1.out.drewN nq
                clear cx cv bx bv S1
                generalize wr.drewN nq = wq at S2 ⊢
                obtain ⟨j2, rfl⟩ : ∃ j2, j' = j2 + 1 := ⟨j' - 1, by omega⟩
                have HN : Hid (PInv (lowP v) a b i j2 v d dk) := Lib.hid (PV.out.down hij HLx.out)
                clear PV
                go_wp2
                go_roundg (j2)
                case measure => omega
                case rel => exact ⟨j2, by go_num, by omega, by omega, by omega, Nat.le_refl _, S2, HN⟩
          · have hz : ¬ (i : Int) ≤ (j' : Int) := by omega
            have hzd : decide ((i : Int) ≤ (j' : Int)) = false := decide_eq_false hz
            go_wp2_with fail
            go_quiet ((go_at_call 110; with_reducible exact Calls.quiet_of_same (HL.out _ _ _)))
            have S2 : Aside (SW eU w0 blk off dk (wr.drewN nq)) := S1.out.drewN nq
            clear S1
            generalize wr.drewN nq = wq at S2 ⊢
            go_wp2
            go_meet
            case rel => exact ⟨j', rfl, by omega, by omega, hj3, S2, PV, Lib.hid (fun h => absurd h hij)⟩
      case rest =>
      obtain ⟨j, rfl, hij2, hj2, hj3, S4, PV, NJ⟩ := hcut
      by_cases hgt : j < i
      · have hz : (j : Int) < (i : Int) := by omega
        have HF := Lib.hid (ppart_of PV.out hgt hb)
        have hja : a ≤ j := by have := PV.out.i1; omega
        clear PV NI NJ
        go_wp2_with fail
        have hsz2 := HD.out
        have bI : (j : Int) < (d.size : Int) := by omega
        have bJ : (a : Int) < (d.size : Int) := by omega
        have S2 := S4.out.swapped R (j) (a) (by omega) (by omega)
        have ca := S4.out.c1 R (by rw [HD.out]; exact HS.out.symm) (j) (by omega)
        have cb := S4.out.c1 R (by rw [HD.out]; exact HS.out.symm) (a) (by omega)
        have fa := S4.out.f1 R (by rw [HD.out]; exact HS.out.symm) (j) (by omega)
        have fb := S4.out.f1 R (by rw [HD.out]; exact HS.out.symm) (a) (by omega)
        obtain ⟨uc, cc⟩ := S4.out.c2 R (by rw [HD.out]; exact HS.out.symm) (j) (a) (by omega) (by omega) (eU dk[a]!)
        clear hsz2
        generalize dk[j]! = vI at S2 ca cc
        generalize dk[a]! = vJ at S2 cb cc
        replace S2 : Aside (SW eU w0 blk off (swp dk (j) (a)) ((wc.setCell ⟨blk, off + j, none⟩ (.int .u64 vJ)).setCell ⟨blk, off + a, none⟩ (.int .u64 vI)).drew) := S2
        replace ca : wc.cell? ⟨blk, off + j, none⟩ = some (.int .u64 vI) := ca
        replace cb : wc.cell? ⟨blk, off + a, none⟩ = some (.int .u64 vJ) := cb
        replace cc : (wc.setCell ⟨blk, off + j, none⟩ (.int .u64 vJ)).cell? ⟨blk, off + a, none⟩ = some uc := cc
        clear S4
        go_wp2_with fail
        go_big_region
        clear ca cb fa fb cc bI bJ
        generalize ((wc.setCell ⟨blk, off + j, none⟩ (.int .u64 vJ)).setCell ⟨blk, off + a, none⟩ (.int .u64 vI)).drew = w2 at S2 ⊢
        go_wp2_with fail
        go_ret2
        exact ⟨j, false, rfl, _, S2, HF.out⟩
      · have hz : ¬ (j : Int) < (i : Int) := by omega
        obtain ⟨hlt, PN0⟩ := PV.out.swapj (by omega) (NI.out (by omega)) (NJ.out (by omega)) hb
        have PN := Lib.hid PN0
        clear PN0 PV NI NJ
        go_wp2_with fail
        have hsz2 := HD.out
        have bI : (i : Int) < (d.size : Int) := by omega
        have bJ : (j : Int) < (d.size : Int) := by omega
        have S2 := S4.out.swapped R (i) (j) (by omega) (by omega)
        have ca := S4.out.c1 R (by rw [HD.out]; exact HS.out.symm) (i) (by omega)
        have cb := S4.out.c1 R (by rw [HD.out]; exact HS.out.symm) (j) (by omega)
        have fa := S4.out.f1 R (by rw [HD.out]; exact HS.out.symm) (i) (by omega)
        have fb := S4.out.f1 R (by rw [HD.out]; exact HS.out.symm) (j) (by omega)
        obtain ⟨uc, cc⟩ := S4.out.c2 R (by rw [HD.out]; exact HS.out.symm) (i) (j) (by omega) (by omega) (eU dk[j]!)
        clear hsz2
        generalize dk[i]! = vI at S2 ca cc
        generalize dk[j]! = vJ at S2 cb cc
        replace S2 : Aside (SW eU w0 blk off (swp dk (i) (j)) ((wc.setCell ⟨blk, off + i, none⟩ (.int .u64 vJ)).setCell ⟨blk, off + j, none⟩ (.int .u64 vI)).drew) := S2
        replace ca : wc.cell? ⟨blk, off + i, none⟩ = some (.int .u64 vI) := ca
        replace cb : wc.cell? ⟨blk, off + j, none⟩ = some (.int .u64 vJ) := cb
        replace cc : (wc.setCell ⟨blk, off + i, none⟩ (.int .u64 vJ)).cell? ⟨blk, off + j, none⟩ = some uc := cc
        clear S4
        go_wp2_with fail
        go_big_region
        clear ca cb fa fb cc bI bJ
        generalize ((wc.setCell ⟨blk, off + i, none⟩ (.int .u64 vJ)).setCell ⟨blk, off + j, none⟩ (.int .u64 vI)).drew = w2 at S2 ⊢
        go_wp2_with fail
        go_roundg (j - 1)
        case measure => omega
        case rel => exact ⟨i + 1, j - 1, swp dk i j, by go_num, by rw [Int.ofNat_sub (by omega)]; rfl, by omega, by omega, by omega, Nat.le_refl _, S2, PN⟩
end Go.Proofs.YtgbmgdffgmablaaGreat

namespace Go.Proofs.YtgbmgdffgmablaaGreat
open Go.RowKit Go.Sort Go.Lib Go.Shelf


set_option maxHeartbeats 4000000 in
set_option maxRecDepth 1000000 in
theorem rev_c (blk off cap : Nat) (a b : Nat) (za zb : Int) (hza : za = a) (hzb : zb = b) (d0 d : Array Int) (w0 w : World) (n : Nat) (hn : n = d.size) (R : Row1 eU w0 blk off d0) (hs : d0.size = d.size) (S : SW eU w0 blk off d w) (hsz : d.size < 4611686018427387904) (hab : a < b) (hb : b ≤ d.size) :
    Calls Tryz.prog 108 #[.slice (some ⟨blk, off, none⟩) n cap, .int .i64 za, .int .i64 zb] w fun e w' => e = .returned (.tuple #[]) ∧ ∃ d', SW eU w0 blk off d' w' ∧ PermIn a b d d' := by
  subst hn hza hzb
  have mixed : Tryz.prog.follows .mixedOrders = true := by kernel_rfl
  have S0 : Aside (SW eU w0 blk off d w) := S
  have HS := Lib.hid hs
  have HL := Lib.hid lessU_c
  clear S hs
  go_enter Tryz.func108, Tryz.ntmps108
  obtain ⟨j0, hj0⟩ : ∃ j, j = b - 1 := ⟨_, rfl⟩
  have z1 : (b : Int) - 1 = (j0 : Int) := by omega
  have l1 : j0 < b := by omega
  have l2 : a ≤ j0 := by omega
  clear hj0
  go_wp2
  go_loopg [6, 7] b (fun kx s6 s7 wr => ∃ (i j : Nat) (dk : Array Int), s6 = .int .i64 i ∧ s7 = .int .i64 j ∧ a ≤ i ∧ i ≤ j + 1 ∧ j < b ∧ j ≤ kx ∧ Aside (SW eU w0 blk off dk wr) ∧ PermIn a b d dk)
  case atStart => exact ⟨a, j0, d, rfl, rfl, by omega, by omega, by omega, by omega, S0, permIn_refl _ _ _⟩
  case round =>
    clear S0
    obtain ⟨i, j, dk, rfl, rfl, hai, hij, hjb, hkx, S1, HPm⟩ := hrel
    have HD : Hid (dk.size = d.size) := HPm.1
    by_cases hlt : i < j
    · have hz : (i : Int) < (j : Int) := by omega
      have HPn : PermIn a b d (swp dk i j) := permIn_trans _ _ _ _ _ HPm (swp_permIn dk a b i j (by omega) (by omega) (by omega) (by omega) (by rw [HD.out]; omega))
      clear HPm
      go_wp2_with fail
      have hsz2 := HD.out
      have bI : (i : Int) < (d.size : Int) := by omega
      have bJ : (j : Int) < (d.size : Int) := by omega
      have S2 := S1.out.swapped R (i) (j) (by omega) (by omega)
      have ca := S1.out.c1 R (by rw [HD.out]; exact HS.out.symm) (i) (by omega)
      have cb := S1.out.c1 R (by rw [HD.out]; exact HS.out.symm) (j) (by omega)
      have fa := S1.out.f1 R (by rw [HD.out]; exact HS.out.symm) (i) (by omega)
      have fb := S1.out.f1 R (by rw [HD.out]; exact HS.out.symm) (j) (by omega)
      obtain ⟨uc, cc⟩ := S1.out.c2 R (by rw [HD.out]; exact HS.out.symm) (i) (j) (by omega) (by omega) (eU dk[j]!)
      clear hsz2
      generalize dk[i]! = vI at S2 ca cc
      generalize dk[j]! = vJ at S2 cb cc
      replace S2 : Aside (SW eU w0 blk off (swp dk (i) (j)) ((wr.setCell ⟨blk, off + i, none⟩ (.int .u64 vJ)).setCell ⟨blk, off + j, none⟩ (.int .u64 vI)).drew) := S2
      replace ca : wr.cell? ⟨blk, off + i, none⟩ = some (.int .u64 vI) := ca
      replace cb : wr.cell? ⟨blk, off + j, none⟩ = some (.int .u64 vJ) := cb
      replace cc : (wr.setCell ⟨blk, off + i, none⟩ (.int .u64 vJ)).cell? ⟨blk, off + j, none⟩ = some uc := cc
      clear S1
      go_wp2_with fail
      go_big_region
      clear ca cb fa fb cc bI bJ
      generalize ((wr.setCell ⟨blk, off + i, none⟩ (.int .u64 vJ)).setCell ⟨blk, off + j, none⟩ (.int .u64 vI)).drew = w2 at S2 ⊢
      go_wp2_with fail
      go_roundg (j - 1)
      case measure => omega
      case rel => exact ⟨i + 1, j - 1, swp dk i j, by go_num, by rw [Int.ofNat_sub (by omega)]; rfl, by omega, by omega, by omega, Nat.le_refl _, S2, HPn⟩
    · have hz : ¬ (i : Int) < (j : Int) := by omega
      clear HD
      go_wp2
      go_end0
      exact ⟨rfl, dk, S1.out, HPm⟩

theorem ss_go {d : Array Int} {b i : Nat} (h : i < b) (hl : ltInt d[i]! d[i - 1]! = false) : scanSorted ltInt d b i = scanSorted ltInt d b (i + 1) := by
  conv => lhs; rw [scanSorted]
  rw [if_pos (by rw [hl]; simpa using h)]
theorem ss_stop {d : Array Int} {b i : Nat} (h : ¬ i < b ∨ ltInt d[i]! d[i - 1]! = true) : scanSorted ltInt d b i = i := by
  rw [scanSorted, if_neg (by
    intro hc
    rw [Bool.and_eq_true, decide_eq_true_iff] at hc
    rcases h with h | h
    · exact h hc.1
    · rw [h] at hc; cases hc.2)]
theorem sdn_go {d : Array Int} {j : Nat} (hl : ltInt d[j + 1]! d[j]! = true) : shiftDown ltInt (j + 1) d = shiftDown ltInt j (swp d (j + 1) j) := by
  show (if (!ltInt d[j + 1]! d[j]!) = true then d else _) = _
  rw [hl, if_neg (by decide)]
theorem sdn_stop {d : Array Int} {j : Nat} (hl : ltInt d[j + 1]! d[j]! = false) : shiftDown ltInt (j + 1) d = d := by
  show (if (!ltInt d[j + 1]! d[j]!) = true then d else _) = _
  rw [hl, if_pos (by decide)]
theorem sup_go {d : Array Int} {b j : Nat} (h : j < b) (hl : ltInt d[j]! d[j - 1]! = true) : shiftUp ltInt b j d = shiftUp ltInt b (j + 1) (swp d j (j - 1)) := by
  conv => lhs; rw [shiftUp]
  rw [if_pos h, hl, if_neg (by decide)]
theorem sup_stop {d : Array Int} {b j : Nat} (h : ¬ j < b ∨ ltInt d[j]! d[j - 1]! = false) : shiftUp ltInt b j d = d := by
  rw [shiftUp]
  by_cases h1 : j < b
  · rw [if_pos h1]
    rcases h with h | h
    · exact absurd h1 h
    · rw [h, if_pos (by decide)]
  · rw [if_neg h1]
theorem size_sdn : ∀ (j : Nat) (d : Array Int), (shiftDown ltInt j d).size = d.size
  | 0, _ => rfl
  | j + 1, d => by
    cases h : ltInt d[j + 1]! d[j]! with
    | true => rw [sdn_go h, size_sdn j, size_swp]
    | false => rw [sdn_stop h]
def dnOf (a i : Nat) (d : Array Int) : Array Int := if i - a ≥ 2 then shiftDown ltInt (i - 1) d else d
def upOf (b i : Nat) (d : Array Int) : Array Int := if b - i ≥ 2 then shiftUp ltInt b (i + 1) d else d
theorem size_dn (a i : Nat) (d : Array Int) : (dnOf a i d).size = d.size := by unfold dnOf; split; exact size_sdn _ _; rfl
theorem pi_done {a b t i : Nat} {d : Array Int} (h : scanSorted ltInt d b i = b) : partialIns ltInt a b (t + 1) i d = (d, true) := by
  show (if scanSorted ltInt d b i = b then _ else _) = _
  rw [if_pos h]
theorem pi_short {a b t i k : Nat} {d : Array Int} (h : scanSorted ltInt d b i = k) (hk : k ≠ b) (hs : b - a < 50) : partialIns ltInt a b (t + 1) i d = (d, false) := by
  show (if scanSorted ltInt d b i = b then _ else if b - a < 50 then _ else _) = _
  rw [if_neg (by rw [h]; exact hk), if_pos hs]
theorem pi_next {a b t i k : Nat} {d : Array Int} (h : scanSorted ltInt d b i = k) (hk : k ≠ b) (hs : ¬ b - a < 50) : partialIns ltInt a b (t + 1) i d = partialIns ltInt a b t k (upOf b k (dnOf a k (swp d k (k - 1)))) := by
  subst h
  show (if scanSorted ltInt d b i = b then _ else if b - a < 50 then _ else _) = _
  rw [if_neg hk, if_neg hs]
  rfl

set_option maxHeartbeats 4000000 in
set_option maxRecDepth 1000000 in
theorem pins_c (blk off cap : Nat) (a b : Nat) (za zb : Int) (hza : za = a) (hzb : zb = b) (d0 d : Array Int) (w0 w : World) (n : Nat) (hn : n = d.size) (R : Row1 eU w0 blk off d0) (hs : d0.size = d.size) (S : SW eU w0 blk off d w) (hsz : d.size < 4611686018427387904) (hab : a < b) (hb : b ≤ d.size) :
    Calls Tryz.prog 109 #[.slice (some ⟨blk, off, none⟩) n cap, .int .i64 za, .int .i64 zb] w fun e w' => e = .returned (.bool (partialIns ltInt a b 5 (a + 1) d).2) ∧ SW eU w0 blk off (partialIns ltInt a b 5 (a + 1) d).1 w' := by
  subst hn hza hzb
  obtain ⟨res, hres⟩ : ∃ r, r = partialIns ltInt a b 5 (a + 1) d := ⟨_, rfl⟩
  rw [← hres]
  have HR := Lib.hid hres
  clear hres
  have mixed : Tryz.prog.follows .mixedOrders = true := by kernel_rfl
  have S0 : Aside (SW eU w0 blk off d w) := S
  have HS := Lib.hid hs
  have HL := Lib.hid lessU_c
  clear S hs
  go_enter Tryz.func109, Tryz.ntmps109
  go_wp2
  go_loopg [7, 8] 5 (fun kx s7 s8 wr => ∃ (i s : Nat) (dk : Array Int), s7 = .int .i64 i ∧ s8 = .int .i64 s ∧ s ≤ 5 ∧ 5 - s ≤ kx ∧ a < i ∧ i ≤ b ∧ dk.size = d.size ∧ Aside (SW eU w0 blk off dk wr) ∧ Hid (partialIns ltInt a b (5 - s) i dk = res))
  case atStart => exact ⟨a + 1, 0, d, by go_num, rfl, by omega, by omega, by omega, by omega, rfl, S0, Lib.hid HR.out.symm⟩
  case round =>
    clear S0 HR
    obtain ⟨i0, s, dk, rfl, rfl, hs5, hkx0, hai, hib, hds, S1, HE⟩ := hrel
    have HD := Lib.hid hds
    clear hds
    by_cases hs : s < 5
    rotate_left
    · obtain rfl : s = 5 := by omega
      have HF : Hid (res = (dk, false)) := by show _ = _; rw [← HE.out]; rfl
      clear HE hs hs5
      go_wp2
      go_ret
      rw [HF.out]
      exact ⟨rfl, S1.out⟩
    · have hsz1 : (s : Int) < 5 := by omega
      obtain ⟨t, ht⟩ : ∃ t, 5 - s = t + 1 := ⟨5 - s - 1, by omega⟩
      have HT : Hid (5 - s = t + 1) := ht
      rw [ht] at HE
      clear ht
      go_upto_block 2 with fail
      go_cut [7] from 17 to 34 (fun sx wx => ∃ i : Nat, sx = .int .i64 i ∧ a < i ∧ i ≤ b ∧ Aside (SW eU w0 blk off dk wx) ∧ Hid (scanSorted ltInt dk b i0 = i))
      case first =>
        go_wp2_with fail
        go_loopg [7] (b - i0) (fun kx sx wx => ∃ i' : Nat, sx = .int .i64 i' ∧ a < i' ∧ i' ≤ b ∧ b - i' ≤ kx ∧ Aside (SW eU w0 blk off dk wx) ∧ Hid (scanSorted ltInt dk b i' = scanSorted ltInt dk b i0))
        case atStart => exact ⟨i0, rfl, hai, hib, Nat.le_refl _, S1, Lib.hid rfl⟩
        case round =>
          clear S1
          obtain ⟨i', rfl, hi1, hi2, hkx, S1, HI⟩ := hrel
          by_cases hlt : i' < b
          · have hz : (i' : Int) < (b : Int) := by omega
            obtain ⟨ip, hip⟩ : ∃ x, x = i' - 1 := ⟨_, rfl⟩
            have q1 : IntKind.i64.wrap ((i' : Int) - 1) = (ip : Int) := by rw [IntKind.wrap_i64]; omega
            have l1 : ip < i' := by omega
            have HIP := Lib.hid hip
            clear hip
            have hsz2 := HD.out
            obtain ⟨x, hx⟩ : ∃ x, dk[i']! = x := ⟨_, rfl⟩
            have cx := S1.out.c1 R (by rw [HD.out]; exact HS.out.symm) (i') (by omega)
            rw [hx] at cx
            replace cx : wr.cell? ⟨blk, off + i', none⟩ = some (.int .u64 x) := cx
            have Xx := Lib.hid hx
            clear hx
            have bbx : (i' : Int) < (d.size : Int) := by omega
            obtain ⟨y, hy⟩ : ∃ x, dk[ip]! = x := ⟨_, rfl⟩
            have cy := S1.out.c1 R (by rw [HD.out]; exact HS.out.symm) (ip) (by omega)
            rw [hy] at cy
            replace cy : wr.cell? ⟨blk, off + ip, none⟩ = some (.int .u64 y) := cy
            have Xy := Lib.hid hy
            clear hy
            have bby : (ip : Int) < (d.size : Int) := by omega
            clear hsz2
            cases hl : ltInt x y with
            | true =>
              have HN : Hid (scanSorted ltInt dk b i0 = i') := by
                show _ = _
                rw [← HI.out]; exact ss_stop (.inr (by rw [← HIP.out, Xx.out, Xy.out]; exact hl))
              go_wp2_with fail
              go_quiet ((go_at_call 110; with_reducible exact Calls.quiet_of_same (HL.out _ _ _)))
              have S2 : Aside (SW eU w0 blk off dk (wr.drewN nq)) := S1.out.drewN nq
              clear cx bbx cy bby S1
              generalize wr.drewN nq = wq at S2 ⊢
              go_wp2
              go_meet
              case rel => exact ⟨i', rfl, by omega, by omega, S2, HN⟩
            | false =>
              have HN : Hid (scanSorted ltInt dk b (i' + 1) = scanSorted ltInt dk b i0) := by
                show _ = _
                rw [← HI.out]; exact (ss_go hlt (by rw [← HIP.out, Xx.out, Xy.out]; exact hl)).symm
              go_wp2_with fail
              go_quiet ((go_at_call 110; with_reducible exact Calls.quiet_of_same (HL.out _ _ _)))
              have S2 : Aside (SW eU w0 blk off dk (wr.drewN nq)) := S1.out.drewN nq
              clear cx bbx cy bby S1
              generalize wr.drewN nq = wq at S2 ⊢
              go_wp2
              go_roundg (b - (i' + 1))
              case measure => omega
              case rel => exact ⟨i' + 1, by go_num, by omega, by omega, Nat.le_refl _, S2, HN⟩
          · have hz : ¬ (i' : Int) < (b : Int) := by omega
            have hzd : decide ((i' : Int) < (b : Int)) = false := decide_eq_false hz
            have HN : Hid (scanSorted ltInt dk b i0 = i') := by
              show _ = _
              rw [← HI.out]; exact ss_stop (.inl hlt)
            go_wp2_with fail
            go_quiet ((go_at_call 110; with_reducible exact Calls.quiet_of_same (HL.out _ _ _)))
            have S2 : Aside (SW eU w0 blk off dk (wr.drewN nq)) := S1.out.drewN nq
            clear S1
            generalize wr.drewN nq = wq at S2 ⊢
            go_wp2
            go_meet
            case rel => exact ⟨i', rfl, by omega, by omega, S2, HN⟩
      case rest =>
      obtain ⟨i, rfl, hi1, hi2, S2, HSc⟩ := hcut
      clear S1
      by_cases hib2 : i = b
      · subst hib2
        have he : ((i : Int) == (i : Int)) = true := by simp
        have HF : Hid (res = (dk, true)) := by show _ = _; rw [← HE.out, pi_done HSc.out]
        clear HE HSc
        go_wp2_with fail
        go_ret
        rw [HF.out]
        exact ⟨rfl, S2.out⟩
      · have he : ((i : Int) == (b : Int)) = false := by rw [beq_eq_false_iff_ne]; omega
        by_cases h50 : b - a < 50
        · have hz5 : (b : Int) - (a : Int) < 50 := by omega
          have HF : Hid (res = (dk, false)) := by show _ = _; rw [← HE.out, pi_short HSc.out hib2 h50]
          clear HE HSc
          go_wp2_with fail
          go_ret
          rw [HF.out]
          exact ⟨rfl, S2.out⟩
        · have hz5 : ¬ (b : Int) - (a : Int) < 50 := by omega
          obtain ⟨ip, hip⟩ : ∃ x, x = i - 1 := ⟨_, rfl⟩
          have HN : Hid (partialIns ltInt a b t i (upOf b i (dnOf a i (swp dk i ip))) = res) := by
            show _ = _
            rw [← HE.out, pi_next HSc.out hib2 h50, hip]
          have HIP := Lib.hid hip
          have q1 : IntKind.i64.wrap ((i : Int) - 1) = (ip : Int) := by rw [IntKind.wrap_i64]; omega
          have q1' : (i : Int) - 1 = (ip : Int) := by omega
          have l1 : ip < i := by omega
          have l2 : i ≤ ip + 1 := by omega
          have l3 : i < b := by omega
          clear hip HE HSc
          have S9 := S2
          clear S2
          go_wp2_with fail
          have hsz2 := HD.out
          have bI : (i : Int) < (d.size : Int) := by omega
          have bJ : (ip : Int) < (d.size : Int) := by omega
          have S2 := S9.out.swapped R (i) (ip) (by omega) (by omega)
          have ca := S9.out.c1 R (by rw [HD.out]; exact HS.out.symm) (i) (by omega)
          have cb := S9.out.c1 R (by rw [HD.out]; exact HS.out.symm) (ip) (by omega)
          have fa := S9.out.f1 R (by rw [HD.out]; exact HS.out.symm) (i) (by omega)
          have fb := S9.out.f1 R (by rw [HD.out]; exact HS.out.symm) (ip) (by omega)
          obtain ⟨uc, cc⟩ := S9.out.c2 R (by rw [HD.out]; exact HS.out.symm) (i) (ip) (by omega) (by omega) (eU dk[ip]!)
          clear hsz2
          generalize dk[i]! = vI at S2 ca cc
          generalize dk[ip]! = vJ at S2 cb cc
          replace S2 : Aside (SW eU w0 blk off (swp dk (i) (ip)) ((wc.setCell ⟨blk, off + i, none⟩ (.int .u64 vJ)).setCell ⟨blk, off + ip, none⟩ (.int .u64 vI)).drew) := S2
          replace ca : wc.cell? ⟨blk, off + i, none⟩ = some (.int .u64 vI) := ca
          replace cb : wc.cell? ⟨blk, off + ip, none⟩ = some (.int .u64 vJ) := cb
          replace cc : (wc.setCell ⟨blk, off + i, none⟩ (.int .u64 vJ)).cell? ⟨blk, off + ip, none⟩ = some uc := cc
          clear S9
          go_wp2_with fail
          go_big_region
          clear ca cb fa fb cc bI bJ
          generalize ((wc.setCell ⟨blk, off + i, none⟩ (.int .u64 vJ)).setCell ⟨blk, off + ip, none⟩ (.int .u64 vI)).drew = w2 at S2 ⊢
          obtain ⟨d1, hd1⟩ : ∃ x, x = swp dk i ip := ⟨_, rfl⟩
          have HD1 : Hid (d1.size = d.size) := Lib.hid (by rw [hd1, size_swp]; exact HD.out)
          rw [← hd1] at S2 HN
          clear hd1 HD
          go_upto_if 61 with fail
          go_cut [9] from 13 to 132 (fun s9 wx => Aside (SW eU w0 blk off (dnOf a i d1) wx))
          case first =>
            by_cases h2 : i - a ≥ 2
            · have hz2 : (2 : Int) ≤ (i : Int) - (a : Int) := by omega
              have HDN : Hid (dnOf a i d1 = shiftDown ltInt ip d1) := by show _ = _; unfold dnOf; rw [if_pos h2, HIP.out]
              clear h2
              go_wp2_with fail
              go_loopg [9] ip (fun kx sx wx => ∃ (j : Nat) (dj : Array Int), sx = .int .i64 j ∧ j ≤ ip ∧ j ≤ kx ∧ dj.size = d.size ∧ Aside (SW eU w0 blk off dj wx) ∧ Hid (shiftDown ltInt j dj = dnOf a i d1))
              case atStart => exact ⟨ip, d1, rfl, Nat.le_refl _, Nat.le_refl _, HD1.out, S2, Lib.hid HDN.out.symm⟩
              case round =>
                clear S2
                obtain ⟨j1, dj, rfl, hji, hkx, hdj, S1, HJ⟩ := hrel
                have HD := Lib.hid hdj
                clear hdj
                by_cases hj : 0 < j1
                · obtain ⟨j, hjj⟩ : ∃ j, j1 = j + 1 := ⟨j1 - 1, by omega⟩
                  have HJJ := Lib.hid hjj
                  have hz : (1 : Int) ≤ (j1 : Int) := by omega
                  have q3 : IntKind.i64.wrap ((j1 : Int) - 1) = (j : Int) := by rw [IntKind.wrap_i64]; omega
                  have q3' : (j1 : Int) - 1 = (j : Int) := by omega
                  have l4 : j < j1 := by omega
                  have l5 : j1 ≤ j + 1 := by omega
                  clear hjj
                  have hsz2 := HD.out
                  obtain ⟨x, hx⟩ : ∃ x, dj[j1]! = x := ⟨_, rfl⟩
                  have cx := S1.out.c1 R (by rw [HD.out]; exact HS.out.symm) (j1) (by omega)
                  rw [hx] at cx
                  replace cx : wr.cell? ⟨blk, off + j1, none⟩ = some (.int .u64 x) := cx
                  have Xx := Lib.hid hx
                  clear hx
                  have bbx : (j1 : Int) < (d.size : Int) := by omega
                  obtain ⟨y, hy⟩ : ∃ x, dj[j]! = x := ⟨_, rfl⟩
                  have cy := S1.out.c1 R (by rw [HD.out]; exact HS.out.symm) (j) (by omega)
                  rw [hy] at cy
                  replace cy : wr.cell? ⟨blk, off + j, none⟩ = some (.int .u64 y) := cy
                  have Xy := Lib.hid hy
                  clear hy
                  have bby : (j : Int) < (d.size : Int) := by omega
                  clear hsz2
                  cases hl : ltInt x y with
                  | true =>
                    have HJ2 : Hid (shiftDown ltInt j (swp dj j1 j) = dnOf a i d1) := by
                      show _ = _
                      rw [← HJ.out, HJJ.out]; exact (sdn_go (by rw [← HJJ.out, Xx.out, Xy.out]; exact hl)).symm
                    go_wp2_with fail
                    go_quiet ((go_at_call 110; with_reducible exact Calls.quiet_of_same (HL.out _ _ _)))
                    have S3 : Aside (SW eU w0 blk off dj (wr.drewN nq)) := S1.out.drewN nq
                    clear cx bbx cy bby S1
                    generalize wr.drewN nq = wq at S3 ⊢
                    clear hl
                    go_wp2_with fail
                    have hsz2 := HD.out
                    have bI : (j1 : Int) < (d.size : Int) := by omega
                    have bJ : (j : Int) < (d.size : Int) := by omega
                    have S2 := S3.out.swapped R (j1) (j) (by omega) (by omega)
                    have ca := S3.out.c1 R (by rw [HD.out]; exact HS.out.symm) (j1) (by omega)
                    have cb := S3.out.c1 R (by rw [HD.out]; exact HS.out.symm) (j) (by omega)
                    have fa := S3.out.f1 R (by rw [HD.out]; exact HS.out.symm) (j1) (by omega)
                    have fb := S3.out.f1 R (by rw [HD.out]; exact HS.out.symm) (j) (by omega)
                    obtain ⟨uc, cc⟩ := S3.out.c2 R (by rw [HD.out]; exact HS.out.symm) (j1) (j) (by omega) (by omega) (eU dj[j]!)
                    clear hsz2
                    generalize dj[j1]! = vI at S2 ca cc
                    generalize dj[j]! = vJ at S2 cb cc
                    replace S2 : Aside (SW eU w0 blk off (swp dj (j1) (j)) ((wq.setCell ⟨blk, off + j1, none⟩ (.int .u64 vJ)).setCell ⟨blk, off + j, none⟩ (.int .u64 vI)).drew) := S2
                    replace ca : wq.cell? ⟨blk, off + j1, none⟩ = some (.int .u64 vI) := ca
                    replace cb : wq.cell? ⟨blk, off + j, none⟩ = some (.int .u64 vJ) := cb
                    replace cc : (wq.setCell ⟨blk, off + j1, none⟩ (.int .u64 vJ)).cell? ⟨blk, off + j, none⟩ = some uc := cc
                    clear S3
                    go_wp2_with fail
                    go_big_region
                    clear ca cb fa fb cc bI bJ
                    generalize ((wq.setCell ⟨blk, off + j1, none⟩ (.int .u64 vJ)).setCell ⟨blk, off + j, none⟩ (.int .u64 vI)).drew = w2 at S2 ⊢
                    have HD2 : Hid ((swp dj j1 j).size = d.size) := Lib.hid (by rw [size_swp]; exact HD.out)
                    go_wp2_with fail
                    go_roundg (j)
                    case measure => omega
                    case rel => exact ⟨j, swp dj j1 j, rfl, by omega, Nat.le_refl _, HD2.out, S2, HJ2⟩
                  | false =>
                    have HJ2 : Hid (dnOf a i d1 = dj) := by
                      show _ = _
                      rw [← HJ.out, HJJ.out]; exact sdn_stop (by rw [← HJJ.out, Xx.out, Xy.out]; exact hl)
                    go_wp2_with fail
                    go_quiet ((go_at_call 110; with_reducible exact Calls.quiet_of_same (HL.out _ _ _)))
                    have S3 : Aside (SW eU w0 blk off dj (wr.drewN nq)) := S1.out.drewN nq
                    clear cx bbx cy bby S1
                    generalize wr.drewN nq = wq at S3 ⊢
                    clear hl
                    go_wp2_with fail
                    go_meet
                    case rel => rw [HJ2.out]; exact S3
                · obtain rfl : j1 = 0 := by omega
                  have HJ2 : Hid (dnOf a i d1 = dj) := by show _ = _; rw [← HJ.out]; rfl
                  clear hj
                  go_wp2_with fail
                  go_meet
                  case rel => rw [HJ2.out]; exact S1
            · have hz2 : ¬ (2 : Int) ≤ (i : Int) - (a : Int) := by omega
              have HDN : Hid (dnOf a i d1 = d1) := by show _ = _; unfold dnOf; rw [if_neg h2]
              clear h2
              go_wp2_with fail
              go_meet
              case rel => rw [HDN.out]; exact S2
          case rest =>
          have S3 := hcut
          clear S2
          have HDd : Hid ((dnOf a i d1).size = d.size) := Lib.hid (by rw [size_dn]; exact HD1.out)
          obtain ⟨d2, hd2⟩ : ∃ x, x = dnOf a i d1 := ⟨_, rfl⟩
          rw [← hd2] at S3 HN HDd
          clear hd2 HD1 hcut
          obtain ⟨i1, hi1e⟩ : ∃ x, x = i + 1 := ⟨_, rfl⟩
          have HI1 := Lib.hid hi1e
          have q4 : (i : Int) + 1 = (i1 : Int) := by omega
          have l6 : i < i1 := by omega
          have l7 : i1 ≤ b := by omega
          clear hi1e
          by_cases h2 : b - i ≥ 2
          · have hz2 : (2 : Int) ≤ (b : Int) - (i : Int) := by omega
            have HUP : Hid (upOf b i d2 = shiftUp ltInt b i1 d2) := by show _ = _; unfold upOf; rw [if_pos h2, HI1.out]
            clear h2
            go_wp2_with fail
            go_loopg [10] (b - i1) (fun kx sx wx => ∃ (j : Nat) (dj : Array Int), sx = .int .i64 j ∧ i < j ∧ j ≤ b ∧ b - j ≤ kx ∧ dj.size = d.size ∧ Aside (SW eU w0 blk off dj wx) ∧ Hid (shiftUp ltInt b j dj = upOf b i d2))
            case atStart => exact ⟨i1, d2, rfl, by omega, by omega, Nat.le_refl _, HDd.out, S3, Lib.hid HUP.out.symm⟩
            case round =>
              clear S3
              obtain ⟨j1, dj, rfl, hji, hjb, hkx, hdj, S1, HJ⟩ := hrel
              have HD := Lib.hid hdj
              clear hdj
              by_cases hj : j1 < b
              · obtain ⟨j, hjj⟩ : ∃ j, j = j1 - 1 := ⟨_, rfl⟩
                have HJJ := Lib.hid hjj
                have hz : (j1 : Int) < (b : Int) := by omega
                have q3 : IntKind.i64.wrap ((j1 : Int) - 1) = (j : Int) := by rw [IntKind.wrap_i64]; omega
                have l4 : j < j1 := by omega
                clear hjj
                have hsz2 := HD.out
                obtain ⟨x, hx⟩ : ∃ x, dj[j1]! = x := ⟨_, rfl⟩
                have cx := S1.out.c1 R (by rw [HD.out]; exact HS.out.symm) (j1) (by omega)
                rw [hx] at cx
                replace cx : wr.cell? ⟨blk, off + j1, none⟩ = some (.int .u64 x) := cx
                have Xx := Lib.hid hx
                clear hx
                have bbx : (j1 : Int) < (d.size : Int) := by omega
                obtain ⟨y, hy⟩ : ∃ x, dj[j]! = x := ⟨_, rfl⟩
                have cy := S1.out.c1 R (by rw [HD.out]; exact HS.out.symm) (j) (by omega)
                rw [hy] at cy
                replace cy : wr.cell? ⟨blk, off + j, none⟩ = some (.int .u64 y) := cy
                have Xy := Lib.hid hy
                clear hy
                have bby : (j : Int) < (d.size : Int) := by omega
                clear hsz2
                cases hl : ltInt x y with
                | true =>
                  have HJ2 : Hid (shiftUp ltInt b (j1 + 1) (swp dj j1 j) = upOf b i d2) := by
                    show _ = _
                    rw [← HJ.out, HJJ.out]; exact (sup_go hj (by rw [← HJJ.out, Xx.out, Xy.out]; exact hl)).symm
                  go_wp2_with fail
                  go_quiet ((go_at_call 110; with_reducible exact Calls.quiet_of_same (HL.out _ _ _)))
                  have S4 : Aside (SW eU w0 blk off dj (wr.drewN nq)) := S1.out.drewN nq
                  clear cx bbx cy bby S1
                  generalize wr.drewN nq = wq at S4 ⊢
                  clear hl
                  go_wp2_with fail
                  have hsz2 := HD.out
                  have bI : (j1 : Int) < (d.size : Int) := by omega
                  have bJ : (j : Int) < (d.size : Int) := by omega
                  have S2 := S4.out.swapped R (j1) (j) (by omega) (by omega)
                  have ca := S4.out.c1 R (by rw [HD.out]; exact HS.out.symm) (j1) (by omega)
                  have cb := S4.out.c1 R (by rw [HD.out]; exact HS.out.symm) (j) (by omega)
                  have fa := S4.out.f1 R (by rw [HD.out]; exact HS.out.symm) (j1) (by omega)
                  have fb := S4.out.f1 R (by rw [HD.out]; exact HS.out.symm) (j) (by omega)
                  obtain ⟨uc, cc⟩ := S4.out.c2 R (by rw [HD.out]; exact HS.out.symm) (j1) (j) (by omega) (by omega) (eU dj[j]!)
                  clear hsz2
                  generalize dj[j1]! = vI at S2 ca cc
                  generalize dj[j]! = vJ at S2 cb cc
                  replace S2 : Aside (SW eU w0 blk off (swp dj (j1) (j)) ((wq.setCell ⟨blk, off + j1, none⟩ (.int .u64 vJ)).setCell ⟨blk, off + j, none⟩ (.int .u64 vI)).drew) := S2
                  replace ca : wq.cell? ⟨blk, off + j1, none⟩ = some (.int .u64 vI) := ca
                  replace cb : wq.cell? ⟨blk, off + j, none⟩ = some (.int .u64 vJ) := cb
                  replace cc : (wq.setCell ⟨blk, off + j1, none⟩ (.int .u64 vJ)).cell? ⟨blk, off + j, none⟩ = some uc := cc
                  clear S4
                  go_wp2_with fail
                  go_big_region
                  clear ca cb fa fb cc bI bJ
                  generalize ((wq.setCell ⟨blk, off + j1, none⟩ (.int .u64 vJ)).setCell ⟨blk, off + j, none⟩ (.int .u64 vI)).drew = w2 at S2 ⊢
                  have HD2 : Hid ((swp dj j1 j).size = d.size) := Lib.hid (by rw [size_swp]; exact HD.out)
                  go_wp2_with fail
                  go_roundg (b - (j1 + 1))
                  case measure => omega
                  case rel => exact ⟨j1 + 1, swp dj j1 j, by go_num, by omega, by omega, Nat.le_refl _, HD2.out, S2, HJ2⟩
                | false =>
                  have HJ2 : Hid (upOf b i d2 = dj) := by
                    show _ = _
                    rw [← HJ.out]; exact sup_stop (.inr (by rw [← HJJ.out, Xx.out, Xy.out]; exact hl))
                  go_wp2_with fail
                  go_quiet ((go_at_call 110; with_reducible exact Calls.quiet_of_same (HL.out _ _ _)))
                  have S4 : Aside (SW eU w0 blk off dj (wr.drewN nq)) := S1.out.drewN nq
                  clear cx bbx cy bby S1
                  generalize wr.drewN nq = wq at S4 ⊢
                  clear hl
                  have HNs : Hid (partialIns ltInt a b (5 - (s + 1)) i dj = res) := by
                    show _ = _
                    rw [show 5 - (s + 1) = t by have := HT.out; omega, ← HJ2.out]; exact HN.out
                  clear HN HT HJ2
                  go_wp2_with fail
                  go_roundg (5 - (s + 1))
                  case measure => omega
                  case rel => exact ⟨i, s + 1, dj, rfl, by go_num, by omega, Nat.le_refl _, by omega, by omega, HD.out, S4, HNs⟩
              · have hz : ¬ (j1 : Int) < (b : Int) := by omega
                have HJ2 : Hid (upOf b i d2 = dj) := by show _ = _; rw [← HJ.out]; exact sup_stop (.inl hj)
                clear hj
                have HNs : Hid (partialIns ltInt a b (5 - (s + 1)) i dj = res) := by
                  show _ = _
                  rw [show 5 - (s + 1) = t by have := HT.out; omega, ← HJ2.out]; exact HN.out
                clear HN HT HJ2
                go_wp2_with fail
                go_roundg (5 - (s + 1))
                case measure => omega
                case rel => exact ⟨i, s + 1, dj, rfl, by go_num, by omega, Nat.le_refl _, by omega, by omega, HD.out, S1, HNs⟩
          · have hz2 : ¬ (2 : Int) ≤ (b : Int) - (i : Int) := by omega
            have HJ2 : Hid (upOf b i d2 = d2) := by show _ = _; unfold upOf; rw [if_neg h2]
            clear h2
            have HNs : Hid (partialIns ltInt a b (5 - (s + 1)) i d2 = res) := by
              show _ = _
              rw [show 5 - (s + 1) = t by have := HT.out; omega, ← HJ2.out]; exact HN.out
            clear HN HT HJ2
            go_wp2_with fail
            go_roundg (5 - (s + 1))
            case measure => omega
            case rel => exact ⟨i, s + 1, d2, rfl, by go_num, by omega, Nat.le_refl _, by omega, by omega, HDd.out, S3, HNs⟩
end Go.Proofs.YtgbmgdffgmablaaGreat

namespace Go.Proofs.YtgbmgdffgmablaaGreat
open Go.RowKit Go.Sort Go.Lib Go.Shelf Go.ChangeShapes Go.WideShapes

/-- A box since the sort began, that holds v. -/
structure BoxU (w0 : World) (c : Nat) (v : Value) (W : World) : Prop where
  cell : W.cell? ⟨c, 0, none⟩ = some v
  froz : W.frozen? ⟨c, 0, none⟩ = false
  old : w0.heap.size ≤ c
  lt : c < W.heap.size
theorem bits_in (op : BinOp) (x y : Int) : 0 ≤ bits op .u64 x y ∧ bits op .u64 x y < 18446744073709551616 := by
  have h := bounds_u64 (wf_bits op .u64 x y)
  omega
theorem BoxU.set {w0 W : World} {c : Nat} {v : Value} (h : BoxU w0 c v W) (u : Value) : BoxU w0 c u (W.setCell ⟨c, 0, none⟩ u) :=
  ⟨World.cell?_setCell_same' _ _ _ (by rw [h.cell]; rfl), by rw [World.frozen?_setCell]; exact h.froz, h.old, by simpa using h.lt⟩
theorem BoxU.drew {w0 W : World} {c : Nat} {v : Value} (h : BoxU w0 c v W) : BoxU w0 c v W.drew := ⟨h.cell, h.froz, h.old, h.lt⟩
theorem BoxU.drewN {w0 W : World} {c : Nat} {v : Value} (h : BoxU w0 c v W) (n : Nat) : BoxU w0 c v (W.drewN n) := ⟨h.cell, h.froz, h.old, h.lt⟩
theorem BoxU.start {w0 W : World} {blk off : Nat} {d : Array Int} (S : SW eU w0 blk off d W) (v : Value) (t : TypeId) : BoxU w0 W.heap.size v (W.alloc (.cells #[v] t)) :=
  ⟨by rw [cell_of_row _ _ _ _ _ _ (heap_alloc_new W _)]; rfl, frozen_of_row _ _ _ _ _ (heap_alloc_new W _), S.le, by simp⟩
/-- Behind an exchange in the row. -/
theorem BoxU.swapped {w0 W : World} {blk x y c : Nat} {v : Value} (h : BoxU w0 c v W) (hb : blk < w0.heap.size) (u u' : Value) : BoxU w0 c v ((W.setCell ⟨blk, x, none⟩ u).setCell ⟨blk, y, none⟩ u').drew := by
  have hne : c ≠ blk := by have := h.old; omega
  have hk := box_kept_swap1 hne h.cell h.froz x y u u'
  exact ⟨hk.1, hk.2, h.old, by have := h.lt; simpa using this⟩
set_option maxHeartbeats 4000000 in
set_option maxRecDepth 1000000 in
theorem next_c (blk off c : Nat) (x : Int) (d : Array Int) (w0 w : World) (S : SW eU w0 blk off d w) (C : BoxU w0 c (.int .u64 x) w) (_h0 : 0 ≤ x) (_h1 : x < 18446744073709551616) :
    Calls Tryz.prog 135 #[.pointer (some ⟨c, 0, none⟩)] w fun e w' => ∃ y : Int, e = .returned (.int .u64 y) ∧ 0 ≤ y ∧ y < 18446744073709551616 ∧ SW eU w0 blk off d w' ∧ BoxU w0 c (.int .u64 y) w' := by
  have mixed : Tryz.prog.follows .mixedOrders = true := by kernel_rfl
  have c0 := C.cell
  have f0 := C.froz
  have S0 : Aside (SW eU w0 blk off d w) := S
  have C0 : Aside (BoxU w0 c (.int .u64 x) w) := C
  clear S C
  go_enter Tryz.func135, Tryz.ntmps135
  go_wp2_with fail
  go_big_region
  have S1 : Aside (SW eU w0 blk off d (w.setCell ⟨c, 0, none⟩ (.int .u64 (bits .xor .u64 x (IntKind.u64.wrap (x * 8192))))).drew) := (S0.out.setCell_new c 0 _ C0.out.old).drew
  have C1 : Aside (BoxU w0 c (.int .u64 (bits .xor .u64 x (IntKind.u64.wrap (x * 8192)))) (w.setCell ⟨c, 0, none⟩ (.int .u64 (bits .xor .u64 x (IntKind.u64.wrap (x * 8192))))).drew) := (C0.out.set _).drew
  have B1 := bits_in .xor x (IntKind.u64.wrap (x * 8192))
  clear c0 f0 S0 C0
  generalize (w.setCell ⟨c, 0, none⟩ (.int .u64 (bits .xor .u64 x (IntKind.u64.wrap (x * 8192))))).drew = w1 at S1 C1 ⊢
  generalize bits .xor .u64 x (IntKind.u64.wrap (x * 8192)) = x1 at C1 B1 ⊢
  obtain ⟨b10, b11⟩ := B1
  have c1 := C1.out.cell
  have f1 := C1.out.froz
  go_wp2_with fail
  go_big_region
  have S2 : Aside (SW eU w0 blk off d (w1.setCell ⟨c, 0, none⟩ (.int .u64 (bits .xor .u64 x1 (x1 / 128)))).drew) := (S1.out.setCell_new c 0 _ C1.out.old).drew
  have C2 : Aside (BoxU w0 c (.int .u64 (bits .xor .u64 x1 (x1 / 128))) (w1.setCell ⟨c, 0, none⟩ (.int .u64 (bits .xor .u64 x1 (x1 / 128)))).drew) := (C1.out.set _).drew
  have B2 := bits_in .xor x1 (x1 / 128)
  clear c1 f1 S1 C1 b10 b11
  generalize (w1.setCell ⟨c, 0, none⟩ (.int .u64 (bits .xor .u64 x1 (x1 / 128)))).drew = w2 at S2 C2 ⊢
  generalize bits .xor .u64 x1 (x1 / 128) = x2 at C2 B2 ⊢
  obtain ⟨b20, b21⟩ := B2
  have c2 := C2.out.cell
  have f2 := C2.out.froz
  go_wp2_with fail
  go_big_region
  have S3 : Aside (SW eU w0 blk off d (w2.setCell ⟨c, 0, none⟩ (.int .u64 (bits .xor .u64 x2 (IntKind.u64.wrap (x2 * 131072))))).drew) := (S2.out.setCell_new c 0 _ C2.out.old).drew
  have C3 : Aside (BoxU w0 c (.int .u64 (bits .xor .u64 x2 (IntKind.u64.wrap (x2 * 131072)))) (w2.setCell ⟨c, 0, none⟩ (.int .u64 (bits .xor .u64 x2 (IntKind.u64.wrap (x2 * 131072))))).drew) := (C2.out.set _).drew
  have B3 := bits_in .xor x2 (IntKind.u64.wrap (x2 * 131072))
  clear c2 f2 S2 C2 b20 b21
  generalize (w2.setCell ⟨c, 0, none⟩ (.int .u64 (bits .xor .u64 x2 (IntKind.u64.wrap (x2 * 131072))))).drew = w3 at S3 C3 ⊢
  generalize bits .xor .u64 x2 (IntKind.u64.wrap (x2 * 131072)) = x3 at C3 B3 ⊢
  obtain ⟨b30, b31⟩ := B3
  have c3 := C3.out.cell
  have f3 := C3.out.froz
  go_wp2_with fail
  go_ret
  exact ⟨x3, rfl, b30, b31, S3.out, C3.out⟩
theorem bl_cases : ∀ n : Fin 65, 8 ≤ n.val → (Lib.bitLen n.val = 4 ∧ 8 ≤ n.val) ∨ (Lib.bitLen n.val = 5 ∧ 16 ≤ n.val) ∨ (Lib.bitLen n.val = 6 ∧ 32 ≤ n.val) ∨ (Lib.bitLen n.val = 7 ∧ 64 ≤ n.val) := by decide +kernel
set_option maxHeartbeats 4000000 in
theorem nextPow_c (n : Nat) (h8 : 8 ≤ n) (h64 : n ≤ 64) (w : World) : Calls Tryz.prog 134 #[.int .i64 n] w fun e w' => ∃ m : Nat, e = .returned (.int .u64 m) ∧ 1 ≤ m ∧ m ≤ 2 * n ∧ w' = w := by
  have hl := bl_cases ⟨n, by omega⟩ h8
  have HLn := fun W => len_c (n : Int) W (by omega) (by omega)
  rw [Int.toNat_natCast] at HLn
  have wz : IntKind.u64.wrap (n : Int) = (n : Int) := by rw [IntKind.wrap_u64]; omega
  rcases hl with ⟨hb, hn⟩ | ⟨hb, hn⟩ | ⟨hb, hn⟩ | ⟨hb, hn⟩
  · simp only at hb
    rw [hb] at HLn
    have H := Lib.hid HLn
    have hm : 16 ≤ 2 * n := by simp only at hn; omega
    clear HLn hb hn
    go_enter Tryz.func134, Tryz.ntmps134
    go_wp2_with ((with_reducible refine (H.out _).mono ?_); rintro e w' ⟨rfl, rfl⟩)
    go_ret
    exact ⟨16, rfl, by omega, hm, rfl⟩
  · simp only at hb
    rw [hb] at HLn
    have H := Lib.hid HLn
    have hm : 32 ≤ 2 * n := by simp only at hn; omega
    clear HLn hb hn
    go_enter Tryz.func134, Tryz.ntmps134
    go_wp2_with ((with_reducible refine (H.out _).mono ?_); rintro e w' ⟨rfl, rfl⟩)
    go_ret
    exact ⟨32, rfl, by omega, hm, rfl⟩
  · simp only at hb
    rw [hb] at HLn
    have H := Lib.hid HLn
    have hm : 64 ≤ 2 * n := by simp only at hn; omega
    clear HLn hb hn
    go_enter Tryz.func134, Tryz.ntmps134
    go_wp2_with ((with_reducible refine (H.out _).mono ?_); rintro e w' ⟨rfl, rfl⟩)
    go_ret
    exact ⟨64, rfl, by omega, hm, rfl⟩
  · simp only at hb
    rw [hb] at HLn
    have H := Lib.hid HLn
    have hm : 128 ≤ 2 * n := by simp only at hn; omega
    clear HLn hb hn
    go_enter Tryz.func134, Tryz.ntmps134
    go_wp2_with ((with_reducible refine (H.out _).mono ?_); rintro e w' ⟨rfl, rfl⟩)
    go_ret
    exact ⟨128, rfl, by omega, hm, rfl⟩

set_option maxHeartbeats 4000000 in
set_option maxRecDepth 1000000 in
theorem brk_c (blk off cap : Nat) (a b : Nat) (za zb : Int) (hza : za = a) (hzb : zb = b) (d0 d : Array Int) (w0 w : World) (n : Nat) (hn : n = d.size) (R : Row1 eU w0 blk off d0) (hs : d0.size = d.size) (S : SW eU w0 blk off d w) (hsz : d.size < 4611686018427387904) (hab : a + 12 < b) (hb : b ≤ d.size) (h64 : b ≤ a + 64) :
    Calls Tryz.prog 106 #[.slice (some ⟨blk, off, none⟩) n cap, .int .i64 za, .int .i64 zb] w fun e w' => e = .returned (.tuple #[]) ∧ ∃ d', SW eU w0 blk off d' w' ∧ PermIn a b d d' := by
  subst hn hza hzb
  have mixed : Tryz.prog.follows .mixedOrders = true := by kernel_rfl
  have S0 : Aside (SW eU w0 blk off d w) := S
  have HS := Lib.hid hs
  have HL := Lib.hid lessU_c
  clear S hs
  obtain ⟨ln, hln⟩ : ∃ x, x = b - a := ⟨_, rfl⟩
  obtain ⟨q4, hq4⟩ : ∃ x, x = ln / 4 := ⟨_, rfl⟩
  obtain ⟨i0, hi0⟩ : ∃ x, x = a + q4 * 2 - 1 := ⟨_, rfl⟩
  obtain ⟨i2, hi2⟩ : ∃ x, x = a + q4 * 2 + 1 := ⟨_, rfl⟩
  have z1 : (b : Int) - (a : Int) = (ln : Int) := by omega
  have z2 : (ln : Int) / 4 = (q4 : Int) := by omega
  have z2' : (ln : Int).tdiv 4 = (q4 : Int) := by rw [Int.tdiv_eq_ediv_of_nonneg (by omega)]; exact z2
  have z3 : (a : Int) + (q4 : Int) * 2 - 1 = (i0 : Int) := by omega
  have z4 : (a : Int) + (q4 : Int) * 2 + 1 = (i2 : Int) := by omega
  have l1 : 8 ≤ ln := by omega
  have l2 : ln ≤ 64 := by omega
  have l3 : a ≤ i0 := by omega
  have l4 : i2 < b := by omega
  have l5 : i0 + 2 ≤ i2 := by omega
  have l6 : a + ln ≤ b := by omega
  have l7 : i2 ≤ i0 + 2 := by omega
  have wl : IntKind.u64.wrap (ln : Int) = (ln : Int) := by rw [IntKind.wrap_u64]; omega
  have HP2 := Lib.hid (fun W => nextPow_c ln l1 l2 W)
  have HNX := Lib.hid (fun c x d W S C h0 h1 => next_c blk off c x d w0 W S C h0 h1)
  have ST := Lib.hid (fun (W : World) (hW : SW eU w0 blk off d W) => And.intro (hW.alloc (.cells #[.int .u64 (ln : Int)] 207)) (BoxU.start hW (.int .u64 (ln : Int)) 207))
  have ST0 := Lib.hid (ST.out w S0.out)
  clear hln hq4 hi0 hi2 ST
  go_enter Tryz.func106, Tryz.ntmps106
  go_wp2_with fail
  refine (HP2.out _).mono ?_
  rintro e w1 ⟨m, rfl, m1, m2, rfl⟩
  obtain ⟨k, hk⟩ : ∃ k, m = k + 1 := ⟨m - 1, by omega⟩
  have zm : (m : Int) - 1 = (k : Int) := by omega
  have lk : k < 2 * ln := by omega
  clear hk
  have S1 : Aside (SW eU w0 blk off d (w.alloc (.cells #[.int .u64 (ln : Int)] 207))) := ST0.out.1
  have C1 : Aside (BoxU w0 w.heap.size (.int .u64 (ln : Int)) (w.alloc (.cells #[.int .u64 (ln : Int)] 207))) := ST0.out.2
  clear ST0 S0 HP2
  generalize w.alloc (.cells #[.int .u64 (ln : Int)] 207) = w1 at S1 C1 ⊢
  obtain ⟨c, hc⟩ : ∃ c, c = w.heap.size := ⟨_, rfl⟩
  rw [← hc] at C1 ⊢
  clear hc
  go_wp2_with fail
  go_loopg [9] 3 (fun kx s9 wr => ∃ (i : Nat) (x : Int) (dk : Array Int), s9 = .int .i64 i ∧ a ≤ i ∧ i ≤ i2 + 1 ∧ i2 + 1 - i ≤ kx ∧ 0 ≤ x ∧ x < 18446744073709551616 ∧ Aside (SW eU w0 blk off dk wr) ∧ Aside (BoxU w0 c (.int .u64 x) wr) ∧ PermIn a b d dk)
  case atStart => exact ⟨i0, (ln : Int), d, rfl, by omega, by omega, by omega, by omega, by omega, S1, C1, permIn_refl _ _ _⟩
  case round =>
    clear S1 C1
    obtain ⟨i, x, dk, rfl, hai, hii, hkx, hx0, hx1, S1, C1, HPm⟩ := hrel
    have HD : Hid (dk.size = d.size) := HPm.1
    by_cases hlt : i ≤ i2
    · have hz : (i : Int) ≤ (i2 : Int) := by omega
      go_wp2_with fail
      refine (HNX.out c x dk _ S1.out C1.out hx0 hx1).mono ?_
      rintro e w2 ⟨y, rfl, hy0, hy1, S2', C2'⟩
      have S2 : Aside (SW eU w0 blk off dk w2) := S2'
      have C2 : Aside (BoxU w0 c (.int .u64 y) w2) := C2'
      obtain ⟨Y, rfl⟩ : ∃ Y : Nat, y = (Y : Int) := ⟨y.toNat, by omega⟩
      obtain ⟨o, ho⟩ : ∃ o, o = Y &&& k := ⟨_, rfl⟩
      have zb : bits .and .u64 (Y : Int) (k : Int) = (o : Int) := by rw [bits_and_u64_nat Y k (by omega) (by omega), ho]
      have lo : o ≤ k := by rw [ho]; exact Nat.and_le_right
      clear ho S1 C1 S2' C2' hx0 hx1
      have S9 := S2
      clear S2
      by_cases hge : ln ≤ o
      · have hz2 : (ln : Int) ≤ (o : Int) := by omega
        obtain ⟨o2, ho2⟩ : ∃ x, x = o - ln := ⟨_, rfl⟩
        have q8 : (o : Int) - (ln : Int) = (o2 : Int) := by omega
        have lo2 : o2 < ln := by omega
        clear ho2
        go_wp2_with fail
        obtain ⟨ao, hao⟩ : ∃ x, x = a + o2 := ⟨_, rfl⟩
        have q9 : IntKind.i64.wrap ((a : Int) + (o2 : Int)) = (ao : Int) := by rw [IntKind.wrap_i64]; omega
        have la1 : a ≤ ao := by omega
        have la2 : ao < b := by omega
        have HPn : PermIn a b d (swp dk i ao) := permIn_trans _ _ _ _ _ HPm (swp_permIn dk a b i ao (by omega) (by omega) (by omega) (by omega) (by rw [HD.out]; omega))
        have hbk := R.hblk
        have C3 := fun u u' => C2.out.swapped (x := off + i) (y := off + ao) hbk u u'
        have C3' : Aside (∀ (u u' : Value), BoxU w0 c (.int .u64 (Y : Int)) ((w2.setCell ⟨blk, off + i, none⟩ u).setCell ⟨blk, off + ao, none⟩ u').drew) := C3
        clear hao HPm C2 C3 hbk
        go_wp2_with fail
        have hsz2 := HD.out
        have bI : (i : Int) < (d.size : Int) := by omega
        have bJ : (ao : Int) < (d.size : Int) := by omega
        have S2 := S9.out.swapped R (i) (ao) (by omega) (by omega)
        have ca := S9.out.c1 R (by rw [HD.out]; exact HS.out.symm) (i) (by omega)
        have cb := S9.out.c1 R (by rw [HD.out]; exact HS.out.symm) (ao) (by omega)
        have fa := S9.out.f1 R (by rw [HD.out]; exact HS.out.symm) (i) (by omega)
        have fb := S9.out.f1 R (by rw [HD.out]; exact HS.out.symm) (ao) (by omega)
        obtain ⟨uc, cc⟩ := S9.out.c2 R (by rw [HD.out]; exact HS.out.symm) (i) (ao) (by omega) (by omega) (eU dk[ao]!)
        clear hsz2
        generalize dk[i]! = vI at S2 ca cc
        generalize dk[ao]! = vJ at S2 cb cc
        replace S2 : Aside (SW eU w0 blk off (swp dk (i) (ao)) ((w2.setCell ⟨blk, off + i, none⟩ (.int .u64 vJ)).setCell ⟨blk, off + ao, none⟩ (.int .u64 vI)).drew) := S2
        replace ca : w2.cell? ⟨blk, off + i, none⟩ = some (.int .u64 vI) := ca
        replace cb : w2.cell? ⟨blk, off + ao, none⟩ = some (.int .u64 vJ) := cb
        replace cc : (w2.setCell ⟨blk, off + i, none⟩ (.int .u64 vJ)).cell? ⟨blk, off + ao, none⟩ = some uc := cc
        clear S9
        go_wp2_with fail
        go_big_region
        clear ca cb fa fb cc bI bJ
        have C4 := C3'.out (.int .u64 vJ) (.int .u64 vI)
        generalize ((w2.setCell ⟨blk, off + i, none⟩ (.int .u64 vJ)).setCell ⟨blk, off + ao, none⟩ (.int .u64 vI)).drew = w3 at S2 C4 ⊢
        have C5 : Aside (BoxU w0 c (.int .u64 (Y : Int)) w3) := C4
        clear C4 C3'
        go_wp2_with fail
        go_roundg (i2 + 1 - (i + 1))
        case measure => omega
        case rel => exact ⟨i + 1, (Y : Int), swp dk i ao, by go_num, by omega, by omega, Nat.le_refl _, by omega, by omega, S2, C5, HPn⟩
      · have hz2 : ¬ (ln : Int) ≤ (o : Int) := by omega
        have lo2 : o < ln := by omega
        go_wp2_with fail
        obtain ⟨ao, hao⟩ : ∃ x, x = a + o := ⟨_, rfl⟩
        have q9 : IntKind.i64.wrap ((a : Int) + (o : Int)) = (ao : Int) := by rw [IntKind.wrap_i64]; omega
        have la1 : a ≤ ao := by omega
        have la2 : ao < b := by omega
        have HPn : PermIn a b d (swp dk i ao) := permIn_trans _ _ _ _ _ HPm (swp_permIn dk a b i ao (by omega) (by omega) (by omega) (by omega) (by rw [HD.out]; omega))
        have hbk := R.hblk
        have C3 := fun u u' => C2.out.swapped (x := off + i) (y := off + ao) hbk u u'
        have C3' : Aside (∀ (u u' : Value), BoxU w0 c (.int .u64 (Y : Int)) ((w2.setCell ⟨blk, off + i, none⟩ u).setCell ⟨blk, off + ao, none⟩ u').drew) := C3
        clear hao HPm C2 C3 hbk
        go_wp2_with fail
        have hsz2 := HD.out
        have bI : (i : Int) < (d.size : Int) := by omega
        have bJ : (ao : Int) < (d.size : Int) := by omega
        have S2 := S9.out.swapped R (i) (ao) (by omega) (by omega)
        have ca := S9.out.c1 R (by rw [HD.out]; exact HS.out.symm) (i) (by omega)
        have cb := S9.out.c1 R (by rw [HD.out]; exact HS.out.symm) (ao) (by omega)
        have fa := S9.out.f1 R (by rw [HD.out]; exact HS.out.symm) (i) (by omega)
        have fb := S9.out.f1 R (by rw [HD.out]; exact HS.out.symm) (ao) (by omega)
        obtain ⟨uc, cc⟩ := S9.out.c2 R (by rw [HD.out]; exact HS.out.symm) (i) (ao) (by omega) (by omega) (eU dk[ao]!)
        clear hsz2
        generalize dk[i]! = vI at S2 ca cc
        generalize dk[ao]! = vJ at S2 cb cc
        replace S2 : Aside (SW eU w0 blk off (swp dk (i) (ao)) ((w2.setCell ⟨blk, off + i, none⟩ (.int .u64 vJ)).setCell ⟨blk, off + ao, none⟩ (.int .u64 vI)).drew) := S2
        replace ca : w2.cell? ⟨blk, off + i, none⟩ = some (.int .u64 vI) := ca
        replace cb : w2.cell? ⟨blk, off + ao, none⟩ = some (.int .u64 vJ) := cb
        replace cc : (w2.setCell ⟨blk, off + i, none⟩ (.int .u64 vJ)).cell? ⟨blk, off + ao, none⟩ = some uc := cc
        clear S9
        go_wp2_with fail
        go_big_region
        clear ca cb fa fb cc bI bJ
        have C4 := C3'.out (.int .u64 vJ) (.int .u64 vI)
        generalize ((w2.setCell ⟨blk, off + i, none⟩ (.int .u64 vJ)).setCell ⟨blk, off + ao, none⟩ (.int .u64 vI)).drew = w3 at S2 C4 ⊢
        have C5 : Aside (BoxU w0 c (.int .u64 (Y : Int)) w3) := C4
        clear C4 C3'
        go_wp2_with fail
        go_roundg (i2 + 1 - (i + 1))
        case measure => omega
        case rel => exact ⟨i + 1, (Y : Int), swp dk i ao, by go_num, by omega, by omega, Nat.le_refl _, by omega, by omega, S2, C5, HPn⟩
    · have hz : ¬ (i : Int) ≤ (i2 : Int) := by omega
      clear HD
      go_wp2
      go_end0
      exact ⟨rfl, dk, S1.out, HPm⟩
end Go.Proofs.YtgbmgdffgmablaaGreat

namespace Go.Proofs.YtgbmgdffgmablaaGreat
open Go.RowKit Go.Sort Go.Lib Go.Shelf


set_option maxHeartbeats 4000000 in
set_option maxRecDepth 1000000 in
theorem ord2_c (blk off cap : Nat) (a b : Nat) (za zb : Int) (hza : za = a) (hzb : zb = b) (d0 d : Array Int) (w0 w : World) (n : Nat) (hn : n = d.size) (R : Row1 eU w0 blk off d0) (hs : d0.size = d.size) (S : SW eU w0 blk off d w) (hsz : d.size < 4611686018427387904) (c : Nat) (s : Int) (C : BoxU w0 c (.int .i64 s) w) (ha : a < d.size) (hb : b < d.size) :
    Calls Tryz.prog 147 #[.slice (some ⟨blk, off, none⟩) n cap, .int .i64 za, .int .i64 zb, .pointer (some ⟨c, 0, none⟩)] w fun e w' => ∃ x y : Nat, e = .returned (.tuple #[.int .i64 x, .int .i64 y]) ∧ ((x = a ∧ y = b) ∨ (x = b ∧ y = a)) ∧ SW eU w0 blk off d w' ∧ ∃ s', BoxU w0 c (.int .i64 s') w' := by
  subst hn hza hzb
  have _hz := hsz
  have HD : Hid (d.size ≤ d.size) := Nat.le_refl _
  have C0 : Aside (BoxU w0 c (.int .i64 s) w) := C
  clear C
  have mixed : Tryz.prog.follows .mixedOrders = true := by kernel_rfl
  have S0 : Aside (SW eU w0 blk off d w) := S
  have HS := Lib.hid hs
  have HL := Lib.hid lessU_c
  clear S hs
  go_enter Tryz.func147, Tryz.ntmps147
  go_wp2_with fail
  have hsz2 := HD.out
  obtain ⟨x, hx⟩ : ∃ x, d[b]! = x := ⟨_, rfl⟩
  have cx := S0.out.c1 R HS.out.symm (b) (by omega)
  rw [hx] at cx
  replace cx : w.cell? ⟨blk, off + b, none⟩ = some (.int .u64 x) := cx
  have Xx := Lib.hid hx
  clear hx
  have bbx : (b : Int) < (d.size : Int) := by omega
  obtain ⟨y, hy⟩ : ∃ x, d[a]! = x := ⟨_, rfl⟩
  have cy := S0.out.c1 R HS.out.symm (a) (by omega)
  rw [hy] at cy
  replace cy : w.cell? ⟨blk, off + a, none⟩ = some (.int .u64 y) := cy
  have Xy := Lib.hid hy
  clear hy
  have bby : (a : Int) < (d.size : Int) := by omega
  clear hsz2
  cases hl : ltInt x y with
  | true =>
    go_wp2_with fail
    go_quiet ((go_at_call 110; with_reducible exact Calls.quiet_of_same (HL.out _ _ _)))
    have S1 : Aside (SW eU w0 blk off d (w.drewN nq)) := S0.out.drewN nq
    have C1 : Aside (BoxU w0 c (.int .i64 s) (w.drewN nq)) := C0.out.drewN nq
    clear C0
    clear cx bbx cy bby S0
    generalize w.drewN nq = wq at S1 C1 ⊢
    have c1 := C1.out.cell
    have f1 := C1.out.froz
    rw [hl]
    go_wp2_with fail
    go_ret2
    exact ⟨b, a, rfl, .inr ⟨rfl, rfl⟩, S1.out.setCell_new c 0 _ C1.out.old, _, C1.out.set _⟩
  | false =>
    go_wp2_with fail
    go_quiet ((go_at_call 110; with_reducible exact Calls.quiet_of_same (HL.out _ _ _)))
    have S1 : Aside (SW eU w0 blk off d (w.drewN nq)) := S0.out.drewN nq
    have C1 : Aside (BoxU w0 c (.int .i64 s) (w.drewN nq)) := C0.out.drewN nq
    clear C0
    clear cx bbx cy bby S0
    generalize w.drewN nq = wq at S1 C1 ⊢
    rw [hl]
    go_wp2_with fail
    go_ret2
    exact ⟨a, b, rfl, .inl ⟨rfl, rfl⟩, S1.out, _, C1.out⟩

set_option maxHeartbeats 4000000 in
set_option maxRecDepth 1000000 in
theorem med_c (blk off cap : Nat) (a b c3 : Nat) (za zb zc : Int) (hza : za = a) (hzb : zb = b) (hzc : zc = c3) (d0 d : Array Int) (w0 w : World) (n : Nat) (hn : n = d.size) (R : Row1 eU w0 blk off d0) (hs : d0.size = d.size) (S : SW eU w0 blk off d w) (hsz : d.size < 4611686018427387904) (c : Nat) (s : Int) (C : BoxU w0 c (.int .i64 s) w) (ha : a < d.size) (hb : b < d.size) (hc : c3 < d.size) :
    Calls Tryz.prog 137 #[.slice (some ⟨blk, off, none⟩) n cap, .int .i64 za, .int .i64 zb, .int .i64 zc, .pointer (some ⟨c, 0, none⟩)] w fun e w' => ∃ m : Nat, e = .returned (.int .i64 m) ∧ (m = a ∨ m = b ∨ m = c3) ∧ SW eU w0 blk off d w' ∧ ∃ s', BoxU w0 c (.int .i64 s') w' := by
  subst hn hza hzb hzc
  have HO := Lib.hid (fun a b W S c s C ha hb => ord2_c blk off cap a b a b rfl rfl d0 d w0 W d.size rfl R hs S hsz c s C ha hb)
  have C0 : Aside (BoxU w0 c (.int .i64 s) w) := C
  clear C
  have mixed : Tryz.prog.follows .mixedOrders = true := by kernel_rfl
  have S0 : Aside (SW eU w0 blk off d w) := S
  have HS := Lib.hid hs
  have HL := Lib.hid lessU_c
  clear S hs
  go_enter Tryz.func137, Tryz.ntmps137
  go_wp2_with fail
  refine (HO.out a b _ S0.out c s C0.out ha hb).mono ?_
  rintro e w1 ⟨x1, y1, rfl, h1, S1', s1, C1'⟩
  have S1 : Aside (SW eU w0 blk off d w1) := S1'
  have C1 : Aside (BoxU w0 c (.int .i64 s1) w1) := C1'
  have H1 := Lib.hid h1
  have k1 : x1 < d.size := by omega
  have k2 : y1 < d.size := by omega
  clear S1' C1' h1 S0 C0
  go_wp2_with fail
  refine (HO.out y1 c3 _ S1.out c s1 C1.out k2 hc).mono ?_
  rintro e w2 ⟨x2, y2, rfl, h2, S2', s2, C2'⟩
  have S2 : Aside (SW eU w0 blk off d w2) := S2'
  have C2 : Aside (BoxU w0 c (.int .i64 s2) w2) := C2'
  have H2 := Lib.hid h2
  have k3 : x2 < d.size := by omega
  clear S2' C2' h2 S1 C1
  go_wp2_with fail
  refine (HO.out x1 x2 _ S2.out c s2 C2.out k1 k3).mono ?_
  rintro e w3 ⟨x3, y3, rfl, h3, S3', s3, C3'⟩
  have S3 : Aside (SW eU w0 blk off d w3) := S3'
  have C3 : Aside (BoxU w0 c (.int .i64 s3) w3) := C3'
  have HF : Hid (y3 = a ∨ y3 = b ∨ y3 = c3) := by
    have := H1.out
    have := H2.out
    show _ ∨ _
    omega
  clear S3' C3' h3 S2 C2
  go_wp2_with fail
  go_ret
  exact ⟨y3, rfl, HF.out, S3.out, s3, C3.out⟩

set_option maxHeartbeats 4000000 in
set_option maxRecDepth 1000000 in
theorem adj_c (blk off cap : Nat) (a : Nat) (za : Int) (hza : za = a) (d0 d : Array Int) (w0 w : World) (n : Nat) (hn : n = d.size) (R : Row1 eU w0 blk off d0) (hs : d0.size = d.size) (S : SW eU w0 blk off d w) (hsz : d.size < 4611686018427387904) (c : Nat) (s : Int) (C : BoxU w0 c (.int .i64 s) w) (h0 : 1 ≤ a) (ha : a + 1 < d.size) :
    Calls Tryz.prog 136 #[.slice (some ⟨blk, off, none⟩) n cap, .int .i64 za, .pointer (some ⟨c, 0, none⟩)] w fun e w' => ∃ m : Nat, e = .returned (.int .i64 m) ∧ (m + 1 = a ∨ m = a ∨ m = a + 1) ∧ SW eU w0 blk off d w' ∧ ∃ s', BoxU w0 c (.int .i64 s') w' := by
  subst hn hza
  obtain ⟨p, hp⟩ : ∃ p, p = a - 1 := ⟨_, rfl⟩
  have z1 : (a : Int) - 1 = (p : Int) := by omega
  have z2 : (a : Int) + 1 = ((a + 1 : Nat) : Int) := by omega
  have HO := Lib.hid (med_c blk off cap p a (a + 1) p a ((a : Int) + 1) rfl rfl z2 d0 d w0 w d.size rfl R hs S hsz c s C (by omega) (by omega) ha)
  have l1 : p + 1 ≤ a := by omega
  have l2 : a ≤ p + 1 := by omega
  clear C hp z2
  have mixed : Tryz.prog.follows .mixedOrders = true := by kernel_rfl
  have S0 : Aside (SW eU w0 blk off d w) := S
  have HS := Lib.hid hs
  have HL := Lib.hid lessU_c
  clear S hs
  go_enter Tryz.func136, Tryz.ntmps136
  go_wp2_with fail
  refine (HO.out).mono ?_
  rintro e w1 ⟨m, rfl, h1, S1', s1, C1'⟩
  have S1 : Aside (SW eU w0 blk off d w1) := S1'
  have C1 : Aside (BoxU w0 c (.int .i64 s1) w1) := C1'
  have HF : Hid (m + 1 = a ∨ m = a ∨ m = a + 1) := by show _ ∨ _; omega
  clear S1' C1' h1 S0
  go_wp2_with fail
  go_ret
  exact ⟨m, rfl, HF.out, S1.out, s1, C1.out⟩

set_option maxHeartbeats 4000000 in
set_option maxRecDepth 1000000 in
theorem piv_c (blk off cap : Nat) (a b : Nat) (za zb : Int) (hza : za = a) (hzb : zb = b) (d0 d : Array Int) (w0 w : World) (n : Nat) (hn : n = d.size) (R : Row1 eU w0 blk off d0) (hs : d0.size = d.size) (S : SW eU w0 blk off d w) (hsz : d.size < 4611686018427387904) (hab : a + 12 < b) (hb : b ≤ d.size) :
    Calls Tryz.prog 107 #[.slice (some ⟨blk, off, none⟩) n cap, .int .i64 za, .int .i64 zb] w fun e w' => ∃ p h : Nat, e = .returned (.tuple #[.int .i64 p, .int .i64 h]) ∧ a ≤ p ∧ p < b ∧ h ≤ 2 ∧ SW eU w0 blk off d w' := by
  subst hn hza hzb
  have HMe := Lib.hid (fun a b c3 W S c s C ha hb hc => med_c blk off cap a b c3 a b c3 rfl rfl rfl d0 d w0 W d.size rfl R hs S hsz c s C ha hb hc)
  have HAd := Lib.hid (fun a W S c s C h0 ha => adj_c blk off cap a a rfl d0 d w0 W d.size rfl R hs S hsz c s C h0 ha)
  have mixed : Tryz.prog.follows .mixedOrders = true := by kernel_rfl
  have S0 : Aside (SW eU w0 blk off d w) := S
  have HS := Lib.hid hs
  have HL := Lib.hid lessU_c
  clear S hs
  obtain ⟨ln, hln⟩ : ∃ x, x = b - a := ⟨_, rfl⟩
  obtain ⟨q4, hq4⟩ : ∃ x, x = ln / 4 := ⟨_, rfl⟩
  obtain ⟨i, hi⟩ : ∃ x, x = a + q4 := ⟨_, rfl⟩
  obtain ⟨j, hj⟩ : ∃ x, x = a + q4 * 2 := ⟨_, rfl⟩
  obtain ⟨k, hk⟩ : ∃ x, x = a + q4 * 3 := ⟨_, rfl⟩
  have z1 : (b : Int) - (a : Int) = (ln : Int) := by omega
  have z2 : (ln : Int) / 4 = (q4 : Int) := by omega
  have z2' : (ln : Int).tdiv 4 = (q4 : Int) := by rw [Int.tdiv_eq_ediv_of_nonneg (by omega)]; exact z2
  have z3 : (a : Int) + (q4 : Int) = (i : Int) := by omega
  have z4 : (a : Int) + (q4 : Int) * 2 = (j : Int) := by omega
  have z5 : (a : Int) + (q4 : Int) * 3 = (k : Int) := by omega
  have l1 : 13 ≤ ln := by omega
  have l8 : (8 : Int) ≤ (ln : Int) := by omega
  have l2 : a + 3 ≤ i := by omega
  have l3 : i < j := by omega
  have l4 : j < k := by omega
  have l5 : k + 1 < b := by omega
  have ST := Lib.hid (fun (W : World) (hW : SW eU w0 blk off d W) => And.intro (hW.alloc (.cells #[.int .i64 0] 3)) (BoxU.start hW (.int .i64 0) 3))
  have ST0 := Lib.hid (ST.out w S0.out)
  clear hln hq4 hi hj hk ST
  go_enter Tryz.func107, Tryz.ntmps107
  go_upto_if 32 with fail
  have S1 : Aside (SW eU w0 blk off d (w.alloc (.cells #[.int .i64 0] 3))) := ST0.out.1
  have C1 : Aside (BoxU w0 w.heap.size (.int .i64 0) (w.alloc (.cells #[.int .i64 0] 3))) := ST0.out.2
  clear ST0 S0
  generalize w.alloc (.cells #[.int .i64 0] 3) = w1 at S1 C1 ⊢
  obtain ⟨c, hc⟩ : ∃ c, c = w.heap.size := ⟨_, rfl⟩
  rw [← hc] at C1 ⊢
  clear hc
  go_cut [11] (fun s11 wx => ∃ (p : Nat) (s : Int), s11 = .int .i64 p ∧ a ≤ p ∧ p < b ∧ Aside (SW eU w0 blk off d wx) ∧ Aside (BoxU w0 c (.int .i64 s) wx))
  case first =>
    by_cases h50 : 50 ≤ ln
    · have z50 : (50 : Int) ≤ (ln : Int) := by omega
      go_wp2_with fail
      refine (HAd.out i _ S1.out c 0 C1.out (by omega) (by omega)).mono ?_
      rintro e w2 ⟨i', rfl, hi', S2', s2, C2'⟩
      have S2 : Aside (SW eU w0 blk off d w2) := S2'
      have C2 : Aside (BoxU w0 c (.int .i64 s2) w2) := C2'
      have m1 : a ≤ i' := by omega
      have m2 : i' < b := by omega
      clear hi' S2' C2' S1 C1
      go_wp2_with fail
      refine (HAd.out j _ S2.out c s2 C2.out (by omega) (by omega)).mono ?_
      rintro e w3 ⟨j', rfl, hj', S3', s3, C3'⟩
      have S3 : Aside (SW eU w0 blk off d w3) := S3'
      have C3 : Aside (BoxU w0 c (.int .i64 s3) w3) := C3'
      have m3 : a ≤ j' := by omega
      have m4 : j' < b := by omega
      clear hj' S3' C3' S2 C2
      go_wp2_with fail
      refine (HAd.out k _ S3.out c s3 C3.out (by omega) (by omega)).mono ?_
      rintro e w4 ⟨k', rfl, hk', S4', s4, C4'⟩
      have S4 : Aside (SW eU w0 blk off d w4) := S4'
      have C4 : Aside (BoxU w0 c (.int .i64 s4) w4) := C4'
      have m5 : a ≤ k' := by omega
      have m6 : k' < b := by omega
      clear hk' S4' C4' S3 C3
      go_wp2_with fail
      refine (HMe.out i' j' k' _ S4.out c s4 C4.out (by omega) (by omega) (by omega)).mono ?_
      rintro e w5 ⟨m, rfl, hm, S5', s5, C5'⟩
      have S5 : Aside (SW eU w0 blk off d w5) := S5'
      have C5 : Aside (BoxU w0 c (.int .i64 s5) w5) := C5'
      have m7 : a ≤ m := by omega
      have m8 : m < b := by omega
      clear hm S5' C5' S4 C4
      go_wp2_with fail
      go_meet
      case rel => exact ⟨m, s5, rfl, m7, m8, S5, C5⟩
    · have z50 : ¬ (50 : Int) ≤ (ln : Int) := by omega
      go_wp2_with fail
      refine (HMe.out i j k _ S1.out c 0 C1.out (by omega) (by omega) (by omega)).mono ?_
      rintro e w5 ⟨m, rfl, hm, S5', s5, C5'⟩
      have S5 : Aside (SW eU w0 blk off d w5) := S5'
      have C5 : Aside (BoxU w0 c (.int .i64 s5) w5) := C5'
      have m7 : a ≤ m := by omega
      have m8 : m < b := by omega
      clear hm S5' C5' S1 C1
      go_wp2_with fail
      go_meet
      case rel => exact ⟨m, s5, rfl, m7, m8, S5, C5⟩
  case rest =>
  obtain ⟨p, s, rfl, hp1, hp2, S5, C5⟩ := hcut
  clear S1 C1
  have c5 := C5.out.cell
  by_cases h0 : s = 0
  · have e0 : (s == 0) = true := by simp [h0]
    clear h0
    go_wp2_with fail
    go_ret2
    exact ⟨p, 1, rfl, hp1, hp2, by omega, S5.out⟩
  · have e0 : (s == 0) = false := by simp [h0]
    by_cases h12 : s = 12
    · have e12 : (s == 12) = true := by simp [h12]
      clear h0 h12
      go_wp2_with fail
      go_ret2
      exact ⟨p, 2, rfl, hp1, hp2, by omega, S5.out⟩
    · have e12 : (s == 12) = false := by simp [h12]
      clear h0 h12
      go_wp2_with fail
      go_ret2
      exact ⟨p, 0, rfl, hp1, hp2, by omega, S5.out⟩
end Go.Proofs.YtgbmgdffgmablaaGreat

namespace Go.Proofs.YtgbmgdffgmablaaGreat
open Go.RowKit Go.Sort Go.Lib Go.Shelf

/-- Whatever sorts [a, b) of d from here sorts [a0, b0) of d0. -/
def OkU (a0 b0 : Nat) (d0 : Array Int) (a b : Nat) (d : Array Int) : Prop := ∀ R, PermIn a b d R → SortedIn ltInt a b R → PermIn a0 b0 d0 R ∧ SortedIn ltInt a0 b0 R
def StU (a0 b0 : Nat) (d0 : Array Int) (a b : Nat) (d : Array Int) : Prop := d.size = d0.size ∧ Below ltInt a b d ∧ OkU a0 b0 d0 a b d
theorem StU.perm {a0 b0 a b : Nat} {d0 d d' : Array Int} (h : StU a0 b0 d0 a b d) (hb : b ≤ d0.size) (hp : PermIn a b d d') : StU a0 b0 d0 a b d' :=
  ⟨hp.1.trans h.1, h.2.1.perm (by rw [h.1]; exact hb) hp, fun R hR hs => h.2.2 R (permIn_trans _ _ _ a b hp hR) hs⟩
theorem ltI {x y : Int} : ltInt x y = true ↔ x < y := by simp [ltInt]
theorem ltI' {x y : Int} : ltInt x y = false ↔ y ≤ x := by simp [ltInt]
theorem StU.eq {a0 b0 a b m pv : Nat} {d0 d d' : Array Int} (h : StU a0 b0 d0 a b d) (hb : b ≤ d0.size) (h0 : 0 < a) (hn : ltInt d[a - 1]! d[pv]! = false) (hP : PEq a b m d[pv]! d d') :
    StU a0 b0 d0 m b d' := by
  obtain ⟨hs, hB, hO⟩ := h
  obtain ⟨hp, ha, hm, hle, hgt⟩ := hP
  have hbd : b ≤ d.size := by rw [hs]; exact hb
  have hbd' : b ≤ d'.size := by rw [hp.1]; exact hbd
  have hge : ∀ i, a ≤ i → i < b → d[pv]! ≤ d'[i]! := fun i hi hi' => by
    refine permIn_all d d' a b (fun x => d[pv]! ≤ x) hbd hp (fun k hk hk' => ?_) i hi hi'
    rcases hB with h1 | hB
    · omega
    · have k1 := ltI'.1 (hB k hk hk')
      have k2 := ltI'.1 hn
      omega
  have hlt : ∀ i, m ≤ i → i < b → d[pv]! < d'[i]! := fun i hi hi' => ltI.1 (hgt i hi hi')
  have heq : ∀ i, a ≤ i → i < m → d'[i]! = d[pv]! := fun i hi hi' => by
    have k1 := hge i hi (by omega)
    have k2 := ltI'.1 (hle i hi hi')
    omega
  refine ⟨hp.1.trans hs, .inr fun i hi hi' => ?_, fun R hR hsR => hO R ?_ ?_⟩
  · rw [heq (m - 1) (by omega) (by omega)]
    have := hlt i hi hi'
    exact ltI'.2 (by omega)
  · exact permIn_trans _ _ _ a b hp (permIn_mono _ _ m b a b (by omega) (Nat.le_refl _) hbd' hR)
  · intro i j hi hij hj
    by_cases h1 : m ≤ i
    · exact hsR i j h1 hij hj
    · have e1 : R[i]! = d[pv]! := by rw [hR.2.1 i (.inl (by omega))]; exact heq i hi (by omega)
      rw [e1]
      by_cases h2 : m ≤ j
      · have := permIn_all d' R m b (fun x => d[pv]! < x) hbd' hR hlt j h2 hj
        exact ltI'.2 (by omega)
      · have e2 : R[j]! = d[pv]! := by rw [hR.2.1 j (.inl (by omega))]; exact heq j (by omega) (by omega)
        rw [e2]
        exact ltI'.2 (Int.le_refl _)
theorem StU.left {a0 b0 a b m : Nat} {d0 d d' L : Array Int} (h : StU a0 b0 d0 a b d) (hb : b ≤ d0.size) (hP : PPart a b m d d') (hL : PermIn a m d' L) (hsL : SortedIn ltInt a m L) : StU a0 b0 d0 (m + 1) b L := by
  obtain ⟨hs, hB, hO⟩ := h
  obtain ⟨hp, ha, hm, hlo, hhi⟩ := hP
  have hbd' : b ≤ d'.size := by rw [hp.1, hs]; exact hb
  have hbL : b ≤ L.size := by rw [hL.1]; exact hbd'
  have eL : ∀ i, m ≤ i → L[i]! = d'[i]! := fun i hi => hL.2.1 i (.inr hi)
  have kL : ∀ i, a ≤ i → i < m → ltInt L[i]! d'[m]! = true := permIn_all d' L a m (fun x => ltInt x d'[m]! = true) (by omega) hL hlo
  have kR : ∀ i, m < i → i < b → ltInt L[i]! d'[m]! = false := fun i hi hi' => by rw [eL i (by omega)]; exact hhi i hi hi'
  refine ⟨hL.1.trans (hp.1.trans hs), .inr fun i hi hi' => ?_, fun R hR hsR => hO R ?_ ?_⟩
  · rw [show m + 1 - 1 = m by omega, eL m (Nat.le_refl _)]
    exact kR i (by omega) hi'
  · exact permIn_trans _ _ _ a b hp (permIn_trans _ _ _ a b (permIn_mono _ _ a m a b (Nat.le_refl _) (by omega) hbd' hL) (permIn_mono _ _ (m + 1) b a b (by omega) (Nat.le_refl _) hbL hR))
  · have eR : ∀ i, i ≤ m → R[i]! = L[i]! := fun i hi => hR.2.1 i (.inl (by omega))
    have em : R[m]! = d'[m]! := (eR m (Nat.le_refl _)).trans (eL m (Nat.le_refl _))
    refine sorted_glue swo_ltInt (mid := m) (fun i j hi hij hj => ?_) hsR (fun i hi hi' => ?_) fun i hi hi' => ?_
    · rw [eR i (by omega), eR j (by omega)]
      exact hsL i j hi hij hj
    · rw [em, eR i (by omega)]
      exact kL i hi hi'
    · rw [em]
      exact permIn_all L R (m + 1) b (fun x => ltInt x d'[m]! = false) hbL hR (fun k hk hk' => kR k (by omega) hk') i (by omega) hi'
theorem StU.right {a0 b0 a b m : Nat} {d0 d d' L : Array Int} (h : StU a0 b0 d0 a b d) (hb : b ≤ d0.size) (hP : PPart a b m d d') (hL : PermIn (m + 1) b d' L) (hsL : SortedIn ltInt (m + 1) b L) : StU a0 b0 d0 a m L := by
  obtain ⟨hs, hB, hO⟩ := h
  obtain ⟨hp, ha, hm, hlo, hhi⟩ := hP
  have hbd : b ≤ d.size := by rw [hs]; exact hb
  have hbd' : b ≤ d'.size := by rw [hp.1]; exact hbd
  have hbL : b ≤ L.size := by rw [hL.1]; exact hbd'
  have eL : ∀ i, i ≤ m → L[i]! = d'[i]! := fun i hi => hL.2.1 i (.inl (by omega))
  have kR : ∀ i, m < i → i < b → ltInt L[i]! d'[m]! = false := fun i hi hi' => permIn_all d' L (m + 1) b (fun x => ltInt x d'[m]! = false) hbd' hL (fun k hk hk' => hhi k (by omega) hk') i (by omega) hi'
  refine ⟨hL.1.trans (hp.1.trans hs), ?_, fun R hR hsR => hO R ?_ ?_⟩
  · rcases hB.perm hbd hp with h1 | h1
    · exact .inl h1
    · by_cases h0 : a = 0
      · exact .inl h0
      · refine .inr fun i hi hi' => ?_
        rw [eL i (by omega), eL (a - 1) (by omega)]
        exact h1 i hi (by omega)
  · exact permIn_trans _ _ _ a b hp (permIn_trans _ _ _ a b (permIn_mono _ _ (m + 1) b a b (by omega) (Nat.le_refl _) hbd' hL) (permIn_mono _ _ a m a b (Nat.le_refl _) (by omega) hbL hR))
  · have eR : ∀ i, m ≤ i → R[i]! = L[i]! := fun i hi => hR.2.1 i (.inr hi)
    have em : R[m]! = d'[m]! := (eR m (Nat.le_refl _)).trans (eL m (Nat.le_refl _))
    refine sorted_glue swo_ltInt (mid := m) hsR (fun i j hi hij hj => ?_) (fun i hi hi' => ?_) fun i hi hi' => ?_
    · rw [eR i (by omega), eR j (by omega)]
      exact hsL i j hi hij hj
    · rw [em]
      exact permIn_all L R a m (fun x => ltInt x d'[m]! = true) (by omega) hR (fun k hk hk' => by rw [eL k (by omega)]; exact hlo k hk hk') i hi hi'
    · rw [em, eR i (by omega)]
      exact kR i hi hi'
theorem below_left {a b m : Nat} {d d' : Array Int} (hB : Below ltInt a b d) (hb : b ≤ d.size) (hP : PPart a b m d d') : Below ltInt a m d' :=
  (hB.perm hb hP.1).mono (by have := hP.2.2.1; omega)
theorem below_right {a b m : Nat} {d d' : Array Int} (hP : PPart a b m d d') : Below ltInt (m + 1) b d' :=
  .inr fun i hi hi' => by rw [show m + 1 - 1 = m by omega]; exact hP.2.2.2.2 i (by omega) hi'

theorem pins2_c (blk off cap : Nat) (a b : Nat) (d0 d : Array Int) (w0 w : World) (n : Nat) (hn : n = d.size) (R : Row1 eU w0 blk off d0) (hs : d0.size = d.size) (S : SW eU w0 blk off d w) (hsz : d.size < 4611686018427387904) (hab : a < b) (hb : b ≤ d.size) (hB : Below ltInt a b d) :
    Calls Tryz.prog 109 #[.slice (some ⟨blk, off, none⟩) n cap, .int .i64 a, .int .i64 b] w fun e w' => ∃ (t : Bool) (d' : Array Int), e = .returned (.bool t) ∧ SW eU w0 blk off d' w' ∧ PermIn a b d d' ∧ (t = true → SortedIn ltInt a b d') := by
  refine (pins_c blk off cap a b a b rfl rfl d0 d w0 w n hn R hs S hsz hab hb).mono ?_
  rintro e w' ⟨rfl, S'⟩
  have H := partialInsertionSort_holds swo_ltInt d a b hab hb hB
  exact ⟨_, _, rfl, S', H.1, H.2⟩

set_option maxHeartbeats 4000000 in
set_option maxRecDepth 1000000 in
theorem pdq_c (blk off cap : Nat) (d0 : Array Int) (w0 : World) (R : Row1 eU w0 blk off d0) (h64 : d0.size ≤ 64) : ∀ (N a b lim : Nat) (za zb zl : Int) (d : Array Int) (w : World) (n : Nat), za = a → zb = b → zl = lim → n = d.size → d0.size = d.size → SW eU w0 blk off d w → b - a < N → a ≤ b → b ≤ d.size → lim < 1000 → Below ltInt a b d →
    Calls Tryz.prog 78 #[.slice (some ⟨blk, off, none⟩) n cap, .int .i64 za, .int .i64 zb, .int .i64 zl] w fun e w' => e = .returned (.tuple #[]) ∧
      ∃ d', SW eU w0 blk off d' w' ∧ PermIn a b d d' ∧ SortedIn ltInt a b d' := by
  intro N
  induction N with
  | zero => intro _ _ _ _ _ _ _ _ _ _ _ _ _ _ _ h; exact absurd h (Nat.not_lt_zero _)
  | succ N ih =>
  intro a b lim za zb zl d w n hza hzb hzl hn hs S hN hab hb hlim hB
  subst hza hzb hzl hn
  have hd64 : d.size ≤ 64 := by omega
  have HS := Lib.hid hs
  have HL := Lib.hid lessU_c
  have HI := Lib.hid (fun a' b' dk W (h : d.size = dk.size) S h1 (h2 : b' ≤ d.size) => insU_c blk off cap a' b' a' b' d0 dk w0 W d.size rfl rfl h R (hs.trans h) S h1 (by omega) (by omega))
  have HH := Lib.hid (fun a' b' dk W (h : d.size = dk.size) S h1 (h2 : b' ≤ d.size) => heap_c blk off cap a' b' a' b' rfl rfl d0 dk w0 W d.size h R (hs.trans h) S (by omega) h1 (by omega))
  have HB := Lib.hid (fun a' b' dk W (h : d.size = dk.size) S h1 (h2 : b' ≤ d.size) => brk_c blk off cap a' b' a' b' rfl rfl d0 dk w0 W d.size h R (hs.trans h) S (by omega) h1 (by omega) (by omega))
  have HP := Lib.hid (fun a' b' dk W (h : d.size = dk.size) S h1 (h2 : b' ≤ d.size) => piv_c blk off cap a' b' a' b' rfl rfl d0 dk w0 W d.size h R (hs.trans h) S (by omega) h1 (by omega))
  have HR := Lib.hid (fun a' b' dk W (h : d.size = dk.size) S h1 (h2 : b' ≤ d.size) => rev_c blk off cap a' b' a' b' rfl rfl d0 dk w0 W d.size h R (hs.trans h) S (by omega) h1 (by omega))
  have HN := Lib.hid (fun a' b' dk W (h : d.size = dk.size) S h1 (h2 : b' ≤ d.size) hB => pins2_c blk off cap a' b' d0 dk w0 W d.size h R (hs.trans h) S (by omega) h1 (by omega) hB)
  have HE := Lib.hid (fun a' b' p dk W (h : d.size = dk.size) S h1 h2 (h3 : b' ≤ d.size) => peq_c blk off cap a' b' p a' b' p rfl rfl rfl d0 dk w0 W d.size h R (hs.trans h) S (by omega) h1 h2 (by omega))
  have HA := Lib.hid (fun a' b' p dk W (h : d.size = dk.size) S h1 h2 (h3 : b' ≤ d.size) => part_c blk off cap a' b' p a' b' p rfl rfl rfl d0 dk w0 W d.size h R (hs.trans h) S (by omega) h1 h2 (by omega))
  have IH := Lib.hid (fun (a' b' l : Nat) (za : Int) (hza : za = a') dk W (h : d.size = dk.size) S h1 h2 (h3 : b' ≤ d.size) hl hB => ih a' b' l za b' l dk W d.size hza rfl rfl h (hs.trans h) S h1 h2 (by omega) hl hB)
  have S0 : Aside (SW eU w0 blk off d w) := S
  have HX0 : Aside (StU a b d a b d) := show StU a b d a b d from ⟨rfl, hB, fun R h1 h2 => ⟨h1, h2⟩⟩
  clear S hs ih hB
  go_enter Tryz.func78, Tryz.ntmps78
  go_wp2
  go_loopg [1, 2, 3, 8, 9] (b - a) (fun k s1 s2 s3 s8 s9 wr => ∃ (a' b' l : Nat) (wb wp : Bool) (dk : Array Int), s1 = .int .i64 a' ∧ s2 = .int .i64 b' ∧ s3 = .int .i64 l ∧ s8 = .bool wb ∧ s9 = .bool wp ∧
      a' ≤ b' ∧ b' ≤ d.size ∧ b' - a' ≤ k ∧ k ≤ b - a ∧ l ≤ lim ∧ Aside (StU a b d a' b' dk) ∧ Aside (SW eU w0 blk off dk wr))
  case atStart => exact ⟨a, b, lim, true, true, d, rfl, rfl, rfl, rfl, rfl, hab, hb, Nat.le_refl _, Nat.le_refl _, Nat.le_refl _, HX0, S0⟩
  case round =>
  clear S0 HX0
  obtain ⟨a', b', l, wb, wp, dk, rfl, rfl, rfl, rfl, rfl, hab', hb', hk, hkN, hl, HX, S1⟩ := hrel
  by_cases h12 : b' - a' ≤ 12
  · have h12z : (b' : Int) - (a' : Int) ≤ 12 := by omega
    clear h12
    go_wp2_with fail
    refine (HI.out a' b' dk _ HX.out.1.symm S1.out hab' hb').mono ?_
    rintro e w2 ⟨rfl, d2, S2, P2, O2⟩
    go_wp2_with fail
    (try simp only [Exit.inBlock, Exit.then])
    refine bodyPost_ret (results_none rfl _ _ _) rfl ?_
    exact ⟨rfl, d2, S2, (HX.out.2.2 d2 P2 O2).1, (HX.out.2.2 d2 P2 O2).2⟩
  have h12z : ¬ ((b' : Int) - (a' : Int) ≤ 12) := by omega
  have h13 : a' + 12 < b' := by omega
  clear h12
  by_cases hl0 : l = 0
  · subst hl0
    go_wp2_with fail
    refine (HH.out a' b' dk _ HX.out.1.symm S1.out (by omega) hb').mono ?_
    rintro e w2 ⟨rfl, d2, S2, P2, O2⟩
    go_wp2_with fail
    (try simp only [Exit.inBlock, Exit.then])
    refine bodyPost_ret (results_none rfl _ _ _) rfl ?_
    exact ⟨rfl, d2, S2, (HX.out.2.2 d2 P2 O2).1, (HX.out.2.2 d2 P2 O2).2⟩
  have hl0z : ¬ ((l : Int) = 0) := by omega
  go_upto_if 35 with fail
  go_cut [3] from 19 to 133 (fun s3 wx => ∃ (l1 : Nat) (d1 : Array Int), s3 = .int .i64 l1 ∧ l1 ≤ lim ∧ Aside (PermIn a' b' dk d1) ∧ Aside (SW eU w0 blk off d1 wx))
  case first =>
    cases wb
    · go_wp2_with fail
      refine (HB.out a' b' dk _ HX.out.1.symm S1.out h13 hb').mono ?_
      rintro e w2 ⟨rfl, d1, S2, P2⟩
      go_wp2_with fail
      go_meet
      case rel =>
        refine ⟨l - 1, d1, ?_, by omega, P2, S2⟩
        show Value.int .i64 ((l : Int) - 1) = Value.int .i64 ((l - 1 : Nat) : Int)
        congr 1
        omega
    · go_wp2_with fail
      go_meet
      case rel => exact ⟨l, dk, rfl, hl, permIn_refl _ _ _, S1⟩
  case rest =>
  obtain ⟨l1, d1, rfl, hl1, P1, S2⟩ := hcut
  have HX1 : Aside (StU a b d a' b' d1) := StU.perm HX.out hb' P1.out
  clear S1 HX P1 hl0 hl0z hl
  have HC := Lib.hid (HP.out a' b' d1 _ HX1.out.1.symm S2.out h13 hb')
  go_upto_if 50 with ((with_reducible refine (HC.out).mono ?_); rintro e w3 ⟨p, h, rfl, hp1, hp2, hh, S3'⟩)
  have S3 : Aside (SW eU w0 blk off d1 w3) := S3'
  clear S3' S2 HC
  go_cut [11, 12] from 19 to 133 (fun s11 s12 wx => ∃ (p' h' : Nat) (d2 : Array Int), s11 = .int .i64 p' ∧ s12 = .int .i64 h' ∧ a' ≤ p' ∧ p' < b' ∧ Aside (PermIn a' b' d1 d2) ∧ Aside (SW eU w0 blk off d2 wx))
  case first =>
    by_cases h2 : h = 2
    · subst h2
      go_wp2_with fail
      refine (HR.out a' b' d1 _ HX1.out.1.symm S3.out (by omega) hb').mono ?_
      rintro e w4 ⟨rfl, d2, S4, P4⟩
      go_wp2_with fail
      go_meet
      case rel =>
        refine ⟨(b' - 1) - (p - a'), 1, d2, ?_, rfl, by omega, by omega, P4, S4⟩
        congr 1
        omega
    · have h2z : ¬ ((h : Int) = 2) := by omega
      go_wp2_with fail
      go_meet
      case rel => exact ⟨p, h, d1, rfl, rfl, hp1, hp2, permIn_refl _ _ _, S3⟩
  case rest =>
  obtain ⟨p', h', d2, rfl, rfl, hq1, hq2, P2, S4⟩ := hcut
  have HX2 : Aside (StU a b d a' b' d2) := StU.perm HX1.out hb' P2.out
  clear S3 HX1 P2 hp1 hp2 hh
  go_upto_region 15 with fail
  go_cut [12, 68] from 19 to 133 (fun s12 s68 wx => ∃ c : Bool, s12 = .int .i64 h' ∧ s68 = .bool c ∧ wx = wc)
  case first =>
    cases wb <;> cases wp <;> (by_cases h1 : h' = 1
                               · have h1z : (h' : Int) = 1 := by omega
                                 go_wp2_with fail
                                 go_meet
                                 case rel => exact ⟨_, rfl, rfl, rfl⟩
                               · have h1z : ¬ (h' : Int) = 1 := by omega
                                 go_wp2_with fail
                                 go_meet
                                 case rel => exact ⟨_, rfl, rfl, rfl⟩)
  case rest =>
  obtain ⟨c, rfl, rfl, rfl⟩ := hcut
  go_upto_if 68 with fail
  go_cut [] from 19 to 133 (fun wx => ∃ d3 : Array Int, Aside (PermIn a' b' d2 d3) ∧ Aside (SW eU w0 blk off d3 wx))
  case first =>
    cases c
    · go_wp2_with fail
      go_meet
      case rel => exact ⟨d2, permIn_refl _ _ _, S4⟩
    · go_wp2_with fail
      refine (HN.out a' b' d2 _ HX2.out.1.symm S4.out (by omega) hb' HX2.out.2.1).mono ?_
      rintro e w5 ⟨t, d3, rfl, S5, P5, O5⟩
      cases t
      · go_wp2_with fail
        go_meet
        case rel => exact ⟨d3, P5, S5⟩
      · go_wp2_with fail
        (try simp only [Exit.inBlock, Exit.then])
        refine bodyPost_ret (results_none rfl _ _ _) rfl ?_
        exact ⟨rfl, d3, S5, (HX2.out.2.2 d3 P5 (O5 (by trivial))).1, (HX2.out.2.2 d3 P5 (O5 (by trivial))).2⟩
  case rest =>
  obtain ⟨d3, P3, S5⟩ := hcut
  have HX3 : Aside (StU a b d a' b' d3) := StU.perm HX2.out hb' P3.out
  have HD : Hid (d3.size = d.size) := HX3.out.1
  clear S4 HX2 P3
  go_upto_region 17 with fail
  go_cut [87] from 19 to 133 (fun s87 wx => ∃ t : Bool, s87 = .bool t ∧ Aside (t = true → 0 < a' ∧ ltInt d3[a' - 1]! d3[p']! = false) ∧ Aside (SW eU w0 blk off d3 wx))
  case first =>
    rcases Nat.eq_zero_or_pos a' with ha0 | ha0
    · have ha0z : decide ((a' : Int) > 0) = false := decide_eq_false (by omega)
      go_quiet ((go_at_call 110; with_reducible exact Calls.quiet_of_same (HL.out _ _ _)))
      have S6 : Aside (SW eU w0 blk off d3 (wc.drewN nq)) := S5.out.drewN nq
      clear S5
      generalize wc.drewN nq = wq at S6 ⊢
      go_wp2_with fail
      go_meet
      case rel =>
        refine ⟨false, rfl, ?_, S6⟩
        show _ → _
        intro h
        cases h
    · have ha0z : (a' : Int) > 0 := by omega
      obtain ⟨q, hq⟩ : ∃ q, q = a' - 1 := ⟨_, rfl⟩
      have zq : (a' : Int) - 1 = (q : Int) := by omega
      have lq : q < a' := by omega
      have HQ := Lib.hid hq
      clear hq
      have hsz2 := HD.out
      obtain ⟨x, hx⟩ : ∃ x, d3[q]! = x := ⟨_, rfl⟩
      have cx := S5.out.c1 R (by rw [HD.out]; exact HS.out.symm) (q) (by omega)
      rw [hx] at cx
      replace cx : wc.cell? ⟨blk, off + q, none⟩ = some (.int .u64 x) := cx
      have Xx := Lib.hid hx
      clear hx
      have bbx : (q : Int) < (d.size : Int) := by omega
      obtain ⟨y, hy⟩ : ∃ x, d3[p']! = x := ⟨_, rfl⟩
      have cy := S5.out.c1 R (by rw [HD.out]; exact HS.out.symm) (p') (by omega)
      rw [hy] at cy
      replace cy : wc.cell? ⟨blk, off + p', none⟩ = some (.int .u64 y) := cy
      have Xy := Lib.hid hy
      clear hy
      have bby : (p' : Int) < (d.size : Int) := by omega
      clear hsz2
      go_quiet ((go_at_call 110; with_reducible exact Calls.quiet_of_same (HL.out _ _ _)))
      have S6 : Aside (SW eU w0 blk off d3 (wc.drewN nq)) := S5.out.drewN nq
      clear cx bbx cy bby S5
      generalize wc.drewN nq = wq at S6 ⊢
      go_wp2_with fail
      go_meet
      case rel =>
        refine ⟨!ltInt x y, rfl, ?_, S6⟩
        show _ → _
        intro h
        rw [← HQ.out, Xx.out, Xy.out]
        exact ⟨ha0, by simpa using h⟩
  case rest =>
  obtain ⟨t, rfl, HT, S6⟩ := hcut
  clear S5
  cases t
  · have HC := Lib.hid (HA.out a' b' p' d3 _ HX3.out.1.symm S6.out hq1 hq2 hb')
    go_upto_if 113 with ((with_reducible refine (HC.out).mono ?_); rintro e w7 ⟨mid, ap, rfl, d4, S7', P7'⟩; have r1 : a' ≤ mid := P7'.2.1; have r2 : mid < b' := P7'.2.2.1)
    have S7 : Aside (SW eU w0 blk off d4 w7) := S7'
    have P7 : Aside (PPart a' b' mid d3 d4) := P7'
    have H4 : Hid (d.size = d4.size) := by show _ = _; rw [P7'.1.1]; exact HX3.out.1.symm
    clear S7' P7' S6 HC HT
    by_cases h4 : mid - a' < b' - mid
    · have h4z : (mid : Int) - (a' : Int) < (b' : Int) - (mid : Int) := by omega
      go_wp2_with fail
      refine (IH.out a' mid l1 a' rfl d4 _ H4.out S7.out (by omega) r1 (by omega) (by omega) (below_left HX3.out.2.1 (by rw [HD.out]; exact hb') P7.out)).mono ?_
      rintro e w8 ⟨rfl, d5, S8', P8', O8'⟩
      have S8 : Aside (SW eU w0 blk off d5 w8) := S8'
      have HX5 : Aside (StU a b d (mid + 1) b' d5) := StU.left HX3.out hb' P7.out P8' O8'
      clear S8' P8' O8' S7 P7 HX3 H4
      go_wp2_with fail
      go_roundg (b' - (mid + 1))
      case measure => omega
      case rel => exact ⟨mid + 1, b', l1, _, ap, d5, by go_num, rfl, rfl, rfl, rfl, by omega, hb', Nat.le_refl _, by omega, hl1, HX5, S8⟩
    · have h4z : ¬ ((mid : Int) - (a' : Int) < (b' : Int) - (mid : Int)) := by omega
      go_wp2_with fail
      refine (IH.out (mid + 1) b' l1 ((mid : Int) + 1) rfl d4 _ H4.out S7.out (by omega) (by omega) hb' (by omega) (below_right P7.out)).mono ?_
      rintro e w8 ⟨rfl, d5, S8', P8', O8'⟩
      have S8 : Aside (SW eU w0 blk off d5 w8) := S8'
      have HX5 : Aside (StU a b d a' mid d5) := StU.right HX3.out hb' P7.out P8' O8'
      clear S8' P8' O8' S7 P7 HX3 H4
      go_wp2_with fail
      go_roundg (mid - a')
      case measure => omega
      case rel => exact ⟨a', mid, l1, _, ap, d5, rfl, rfl, rfl, rfl, rfl, r1, by omega, Nat.le_refl _, by omega, hl1, HX5, S8⟩
  · have HTT := HT.out rfl
    go_wp2_with fail
    refine (HE.out a' b' p' d3 _ HX3.out.1.symm S6.out hq1 hq2 hb').mono ?_
    rintro e w7 ⟨m, rfl, d4, S7', P7'⟩
    have S7 : Aside (SW eU w0 blk off d4 w7) := S7'
    have HX5 : Aside (StU a b d m b' d4) := StU.eq HX3.out hb' HTT.1 HTT.2 P7'
    have r1 : a' < m := P7'.2.1
    have r2 : m ≤ b' := P7'.2.2.1
    clear S7' P7' S6 HX3 HT HTT
    go_wp2_with fail
    go_roundg (b' - m)
    case measure => omega
    case rel => exact ⟨m, b', l1, wb, wp, d4, rfl, rfl, rfl, rfl, rfl, r2, hb', Nat.le_refl _, by omega, hl1, HX5, S7⟩

theorem bl_small : ∀ n : Fin 65, Lib.bitLen n.val < 1000 := by decide +kernel
set_option maxHeartbeats 4000000 in
theorem sort64_c (n : Nat) (h64 : n ≤ 64) : SortsU n := by
  intro blk off cap d w hn hH hb
  have R : Row1 eU w blk off d := ⟨eU_one, hH, hb⟩
  have HP := Lib.hid (fun lim hl => pdq_c blk off cap d w R (by omega) (n + 1) 0 n lim 0 n lim d w n rfl rfl rfl hn rfl (SW.start hH) (by omega) (Nat.zero_le _) (by omega) hl (.inl rfl))
  have hl1 : Lib.bitLen n < 1000 := bl_small ⟨n, by omega⟩
  have hl2 : Lib.bitLen (n : Int).toNat < 1000 := by rw [Int.toNat_natCast]; exact hl1
  have HL := Lib.hid (len_c (n : Int) w (by omega) (by omega))
  have wz : IntKind.u64.wrap (n : Int) = (n : Int) := by rw [IntKind.wrap_u64]; omega
  clear hn hH R
  go_enter Tryz.func66, Tryz.ntmps66
  go_wp2_with (first | ((with_reducible refine (HL.out).mono ?_); rintro e w2 ⟨rfl, rfl⟩) | ((with_reducible refine (HP.out _ hl2).mono ?_); rintro e w2 ⟨rfl, d2, S2, P2, O2⟩) | ((with_reducible refine (HP.out _ hl1).mono ?_); rintro e w2 ⟨rfl, d2, S2, P2, O2⟩))
  go_end0
  exact ⟨rfl, d2, S2, P2, O2⟩
end Go.Proofs.YtgbmgdffgmablaaGreat

namespace Go.Proofs.YtgbmgdffgmablaaGreat
open Go.RowKit Go.Shelf Go.Sort Go.Maps Go.Lib
set_option linter.unusedVariables false

theorem lt_tot {x y : Od} (gx : goodO x = true) (gy : goodO y = true) (hi : ¬ x.id = y.id) (h : ltO y x = false) : ltO x y = true := by
  rw [ltO_no] at h
  rw [ltO_iff]
  have kx : kiO x = x.id := by unfold kiO; rw [if_pos (good_side gx)]
  have ky : kiO y = y.id := by unfold kiO; rw [if_pos (good_side gy)]
  rw [kx, ky] at h ⊢
  unfold Lex at *
  omega
/-- What may be a book stands as it trades, each but once. -/
theorem book_facts {L : List Od} (h : bookO L = true) : L.length ≤ 64 ∧ (∀ x ∈ L, goodO x = true) ∧ Ids L ∧ L.Pairwise (fun x y => ltO x y = true) := by
  obtain ⟨h1, h2, h3, h4⟩ := (book_iff L).1 h
  have hi : Ids L := by
    have := List.pairwise_map.1 (List.nodup_iff_pairwise_ne.1 h3)
    exact this.imp (fun h => h)
  refine ⟨h1, h2, hi, ?_⟩
  have hw := sortO_weak L
  rw [← h4] at hw
  have hb := hi.and hw
  refine List.Pairwise.imp_of_mem ?_ hb
  intro x y hx hy hxy
  exact lt_tot (h2 x hx) (h2 y hy) hxy.1 hxy.2
theorem facts_book {L : List Od} (h1 : L.length ≤ 64) (h2 : ∀ x ∈ L, goodO x = true) (h3 : Ids L) (h4 : L.Pairwise (fun x y => ltO x y = true)) : bookO L = true := by
  refine (book_iff L).2 ⟨h1, h2, List.nodup_iff_pairwise_ne.2 (List.pairwise_map.2 (h3.imp fun h => h)), (sortO_uniq (List.Perm.refl _) h4).symm⟩
theorem Held.book {w : World} {v : Value} {k : Int} {L : List Od} {S : Nat → Prop} (h : Held w v k L S) : bookO L = true := facts_book h.len (fun x hx => (h.ok x hx).2) h.ids h.pw
theorem HTurn.trans {w w1 w2 : World} {v : Value} {k : Int} {L1 L2 : List Od} {S S1 S2 : Nat → Prop} (h : HTurn w w1 v k S L1 S1) (g : HTurn w1 w2 v k S1 L2 S2) : HTurn w w2 v k S L2 S2 :=
  ⟨g.hd, h.fr.trans g.fr h.ft, fun j hj => by
    rcases g.ft j hj with h' | h'
    · exact h.ft j h'
    · exact .inr (Nat.le_trans h.fr.size h')⟩
/-- A book made anew. -/
structure LyNew (w w' : World) (b : Nat) (v : Value) (k : Int) (L : List Od) (S : Nat → Prop) : Prop where
  ly : LyB w' b v k L S
  be : Below w.heap.size w w'
  lo : ∀ j, S j → w.heap.size ≤ j
  lb : w.heap.size ≤ b
set_option maxHeartbeats 4000000 in
set_option maxRecDepth 100000 in
theorem make1_c (w : World) : Calls Tryz.prog 18 #[.int .i64 1] w fun e w' => ∃ b p S, e = .returned (ptA b) ∧ Hid (LyNew w w' b (lvl p) 1 [] S) := by
  have HN := Lib.hid (new_c w)
  go_enter Tryz.func18, Tryz.ntmps18
  go_wp2_with ((with_reducible refine HN.out.mono ?_); rintro e w1 ⟨rfl, h⟩)
  go_ret
  have hb := b1_of w1 (.cells #[.int .i64 1, lvl (w.heap.size + 1)] 97)
  refine ⟨w1.heap.size, w.heap.size + 1, foot (some ⟨w.heap.size + 1, 0, none⟩) (some w.heap.size) nilS nilS, rfl, Lib.hid ⟨⟨hd_last rfl, .lad _ _ nilS nilS ((whole_new h.out.1).below hb)⟩, h.out.2.trans (hb.mono h.out.2.size), fun j hj => ?_, h.out.2.size⟩⟩
  rcases whole_foot hj with e | e <;> omega
set_option maxHeartbeats 4000000 in
set_option maxRecDepth 100000 in
theorem make2_c (w : World) : Calls Tryz.prog 18 #[.int .i64 2] w fun e w' => ∃ b p S, e = .returned (ptA b) ∧ Hid (LyNew w w' b (gvl p) 2 [] S) := by
  have HN := Lib.hid (gNew_is w)
  go_enter Tryz.func18, Tryz.ntmps18
  go_wp2_with ((with_reducible refine HN.out.mono ?_); rintro e w1 ⟨p, m, s1, s2, rfl, h⟩)
  go_ret
  have hb := b1_of w1 (.cells #[.int .i64 2, gvl p] 97)
  have hg := Held.gro p m s1 s2 (h.out.wh.below hb)
  rw [h.out.nil] at hg
  exact ⟨w1.heap.size, p, gft p m s1 s2, rfl, Lib.hid ⟨⟨hd_last rfl, hg⟩, h.out.be.trans (hb.mono h.out.be.size), h.out.lo, h.out.be.size⟩⟩
set_option maxHeartbeats 4000000 in
set_option maxRecDepth 100000 in
theorem make0_c (k : Int) (h1 : ¬ k = 1) (h2 : ¬ k = 2) (w : World) : Calls Tryz.prog 18 #[.int .i64 k] w fun e w' => e = .returned (.pointer none) ∧ w = w' := by
  have e1 : (k == 1) = false := by simp [h1]
  have e2 : (k == 2) = false := by simp [h2]
  go_enter Tryz.func18, Tryz.ntmps18
  go_wp2_with fail
  go_ret
  exact ⟨rfl, rfl⟩
theorem make_c (k : Int) (hk : k = 1 ∨ k = 2) (w : World) : Calls Tryz.prog 18 #[.int .i64 k] w fun e w' => ∃ b v S, e = .returned (ptA b) ∧ Hid (LyNew w w' b v k [] S) := by
  rcases hk with rfl | rfl
  · exact (make1_c w).mono fun e w' ⟨b, p, S, h, g⟩ => ⟨b, _, S, h, g⟩
  · exact (make2_c w).mono fun e w' ⟨b, p, S, h, g⟩ => ⟨b, _, S, h, g⟩
theorem held_lad {W : World} {v : Value} {k : Int} {L : List Od} {S : Nat → Prop} {x : Od} (h : Held W v k L S) (hx : Od.ok W x) {p : Nat} (e : v = lvl p) : Calls Tryz.prog 168 #[ptA p, oV x] W (AddEnd W v k S L x) := by
  cases h with
  | lad q m s1 s2 h => injection e with _ e; injection e with e; injection e with e; injection e with e; subst e; exact addL q m s1 s2 x W h hx
  | gro q m s1 s2 h => injection e with e _; exact absurd e (by decide)
theorem held_gro {W : World} {v : Value} {k : Int} {L : List Od} {S : Nat → Prop} {x : Od} (h : Held W v k L S) (hx : Od.ok W x) {p : Nat} (e : v = gvl p) : Calls Tryz.prog 199 #[ptA p, oV x] W (AddEnd W v k S L x) := by
  cases h with
  | gro q m s1 s2 h => injection e with _ e; injection e with e; injection e with e; injection e with e; subst e; exact addG q m s1 s2 x W h hx
  | lad q m s1 s2 h => injection e with e _; exact absurd e (by decide)
/-- What fill's loop leaves. -/
structure FlI (w0 w wr : World) (v : Value) (k : Int) (S : Nat → Prop) (L : List Od) (i : Nat) (Si : Nat → Prop) : Prop where
  tu : HTurn w wr v k S (L.take i) Si
  be : Below w0.heap.size w0 wr
theorem FlI.step {w0 w wr w' : World} {v : Value} {k : Int} {S Si S' : Nat → Prop} {L : List Od} {i : Nat} {o : Obj} (h : FlI w0 w wr v k S L i Si) (hS : ∀ j, S j → w0.heap.size ≤ j) (hbe : Below w0.heap.size w0 w) (hB : bookO L = true) (hi : i < L.length)
    (t : HTurn (wr.alloc o) w' v k Si (addP (L.take i) (L[i]!)).2 S') : FlI w0 w w' v k S L (i + 1) S' := by
  obtain ⟨h1, h2, h3, h4⟩ := book_facts hB
  have ex : L[i]! = L[i] := getElem!_pos L i hi
  have et : L.take (i + 1) = L.take i ++ [L[i]] := List.take_succ_eq_append_getElem hi
  have hp : addP (L.take i) (L[i]!) = (0, L.take (i + 1)) := by
    rw [ex, addP_put (h2 _ (List.getElem_mem hi)) (fun x hx => ?_) (by rw [List.length_take]; omega), ← et, sortO_uniq (List.Perm.refl _) (h4.sublist (List.take_sublist _ _))]
    rw [List.take_succ_eq_append_getElem hi] at et
    have := h3.sublist (List.take_sublist (i + 1) L)
    rw [List.take_succ_eq_append_getElem hi] at this
    exact (List.pairwise_append.1 this).2.2 x hx _ (List.mem_singleton.2 rfl)
  rw [hp] at t
  have t1 : HTurn w w' v k S (L.take (i + 1)) S' := h.tu.trans (HTurn.after (b1_of wr o) t)
  exact ⟨t1, hbe.trans (t1.fr.below hS hbe.size)⟩
set_option maxHeartbeats 4000000 in
set_option maxHeartbeats 4000000 in
set_option maxRecDepth 100000 in
theorem fill_lad (p : Nat) (v : Value) (ev : v = lvl p) (k : Int) (S : Nat → Prop) (A : Option Addr) (n c : Nat) (L : List Od) (w0 w : World) (hO : Ods w0 A n L) (hbe : Below w0.heap.size w0 w) (H : Held w v k [] S) (hS : ∀ j, S j → w0.heap.size ≤ j) (hB : bookO L = true) :
    Calls Tryz.prog 44 #[.func (.method "Add") #[lvl p] #[], .slice A n c] w fun e w' => e = .returned (.tuple #[]) ∧ ∃ S', Hid (HTurn w w' v k S L S') := by
  have hm : ∀ (x : Value) (w : World), (Go.method 386 102 x "Add").run Tryz.prog w = .ok (168, x) w := fun x _ => by kernel_rfl
  have hn := hO.1
  have hn64 : (n : Int) ≤ 64 := by have := (book_facts hB).1; omega
  have HO := Lib.hid hO
  have HBb := Lib.hid hB
  have HBe := Lib.hid hbe
  have HS := Lib.hid hS
  have HN := Lib.hid hn
  have HH := Lib.hid H
  have HEv := Lib.hid ev
  clear hO hB hbe hS hn H ev
  go_enter Tryz.func44, Tryz.ntmps44
  go_wp2_with fail
  go_loopw [8] (fun s wr => ∃ (i : Nat) (Si : Nat → Prop), s = .int .i64 (i : Int) ∧ Hid (i ≤ n ∧ FlI w0 w wr v k S L i Si)) (fun s _ => match s with | .int _ z => n - z.toNat | _ => 0)
  case atStart => exact ⟨0, S, rfl, Nat.zero_le _, by rw [List.take_zero]; exact HTurn.same HH.out (Below.refl _ _), HBe.out⟩
  case round =>
    obtain ⟨i, Si, rfl, hd⟩ := hrel
    by_cases hi : i < n
    · have hiI : (i : Int) < (n : Int) := by omega
      have h1 := (HO.out.below hd.out.2.be).2.2.2
      rcases h1 with h1 | ⟨b, off, rfl, _, hc⟩
      · omega
      have hx := hc i hi
      have hok := HO.out.2.2.1 (L[i]!) (by rw [getElem!_pos L i (by rw [HN.out]; exact hi)]; exact List.getElem_mem (by rw [HN.out]; exact hi))
      clear hc
      have HA := Lib.hid (held_lad (hd.out.2.tu.hd.below (b1_of wr (.cells (OC (L[i]!)) 38))) hok HEv.out)
      have HF : Hid (∀ w' S', HTurn (wr.alloc (.cells (OC (L[i]!)) 38)) w' v k Si (addP (L.take i) (L[i]!)).2 S' → FlI w0 w w' v k S L (i + 1) S') := Lib.hid fun w' S' t => hd.out.2.step HS.out HBe.out HBb.out (by rw [HN.out]; exact hi) t
      have Hi := Lib.hid hi
      clear hd hi hok
      obtain ⟨x, ex⟩ : ∃ x, L[i]! = x := ⟨_, rfl⟩
      rw [ex] at hx HF HA
      obtain ⟨x0, x1, x2, x3, x4, x5⟩ := hx
      go_wp2_with fail
      ((with_reducible refine HA.out.mono ?_); rintro e w3 ⟨S', rfl, ht⟩)
      go_wp2_with fail
      exact ⟨⟨i + 1, S', rfl, Hi.out, HF.out _ _ ht.out⟩, less_left Hi.out⟩
    · obtain rfl : i = n := by have := hd.out.1; omega
      have hiI : ¬ (i : Int) < (i : Int) := by omega
      go_wp2_with fail
      go_end0
      have := hd.out.2.tu
      rw [List.take_of_length_le (by rw [HN.out]; exact Nat.le_refl _)] at this
      exact ⟨rfl, Si, Lib.hid this⟩
set_option maxHeartbeats 4000000 in
set_option maxHeartbeats 4000000 in
set_option maxRecDepth 100000 in
theorem fill_gro (p : Nat) (v : Value) (ev : v = gvl p) (k : Int) (S : Nat → Prop) (A : Option Addr) (n c : Nat) (L : List Od) (w0 w : World) (hO : Ods w0 A n L) (hbe : Below w0.heap.size w0 w) (H : Held w v k [] S) (hS : ∀ j, S j → w0.heap.size ≤ j) (hB : bookO L = true) :
    Calls Tryz.prog 44 #[.func (.method "Add") #[gvl p] #[], .slice A n c] w fun e w' => e = .returned (.tuple #[]) ∧ ∃ S', Hid (HTurn w w' v k S L S') := by
  have hm : ∀ (x : Value) (w : World), (Go.method 386 104 x "Add").run Tryz.prog w = .ok (199, x) w := fun x _ => by kernel_rfl
  have hn := hO.1
  have hn64 : (n : Int) ≤ 64 := by have := (book_facts hB).1; omega
  have HO := Lib.hid hO
  have HBb := Lib.hid hB
  have HBe := Lib.hid hbe
  have HS := Lib.hid hS
  have HN := Lib.hid hn
  have HH := Lib.hid H
  have HEv := Lib.hid ev
  clear hO hB hbe hS hn H ev
  go_enter Tryz.func44, Tryz.ntmps44
  go_wp2_with fail
  go_loopw [8] (fun s wr => ∃ (i : Nat) (Si : Nat → Prop), s = .int .i64 (i : Int) ∧ Hid (i ≤ n ∧ FlI w0 w wr v k S L i Si)) (fun s _ => match s with | .int _ z => n - z.toNat | _ => 0)
  case atStart => exact ⟨0, S, rfl, Nat.zero_le _, by rw [List.take_zero]; exact HTurn.same HH.out (Below.refl _ _), HBe.out⟩
  case round =>
    obtain ⟨i, Si, rfl, hd⟩ := hrel
    by_cases hi : i < n
    · have hiI : (i : Int) < (n : Int) := by omega
      have h1 := (HO.out.below hd.out.2.be).2.2.2
      rcases h1 with h1 | ⟨b, off, rfl, _, hc⟩
      · omega
      have hx := hc i hi
      have hok := HO.out.2.2.1 (L[i]!) (by rw [getElem!_pos L i (by rw [HN.out]; exact hi)]; exact List.getElem_mem (by rw [HN.out]; exact hi))
      clear hc
      have HA := Lib.hid (held_gro (hd.out.2.tu.hd.below (b1_of wr (.cells (OC (L[i]!)) 38))) hok HEv.out)
      have HF : Hid (∀ w' S', HTurn (wr.alloc (.cells (OC (L[i]!)) 38)) w' v k Si (addP (L.take i) (L[i]!)).2 S' → FlI w0 w w' v k S L (i + 1) S') := Lib.hid fun w' S' t => hd.out.2.step HS.out HBe.out HBb.out (by rw [HN.out]; exact hi) t
      have Hi := Lib.hid hi
      clear hd hi hok
      obtain ⟨x, ex⟩ : ∃ x, L[i]! = x := ⟨_, rfl⟩
      rw [ex] at hx HF HA
      obtain ⟨x0, x1, x2, x3, x4, x5⟩ := hx
      go_wp2_with fail
      ((with_reducible refine HA.out.mono ?_); rintro e w3 ⟨S', rfl, ht⟩)
      go_wp2_with fail
      exact ⟨⟨i + 1, S', rfl, Hi.out, HF.out _ _ ht.out⟩, less_left Hi.out⟩
    · obtain rfl : i = n := by have := hd.out.1; omega
      have hiI : ¬ (i : Int) < (i : Int) := by omega
      go_wp2_with fail
      go_end0
      have := hd.out.2.tu
      rw [List.take_of_length_le (by rw [HN.out]; exact Nat.le_refl _)] at this
      exact ⟨rfl, Si, Lib.hid this⟩
set_option maxHeartbeats 4000000 in
set_option maxRecDepth 100000 in
theorem ordBook_c (A : Option Addr) (n c : Nat) (L : List Od) (w : World) (H : Ods w A n L) : Calls Tryz.prog 43 #[.slice A n c] w (BookIs w (bookO L)) := by
  by_cases h : n ≤ 64
  · exact book_c A n c L w H h (sort64_c n h)
  · exact bookLong_c A n c L w H.1 h
set_option maxHeartbeats 4000000 in
set_option maxRecDepth 100000 in
theorem build1_c (A : Option Addr) (n c : Nat) (L : List Od) (w : World) (H : Ods w A n L) (hB : bookO L = true) :
    Calls Tryz.prog 10 #[.int .i64 1, .slice A n c] w fun e w' => ∃ b p S, e = .returned (.tuple #[ptA b, .int .i64 0]) ∧ Hid (LyNew w w' b (lvl p) 1 L S) := by
  have HMk := Lib.hid (make1_c w)
  have HO := Lib.hid H
  have HB := Lib.hid hB
  clear H hB
  go_enter Tryz.func10, Tryz.ntmps10
  go_wp2_with (first
    | ((with_reducible refine HMk.out.mono ?_); rintro e w1 ⟨b, p, S, rfl, hN⟩; have HBk := Lib.hid (by have := ordBook_c A n c L w1 (HO.out.below hN.out.be); rwa [HB.out] at this); clear HMk)
    | ((with_reducible refine HBk.out.mono ?_); rintro e w2 ⟨rfl, h2⟩; have H2 := Lib.hid (hN.out.ly.below h2); have B2 := Lib.hid (hN.out.be.trans (h2.mono hN.out.be.size)); clear h2 HBk; have c1 : w2.cell? ⟨b, 1, none⟩ = some (lvl p) := (H2.out.cl.c 1).trans rfl; have HF := Lib.hid (fill_lad p _ rfl 1 S A n c L w w2 HO.out B2.out H2.out.hd hN.out.lo HB.out))
    | ((with_reducible refine HF.out.mono ?_); rintro e w3 ⟨rfl, S', ht⟩))
  refine bodyPost_ret (results_tmp2 rfl _ _ _) rfl ?_
  have hb3 : Below w.heap.size w w3 := B2.out.trans (ht.out.fr.below hN.out.lo B2.out.size)
  refine ⟨b, p, S', rfl, Lib.hid ⟨H2.out.turn ht.out, hb3, fun j hj => ?_, hN.out.lb⟩⟩
  rcases ht.out.ft j hj with h | h
  · exact hN.out.lo j h
  · exact Nat.le_trans B2.out.size h
set_option maxHeartbeats 4000000 in
set_option maxRecDepth 100000 in
theorem build2_c (A : Option Addr) (n c : Nat) (L : List Od) (w : World) (H : Ods w A n L) (hB : bookO L = true) :
    Calls Tryz.prog 10 #[.int .i64 2, .slice A n c] w fun e w' => ∃ b p S, e = .returned (.tuple #[ptA b, .int .i64 0]) ∧ Hid (LyNew w w' b (gvl p) 2 L S) := by
  have HMk := Lib.hid (make2_c w)
  have HO := Lib.hid H
  have HB := Lib.hid hB
  clear H hB
  go_enter Tryz.func10, Tryz.ntmps10
  go_wp2_with (first
    | ((with_reducible refine HMk.out.mono ?_); rintro e w1 ⟨b, p, S, rfl, hN⟩; have HBk := Lib.hid (by have := ordBook_c A n c L w1 (HO.out.below hN.out.be); rwa [HB.out] at this); clear HMk)
    | ((with_reducible refine HBk.out.mono ?_); rintro e w2 ⟨rfl, h2⟩; have H2 := Lib.hid (hN.out.ly.below h2); have B2 := Lib.hid (hN.out.be.trans (h2.mono hN.out.be.size)); clear h2 HBk; have c1 : w2.cell? ⟨b, 1, none⟩ = some (gvl p) := (H2.out.cl.c 1).trans rfl; have HF := Lib.hid (fill_gro p _ rfl 2 S A n c L w w2 HO.out B2.out H2.out.hd hN.out.lo HB.out))
    | ((with_reducible refine HF.out.mono ?_); rintro e w3 ⟨rfl, S', ht⟩))
  refine bodyPost_ret (results_tmp2 rfl _ _ _) rfl ?_
  have hb3 : Below w.heap.size w w3 := B2.out.trans (ht.out.fr.below hN.out.lo B2.out.size)
  refine ⟨b, p, S', rfl, Lib.hid ⟨H2.out.turn ht.out, hb3, fun j hj => ?_, hN.out.lb⟩⟩
  rcases ht.out.ft j hj with h | h
  · exact hN.out.lo j h
  · exact Nat.le_trans B2.out.size h
theorem build_c (k : Int) (hk : k = 1 ∨ k = 2) (A : Option Addr) (n c : Nat) (L : List Od) (w : World) (H : Ods w A n L) (hB : bookO L = true) :
    Calls Tryz.prog 10 #[.int .i64 k, .slice A n c] w fun e w' => ∃ b v S, e = .returned (.tuple #[ptA b, .int .i64 0]) ∧ Hid (LyNew w w' b v k L S) := by
  rcases hk with rfl | rfl
  · exact (build1_c A n c L w H hB).mono fun e w' ⟨b, p, S, h, g⟩ => ⟨b, _, S, h, g⟩
  · exact (build2_c A n c L w H hB).mono fun e w' ⟨b, p, S, h, g⟩ => ⟨b, _, S, h, g⟩
def NoEnd (w : World) (e : Ending) (w' : World) : Prop := e = .returned (.tuple #[.pointer none, .int .i64 2]) ∧ Hid (Below w.heap.size w w')
set_option maxHeartbeats 4000000 in
set_option maxRecDepth 100000 in
theorem build_no (k : Int) (h1 : ¬ k = 1) (h2 : ¬ k = 2) (A : Option Addr) (n c : Nat) (w : World) :
    Calls Tryz.prog 10 #[.int .i64 k, .slice A n c] w (NoEnd w) := by
  have HMk := Lib.hid (make0_c k h1 h2 w)
  clear h1 h2
  go_enter Tryz.func10, Tryz.ntmps10
  go_wp2_with ((with_reducible refine HMk.out.mono ?_); rintro e w1 ⟨rfl, rfl⟩)
  refine bodyPost_ret (results_tmp2 rfl _ _ _) rfl ?_
  exact ⟨rfl, Lib.hid (Below.refl _ _)⟩
set_option maxHeartbeats 4000000 in
set_option maxRecDepth 100000 in
theorem build_bad (k : Int) (hk : k = 1 ∨ k = 2) (A : Option Addr) (n c : Nat) (L : List Od) (w : World) (H : Ods w A n L) (hB : bookO L = false) :
    Calls Tryz.prog 10 #[.int .i64 k, .slice A n c] w (NoEnd w) := by
  have HMk := Lib.hid (make_c k hk w)
  have HO := Lib.hid H
  have HB := Lib.hid hB
  clear H hB hk
  go_enter Tryz.func10, Tryz.ntmps10
  go_wp2_with (first
    | ((with_reducible refine HMk.out.mono ?_); rintro e w1 ⟨b, v, S, rfl, hN⟩; have HBk := Lib.hid (by have := ordBook_c A n c L w1 (HO.out.below hN.out.be); rwa [HB.out] at this); clear HMk)
    | ((with_reducible refine HBk.out.mono ?_); rintro e w2 ⟨rfl, h2⟩))
  refine bodyPost_ret (results_tmp2 rfl _ _ _) rfl ?_
  exact ⟨rfl, Lib.hid (hN.out.be.trans (h2.mono hN.out.be.size))⟩
end Go.Proofs.YtgbmgdffgmablaaGreat

namespace Go.Proofs.YtgbmgdffgmablaaGreat
open Go.RowKit Go.Shelf Go.Sort Go.Maps Go.Lib
set_option linter.unusedVariables false

/-- What is told of a book's row, cloned. -/
theorem row_ods {w w' : World} {L : List Od} {v : Value} (h : w'.ownsRow w.heap.size 38 6 v L.length (ol L)) (hl : L.length ≤ 64) (hok : ∀ x ∈ L, Od.ok w x) : ∃ A c, v = .slice A L.length c ∧ Ods w' A L.length L ∧ w'.ownsRow 0 38 6 (.slice A L.length c) L.length (ol L) := by
  obtain ⟨A, c, rfl, _, ho⟩ := own_ods h (by omega) (fun x hx => by have := hok x hx; exact this)
  exact ⟨A, c, rfl, ho, own_base h (Nat.zero_le _)⟩
def TurnEnd (w : World) (k : Int) (L : List Od) (e : Ending) (w' : World) : Prop := ∃ b v S, e = .returned (.tuple #[ptA b, .int .i64 0]) ∧ Hid (LyNew w w' b v k L S)
set_option maxHeartbeats 4000000 in
set_option maxRecDepth 100000 in
theorem turn_c (b : Nat) (v : Value) (k : Int) (L : List Od) (S : Nat → Prop) (k2 : Int) (hk : k2 = 1 ∨ k2 = 2) (w : World) (H : LyB w b v k L S) :
    Calls Tryz.prog 16 #[ptA b, .int .i64 k2] w (TurnEnd w k2 L) := by
  have HM := Lib.hid (made15_c b v k L S w H)
  have HAl := Lib.hid (yAll_c b v k L S w H)
  have hl := H.hd.len
  have hok : ∀ x ∈ L, Od.ok w x := fun x hx => (H.hd.ok x hx).1
  have hB := H.hd.book
  obtain ⟨n, hn⟩ : ∃ n, L.length = n := ⟨_, rfl⟩
  have HF := Lib.hid (And.intro hl (And.intro hok (And.intro hB hn)))
  clear H hl hok hB hn
  go_enter Tryz.func16, Tryz.ntmps16
  go_wp2_with (first
    | ((with_reducible refine HM.out.mono ?_); rintro e w' ⟨rfl, rfl⟩; clear HM)
    | ((with_reducible refine HAl.out.mono ?_); rintro e w1 ⟨v1, rfl, h1⟩; obtain ⟨A, c, rfl, _, hr⟩ := row_ods h1.out.1 HF.out.1 HF.out.2.1; have B1 := Lib.hid h1.out.2; rw [HF.out.2.2.2] at hr ⊢; have HCl := Lib.hid (clone_own hr (by have := HF.out.1; have := HF.out.2.2.2; omega)); clear HAl h1 hr)
    | ((with_reducible refine HCl.out.mono ?_); rintro e w2 ⟨v2, rfl, h2⟩; obtain ⟨A2, c2, rfl, _, ho⟩ := own_ods h2.out.1 (by have := HF.out.1; have := HF.out.2.2.2; omega) HF.out.2.1; have B2 := Lib.hid (B1.out.trans (h2.out.2.mono B1.out.size)); have HBd := Lib.hid (build_c k2 hk A2 n c2 L w2 ho HF.out.2.2.1); clear HCl h2 ho)
    | ((with_reducible refine HBd.out.mono ?_); rintro e w3 ⟨b3, v3, S3, rfl, h3⟩))
  refine bodyPost_ret (results_tmp2 rfl _ _ _) rfl ?_
  exact ⟨b3, v3, S3, rfl, Lib.hid ⟨h3.out.ly, B2.out.trans (h3.out.be.mono B2.out.size), fun j hj => Nat.le_trans B2.out.size (h3.out.lo j hj), Nat.le_trans B2.out.size h3.out.lb⟩⟩
abbrev lyO (i : Int) : Od := ⟨i, 0, 1, 5, 1, i⟩
theorem ly0 : addP [] (lyO 0) = (0, [lyO 0]) := by
  rw [addP_put (by decide +kernel) (by decide) (by decide)]
  congr 1
  exact sortO_uniq (List.Perm.refl _) (by decide +kernel)
theorem ly1 : addP [lyO 0] (lyO 1) = (0, [lyO 0, lyO 1]) := by
  rw [addP_put (by decide +kernel) (by decide) (by decide)]
  congr 1
  exact sortO_uniq (List.Perm.refl _) (by decide +kernel)
theorem ly2 : addP [lyO 0, lyO 1] (lyO 2) = (0, [lyO 0, lyO 1, lyO 2]) := by
  rw [addP_put (by decide +kernel) (by decide) (by decide)]
  congr 1
  exact sortO_uniq (List.Perm.refl _) (by decide +kernel)
def lyL (k : Nat) : List Od := [lyO 0, lyO 1, lyO 2].take k
theorem lyL_add (k : Nat) (hk : k < 3) : (addP (lyL k) (lyO k)).2 = lyL (k + 1) := by
  have : k = 0 ∨ k = 1 ∨ k = 2 := by omega
  rcases this with rfl | rfl | rfl
  · show (addP [] (lyO 0)).2 = _; rw [ly0]; rfl
  · show (addP [lyO 0] (lyO 1)).2 = _; rw [ly1]; rfl
  · show (addP [lyO 0, lyO 1] (lyO 2)).2 = _; rw [ly2]; rfl
set_option maxHeartbeats 8000000 in
set_option maxHeartbeats 4000000 in
set_option maxRecDepth 100000 in
theorem lives15_c (w : World) : Calls Tryz.prog 9 #[] w fun e w' => e = .returned (.bool true) ∧ Below w.heap.size w w' := by
  have HMk := Lib.hid (make_c 1 (.inl rfl) w)
  go_enter Tryz.func9, Tryz.ntmps9
  go_wp2_with ((with_reducible refine HMk.out.mono ?_); rintro e w1 ⟨b, v, S, rfl, hN⟩; clear HMk)
  go_loopw [7] (fun s wr => ∃ (k : Nat) (Si : Nat → Prop), s = .int .u64 (k : Int) ∧ Hid (k ≤ 3 ∧ HTurn w1 wr v 1 S (lyL k) Si ∧ LyB wr b v 1 (lyL k) Si)) (fun s _ => match s with | .int _ z => 3 - z.toNat | _ => 0)
  case atStart => exact ⟨0, S, rfl, Nat.zero_le _, HTurn.same hN.out.ly.hd (Below.refl _ _), hN.out.ly⟩
  case round =>
    obtain ⟨k, Si, rfl, hd⟩ := hrel
    have hk : k = 0 ∨ k = 1 ∨ k = 2 ∨ k = 3 := by have := hd.out.1; omega
    rcases hk with rfl | rfl | rfl | rfl
    · have HA := Lib.hid (yAdd_c b v 1 (lyL 0) Si (lyO 0) wr hd.out.2.2 (by unfold Od.ok; decide))
      go_wp2_with ((with_reducible refine HA.out.mono ?_); rintro e w2 ⟨S', rfl, ht⟩)
      have ht := ht.out
      rw [show (addP (lyL 0) (lyO 0)).2 = lyL 1 from lyL_add 0 (by decide)] at ht
      exact ⟨⟨1, S', rfl, by decide, hd.out.2.1.trans ht, hd.out.2.2.turn ht⟩, by decide⟩
    · have HA := Lib.hid (yAdd_c b v 1 (lyL 1) Si (lyO 1) wr hd.out.2.2 (by unfold Od.ok; decide))
      go_wp2_with ((with_reducible refine HA.out.mono ?_); rintro e w2 ⟨S', rfl, ht⟩)
      have ht := ht.out
      rw [show (addP (lyL 1) (lyO 1)).2 = lyL 2 from lyL_add 1 (by decide)] at ht
      exact ⟨⟨2, S', rfl, by decide, hd.out.2.1.trans ht, hd.out.2.2.turn ht⟩, by decide⟩
    · have HA := Lib.hid (yAdd_c b v 1 (lyL 2) Si (lyO 2) wr hd.out.2.2 (by unfold Od.ok; decide))
      go_wp2_with ((with_reducible refine HA.out.mono ?_); rintro e w2 ⟨S', rfl, ht⟩)
      have ht := ht.out
      rw [show (addP (lyL 2) (lyO 2)).2 = lyL 3 from lyL_add 2 (by decide)] at ht
      exact ⟨⟨3, S', rfl, by decide, hd.out.2.1.trans ht, hd.out.2.2.turn ht⟩, by decide⟩
    · have HT := Lib.hid (turn_c b v 1 (lyL 3) Si 2 (.inr rfl) wr hd.out.2.2)
      have BE : Hid (Below w.heap.size w wr) := Lib.hid (hN.out.be.trans (hd.out.2.1.fr.below hN.out.lo hN.out.be.size))
      have HKb : Hid (∀ W, Below wr.heap.size wr W → Calls Tryz.prog 13 #[ptA b] W fun e w' => e = .returned (.int .i64 1) ∧ W = w') := Lib.hid fun W hW => kind_c b v 1 (lyL 3) Si W (hd.out.2.2.below hW)
      clear hd hN
      go_wp2_with (first
        | ((with_reducible refine HT.out.mono ?_); rintro e w2 ⟨b2, v2, S2, rfl, h2⟩; have HAl := Lib.hid (yAll_c b2 v2 2 (lyL 3) S2 w2 h2.out.ly); clear HT)
        | ((with_reducible refine HAl.out.mono ?_); rintro e w3 ⟨v3, rfl, h3⟩; obtain ⟨A, c, rfl, ho, _⟩ := row_ods (L := lyL 3) h3.out.1 (by decide) (fun x hx => (h2.out.ly.hd.ok x hx).1); have B3 := Lib.hid (h2.out.be.trans (h3.out.2.mono h2.out.be.size)); have HK2 := Lib.hid (kind_c b2 v2 2 (lyL 3) S2 w3 (h2.out.ly.below h3.out.2)); have HK1 := Lib.hid (HKb.out w3 B3.out); obtain ⟨hl3, _, _, hor⟩ := ho; obtain ⟨bb, off, rfl, _, hc⟩ := hor.resolve_left (by decide); have y0 : w3.cell? ⟨bb, off, none⟩ = some (.int .u64 0) := (hc 0 (by decide)).1; have y2 : w3.cell? ⟨bb, off + 12, none⟩ = some (.int .u64 2) := (hc 2 (by decide)).1; have elen : (lyL 3).length = 3 := rfl; clear HAl h3 hc)
        | ((with_reducible refine HK2.out.mono ?_); rintro e w4 ⟨rfl, rfl⟩)
        | ((with_reducible refine HK1.out.mono ?_); rintro e w5 ⟨rfl, rfl⟩))
      go_ret
      exact ⟨rfl, BE.out.trans (B3.out.mono BE.out.size)⟩
end Go.Proofs.YtgbmgdffgmablaaGreat

namespace Go.Proofs.YtgbmgdffgmablaaGreat
open Go.RowKit Go.Shelf Go.Sort Go.Maps Go.Lib
set_option linter.unusedVariables false

theorem plain_in {w : World} {A : Option Addr} {n : Nat} {L : List Od} (H : Ods w A n L) (hn : n ≤ 1000) (c : Nat) : Hid (∀ W, Below w.heap.size w W → Calls Tryz.prog 12 #[.slice A n c] W fun e w' => ∃ A' c', e = .returned (.slice A' n c') ∧ Hid (Below W.heap.size W w' ∧ Ods w' A' n L)) :=
  Lib.hid fun W hW => (plain_c A n c L W (H.below hW) hn).mono fun e w' ⟨A', n', c', he, h⟩ => by
    have e1 : n' = n := h.out.2.1.1.symm.trans H.1
    subst e1
    exact ⟨A', c', he, Lib.hid ⟨h.out.1, h.out.2.1⟩⟩
theorem same_yes {W : World} {A B : Option Addr} {n c c' : Nat} {L : List Od} (h : Ods W A n L) (k : Ods W B n L) (hn : n ≤ 1000) :
    Calls Tryz.prog 14 #[.slice A n c, .slice B n c'] W fun e w' => e = .returned (.bool true) ∧ Hid (Below W.heap.size W w') := by
  refine (same_c A B n c c' L L W h k hn).mono ?_
  rintro e w' ⟨rfl, g⟩
  exact ⟨by rw [(eqL_iff L L).2 rfl], Lib.hid g.b⟩
theorem ly_all {w : World} {b : Nat} {v : Value} {k : Int} {L : List Od} {S : Nat → Prop} {n : Nat} (H : LyB w b v k L S) (hn : L.length = n) : Calls Tryz.prog 15 #[ptA b] w fun e w' => ∃ A c, e = .returned (.slice A n c) ∧ Hid (Below w.heap.size w w' ∧ Ods w' A n L) := by
  subst hn
  refine (yAll_c b v k L S w H).mono ?_
  rintro e w' ⟨v', rfl, h⟩
  obtain ⟨A, c, rfl, ho, _⟩ := row_ods h.out.1 H.hd.len (fun x hx => (H.hd.ok x hx).1)
  exact ⟨A, c, rfl, Lib.hid ⟨h.out.2, ho⟩⟩
set_option maxHeartbeats 4000000 in
set_option maxHeartbeats 4000000 in
set_option maxRecDepth 100000 in
theorem builds_1 (A : Option Addr) (n c : Nat) (L : List Od) (w : World) (H : Ods w A n L) (hn : n ≤ 100) (hB : bookO L = true) :
    Calls Tryz.prog 3 #[.int .i64 1, .slice A n c] w fun e w' => e = .returned (.bool true) ∧ Below w.heap.size w w' := by
  have HL := Lib.hid lives15_c
  have hz : ¬ (100 : Int) < (n : Int) := by omega
  have HBd := Lib.hid (build_c 1 (by decide) A n c L w H hB)
  have HP1 := plain_in H (by omega) c
  have HP2 := plain_in H (by omega) c
  have HB : Hid (∀ W A' c', Ods W A' n L → Calls Tryz.prog 11 #[.slice A' n c'] W (BookIs W true)) := Lib.hid fun W A' c' h => by have := rBook_c A' n c' L W h (by omega); rwa [hB] at this
  have HS : Hid (∀ W A1 A2 c1 c2, Ods W A1 n L → Ods W A2 n L → Calls Tryz.prog 14 #[.slice A1 n c1, .slice A2 n c2] W fun e w' => e = .returned (.bool true) ∧ Hid (Below W.heap.size W w')) := Lib.hid fun W A1 A2 c1 c2 h k => same_yes h k (by omega)
  have HN : Hid (L.length = n) := H.1
  clear H hn hB
  go_enter Tryz.func3, Tryz.ntmps3
  go_wp2_with (first
    | ((with_reducible refine HBd.out.mono ?_); rintro e w1 ⟨b, v, S, rfl, hN⟩; clear HBd)
    | ((with_reducible refine (HP1.out _ hN.out.be).mono ?_); rintro e w2 ⟨A2, c2, rfl, h2⟩; have HB2 := Lib.hid (HB.out w2 A2 c2 h2.out.2); have L2 := Lib.hid (hN.out.ly.below h2.out.1); have B2 := Lib.hid (hN.out.be.trans (h2.out.1.mono hN.out.be.size)); clear HP1 HB h2 hN)
    | ((with_reducible refine HB2.out.mono ?_); rintro e w3 ⟨rfl, h3⟩; have L3 := Lib.hid (L2.out.below h3); have B3 := Lib.hid (B2.out.trans (h3.mono B2.out.size)); have HK := Lib.hid (kind_c _ _ _ _ _ _ L3.out); have HA := Lib.hid (ly_all L3.out HN.out); clear HB2 h3 L2 B2)
    | ((with_reducible refine HK.out.mono ?_); rintro e w4 ⟨rfl, rfl⟩; clear HK)
    | ((with_reducible refine HA.out.mono ?_); rintro e w5 ⟨A5, c5, rfl, h5⟩; have B5 := Lib.hid (B3.out.trans (h5.out.1.mono B3.out.size)); clear HA)
    | ((with_reducible refine (HP2.out _ B5.out).mono ?_); rintro e w6 ⟨A6, c6, rfl, h6⟩; have HS6 := Lib.hid (HS.out w6 A5 A6 c5 c6 (h5.out.2.below h6.out.1) h6.out.2); have B6 := Lib.hid (B5.out.trans (h6.out.1.mono B5.out.size)); clear HP2 HS h5 h6)
    | ((with_reducible refine HS6.out.mono ?_); rintro e w7 ⟨rfl, h7⟩; have B7 := Lib.hid (B6.out.trans (h7.out.mono B6.out.size)); clear HS6 h7)
    | ((with_reducible refine (HL.out _).mono ?_); rintro e w8 ⟨rfl, h8⟩; have B8 := Lib.hid (B7.out.trans (h8.mono B7.out.size)); clear h8 HL))
  go_ret
  exact ⟨rfl, B8.out⟩
set_option maxHeartbeats 4000000 in
set_option maxRecDepth 100000 in
theorem builds_bad1 (A : Option Addr) (n c : Nat) (L : List Od) (w : World) (H : Ods w A n L) (hn : n ≤ 100) (hB : bookO L = false) :
    Calls Tryz.prog 3 #[.int .i64 1, .slice A n c] w fun e w' => e = .returned (.bool true) ∧ Below w.heap.size w w' := by
  have HL := Lib.hid lives15_c
  have hz : ¬ (100 : Int) < (n : Int) := by omega
  have HBd := Lib.hid (build_bad 1 (by decide) A n c L w H hB)
  have HP1 := plain_in H (by omega) c
  have HB : Hid (∀ W A' c', Ods W A' n L → Calls Tryz.prog 11 #[.slice A' n c'] W (BookIs W false)) := Lib.hid fun W A' c' h => by have := rBook_c A' n c' L W h (by omega); rwa [hB] at this
  clear H hn hB
  go_enter Tryz.func3, Tryz.ntmps3
  go_wp2_with (first
    | ((with_reducible refine HBd.out.mono ?_); rintro e w1 ⟨rfl, hN⟩; clear HBd)
    | ((with_reducible refine (HP1.out _ hN.out).mono ?_); rintro e w2 ⟨A2, c2, rfl, h2⟩; have HB2 := Lib.hid (HB.out w2 A2 c2 h2.out.2); have B2 := Lib.hid (hN.out.trans (h2.out.1.mono hN.out.size)); clear HP1 HB h2 hN)
    | ((with_reducible refine HB2.out.mono ?_); rintro e w3 ⟨rfl, h3⟩; have B3 := Lib.hid (B2.out.trans (h3.mono B2.out.size)); clear HB2 h3)
    | ((with_reducible refine (HL.out _).mono ?_); rintro e w8 ⟨rfl, h8⟩; have B8 := Lib.hid (B3.out.trans (h8.mono B3.out.size)); clear h8 HL))
  go_ret
  exact ⟨rfl, B8.out⟩
set_option maxHeartbeats 4000000 in
set_option maxHeartbeats 4000000 in
set_option maxRecDepth 100000 in
theorem builds_2 (A : Option Addr) (n c : Nat) (L : List Od) (w : World) (H : Ods w A n L) (hn : n ≤ 100) (hB : bookO L = true) :
    Calls Tryz.prog 3 #[.int .i64 2, .slice A n c] w fun e w' => e = .returned (.bool true) ∧ Below w.heap.size w w' := by
  have HL := Lib.hid lives15_c
  have hz : ¬ (100 : Int) < (n : Int) := by omega
  have HBd := Lib.hid (build_c 2 (by decide) A n c L w H hB)
  have HP1 := plain_in H (by omega) c
  have HP2 := plain_in H (by omega) c
  have HB : Hid (∀ W A' c', Ods W A' n L → Calls Tryz.prog 11 #[.slice A' n c'] W (BookIs W true)) := Lib.hid fun W A' c' h => by have := rBook_c A' n c' L W h (by omega); rwa [hB] at this
  have HS : Hid (∀ W A1 A2 c1 c2, Ods W A1 n L → Ods W A2 n L → Calls Tryz.prog 14 #[.slice A1 n c1, .slice A2 n c2] W fun e w' => e = .returned (.bool true) ∧ Hid (Below W.heap.size W w')) := Lib.hid fun W A1 A2 c1 c2 h k => same_yes h k (by omega)
  have HN : Hid (L.length = n) := H.1
  clear H hn hB
  go_enter Tryz.func3, Tryz.ntmps3
  go_wp2_with (first
    | ((with_reducible refine HBd.out.mono ?_); rintro e w1 ⟨b, v, S, rfl, hN⟩; clear HBd)
    | ((with_reducible refine (HP1.out _ hN.out.be).mono ?_); rintro e w2 ⟨A2, c2, rfl, h2⟩; have HB2 := Lib.hid (HB.out w2 A2 c2 h2.out.2); have L2 := Lib.hid (hN.out.ly.below h2.out.1); have B2 := Lib.hid (hN.out.be.trans (h2.out.1.mono hN.out.be.size)); clear HP1 HB h2 hN)
    | ((with_reducible refine HB2.out.mono ?_); rintro e w3 ⟨rfl, h3⟩; have L3 := Lib.hid (L2.out.below h3); have B3 := Lib.hid (B2.out.trans (h3.mono B2.out.size)); have HK := Lib.hid (kind_c _ _ _ _ _ _ L3.out); have HA := Lib.hid (ly_all L3.out HN.out); clear HB2 h3 L2 B2)
    | ((with_reducible refine HK.out.mono ?_); rintro e w4 ⟨rfl, rfl⟩; clear HK)
    | ((with_reducible refine HA.out.mono ?_); rintro e w5 ⟨A5, c5, rfl, h5⟩; have B5 := Lib.hid (B3.out.trans (h5.out.1.mono B3.out.size)); clear HA)
    | ((with_reducible refine (HP2.out _ B5.out).mono ?_); rintro e w6 ⟨A6, c6, rfl, h6⟩; have HS6 := Lib.hid (HS.out w6 A5 A6 c5 c6 (h5.out.2.below h6.out.1) h6.out.2); have B6 := Lib.hid (B5.out.trans (h6.out.1.mono B5.out.size)); clear HP2 HS h5 h6)
    | ((with_reducible refine HS6.out.mono ?_); rintro e w7 ⟨rfl, h7⟩; have B7 := Lib.hid (B6.out.trans (h7.out.mono B6.out.size)); clear HS6 h7)
    | ((with_reducible refine (HL.out _).mono ?_); rintro e w8 ⟨rfl, h8⟩; have B8 := Lib.hid (B7.out.trans (h8.mono B7.out.size)); clear h8 HL))
  go_ret
  exact ⟨rfl, B8.out⟩
set_option maxHeartbeats 4000000 in
set_option maxRecDepth 100000 in
theorem builds_bad2 (A : Option Addr) (n c : Nat) (L : List Od) (w : World) (H : Ods w A n L) (hn : n ≤ 100) (hB : bookO L = false) :
    Calls Tryz.prog 3 #[.int .i64 2, .slice A n c] w fun e w' => e = .returned (.bool true) ∧ Below w.heap.size w w' := by
  have HL := Lib.hid lives15_c
  have hz : ¬ (100 : Int) < (n : Int) := by omega
  have HBd := Lib.hid (build_bad 2 (by decide) A n c L w H hB)
  have HP1 := plain_in H (by omega) c
  have HB : Hid (∀ W A' c', Ods W A' n L → Calls Tryz.prog 11 #[.slice A' n c'] W (BookIs W false)) := Lib.hid fun W A' c' h => by have := rBook_c A' n c' L W h (by omega); rwa [hB] at this
  clear H hn hB
  go_enter Tryz.func3, Tryz.ntmps3
  go_wp2_with (first
    | ((with_reducible refine HBd.out.mono ?_); rintro e w1 ⟨rfl, hN⟩; clear HBd)
    | ((with_reducible refine (HP1.out _ hN.out).mono ?_); rintro e w2 ⟨A2, c2, rfl, h2⟩; have HB2 := Lib.hid (HB.out w2 A2 c2 h2.out.2); have B2 := Lib.hid (hN.out.trans (h2.out.1.mono hN.out.size)); clear HP1 HB h2 hN)
    | ((with_reducible refine HB2.out.mono ?_); rintro e w3 ⟨rfl, h3⟩; have B3 := Lib.hid (B2.out.trans (h3.mono B2.out.size)); clear HB2 h3)
    | ((with_reducible refine (HL.out _).mono ?_); rintro e w8 ⟨rfl, h8⟩; have B8 := Lib.hid (B3.out.trans (h8.mono B3.out.size)); clear h8 HL))
  go_ret
  exact ⟨rfl, B8.out⟩
set_option maxHeartbeats 4000000 in
set_option maxRecDepth 100000 in
theorem builds_no (k : Int) (h1 : ¬ k = 1) (h2 : ¬ k = 2) (A : Option Addr) (n c : Nat) (w : World) (hn : n ≤ 100) :
    Calls Tryz.prog 3 #[.int .i64 k, .slice A n c] w fun e w' => e = .returned (.bool true) ∧ Below w.heap.size w w' := by
  have HL := Lib.hid lives15_c
  have hz : ¬ (100 : Int) < (n : Int) := by omega
  have HBd := Lib.hid (build_no k h1 h2 A n c w)
  have e1 : (k != 1) = true := by simp [h1]
  have e2 : (k != 2) = true := by simp [h2]
  clear hn h1 h2
  go_enter Tryz.func3, Tryz.ntmps3
  go_wp2_with (first
    | ((with_reducible refine HBd.out.mono ?_); rintro e w1 ⟨rfl, hN⟩; clear HBd)
    | ((with_reducible refine (HL.out _).mono ?_); rintro e w8 ⟨rfl, h8⟩; have B8 := Lib.hid (hN.out.trans (h8.mono hN.out.size)); clear h8 HL))
  go_ret
  exact ⟨rfl, B8.out⟩
set_option maxHeartbeats 4000000 in
set_option maxRecDepth 100000 in
theorem builds_long (k : Int) (A : Option Addr) (n c : Nat) (w : World) (hz : (100 : Int) < (n : Int)) :
    Calls Tryz.prog 3 #[.int .i64 k, .slice A n c] w fun e w' => e = .returned (.bool true) ∧ Below w.heap.size w w' := by
  have HL := Lib.hid lives15_c
  go_enter Tryz.func3, Tryz.ntmps3
  go_wp2_with ((with_reducible refine (HL.out _).mono ?_); rintro e w8 ⟨rfl, h8⟩; have B8 := Lib.hid h8; clear h8)
  go_ret
  exact ⟨rfl, B8.out⟩
theorem builds_w (k : Int) (A : Option Addr) (n c : Nat) (L : List Od) (w : World) (H : Ods w A n L) :
    Calls Tryz.prog 3 #[.int .i64 k, .slice A n c] w fun e w' => e = .returned (.bool true) ∧ Below w.heap.size w w' := by
  by_cases hn : n ≤ 100
  · by_cases h1 : k = 1
    · subst h1
      cases hB : bookO L with
      | true => exact builds_1 A n c L w H hn hB
      | false => exact builds_bad1 A n c L w H hn hB
    by_cases h2 : k = 2
    · subst h2
      cases hB : bookO L with
      | true => exact builds_2 A n c L w H hn hB
      | false => exact builds_bad2 A n c L w H hn hB
    exact builds_no k h1 h2 A n c w hn
  · exact builds_long k A n c w (by omega)
/-- Three books: the second of the first, the third of the second. -/
theorem back_b {w w1 w2 w3 w4 : World} {b cb : Nat} {v vc : Value} {k k' : Int} {L L' : List Od} {S Sc Sc' : Nat → Prop} (h1 : LyNew w w1 b v k L S) (h2 : LyNew w1 w2 cb vc k' L Sc) (h3 : Below w2.heap.size w2 w3) (t : HTurn w3 w4 vc k' Sc L' Sc') : LyB w4 b v k L S := by
  have hb : LyB w3 b v k L S := (h1.ly.below h2.be).below (h3.mono (Nat.le_refl _))
  refine hb.fr t.fr (fun hs => ?_) (fun j hj hs => ?_)
  · have := h2.lo _ hs
    have := blk_lt h1.ly.cl
    omega
  · have := h2.lo _ hs
    have := h1.ly.hd.lt j hj
    omega
theorem back_d {w1 w2 w3 w4 : World} {cb d : Nat} {vc vd : Value} {k k' : Int} {L L' M : List Od} {Sc Sd Sc' : Nat → Prop} (h2 : LyNew w1 w2 cb vc k' L Sc) (h3 : LyNew w2 w3 d vd k M Sd) (t : HTurn w3 w4 vc k' Sc L' Sc') : LyB w4 d vd k M Sd := by
  refine h3.ly.fr t.fr (fun hs => ?_) (fun j hj hs => ?_)
  · have := h2.ly.hd.lt _ hs
    have := h3.lb
    omega
  · have := h2.ly.hd.lt _ hs
    have := h3.lo j hj
    omega
theorem back_be {w w1 w2 w3 w4 : World} {b cb d : Nat} {v vc vd : Value} {k k' k'' : Int} {L L' M M' : List Od} {S Sc Sd Sc' : Nat → Prop} (h1 : LyNew w w1 b v k L S) (h2 : LyNew w1 w2 cb vc k' M Sc) (h3 : LyNew w2 w3 d vd k'' M' Sd) (t : HTurn w3 w4 vc k' Sc L' Sc') : Below w.heap.size w w4 := by
  have b3 : Below w.heap.size w w3 := (h1.be.trans (h2.be.mono h1.be.size)).trans (h3.be.mono (Nat.le_trans h1.be.size h2.be.size))
  exact b3.trans (t.fr.below (fun j hj => Nat.le_trans h1.be.size (h2.lo j hj)) b3.size)
set_option maxHeartbeats 8000000 in
set_option maxHeartbeats 4000000 in
set_option maxRecDepth 100000 in
theorem back_1 (id : Int) (hid : (Lit.int .u64 id).wf = true) (A : Option Addr) (n c : Nat) (L : List Od) (w : World) (H : Ods w A n L) (hn : n ≤ 100) (hB : bookO L = true) :
    Calls Tryz.prog 4 #[.int .i64 1, .slice A n c, .int .u64 id] w fun e w' => e = .returned (.bool true) ∧ Below w.heap.size w w' := by
  have HL := Lib.hid lives15_c
  have hz : ¬ (100 : Int) < (n : Int) := by omega
  have HBd := Lib.hid (build_c 1 (by decide) A n c L w H hB)
  have HP1 := plain_in H (by omega) c
  have HS : Hid (∀ W A1 A2 c1 c2, Ods W A1 n L → Ods W A2 n L → Calls Tryz.prog 14 #[.slice A1 n c1, .slice A2 n c2] W fun e w' => e = .returned (.bool true) ∧ Hid (Below W.heap.size W w')) := Lib.hid fun W A1 A2 c1 c2 h k => same_yes h k (by omega)
  have HN : Hid (L.length = n) := H.1
  have HI := Lib.hid hid
  clear H hn hB hid
  go_enter Tryz.func4, Tryz.ntmps4
  go_wp2_with (first
    | ((with_reducible refine HBd.out.mono ?_); rintro e w1 ⟨b, v, S, rfl, h1⟩; have HT1 := Lib.hid (turn_c _ _ _ _ _ 2 (by decide) _ h1.out.ly); clear HBd)
    | ((with_reducible refine HT1.out.mono ?_); rintro e w2 ⟨cb, vc, Sc, rfl, h2⟩; have HT2 := Lib.hid (turn_c _ _ _ _ _ 1 (by decide) _ h2.out.ly); clear HT1)
    | ((with_reducible refine HT2.out.mono ?_); rintro e w3 ⟨d, vd, Sd, rfl, h3⟩; have HK1 := Lib.hid (kind_c _ _ _ _ _ _ (h2.out.ly.below h3.out.be)); have HK2 := Lib.hid (kind_c _ _ _ _ _ _ h3.out.ly); have HTk := Lib.hid (yTake_c _ _ _ _ _ id HI.out _ (h2.out.ly.below h3.out.be)); clear HT2)
    | ((with_reducible refine HK1.out.mono ?_); rintro e w' ⟨rfl, rfl⟩; clear HK1)
    | ((with_reducible refine HK2.out.mono ?_); rintro e w' ⟨rfl, rfl⟩; clear HK2)
    | ((with_reducible refine HTk.out.mono ?_); rintro e w4 ⟨Sc', rfl, h4⟩; have Lb := Lib.hid (back_b h1.out h2.out h3.out.be h4.out); have Ld := Lib.hid (back_d h2.out h3.out h4.out); have B4 := Lib.hid (back_be h1.out h2.out h3.out h4.out); clear HTk h1 h2 h3 h4)
    | ((with_reducible refine (HP1.out _ B4.out).mono ?_); rintro e w5 ⟨A5, c5, rfl, h5⟩; have Lb5 := Lib.hid (Lb.out.below h5.out.1); have Ld5 := Lib.hid (Ld.out.below h5.out.1); have B5 := Lib.hid (B4.out.trans (h5.out.1.mono B4.out.size)); have HAb := Lib.hid (ly_all Lb5.out HN.out); clear HP1 Lb Ld B4)
    | ((with_reducible refine HAb.out.mono ?_); rintro e w6 ⟨A6, c6, rfl, h6⟩; have HSb := Lib.hid (HS.out w6 A6 A5 c6 c5 h6.out.2 (h5.out.2.below h6.out.1)); have P6 := Lib.hid (h5.out.2.below h6.out.1); have Ld6 := Lib.hid (Ld5.out.below h6.out.1); have B6 := Lib.hid (B5.out.trans (h6.out.1.mono B5.out.size)); clear HAb Lb5 Ld5 B5 h5 h6)
    | ((with_reducible refine HSb.out.mono ?_); rintro e w7 ⟨rfl, h7⟩; have P7 := Lib.hid (P6.out.below h7.out); have Ld7 := Lib.hid (Ld6.out.below h7.out); have B7 := Lib.hid (B6.out.trans (h7.out.mono B6.out.size)); have HAd := Lib.hid (ly_all Ld7.out HN.out); clear HSb P6 Ld6 B6 h7)
    | ((with_reducible refine HAd.out.mono ?_); rintro e w8 ⟨A8, c8, rfl, h8⟩; have HSd := Lib.hid (HS.out w8 A8 A5 c8 c5 h8.out.2 (P7.out.below h8.out.1)); have B8 := Lib.hid (B7.out.trans (h8.out.1.mono B7.out.size)); clear HAd P7 Ld7 B7 h8)
    | ((with_reducible refine HSd.out.mono ?_); rintro e w9 ⟨rfl, h9⟩; have B9 := Lib.hid (B8.out.trans (h9.out.mono B8.out.size)); clear HSd B8 h9)
    | ((with_reducible refine (HL.out _).mono ?_); rintro e w10 ⟨rfl, h10⟩; have B10 := Lib.hid (B9.out.trans (h10.mono B9.out.size)); clear h10 HL))
  go_ret
  exact ⟨rfl, B10.out⟩
set_option maxHeartbeats 8000000 in
set_option maxHeartbeats 4000000 in
set_option maxRecDepth 100000 in
theorem back_2 (id : Int) (hid : (Lit.int .u64 id).wf = true) (A : Option Addr) (n c : Nat) (L : List Od) (w : World) (H : Ods w A n L) (hn : n ≤ 100) (hB : bookO L = true) :
    Calls Tryz.prog 4 #[.int .i64 2, .slice A n c, .int .u64 id] w fun e w' => e = .returned (.bool true) ∧ Below w.heap.size w w' := by
  have HL := Lib.hid lives15_c
  have hz : ¬ (100 : Int) < (n : Int) := by omega
  have HBd := Lib.hid (build_c 2 (by decide) A n c L w H hB)
  have HP1 := plain_in H (by omega) c
  have HS : Hid (∀ W A1 A2 c1 c2, Ods W A1 n L → Ods W A2 n L → Calls Tryz.prog 14 #[.slice A1 n c1, .slice A2 n c2] W fun e w' => e = .returned (.bool true) ∧ Hid (Below W.heap.size W w')) := Lib.hid fun W A1 A2 c1 c2 h k => same_yes h k (by omega)
  have HN : Hid (L.length = n) := H.1
  have HI := Lib.hid hid
  clear H hn hB hid
  go_enter Tryz.func4, Tryz.ntmps4
  go_wp2_with (first
    | ((with_reducible refine HBd.out.mono ?_); rintro e w1 ⟨b, v, S, rfl, h1⟩; have HT1 := Lib.hid (turn_c _ _ _ _ _ 1 (by decide) _ h1.out.ly); clear HBd)
    | ((with_reducible refine HT1.out.mono ?_); rintro e w2 ⟨cb, vc, Sc, rfl, h2⟩; have HT2 := Lib.hid (turn_c _ _ _ _ _ 2 (by decide) _ h2.out.ly); clear HT1)
    | ((with_reducible refine HT2.out.mono ?_); rintro e w3 ⟨d, vd, Sd, rfl, h3⟩; have HK1 := Lib.hid (kind_c _ _ _ _ _ _ (h2.out.ly.below h3.out.be)); have HK2 := Lib.hid (kind_c _ _ _ _ _ _ h3.out.ly); have HTk := Lib.hid (yTake_c _ _ _ _ _ id HI.out _ (h2.out.ly.below h3.out.be)); clear HT2)
    | ((with_reducible refine HK1.out.mono ?_); rintro e w' ⟨rfl, rfl⟩; clear HK1)
    | ((with_reducible refine HK2.out.mono ?_); rintro e w' ⟨rfl, rfl⟩; clear HK2)
    | ((with_reducible refine HTk.out.mono ?_); rintro e w4 ⟨Sc', rfl, h4⟩; have Lb := Lib.hid (back_b h1.out h2.out h3.out.be h4.out); have Ld := Lib.hid (back_d h2.out h3.out h4.out); have B4 := Lib.hid (back_be h1.out h2.out h3.out h4.out); clear HTk h1 h2 h3 h4)
    | ((with_reducible refine (HP1.out _ B4.out).mono ?_); rintro e w5 ⟨A5, c5, rfl, h5⟩; have Lb5 := Lib.hid (Lb.out.below h5.out.1); have Ld5 := Lib.hid (Ld.out.below h5.out.1); have B5 := Lib.hid (B4.out.trans (h5.out.1.mono B4.out.size)); have HAb := Lib.hid (ly_all Lb5.out HN.out); clear HP1 Lb Ld B4)
    | ((with_reducible refine HAb.out.mono ?_); rintro e w6 ⟨A6, c6, rfl, h6⟩; have HSb := Lib.hid (HS.out w6 A6 A5 c6 c5 h6.out.2 (h5.out.2.below h6.out.1)); have P6 := Lib.hid (h5.out.2.below h6.out.1); have Ld6 := Lib.hid (Ld5.out.below h6.out.1); have B6 := Lib.hid (B5.out.trans (h6.out.1.mono B5.out.size)); clear HAb Lb5 Ld5 B5 h5 h6)
    | ((with_reducible refine HSb.out.mono ?_); rintro e w7 ⟨rfl, h7⟩; have P7 := Lib.hid (P6.out.below h7.out); have Ld7 := Lib.hid (Ld6.out.below h7.out); have B7 := Lib.hid (B6.out.trans (h7.out.mono B6.out.size)); have HAd := Lib.hid (ly_all Ld7.out HN.out); clear HSb P6 Ld6 B6 h7)
    | ((with_reducible refine HAd.out.mono ?_); rintro e w8 ⟨A8, c8, rfl, h8⟩; have HSd := Lib.hid (HS.out w8 A8 A5 c8 c5 h8.out.2 (P7.out.below h8.out.1)); have B8 := Lib.hid (B7.out.trans (h8.out.1.mono B7.out.size)); clear HAd P7 Ld7 B7 h8)
    | ((with_reducible refine HSd.out.mono ?_); rintro e w9 ⟨rfl, h9⟩; have B9 := Lib.hid (B8.out.trans (h9.out.mono B8.out.size)); clear HSd B8 h9)
    | ((with_reducible refine (HL.out _).mono ?_); rintro e w10 ⟨rfl, h10⟩; have B10 := Lib.hid (B9.out.trans (h10.mono B9.out.size)); clear h10 HL))
  go_ret
  exact ⟨rfl, B10.out⟩
set_option maxHeartbeats 4000000 in
set_option maxRecDepth 100000 in
theorem back_bad (k : Int) (id : Int) (A : Option Addr) (n c : Nat) (w : World) (hn : n ≤ 100) (HB : Calls Tryz.prog 10 #[.int .i64 k, .slice A n c] w (NoEnd w)) :
    Calls Tryz.prog 4 #[.int .i64 k, .slice A n c, .int .u64 id] w fun e w' => e = .returned (.bool true) ∧ Below w.heap.size w w' := by
  have HL := Lib.hid lives15_c
  have hz : ¬ (100 : Int) < (n : Int) := by omega
  have HBd := Lib.hid HB
  clear hn HB
  go_enter Tryz.func4, Tryz.ntmps4
  go_wp2_with (first
    | ((with_reducible refine HBd.out.mono ?_); rintro e w1 ⟨rfl, hN⟩; clear HBd)
    | ((with_reducible refine (HL.out _).mono ?_); rintro e w8 ⟨rfl, h8⟩; have B8 := Lib.hid (hN.out.trans (h8.mono hN.out.size)); clear h8 HL))
  go_ret
  exact ⟨rfl, B8.out⟩
set_option maxHeartbeats 4000000 in
set_option maxRecDepth 100000 in
theorem back_long (k id : Int) (A : Option Addr) (n c : Nat) (w : World) (hz : (100 : Int) < (n : Int)) :
    Calls Tryz.prog 4 #[.int .i64 k, .slice A n c, .int .u64 id] w fun e w' => e = .returned (.bool true) ∧ Below w.heap.size w w' := by
  have HL := Lib.hid lives15_c
  go_enter Tryz.func4, Tryz.ntmps4
  go_wp2_with ((with_reducible refine (HL.out _).mono ?_); rintro e w8 ⟨rfl, h8⟩; have B8 := Lib.hid h8; clear h8)
  go_ret
  exact ⟨rfl, B8.out⟩
theorem back_w (k id : Int) (hid : (Lit.int .u64 id).wf = true) (A : Option Addr) (n c : Nat) (L : List Od) (w : World) (H : Ods w A n L) :
    Calls Tryz.prog 4 #[.int .i64 k, .slice A n c, .int .u64 id] w fun e w' => e = .returned (.bool true) ∧ Below w.heap.size w w' := by
  by_cases hn : n ≤ 100
  · by_cases h1 : k = 1
    · subst h1
      cases hB : bookO L with
      | true => exact back_1 id hid A n c L w H hn hB
      | false => exact back_bad 1 id A n c w hn (build_bad 1 (.inl rfl) A n c L w H hB)
    by_cases h2 : k = 2
    · subst h2
      cases hB : bookO L with
      | true => exact back_2 id hid A n c L w H hn hB
      | false => exact back_bad 2 id A n c w hn (build_bad 2 (.inr rfl) A n c L w H hB)
    exact back_bad k id A n c w hn (build_no k h1 h2 A n c w)
  · exact back_long k id A n c w (by omega)
end Go.Proofs.YtgbmgdffgmablaaGreat
