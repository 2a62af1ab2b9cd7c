/- What the laws lean on, in a few texts (by shake.py): number 12 of 13. -/
import Derived.Test.YtpigkmfegmfelaaGreatZp1
import Derived.Test.YtpigkmfegmfelaaGreatZp3
import Derived.Test.YtpigkmfegmfelaaGreatZp5
import Derived.Test.YtpigkmfegmfelaaGreatZp4
import Derived.Test.YtpigkmfegmfelaaGreatZp6
import Derived.Test.YtpigkmfegmfelaaGreatZp10
import Derived.Test.YtpigkmfegmfelaaGreatZp8
import Derived.Test.YtpigkmfegmfelaaGreatZp7
import Derived.Test.YtpigkmfegmfelaaGreatZp9
import Derived.Test.YtpigkmfegmfelaaGreatZp11
import Derived.Test.YtpigkmfegmfelaaGreatZp2
import Derived.Maps.RangeWalk
import Derived.OpenShut
import Derived.Deep.Slices
import Derived.Deep.Fields
import Derived.ChangeSame

set_option maxHeartbeats 16000000
set_option maxRecDepth 1000000
set_option linter.unusedVariables false
namespace Go.Proofs.YtpigkmfegmfelaaGreat
open Go.RowKit Go.Sort Go.Lib Go.Maps Go.Shelf

theorem gft_kind {W : World} {p : Nat} {m : Nat × Nat} {s1 s2 : Gd} (H : gWhole W p m s1 s2) {k : Nat} (hk : gft p m s1 s2 k) {cs : Array Value} {T : TypeId} (h : Cl T W k cs) : T = 138 ∨ T = 3 ∨ T = 156 ∨ T = 278 ∨ T = 35 := by
  obtain ⟨D, H⟩ := H
  have e : ∀ {T' : TypeId} {cs' : Array Value}, Cl T' W k cs' → T = T' := fun a => by
    have a' := h.symm.trans a
    injection a' with a'; injection a' with _ a'
  have sd : ∀ {s : Int} {g : Sg}, SgIn W s g → sfoot g k → T = 138 ∨ T = 3 ∨ T = 156 ∨ T = 278 ∨ T = 35 := fun hs hf => by
    rcases hs.cls hf with ⟨_, c, a⟩ | ⟨_, c, a⟩ | ⟨_, c, a⟩ | ⟨_, c, a⟩
    · exact .inr (.inl (e a))
    · exact .inr (.inr (.inl (e a)))
    · exact .inr (.inr (.inr (.inl (e a))))
    · exact .inr (.inr (.inr (.inr (e a))))
  rcases hk with rfl | hk | hk | hk | hk
  · exact .inl (e H.bookp)
  · exact absurd hk (cl_ne_map h (H.gk.om _ _ rfl))
  · exact absurd hk (cl_ne_map h (H.gk.sm _ _ rfl))
  · exact sd (H.gk.s1 rfl) hk
  · exact sd (H.gk.s2 rfl) hk
theorem gWhole.fr {S : Nat → Prop} {w w' : World} {p : Nat} {m : Nat × Nat} {s1 s2 : Gd} (h : gWhole w p m s1 s2) (hf : Fr S w w') (hn : ∀ k, gft p m s1 s2 k → ¬ S k) : gWhole w' p m s1 s2 := by
  obtain ⟨D, h⟩ := h
  exact ⟨D, h.fr hf hn⟩
theorem gWhole.len {w : World} {p : Nat} {m : Nat × Nat} {s1 s2 : Gd} (h : gWhole w p m s1 s2) : (bookL s1.rs s2.rs).length ≤ 64 := by
  obtain ⟨D, h⟩ := h; exact h.len
theorem gWhole.ok {w : World} {p : Nat} {m : Nat × Nat} {s1 s2 : Gd} (h : gWhole w p m s1 s2) : ∀ x ∈ bookL s1.rs s2.rs, Od.ok w x ∧ goodO x = true := by
  obtain ⟨D, h⟩ := h; exact h.ok
theorem gft_ne {W : World} {wb : Nat} {M : List Od} {p : Nat} {m : Nat × Nat} {s1 s2 : Gd} (R : RB W wb M) (H : gWhole W p m s1 s2) : ∀ k, gft p m s1 s2 k → ¬ k = wb := by
  rintro k hk rfl
  obtain ⟨A, c, hc, _⟩ := R
  rcases gft_kind H hk hc with e | e | e | e | e <;> exact absurd e (by decide)
theorem gwhole_rb {W W' : World} {wb p : Nat} {m : Nat × Nat} {M : List Od} {s1 s2 : Gd} (R : RB W wb M) (H : gWhole W p m s1 s2) (hf : Fr (fun k => k = wb) W W') : gWhole W' p m s1 s2 := H.fr hf (gft_ne R H)
theorem gput_sort {w w' : World} {p : Nat} {m : Nat × Nat} {s1 s2 s1' s2' : Gd} {o : Od} (h : gPutIs w w' p m s1 s2 s1' s2' o) : sortO (bookL s1.rs s2.rs ++ [o]) = bookL s1'.rs s2'.rs :=
  sortO_uniq (h.perm.trans (List.perm_append_comm (l₁ := [o]) (l₂ := bookL s1.rs s2.rs))) h.tu.wh.pw
structure gNewIs (w w' : World) (p : Nat) (m : Nat × Nat) (s1 s2 : Gd) : Prop where
  wh : gWhole w' p m s1 s2
  nil : bookL s1.rs s2.rs = []
  be : Below w.heap.size w w'
  lo : ∀ k, gft p m s1 s2 k → w.heap.size ≤ k
theorem gNew_is (w : World) : Calls Tryz.prog 51 #[] w fun e w' => ∃ p m s1 s2, e = .returned (.pointer (some ⟨p, 0, none⟩)) ∧ Hid (gNewIs w w' p m s1 s2) :=
  (gNew_c w).mono fun e w' ⟨p, m, s1, s2, he, h⟩ => ⟨p, m, s1, s2, he, Lib.hid ⟨h.out.1, h.out.2.1, h.out.2.2.1, h.out.2.2.2⟩⟩

theorem ranges_fr {S : Nat → Prop} {w w' : World} {P : Program} {K : TypeId} {R : Value → Option (DataW Value × List MemPlace)} {b r n cnt : Nat} {D : DataW Value} {left : Lit → Bool} (h : w.ranges P K R b r n D left cnt) (hf : Fr S w w') (hb' : ¬ S b) (hr' : ¬ S r) : w'.ranges P K R b r n D left cnt := by
  have h1 := h.owns.lt
  have h2 := h.lt
  obtain ⟨es, clock, since, seen, c0, hb, F, hs, hD, hr, rest⟩ := h
  exact ⟨es, clock, since, seen, c0, (hf.block b h1 hb').trans hb, F, hs, hD, (hf.block r h2 hr').trans hr, rest⟩
theorem same_u {a b : Int} : (Lit.int .u64 a).sameKey (.int .u64 b) = decide (a = b) := by
  simp [Lit.sameKey]
structure gClI (w wr : World) (q : Nat) (m' : Nat × Nat) (t1 t2 : Gd) (b r : Nat) (D : DataW Value) (left : Lit → Bool) (cnt : Nat) (L : List Od) : Prop where
  wh : gWhole wr q m' t1 t2
  mem : ∀ x, x ∈ bookL t1.rs t2.rs ↔ x ∈ L ∧ left (.int .u64 x.id) = false
  len : (bookL t1.rs t2.rs).length + cnt ≤ 64
  rg : wr.ranges Tryz.prog 35 RV b r 64 D left cnt
  lf : ∀ id, left (.int .u64 id) = true → ∃ x ∈ L, x.id = id
  nr : ¬ gft q m' t1 t2 r
  nb : b < w.heap.size
  rlo : w.heap.size ≤ r
  be : Below w.heap.size w wr
  lo : ∀ j, gft q m' t1 t2 j → w.heap.size ≤ j
section
variable {w wr w' : World} {q b r cnt cnt' : Nat} {m' : Nat × Nat} {t1 t2 t1' t2' : Gd} {D : DataW Value} {left left' : Lit → Bool} {L : List Od}
theorem gClI.put {w2 : World} {x : Od} (h : gClI w wr q m' t1 t2 b r D left cnt L) (hi : Ids L) (hx : x ∈ L) (hl : left (.int .u64 x.id) = true) (hg : wr.grownBy w2 (some r)) (hrg : w2.ranges Tryz.prog 35 RV b r 64 D (fun z => left z && !z.sameKey (.int .u64 x.id)) cnt') (hlt : cnt' < cnt)
    (hP : gPutIs w2 w' q m' t1 t2 t1' t2' x) : gClI w w' q m' t1' t2' b r D (fun z => left z && !z.sameKey (.int .u64 x.id)) cnt' L := by
  have f2 := fr_grown hg
  have hsz := f2.size
  have be2 : Below w.heap.size w w2 := h.be.trans (f2.below (fun j hj => by rw [hj]; exact h.rlo) h.be.size)
  have hbl : ¬ gft q m' t1 t2 b := fun hb => by have := h.lo b hb; have := h.nb; omega
  refine ⟨hP.tu.wh, fun y => ?_, ?_, ranges_fr hrg hP.tu.fr hbl h.nr, fun id hid => h.lf id ?_, fun hf => ?_, h.nb, h.rlo, be2.trans (hP.tu.fr.below h.lo be2.size), fun j hj => ?_⟩
  · rw [hP.perm.mem_iff, List.mem_cons, h.mem, same_u]
    constructor
    · rintro (rfl | ⟨h1, h2⟩)
      · exact ⟨hx, by simp⟩
      · exact ⟨h1, by rw [h2]; rfl⟩
    · rintro ⟨h1, h2⟩
      by_cases e : y.id = x.id
      · exact .inl (ids_eq hi h1 hx e)
      · refine .inr ⟨h1, ?_⟩
        rw [decide_eq_false e] at h2
        simpa using h2
  · rw [hP.perm.length_eq, List.length_cons]
    have := h.len
    omega
  · have : (left (.int .u64 id) && !(Lit.int .u64 id).sameKey (.int .u64 x.id)) = true := hid
    rw [Bool.and_eq_true] at this
    exact this.1
  · rcases hP.tu.ft r hf with h' | h'
    · exact h.nr h'
    · have := h.rg.lt; omega
  · rcases hP.tu.ft j hj with h' | h'
    · exact h.lo j h'
    · exact Nat.le_trans be2.size h'
end

structure gTri (w W : World) (pa : Nat) (ma : Nat × Nat) (a1 a2 : Gd) (pb : Nat) (mb : Nat × Nat) (b1 b2 : Gd) (wb : Nat) (M : List Od) : Prop where
  wa : gWhole W pa ma a1 a2
  wv : gWhole W pb mb b1 b2
  rb : RB W wb M
  be : Below w.heap.size w W
  loa : ∀ k, gft pa ma a1 a2 k → w.heap.size ≤ k
  lob : ∀ k, gft pb mb b1 b2 k → w.heap.size ≤ k
  low : w.heap.size ≤ wb
  dj : ∀ k, gft pa ma a1 a2 k → ¬ gft pb mb b1 b2 k
section
variable {w W W' : World} {pa pb wb : Nat} {ma mb : Nat × Nat} {a1 a2 b1 b2 : Gd} {M : List Od}
theorem gTri.below (h : gTri w W pa ma a1 a2 pb mb b1 b2 wb M) (hb : Below W.heap.size W W') : gTri w W' pa ma a1 a2 pb mb b1 b2 wb M :=
  ⟨h.wa.below hb, h.wv.below hb, rb_low h.rb hb, h.be.trans (hb.mono h.be.size), h.loa, h.lob, h.low, h.dj⟩
theorem gTri.ref {M' : List Od} {o : Od} {c : Int} (h : gTri w W pa ma a1 a2 pb mb b1 b2 wb M) (k : RAdd W W' wb M M' o c) : gTri w W' pa ma a1 a2 pb mb b1 b2 wb M' :=
  ⟨gwhole_rb h.rb h.wa k.2.1, gwhole_rb h.rb h.wv k.2.1, k.1, h.be.trans (k.2.1.below (fun j hj => by subst hj; exact h.low) h.be.size), h.loa, h.lob, h.low, h.dj⟩
end
end Go.Proofs.YtpigkmfegmfelaaGreat
namespace Go.Proofs.YtpigkmfegmfelaaGreat
open Go.RowKit Go.ChangeShapes Go.WideShapes Go.Deep

structure Op where
  kind : Int
  id : Int
  acc : Int
  side : Int
  price : Int
  qt : Int
  seq : Int
  n : Int
  qty : Int
instance : Inhabited Op := ⟨⟨0, 0, 0, 0, 0, 0, 0, 0, 0⟩⟩
def Op.ok (w : World) (x : Op) : Prop := (-9223372036854775808 ≤ x.kind ∧ x.kind ≤ 9223372036854775807) ∧ (0 ≤ x.id ∧ x.id ≤ 18446744073709551615) ∧ (-9223372036854775808 ≤ x.acc ∧ x.acc ≤ 9223372036854775807) ∧ (-9223372036854775808 ≤ x.side ∧ x.side ≤ 9223372036854775807) ∧ (-9223372036854775808 ≤ x.price ∧ x.price ≤ 9223372036854775807) ∧ (-9223372036854775808 ≤ x.qt ∧ x.qt ≤ 9223372036854775807) ∧ (0 ≤ x.seq ∧ x.seq ≤ 18446744073709551615) ∧ (0 ≤ x.n ∧ x.n ≤ 18446744073709551615) ∧ (-9223372036854775808 ≤ x.qty ∧ x.qty ≤ 9223372036854775807)
def Op.at (x : Op) (w : World) (b o : Nat) : Prop := w.cell? ⟨b, o, none⟩ = some (.int .i64 x.kind) ∧ w.cell? ⟨b, o + 1, none⟩ = some (.int .u64 x.id) ∧ w.cell? ⟨b, o + 2, none⟩ = some (.int .i64 x.acc) ∧ w.cell? ⟨b, o + 3, none⟩ = some (.int .i64 x.side) ∧ w.cell? ⟨b, o + 4, none⟩ = some (.int .i64 x.price) ∧ w.cell? ⟨b, o + 5, none⟩ = some (.int .i64 x.qt) ∧ w.cell? ⟨b, o + 6, none⟩ = some (.int .u64 x.seq) ∧ w.cell? ⟨b, o + 7, none⟩ = some (.int .u64 x.n) ∧ w.cell? ⟨b, o + 8, none⟩ = some (.int .i64 x.qty)
theorem Op.ok_below {w w' : World} {x : Op} (h : x.ok w) (hb : Below w.heap.size w w') : x.ok w' := by
  exact h
theorem Op.at_below {w w' : World} {x : Op} {b o : Nat} (h : x.at w b o) (hl : b < w.heap.size) (hb : Below w.heap.size w w') : x.at w' b o := by
  unfold Op.at at h ⊢
  simpa only [hb.cell (p := ⟨b, o, none⟩) hl, hb.cell (p := ⟨b, o + 1, none⟩) hl, hb.cell (p := ⟨b, o + 2, none⟩) hl, hb.cell (p := ⟨b, o + 3, none⟩) hl, hb.cell (p := ⟨b, o + 4, none⟩) hl, hb.cell (p := ⟨b, o + 5, none⟩) hl, hb.cell (p := ⟨b, o + 6, none⟩) hl, hb.cell (p := ⟨b, o + 7, none⟩) hl, hb.cell (p := ⟨b, o + 8, none⟩) hl] using h
def Ops (w : World) (a : Option Addr) (len : Nat) (its : List Op) : Prop :=
  its.length = len ∧ len ≤ 9223372036854775807 ∧ (∀ x ∈ its, x.ok w) ∧ (len = 0 ∨ ∃ b off, a = some ⟨b, off, none⟩ ∧ b < w.heap.size ∧ ∀ i, i < len → (its[i]!).at w b (off + i * 9))
theorem Ops.below {w w' : World} {a : Option Addr} {len : Nat} {its : List Op} (h : Ops w a len its) (hb : Below w.heap.size w w') : Ops w' a len its := by
  obtain ⟨h1, hle, h2, h3⟩ := h
  refine ⟨h1, hle, fun x hx => Op.ok_below (h2 x hx) hb, ?_⟩
  rcases h3 with h0 | ⟨b, off, rfl, hlt, hc⟩
  · exact .inl h0
  · exact .inr ⟨b, off, rfl, Nat.lt_of_lt_of_le hlt hb.size, fun i hi => Op.at_below (hc i hi) hlt hb⟩
end Go.Proofs.YtpigkmfegmfelaaGreat
namespace Go.Proofs.YtpigkmfegmfelaaGreat
open Go.RowKit Go.Shelf Go.Sort Go.Lib Go.Maps

def gRs (s1 s2 : Gd) (sd : Int) : List Rw := rsq s1.rs s2.rs sd
theorem gWhole.ids {w : World} {p : Nat} {m : Nat × Nat} {s1 s2 : Gd} (h : gWhole w p m s1 s2) : Ids (bookL s1.rs s2.rs) := by
  obtain ⟨D, h⟩ := h; exact h.ids
structure gOne (w W : World) (p : Nat) (m : Nat × Nat) (s1 s2 : Gd) : Prop where
  wh : gWhole W p m s1 s2
  be : Below w.heap.size w W
  lo : ∀ k, gft p m s1 s2 k → w.heap.size ≤ k
theorem gOne.below {w W W' : World} {p : Nat} {m : Nat × Nat} {s1 s2 : Gd} (h : gOne w W p m s1 s2) (hb : Below W.heap.size W W') : gOne w W' p m s1 s2 := ⟨h.wh.below hb, h.be.trans (hb.mono h.be.size), h.lo⟩
structure gKept (w W : World) (p : Nat) (m : Nat × Nat) (s1 s2 : Gd) (sd : Int) (R : List Rw) (v : Value) (n : Nat) (l : List Int) (fb : Nat) (z : Od) : Prop where
  one : gOne w W p m s1 s2
  rs : gRs s1 s2 sd = R
  was : W.ownsRow 0 2 1 v n (l.map (fun p => Value.int .i64 p))
  bx : Cl 38 W fb (OC z)
  nf : ¬ gft p m s1 s2 fb
  nv : ∀ j, v.ownBlock = some j → ¬ gft p m s1 s2 j
section
variable {w W W' : World} {p n fb : Nat} {m : Nat × Nat} {s1 s2 s1' s2' : Gd} {sd : Int} {R : List Rw} {v : Value} {l : List Int} {z : Od}
theorem gKept.below (h : gKept w W p m s1 s2 sd R v n l fb z) (hb : Below W.heap.size W W') : gKept w W' p m s1 s2 sd R v n l fb z :=
  ⟨h.one.below hb, h.rs, own_low h.was hb, (hb.block _ (blk_lt h.bx)).trans h.bx, h.nf, h.nv⟩
end

theorem om_get {L : List Od} (hi : Ids L) (id : Int) : GetIs id L (omL L id) := by
  cases h : omL L id with
  | some x => exact (omL_some hi).1 h
  | none =>
    intro x hx e
    have := (omL_some hi (id := id) (x := x)).2 ⟨hx, e⟩
    rw [h] at this
    cases this
theorem hGet (p : Nat) (m : Nat × Nat) (s1 s2 : Gd) (id : Int) (hs : (Lit.int .u64 id).wf = true) (W : World) (H : gWhole W p m s1 s2) :
    Calls Tryz.prog 203 #[.pointer (some ⟨p, 0, none⟩), .int .u64 id] W fun e w' => ∃ r, e = .returned (.tuple #[optV r, .bool r.isSome]) ∧ Hid (GetIs id (bookL s1.rs s2.rs) r ∧ Below W.heap.size W w') := by
  have hi := H.ids
  obtain ⟨D, h⟩ := H
  refine (gGet_c p m.1 m.2 D s1.g s2.g s1.rs s2.rs id hs W h).mono ?_
  rintro e w' ⟨rfl, hb⟩
  refine ⟨omL (bookL s1.rs s2.rs) id, ?_, Lib.hid ⟨om_get hi id, hb.out⟩⟩
  cases omL (bookL s1.rs s2.rs) id <;> rfl
end Go.Proofs.YtpigkmfegmfelaaGreat
namespace Go.Proofs.YtpigkmfegmfelaaGreat
open Go.RowKit Go.Shelf Go.Sort Go.Maps Go.Lib

def gTrn (W W' : World) (p : Nat) (m : Nat × Nat) (s1 s2 s1' s2' : Gd) : Prop :=
  gWhole W' p m s1' s2' ∧ Fr (gft p m s1 s2) W W' ∧ ∀ k, gft p m s1' s2' k → gft p m s1 s2 k ∨ W.heap.size ≤ k
structure gPl (w W : World) (p : Nat) (m : Nat × Nat) (s1 s2 : Gd) (wb : Nat) (M : List Od) : Prop where
  wh : gWhole W p m s1 s2
  rb : RB W wb M
  be : Below w.heap.size w W
  lo : ∀ k, gft p m s1 s2 k → w.heap.size ≤ k
  low : w.heap.size ≤ wb
section
variable {w W W' : World} {p wb : Nat} {m : Nat × Nat} {s1 s2 s1' s2' : Gd} {M M' : List Od}
theorem gPl.below (h : gPl w W p m s1 s2 wb M) (hb : Below W.heap.size W W') : gPl w W' p m s1 s2 wb M := ⟨h.wh.below hb, rb_low h.rb hb, h.be.trans (hb.mono h.be.size), h.lo, h.low⟩
theorem gPl.ref (h : gPl w W p m s1 s2 wb M) (hr : RB W' wb M') (hf : Fr (fun k => k = wb) W W') : gPl w W' p m s1 s2 wb M' :=
  ⟨gwhole_rb h.rb h.wh hf, hr, h.be.trans (hf.below (fun j hj => by subst hj; exact h.low) h.be.size), h.lo, h.low⟩
theorem gtrn_same (H : gWhole W p m s1 s2) (hb : Below W.heap.size W W') : gTrn W W' p m s1 s2 s1 s2 := ⟨H.below hb, Fr.of_below hb, fun _ h => .inl h⟩
end

theorem gtake_same {w w' : World} {p : Nat} {m : Nat × Nat} {s1 s2 s1' s2' : Gd} {o : Od} {id : Int} (H : gWhole w p m s1 s2) (k : gTakeIs w w' p m s1 s2 s1' s2' o) (ho : o ∈ bookL s1.rs s2.rs) (he : o.id = id) : (bookL s1.rs s2.rs).eraseIdx (idxN id (bookL s1.rs s2.rs)) = bookL s1'.rs s2'.rs := by
  obtain ⟨h1, h2⟩ := idx_of H.ids ho he
  have hp := era_perm h1 h2
  refine uniq ?_ ?_ k.tu.wh.pw
  · exact (List.Perm.cons_inv (hp.symm.trans k.perm))
  · exact H.pw.sublist (List.eraseIdx_sublist _ _)
theorem gcut_same {w w' : World} {p : Nat} {m : Nat × Nat} {s1 s2 s1' s2' : Gd} {id qty c : Int} (H : gWhole w p m s1 s2) (k : gCutIs w w' p m s1 s2 s1' s2' id qty c) : (cutR id qty (bookL s1.rs s2.rs)) = (c, bookL s1'.rs s2'.rs) ∧ gTrn w w' p m s1 s2 s1' s2' := by
  rcases k with ⟨rfl, hno, rfl, rfl, hb⟩ | ⟨o, ho, hid, k⟩
  · refine ⟨?_, gtrn_same H hb⟩
    unfold cutR
    rw [if_neg]
    rw [idx_none hno]; exact Nat.lt_irrefl _
  · obtain ⟨h1, h2⟩ := idx_of H.ids ho hid
    rw [cutR_some rfl h1, h2]
    rcases k with ⟨rfl, hq, rfl, rfl, hb⟩ | ⟨rfl, hq, he, ht⟩ | ⟨rfl, hq, hl, ht⟩
    · exact ⟨if_pos hq, gtrn_same H hb⟩
    · rw [if_neg (by omega), if_pos he]
      exact ⟨by rw [gtake_same H ht ho hid], ht.tu.wh, ht.tu.fr, ht.tu.ft⟩
    · rw [if_neg (by omega), if_neg (by omega)]
      refine ⟨?_, ht.tu.wh, ht.tu.fr, ht.tu.ft⟩
      rw [ht.now]
      congr 1
      have e : bookL s1.rs s2.rs = (bookL s1.rs s2.rs).take (idxN id (bookL s1.rs s2.rs)) ++ o :: (bookL s1.rs s2.rs).drop (idxN id (bookL s1.rs s2.rs) + 1) := by
        have h3 : o = (bookL s1.rs s2.rs)[idxN id (bookL s1.rs s2.rs)]'h1 := by rw [← h2, getElem!_pos (bookL s1.rs s2.rs) _ h1]
        rw [h3, ← List.drop_eq_getElem_cons h1, List.take_append_drop]
      have h4 := less_map (P := (bookL s1.rs s2.rs).take (idxN id (bookL s1.rs s2.rs))) (T := (bookL s1.rs s2.rs).drop (idxN id (bookL s1.rs s2.rs) + 1)) (o := o) (qty := qty) (by rw [← e]; exact H.ids)
      rw [← e] at h4
      rw [h4, List.set_eq_take_append_cons_drop, if_pos h1]
theorem glev_same {w : World} {p : Nat} {m : Nat × Nat} {s1 s2 : Gd} (H : gWhole w p m s1 s2) (sd pr : Int) : atP pr (rsq s1.rs s2.rs sd) = levL sd pr (bookL s1.rs s2.rs) := by
  obtain ⟨D, h⟩ := H
  unfold atP
  rw [← sideQ h.ok1 h.ok2 sd]
  unfold levL sideL
  rw [List.filter_filter]
  congr 1
  funext x
  exact Bool.and_comm _ _
theorem hLevel (p : Nat) (m : Nat × Nat) (s1 s2 : Gd) (sd pr : Int) (hs : (Lit.int .i64 sd).wf = true) (w : World) (H : gWhole w p m s1 s2) :
    Calls Tryz.prog 205 #[.pointer (some ⟨p, 0, none⟩), .int .i64 sd, .int .i64 pr] w fun e w' => ∃ v, e = .returned v ∧ Hid (w'.ownsRow w.heap.size 38 6 v (levL sd pr (bookL s1.rs s2.rs)).length (ol (levL sd pr (bookL s1.rs s2.rs))) ∧ Below w.heap.size w w') := by
  have e := glev_same H sd pr
  obtain ⟨D, h⟩ := H
  rw [← e]
  exact gLevel_c p m.1 m.2 D s1.g s2.g s1.rs s2.rs sd pr hs w h

abbrev ptA (b : Nat) : Value := .pointer (some ⟨b, 0, none⟩)
abbrev lvl (p : Nat) : Value := .iface 102 (ptA p)
abbrev gvl (p : Nat) : Value := .iface 104 (ptA p)
abbrev oV (o : Od) : Value := .agg #[.int .u64 o.id, .int .i64 o.acc, .int .i64 o.side, .int .i64 o.price, .int .i64 o.qty, .int .u64 o.seq]
inductive Held (w : World) : Value → Int → List Od → (Nat → Prop) → Prop
  | lad (p m : Nat) (s1 s2 : Sd) (h : Whole w p m s1 s2) : Held w (lvl p) 1 (bookL s1.rs s2.rs) (foot (some ⟨p, 0, none⟩) (some m) s1 s2)
  | gro (p : Nat) (m : Nat × Nat) (s1 s2 : Gd) (h : gWhole w p m s1 s2) : Held w (gvl p) 2 (bookL s1.rs s2.rs) (gft p m s1 s2)
section
variable {w w' : World} {v : Value} {k : Int} {L : List Od} {S : Nat → Prop}
theorem Held.len (h : Held w v k L S) : L.length ≤ 64 := by cases h with | lad _ _ _ _ h => exact h.len | gro _ _ _ _ h => exact h.len
theorem Held.ids (h : Held w v k L S) : Ids L := by cases h with | lad _ _ _ _ h => exact h.ids | gro _ _ _ _ h => exact h.ids
theorem Held.ok (h : Held w v k L S) : ∀ x ∈ L, Od.ok w x ∧ goodO x = true := by cases h with | lad _ _ _ _ h => exact h.ok | gro _ _ _ _ h => exact h.ok
theorem Held.pw (h : Held w v k L S) : L.Pairwise (fun x y => ltO x y = true) := by cases h with | lad _ _ _ _ h => exact h.pw | gro _ _ _ _ h => exact h.pw
theorem Held.lt (h : Held w v k L S) : ∀ j, S j → j < w.heap.size := by cases h with | lad _ _ _ _ h => exact fun j hj => h.bk.lt hj | gro _ _ _ _ h => exact gft.lt h
theorem Held.fr {R : Nat → Prop} (h : Held w v k L S) (hf : Fr R w w') (hn : ∀ j, S j → ¬ R j) : Held w' v k L S := by
  cases h with | lad p m s1 s2 h => exact .lad p m s1 s2 (h.fr hf hn) | gro p m s1 s2 h => exact .gro p m s1 s2 (h.fr hf hn)
theorem Held.below (h : Held w v k L S) (hb : Below w.heap.size w w') : Held w' v k L S := by
  cases h with | lad p m s1 s2 h => exact .lad p m s1 s2 (h.below hb) | gro p m s1 s2 h => exact .gro p m s1 s2 (h.below hb)
theorem Held.kind {T : TypeId} {j : Nat} {cs : Array Value} (h : Held w v k L S) (hj : S j) (hc : Cl T w j cs) : T = 132 ∨ T = 247 ∨ T = 38 ∨ T = 138 ∨ T = 3 ∨ T = 156 ∨ T = 278 ∨ T = 35 := by
  cases h with
  | lad p m s1 s2 h => rcases foot_kind h.bk hj hc with e | e | e <;> simp [e]
  | gro p m s1 s2 h => rcases gft_kind h hj hc with e | e | e | e | e <;> simp [e]
theorem Held.k12 (h : Held w v k L S) : k = 1 ∨ k = 2 := by cases h with | lad => exact .inl rfl | gro => exact .inr rfl
end
structure HTurn (w w' : World) (v : Value) (k : Int) (S : Nat → Prop) (L' : List Od) (S' : Nat → Prop) : Prop where
  hd : Held w' v k L' S'
  fr : Fr S w w'
  ft : ∀ j, S' j → S j ∨ w.heap.size ≤ j
theorem HTurn.same {w w' : World} {v : Value} {k : Int} {L : List Od} {S : Nat → Prop} (h : Held w v k L S) (hb : Below w.heap.size w w') : HTurn w w' v k S L S := ⟨h.below hb, Fr.of_below hb, fun _ h => .inl h⟩
theorem HTurn.after {w w1 w2 : World} {v : Value} {k : Int} {L' : List Od} {S S' : Nat → Prop} (hb : Below w.heap.size w w1) (h : HTurn w1 w2 v k S L' S') : HTurn w w2 v k S L' S' :=
  ⟨h.hd, (Fr.of_below hb : Fr S w w1).trans h.fr (fun _ h => .inl h), fun j hj => (h.ft j hj).imp id (fun h' => Nat.le_trans hb.size h')⟩

def addP (L : List Od) (o : Od) : Int × List Od :=
  if goodO o = false then (2, L) else if (L.any fun x => x.id == o.id) = true then (52, L) else if L.length = 64 then (50, L) else (0, sortO (L ++ [o]))
theorem addP_bad {L : List Od} {o : Od} (h : goodO o = false) : addP L o = (2, L) := if_pos h
theorem addP_there {L : List Od} {o : Od} (h : goodO o = true) (hx : ∃ x ∈ L, x.id = o.id) : addP L o = (52, L) := by
  unfold addP
  rw [if_neg (by rw [h]; decide), if_pos]
  obtain ⟨x, hx, he⟩ := hx
  exact List.any_eq_true.2 ⟨x, hx, by simpa using he⟩
theorem any_no {L : List Od} {o : Od} (hx : ∀ x ∈ L, ¬ x.id = o.id) : ¬ (L.any fun x => x.id == o.id) = true := fun h => by
  obtain ⟨x, hm, he⟩ := List.any_eq_true.1 h
  exact hx x hm (by simpa using he)
theorem addP_full {L : List Od} {o : Od} (h : goodO o = true) (hx : ∀ x ∈ L, ¬ x.id = o.id) (hl : L.length = 64) : addP L o = (50, L) := by
  unfold addP
  rw [if_neg (by rw [h]; decide), if_neg (any_no hx), if_pos hl]
theorem addP_put {L : List Od} {o : Od} (h : goodO o = true) (hx : ∀ x ∈ L, ¬ x.id = o.id) (hl : L.length < 64) : addP L o = (0, sortO (L ++ [o])) := by
  unfold addP
  rw [if_neg (by rw [h]; decide), if_neg (any_no hx), if_neg (by omega)]
def AddEnd (w : World) (v : Value) (k : Int) (S : Nat → Prop) (L : List Od) (o : Od) (e : Ending) (w' : World) : Prop :=
  ∃ S', e = .returned (.int .i64 (addP L o).1) ∧ Hid (HTurn w w' v k S (addP L o).2 S')
theorem addL (p m : Nat) (s1 s2 : Sd) (o : Od) (w : World) (H : Whole w p m s1 s2) (ho : Od.ok w o) :
    Calls Tryz.prog 168 #[ptA p, oV o] w (AddEnd w (lvl p) 1 (foot (some ⟨p, 0, none⟩) (some m) s1 s2) (bookL s1.rs s2.rs) o) := by
  refine (lAdd_c p m s1 s2 o w H ho).mono ?_
  rintro e w' ⟨c, s1', s2', rfl, h⟩
  have h := h.out
  rcases h with ⟨rfl, hg, rfl, rfl, hb⟩ | ⟨hg, rfl, hx, rfl, rfl, hb⟩ | ⟨hg, hid, ⟨rfl, hl', rfl, rfl, hb⟩ | ⟨rfl, hl', hp⟩⟩
  · exact ⟨_, by rw [addP_bad hg], Lib.hid (by rw [addP_bad hg]; exact HTurn.same (.lad p m _ _ H) hb)⟩
  · exact ⟨_, by rw [addP_there hg hx], Lib.hid (by rw [addP_there hg hx]; exact HTurn.same (.lad p m _ _ H) hb)⟩
  · exact ⟨_, by rw [addP_full hg hid hl'], Lib.hid (by rw [addP_full hg hid hl']; exact HTurn.same (.lad p m _ _ H) hb)⟩
  · refine ⟨foot (some ⟨p, 0, none⟩) (some m) s1' s2', by rw [addP_put hg hid hl'], Lib.hid ?_⟩
    rw [addP_put hg hid hl', show ((0 : Int), sortO (bookL s1.rs s2.rs ++ [o])).2 = bookL s1'.rs s2'.rs from put_sort hp]
    exact ⟨.lad p m _ _ hp.wh, hp.fr, hp.ft⟩
theorem addG (p : Nat) (m : Nat × Nat) (s1 s2 : Gd) (o : Od) (w : World) (H : gWhole w p m s1 s2) (ho : Od.ok w o) :
    Calls Tryz.prog 199 #[ptA p, oV o] w (AddEnd w (gvl p) 2 (gft p m s1 s2) (bookL s1.rs s2.rs) o) := by
  refine (gAdd_c p m s1 s2 o w H ho).mono ?_
  rintro e w' ⟨c, s1', s2', rfl, h⟩
  have h := h.out
  rcases h with ⟨rfl, hg, rfl, rfl, hb⟩ | ⟨hg, rfl, hx, rfl, rfl, hb⟩ | ⟨hg, hid, ⟨rfl, hl', rfl, rfl, hb⟩ | ⟨rfl, hl', hp⟩⟩
  · exact ⟨_, by rw [addP_bad hg], Lib.hid (by rw [addP_bad hg]; exact HTurn.same (.gro p m _ _ H) hb)⟩
  · exact ⟨_, by rw [addP_there hg hx], Lib.hid (by rw [addP_there hg hx]; exact HTurn.same (.gro p m _ _ H) hb)⟩
  · exact ⟨_, by rw [addP_full hg hid hl'], Lib.hid (by rw [addP_full hg hid hl']; exact HTurn.same (.gro p m _ _ H) hb)⟩
  · refine ⟨gft p m s1' s2', by rw [addP_put hg hid hl'], Lib.hid ?_⟩
    rw [addP_put hg hid hl', show ((0 : Int), sortO (bookL s1.rs s2.rs ++ [o])).2 = bookL s1'.rs s2'.rs from gput_sort hp]
    exact ⟨.gro p m _ _ hp.tu.wh, hp.tu.fr, hp.tu.ft⟩
def oZ (r : Option Od) : Od := r.getD ⟨0, 0, 0, 0, 0, 0⟩
theorem opt_oZ (r : Option Od) : optV r = .agg (OC (oZ r)) := by cases r <;> rfl
def TakEnd (w : World) (v : Value) (k : Int) (S : Nat → Prop) (L : List Od) (id : Int) (e : Ending) (w' : World) : Prop :=
  ∃ S', e = .returned (.tuple #[.agg (OC (oZ (getO id L))), .bool (getO id L).isSome]) ∧ Hid (HTurn w w' v k S (L.eraseIdx (idxN id L)) S')
theorem takL (p m : Nat) (s1 s2 : Sd) (id : Int) (W : World) (H : Whole W p m s1 s2) :
    Calls Tryz.prog 176 #[ptA p, .int .u64 id] W (TakEnd W (lvl p) 1 (foot (some ⟨p, 0, none⟩) (some m) s1 s2) (bookL s1.rs s2.rs) id) := by
  have hz := H.n1
  by_cases hx : ∃ x ∈ bookL s1.rs s2.rs, x.id = id
  · obtain ⟨o, ho, hid⟩ := hx
    refine (lTake_c p m s1 s2 o id W H ho hid).mono ?_
    rintro e w' ⟨rfl, t1, t2, h⟩
    refine ⟨foot (some ⟨p, 0, none⟩) (some m) t1 t2, by rw [get_some H.ids ho hid, ← opt_oZ]; rfl, Lib.hid ?_⟩
    rw [take_same H h.out ho hid]
    exact ⟨.lad p m _ _ h.out.tu.wh, h.out.tu.fr, h.out.tu.ft⟩
  · have hno : ∀ x ∈ bookL s1.rs s2.rs, ¬ x.id = id := fun x hx' he => hx ⟨x, hx', he⟩
    refine (take_no _ _ s1 s2 id W H.bk (by omega) (by omega) (by omega) hno).mono ?_
    rintro e w' ⟨rfl, h⟩
    refine ⟨foot (some ⟨p, 0, none⟩) (some m) s1 s2, by rw [get_none hno, ← opt_oZ]; rfl, Lib.hid ?_⟩
    rw [erase_none hno]
    exact HTurn.same (.lad p m _ _ H) h.out
theorem takG (p : Nat) (m : Nat × Nat) (s1 s2 : Gd) (id : Int) (hwf : (Lit.int .u64 id).wf = true) (W : World) (H : gWhole W p m s1 s2) :
    Calls Tryz.prog 207 #[ptA p, .int .u64 id] W (TakEnd W (gvl p) 2 (gft p m s1 s2) (bookL s1.rs s2.rs) id) := by
  by_cases hx : ∃ x ∈ bookL s1.rs s2.rs, x.id = id
  · obtain ⟨o, ho, hid⟩ := hx
    refine (gTake_c p m s1 s2 o id W H ho hid).mono ?_
    rintro e w' ⟨rfl, t1, t2, h⟩
    refine ⟨gft p m t1 t2, by rw [get_some H.ids ho hid, ← opt_oZ]; rfl, Lib.hid ?_⟩
    rw [gtake_same H h.out ho hid]
    exact ⟨.gro p m _ _ h.out.tu.wh, h.out.tu.fr, h.out.tu.ft⟩
  · have hno : ∀ x ∈ bookL s1.rs s2.rs, ¬ x.id = id := fun x hx' he => hx ⟨x, hx', he⟩
    refine (gTake_none p m s1 s2 id hwf W H hno).mono ?_
    rintro e w' ⟨rfl, h⟩
    refine ⟨gft p m s1 s2, by rw [get_none hno, ← opt_oZ]; rfl, Lib.hid ?_⟩
    rw [erase_none hno]
    exact HTurn.same (.gro p m _ _ H) h.out
def CutEnd (w : World) (v : Value) (k : Int) (S : Nat → Prop) (L : List Od) (id qty : Int) (e : Ending) (w' : World) : Prop :=
  ∃ S', e = .returned (.int .i64 (cutR id qty L).1) ∧ Hid (HTurn w w' v k S (cutR id qty L).2 S')
theorem cutL (p m : Nat) (s1 s2 : Sd) (id qty : Int) (W : World) (H : Whole W p m s1 s2) :
    Calls Tryz.prog 171 #[ptA p, .int .u64 id, .int .i64 qty] W (CutEnd W (lvl p) 1 (foot (some ⟨p, 0, none⟩) (some m) s1 s2) (bookL s1.rs s2.rs) id qty) := by
  refine (lCut_c p m s1 s2 id qty W H).mono ?_
  rintro e w' ⟨c, t1, t2, rfl, h⟩
  obtain ⟨h1, h2⟩ := cut_same H h.out
  exact ⟨foot (some ⟨p, 0, none⟩) (some m) t1 t2, by rw [h1], Lib.hid (by rw [h1]; exact ⟨.lad p m _ _ h2.1, h2.2.1, h2.2.2⟩)⟩
theorem cutG (p : Nat) (m : Nat × Nat) (s1 s2 : Gd) (id qty : Int) (hwf : (Lit.int .u64 id).wf = true) (W : World) (H : gWhole W p m s1 s2) :
    Calls Tryz.prog 202 #[ptA p, .int .u64 id, .int .i64 qty] W (CutEnd W (gvl p) 2 (gft p m s1 s2) (bookL s1.rs s2.rs) id qty) := by
  refine (gCut_c p m s1 s2 id qty hwf W H).mono ?_
  rintro e w' ⟨c, t1, t2, rfl, h⟩
  obtain ⟨h1, h2⟩ := gcut_same H h.out
  exact ⟨gft p m t1 t2, by rw [h1], Lib.hid (by rw [h1]; exact ⟨.gro p m _ _ h2.1, h2.2.1, h2.2.2⟩)⟩
def YGetEnd (w : World) (r : Option Od) (e : Ending) (w' : World) : Prop := e = .returned (.tuple #[.agg (OC (oZ r)), .bool r.isSome]) ∧ Hid (Below w.heap.size w w')
def RowEnd (w : World) (L : List Od) (e : Ending) (w' : World) : Prop := ∃ v, e = .returned v ∧ Hid (w'.ownsRow w.heap.size 38 6 v L.length (ol L) ∧ Below w.heap.size w w')
def IntsEnd (w : World) (l : List Int) (e : Ending) (w' : World) : Prop := ∃ v, e = .returned v ∧ Hid (w'.ownsRow w.heap.size 2 1 v l.length (prI l) ∧ Below w.heap.size w w')
theorem getL (p m : Nat) (s1 s2 : Sd) (id : Int) (W : World) (H : Whole W p m s1 s2) :
    Calls Tryz.prog 172 #[ptA p, .int .u64 id] W (YGetEnd W (getO id (bookL s1.rs s2.rs))) := by
  have hz := H.n1
  refine (lGet_c _ _ s1 s2 id W H.bk (by omega) (by omega) (by omega)).mono ?_
  rintro e w' ⟨r, rfl, hr⟩
  have := get_same H.ids hr.out.1
  subst this
  exact ⟨by rw [opt_oZ], Lib.hid hr.out.2⟩
theorem getG (p : Nat) (m : Nat × Nat) (s1 s2 : Gd) (id : Int) (hwf : (Lit.int .u64 id).wf = true) (W : World) (H : gWhole W p m s1 s2) :
    Calls Tryz.prog 203 #[ptA p, .int .u64 id] W (YGetEnd W (getO id (bookL s1.rs s2.rs))) := by
  refine (hGet p m s1 s2 id hwf W H).mono ?_
  rintro e w' ⟨r, rfl, hr⟩
  have := get_same H.ids hr.out.1
  subst this
  exact ⟨by rw [opt_oZ], Lib.hid hr.out.2⟩
theorem bstL (p m : Nat) (s1 s2 : Sd) (sd : Int) (hs : (Lit.int .i64 sd).wf = true) (W : World) (H : Whole W p m s1 s2) :
    Calls Tryz.prog 170 #[ptA p, .int .i64 sd] W (YGetEnd W (bestL sd (bookL s1.rs s2.rs))) := by
  refine (lBest_c _ _ s1 s2 sd hs W H.bk H.ne).mono ?_
  rintro e w' ⟨rfl, hr⟩
  exact ⟨by rw [best_book H, opt_oZ], hr⟩
theorem bstG (p : Nat) (m : Nat × Nat) (s1 s2 : Gd) (sd : Int) (hs : (Lit.int .i64 sd).wf = true) (W : World) (H : gWhole W p m s1 s2) :
    Calls Tryz.prog 201 #[ptA p, .int .i64 sd] W (YGetEnd W (bestL sd (bookL s1.rs s2.rs))) := by
  refine (hBest p m s1 s2 sd hs W H).mono ?_
  rintro e w' ⟨rfl, hr⟩
  exact ⟨by rw [opt_oZ], hr⟩
theorem allL (p m : Nat) (s1 s2 : Sd) (W : World) (H : Whole W p m s1 s2) :
    Calls Tryz.prog 169 #[ptA p] W (RowEnd W (bookL s1.rs s2.rs)) := by
  have hz := H.n1
  exact lAll_c _ _ s1 s2 W H.bk (by omega) (by omega) (by omega) H.ne
theorem allG (p : Nat) (m : Nat × Nat) (s1 s2 : Gd) (W : World) (H : gWhole W p m s1 s2) :
    Calls Tryz.prog 200 #[ptA p] W (RowEnd W (bookL s1.rs s2.rs)) := hAll p m s1 s2 W H
theorem levL' (p m : Nat) (s1 s2 : Sd) (sd pr : Int) (hs : (Lit.int .i64 sd).wf = true) (W : World) (H : Whole W p m s1 s2) :
    Calls Tryz.prog 174 #[ptA p, .int .i64 sd, .int .i64 pr] W (RowEnd W (levL sd pr (bookL s1.rs s2.rs))) := by
  have hz := H.n1
  have k := lLevel_c _ _ s1 s2 sd pr hs W H.bk H.ok1 H.ok2 (by omega) (by omega) (by omega)
  rw [lev_same H] at k
  exact k
theorem levG (p : Nat) (m : Nat × Nat) (s1 s2 : Gd) (sd pr : Int) (hs : (Lit.int .i64 sd).wf = true) (W : World) (H : gWhole W p m s1 s2) :
    Calls Tryz.prog 205 #[ptA p, .int .i64 sd, .int .i64 pr] W (RowEnd W (levL sd pr (bookL s1.rs s2.rs))) := hLevel p m s1 s2 sd pr hs W H
theorem prsL (p m : Nat) (s1 s2 : Sd) (sd : Int) (hs : (Lit.int .i64 sd).wf = true) (W : World) (H : Whole W p m s1 s2) :
    Calls Tryz.prog 175 #[ptA p, .int .i64 sd] W (IntsEnd W (prs (sideL sd (bookL s1.rs s2.rs)))) := by
  have hz := H.n1
  have k := lPrices_c _ _ s1 s2 sd hs W H.bk (by omega) (by omega)
  rw [prV_map, prs_book H] at k
  have hl : (rsOf s1 s2 sd).length = (prs (sideL sd (bookL s1.rs s2.rs))).length := by rw [← prs_book H, List.length_map]
  rw [hl] at k
  exact k
theorem prsG (p : Nat) (m : Nat × Nat) (s1 s2 : Gd) (sd : Int) (hs : (Lit.int .i64 sd).wf = true) (W : World) (H : gWhole W p m s1 s2) :
    Calls Tryz.prog 206 #[ptA p, .int .i64 sd] W (IntsEnd W (prs (sideL sd (bookL s1.rs s2.rs)))) := hPrices p m s1 s2 sd hs W H
def LenEnd (w : World) (n : Nat) (e : Ending) (w' : World) : Prop := e = .returned (.int .i64 (n : Int)) ∧ Hid (Below w.heap.size w w')
theorem lenL (p m : Nat) (s1 s2 : Sd) (W : World) (H : Whole W p m s1 s2) :
    Calls Tryz.prog 173 #[ptA p] W (LenEnd W (bookL s1.rs s2.rs).length) := by
  have hz := H.n1
  have k := lLen_c _ _ s1 s2 W H.bk (by omega) (by omega) (by omega)
  rw [lenQ_flat, flatR_app] at k
  exact k
theorem lenG (p : Nat) (m : Nat × Nat) (s1 s2 : Gd) (W : World) (H : gWhole W p m s1 s2) :
    Calls Tryz.prog 204 #[ptA p] W (LenEnd W (bookL s1.rs s2.rs).length) :=
  (hLen p m s1 s2 W H).mono fun e w' ⟨h1, h2⟩ => ⟨h1, by rw [← h2]; exact Lib.hid (Below.refl _ _)⟩

structure LyB (w : World) (b : Nat) (v : Value) (k : Int) (L : List Od) (S : Nat → Prop) : Prop where
  cl : Cl 97 w b #[.int .i64 k, v]
  hd : Held w v k L S
section
variable {w w' : World} {b : Nat} {v : Value} {k : Int} {L L' : List Od} {S S' : Nat → Prop}
theorem LyB.below (h : LyB w b v k L S) (hb : Below w.heap.size w w') : LyB w' b v k L S := ⟨(hb.block _ (blk_lt h.cl)).trans h.cl, h.hd.below hb⟩
theorem LyB.nf (h : LyB w b v k L S) : ¬ S b := fun hs => by
  rcases h.hd.kind hs h.cl with e | e | e | e | e | e | e | e <;> exact absurd e (by decide)
theorem LyB.fr {R : Nat → Prop} (h : LyB w b v k L S) (hf : Fr R w w') (hb : ¬ R b) (hn : ∀ j, S j → ¬ R j) : LyB w' b v k L S := ⟨hf.blk h.cl hb, h.hd.fr hf hn⟩
theorem LyB.turn (h : LyB w b v k L S) (t : HTurn w w' v k S L' S') : LyB w' b v k L' S' := ⟨t.fr.blk h.cl h.nf, t.hd⟩
end
theorem shape {w : World} {v : Value} {k : Int} {L : List Od} {S : Nat → Prop} (h : Held w v k L S) : (∃ p, v = lvl p ∧ k = 1) ∨ (∃ p, v = gvl p ∧ k = 2) := by
  cases h with | lad p => exact .inl ⟨p, rfl, rfl⟩ | gro p => exact .inr ⟨p, rfl, rfl⟩
theorem neqLy (k : Int) (v : Value) (hv : (∃ p, v = lvl p ∧ k = 1) ∨ (∃ p, v = gvl p ∧ k = 2)) (w : World) : (binOp .neq 97 (.agg #[.int .i64 k, v]) (.agg #[.int .i64 0, .nilIface])).run Tryz.prog w = .ok (.bool true) w := by
  rcases hv with ⟨p, rfl, rfl⟩ | ⟨p, rfl, rfl⟩ <;> kernel_rfl
theorem eqgLy (k : Int) (v : Value) (hv : (∃ p, v = lvl p ∧ k = 1) ∨ (∃ p, v = gvl p ∧ k = 2)) (x y : Nat) (w : World) : (eqGuard .neq 97 (.tmp x) (.tmp y) (.agg #[.int .i64 k, v]) (.agg #[.int .i64 0, .nilIface])).run Tryz.prog w = .ok () w := by
  rcases hv with ⟨p, rfl, rfl⟩ | ⟨p, rfl, rfl⟩ <;> kernel_rfl
theorem made15_c (b : Nat) (v : Value) (k : Int) (L : List Od) (S : Nat → Prop) (w : World) (H : LyB w b v k L S) :
    Calls Tryz.prog 47 #[ptA b] w fun e w' => e = .returned (.bool true) ∧ w = w' := by
  have h0 : w.cell? ⟨b, 0, none⟩ = some (.int .i64 k) := (H.cl.c 0).trans rfl
  have h1 : w.cell? ⟨b, 1, none⟩ = some v := (H.cl.c 1).trans rfl
  have hq := neqLy k v (shape H.hd)
  have hg := eqgLy k v (shape H.hd)
  clear H
  go_enter Tryz.func47, Tryz.ntmps47
  go_wp2_with fail
  go_ret
  exact ⟨rfl, rfl⟩
theorem held_c (b : Nat) (v : Value) (k : Int) (L : List Od) (S : Nat → Prop) (w : World) (H : LyB w b v k L S) :
    Calls Tryz.prog 48 #[ptA b] w fun e w' => e = .returned v ∧ w = w' := by
  have h1 : w.cell? ⟨b, 1, none⟩ = some v := (H.cl.c 1).trans rfl
  have HM := Lib.hid (made15_c b v k L S w H)
  clear H
  go_enter Tryz.func48, Tryz.ntmps48
  go_wp2_with ((with_reducible refine HM.out.mono ?_); rintro e w' ⟨rfl, rfl⟩)
  go_ret
  exact ⟨rfl, rfl⟩
theorem kind_c (b : Nat) (v : Value) (k : Int) (L : List Od) (S : Nat → Prop) (w : World) (H : LyB w b v k L S) :
    Calls Tryz.prog 13 #[ptA b] w fun e w' => e = .returned (.int .i64 k) ∧ w = w' := by
  have h1 : w.cell? ⟨b, 0, none⟩ = some (.int .i64 k) := (H.cl.c 0).trans rfl
  have HM := Lib.hid (made15_c b v k L S w H)
  clear H
  go_enter Tryz.func13, Tryz.ntmps13
  go_wp2_with ((with_reducible refine HM.out.mono ?_); rintro e w' ⟨rfl, rfl⟩)
  go_ret
  exact ⟨rfl, rfl⟩
theorem zo_cl (w : World) : Cl 38 (w.alloc (.cells (OC ⟨0, 0, 0, 0, 0, 0⟩) 38)) w.heap.size (OC ⟨0, 0, 0, 0, 0, 0⟩) := hd_last rfl
theorem tak_end {w w0 w' : World} {cs : Array Value} {v : Value} {k : Int} {L' : List Od} {S S' : Nat → Prop} (b0 : Below w.heap.size w w0) (h : HTurn w0 w' v k S L' S') (hc : w.heap.size < w0.heap.size) (nf : ¬ S w.heap.size) :
    HTurn w (w'.setRow w.heap.size cs) v k S L' S' := by
  have hn : ¬ S' w.heap.size := fun hj => by
    rcases h.ft _ hj with h' | h'
    · exact nf h'
    · omega
  have f1 : Fr (fun j => j = w.heap.size) w' (w'.setRow w.heap.size cs) := ⟨rfl, rfl, rfl, by simp [World.setRow], fun j hj hne => setRow_other w' _ j cs hne⟩
  refine ⟨h.hd.fr f1 (fun j hj e => hn (by rw [← e]; exact hj)), ?_, fun j hj => (h.ft j hj).imp id (fun h' => Nat.le_trans b0.size h')⟩
  have f0 : Fr S w w' := (Fr.of_below b0 : Fr S w w0).trans h.fr (fun _ h => .inl h)
  refine ⟨f1.os.trans f0.os, f1.tape.trans f0.tape, f1.output.trans f0.output, Nat.le_trans f0.size f1.size, fun j hj hs => ?_⟩
  exact (f1.block j (Nat.lt_of_lt_of_le hj f0.size) (by omega)).trans (f0.block j hj hs)
theorem b1_of (w : World) (o : Obj) : Below w.heap.size w (w.alloc o) := (Below.refl _ _).alloc (Nat.le_refl _) _
theorem yTakeL (b p : Nat) (m : Nat) (s1 s2 : Sd) (id : Int) (hwf : (Lit.int .u64 id).wf = true) (w : World) (hc : Cl 97 w b #[.int .i64 1, lvl p]) (H : Whole w p m s1 s2) :
    Calls Tryz.prog 17 #[ptA b, .int .u64 id] w (TakEnd w (lvl p) 1 (foot (some ⟨p, 0, none⟩) (some m) s1 s2) (bookL s1.rs s2.rs) id) := by
  have hm : ∀ (x : Value) (w : World), (Go.method 386 102 x "Take").run Tryz.prog w = .ok (176, x) w := fun x _ => by kernel_rfl
  obtain ⟨w0, hw0⟩ : ∃ w0, w.alloc (.cells (OC ⟨0, 0, 0, 0, 0, 0⟩) 38) = w0 := ⟨_, rfl⟩
  have b0 : Below w.heap.size w w0 := by rw [← hw0]; exact b1_of _ _
  have c0 : Cl 38 w0 w.heap.size (OC ⟨0, 0, 0, 0, 0, 0⟩) := by rw [← hw0]; exact zo_cl w
  have HH := Lib.hid (held_c b _ _ _ _ w0 ⟨(b0.block _ (blk_lt hc)).trans hc, .lad p m s1 s2 (H.below b0)⟩)
  have HC := Lib.hid (takL p m s1 s2 id w0 (H.below b0))
  have hlt : ∀ j, (foot (some ⟨p, 0, none⟩) (some m) s1 s2) j → j < w.heap.size := fun j hj => H.bk.lt hj
  have HB := Lib.hid (And.intro b0 (And.intro c0 hlt))
  clear H hc b0 c0 hlt
  go_enter Tryz.func17, Tryz.ntmps17
  go_wp2_with ((with_reducible refine HH.out.mono ?_); rintro e w' ⟨rfl, rfl⟩)
  ((with_reducible refine HC.out.mono ?_); rintro e w' ⟨S', rfl, h⟩)
  have nf : ¬ (foot (some ⟨p, 0, none⟩) (some m) s1 s2) w.heap.size := fun hj => Nat.lt_irrefl _ (HB.out.2.2 _ hj)
  have c1 : Cl 38 w' w.heap.size (OC ⟨0, 0, 0, 0, 0, 0⟩) := h.out.fr.blk HB.out.2.1 nf
  have C1 := Lib.hid c1
  have hT : HTurn w (w'.setRow w.heap.size (OC (oZ (getO id (bookL s1.rs s2.rs))))) (lvl p) 1 (foot (some ⟨p, 0, none⟩) (some m) s1 s2) ((bookL s1.rs s2.rs).eraseIdx (idxN id (bookL s1.rs s2.rs))) S' := tak_end HB.out.1 h.out (blk_lt HB.out.2.1) nf
  have HT := Lib.hid hT
  clear hT
  obtain ⟨there, hth⟩ : ∃ t, (getO id (bookL s1.rs s2.rs)).isSome = t := ⟨_, rfl⟩
  obtain ⟨z, hz⟩ : ∃ t, oZ (getO id (bookL s1.rs s2.rs)) = t := ⟨_, rfl⟩
  rw [hz] at HT
  rw [hth, hz]
  go_wp2_with ((with_reducible apply storeOd); rfl; rfl; rfl; rfl; exact C1.out; skip)
  refine bodyPost_ret (retOt rfl _ _ _ rfl z _ (setRow_heap _ _ _ _ _ _ C1.out) _ rfl) rfl ?_
  subst hth hz
  exact ⟨S', rfl, HT⟩
theorem yTakeG (b p : Nat) (m : Nat × Nat) (s1 s2 : Gd) (id : Int) (hwf : (Lit.int .u64 id).wf = true) (w : World) (hc : Cl 97 w b #[.int .i64 2, gvl p]) (H : gWhole w p m s1 s2) :
    Calls Tryz.prog 17 #[ptA b, .int .u64 id] w (TakEnd w (gvl p) 2 (gft p m s1 s2) (bookL s1.rs s2.rs) id) := by
  have hm : ∀ (x : Value) (w : World), (Go.method 386 104 x "Take").run Tryz.prog w = .ok (207, x) w := fun x _ => by kernel_rfl
  obtain ⟨w0, hw0⟩ : ∃ w0, w.alloc (.cells (OC ⟨0, 0, 0, 0, 0, 0⟩) 38) = w0 := ⟨_, rfl⟩
  have b0 : Below w.heap.size w w0 := by rw [← hw0]; exact b1_of _ _
  have c0 : Cl 38 w0 w.heap.size (OC ⟨0, 0, 0, 0, 0, 0⟩) := by rw [← hw0]; exact zo_cl w
  have HH := Lib.hid (held_c b _ _ _ _ w0 ⟨(b0.block _ (blk_lt hc)).trans hc, .gro p m s1 s2 (H.below b0)⟩)
  have HC := Lib.hid (takG p m s1 s2 id hwf w0 (H.below b0))
  have hlt : ∀ j, (gft p m s1 s2) j → j < w.heap.size := gft.lt H
  have HB := Lib.hid (And.intro b0 (And.intro c0 hlt))
  clear H hc b0 c0 hlt
  go_enter Tryz.func17, Tryz.ntmps17
  go_wp2_with ((with_reducible refine HH.out.mono ?_); rintro e w' ⟨rfl, rfl⟩)
  ((with_reducible refine HC.out.mono ?_); rintro e w' ⟨S', rfl, h⟩)
  have nf : ¬ (gft p m s1 s2) w.heap.size := fun hj => Nat.lt_irrefl _ (HB.out.2.2 _ hj)
  have c1 : Cl 38 w' w.heap.size (OC ⟨0, 0, 0, 0, 0, 0⟩) := h.out.fr.blk HB.out.2.1 nf
  have C1 := Lib.hid c1
  have hT : HTurn w (w'.setRow w.heap.size (OC (oZ (getO id (bookL s1.rs s2.rs))))) (gvl p) 2 (gft p m s1 s2) ((bookL s1.rs s2.rs).eraseIdx (idxN id (bookL s1.rs s2.rs))) S' := tak_end HB.out.1 h.out (blk_lt HB.out.2.1) nf
  have HT := Lib.hid hT
  clear hT
  obtain ⟨there, hth⟩ : ∃ t, (getO id (bookL s1.rs s2.rs)).isSome = t := ⟨_, rfl⟩
  obtain ⟨z, hz⟩ : ∃ t, oZ (getO id (bookL s1.rs s2.rs)) = t := ⟨_, rfl⟩
  rw [hz] at HT
  rw [hth, hz]
  go_wp2_with ((with_reducible apply storeOd); rfl; rfl; rfl; rfl; exact C1.out; skip)
  refine bodyPost_ret (retOt rfl _ _ _ rfl z _ (setRow_heap _ _ _ _ _ _ C1.out) _ rfl) rfl ?_
  subst hth hz
  exact ⟨S', rfl, HT⟩
theorem yTake_c (b : Nat) (v : Value) (k : Int) (L : List Od) (S : Nat → Prop) (id : Int) (hwf : (Lit.int .u64 id).wf = true) (w : World) (H : LyB w b v k L S) :
    Calls Tryz.prog 17 #[ptA b, .int .u64 id] w (TakEnd w v k S L id) := by
  obtain ⟨hc, h⟩ := H
  cases h with
  | lad p m s1 s2 h => exact yTakeL b p m s1 s2 id hwf w hc h
  | gro p m s1 s2 h => exact yTakeG b p m s1 s2 id hwf w hc h
theorem yCutL (b p : Nat) (m : Nat) (s1 s2 : Sd) (id qty : Int) (hwf : (Lit.int .u64 id).wf = true) (w : World) (hc : Cl 97 w b #[.int .i64 1, lvl p]) (H : Whole w p m s1 s2) :
    Calls Tryz.prog 20 #[ptA b, .int .u64 id, .int .i64 qty] w (CutEnd w (lvl p) 1 (foot (some ⟨p, 0, none⟩) (some m) s1 s2) (bookL s1.rs s2.rs) id qty) := by
  have hm : ∀ (x : Value) (w : World), (Go.method 386 102 x "Cut").run Tryz.prog w = .ok (171, x) w := fun x _ => by kernel_rfl
  have HH := Lib.hid (held_c b _ _ _ _ w ⟨hc, .lad p m s1 s2 H⟩)
  have HC := Lib.hid (cutL p m s1 s2 id qty w H)
  clear H hc
  go_enter Tryz.func20, Tryz.ntmps20
  go_wp2_with ((with_reducible refine HH.out.mono ?_); rintro e w' ⟨rfl, rfl⟩)
  ((with_reducible refine HC.out.mono ?_); rintro e w' ⟨S', rfl, h⟩)
  go_wp2_with fail
  go_ret
  exact ⟨S', rfl, h⟩
theorem yCutG (b p : Nat) (m : Nat × Nat) (s1 s2 : Gd) (id qty : Int) (hwf : (Lit.int .u64 id).wf = true) (w : World) (hc : Cl 97 w b #[.int .i64 2, gvl p]) (H : gWhole w p m s1 s2) :
    Calls Tryz.prog 20 #[ptA b, .int .u64 id, .int .i64 qty] w (CutEnd w (gvl p) 2 (gft p m s1 s2) (bookL s1.rs s2.rs) id qty) := by
  have hm : ∀ (x : Value) (w : World), (Go.method 386 104 x "Cut").run Tryz.prog w = .ok (202, x) w := fun x _ => by kernel_rfl
  have HH := Lib.hid (held_c b _ _ _ _ w ⟨hc, .gro p m s1 s2 H⟩)
  have HC := Lib.hid (cutG p m s1 s2 id qty hwf w H)
  clear H hc
  go_enter Tryz.func20, Tryz.ntmps20
  go_wp2_with ((with_reducible refine HH.out.mono ?_); rintro e w' ⟨rfl, rfl⟩)
  ((with_reducible refine HC.out.mono ?_); rintro e w' ⟨S', rfl, h⟩)
  go_wp2_with fail
  go_ret
  exact ⟨S', rfl, h⟩
theorem yCut_c (b : Nat) (v : Value) (k : Int) (L : List Od) (S : Nat → Prop) (id qty : Int) (hwf : (Lit.int .u64 id).wf = true) (w : World) (H : LyB w b v k L S) :
    Calls Tryz.prog 20 #[ptA b, .int .u64 id, .int .i64 qty] w (CutEnd w v k S L id qty) := by
  obtain ⟨hc, h⟩ := H
  cases h with
  | lad p m s1 s2 h => exact yCutL b p m s1 s2 id qty hwf w hc h
  | gro p m s1 s2 h => exact yCutG b p m s1 s2 id qty hwf w hc h
theorem yGetL (b p : Nat) (m : Nat) (s1 s2 : Sd) (id : Int) (hwf : (Lit.int .u64 id).wf = true) (w : World) (hc : Cl 97 w b #[.int .i64 1, lvl p]) (H : Whole w p m s1 s2) :
    Calls Tryz.prog 26 #[ptA b, .int .u64 id] w (YGetEnd w (getO id (bookL s1.rs s2.rs))) := by
  have hm : ∀ (x : Value) (w : World), (Go.method 386 102 x "Get").run Tryz.prog w = .ok (172, x) w := fun x _ => by kernel_rfl
  obtain ⟨w0, hw0⟩ : ∃ w0, w.alloc (.cells (OC ⟨0, 0, 0, 0, 0, 0⟩) 38) = w0 := ⟨_, rfl⟩
  have b0 : Below w.heap.size w w0 := by rw [← hw0]; exact b1_of _ _
  have c0 : Cl 38 w0 w.heap.size (OC ⟨0, 0, 0, 0, 0, 0⟩) := by rw [← hw0]; exact zo_cl w
  have HH := Lib.hid (held_c b _ _ _ _ w0 ⟨(b0.block _ (blk_lt hc)).trans hc, .lad p m s1 s2 (H.below b0)⟩)
  have HC := Lib.hid (getL p m s1 s2 id w0 (H.below b0))
  have hlt : ∀ j, (foot (some ⟨p, 0, none⟩) (some m) s1 s2) j → j < w.heap.size := fun j hj => H.bk.lt hj
  have HB := Lib.hid (And.intro b0 (And.intro c0 hlt))
  clear H hc b0 c0 hlt
  go_enter Tryz.func26, Tryz.ntmps26
  go_wp2_with ((with_reducible refine HH.out.mono ?_); rintro e w' ⟨rfl, rfl⟩)
  ((with_reducible refine HC.out.mono ?_); rintro e w' ⟨rfl, h⟩)
  have c1 : Cl 38 w' w.heap.size (OC ⟨0, 0, 0, 0, 0, 0⟩) := (h.out.block _ (blk_lt HB.out.2.1)).trans HB.out.2.1
  have C1 := Lib.hid c1
  obtain ⟨there, hth⟩ : ∃ t, (getO id (bookL s1.rs s2.rs)).isSome = t := ⟨_, rfl⟩
  obtain ⟨z, hz⟩ : ∃ t, oZ (getO id (bookL s1.rs s2.rs)) = t := ⟨_, rfl⟩
  rw [hth, hz]
  go_wp2_with ((with_reducible apply storeOd); rfl; rfl; rfl; rfl; exact C1.out; skip)
  refine bodyPost_ret (retOt rfl _ _ _ rfl z _ (setRow_heap _ _ _ _ _ _ C1.out) _ rfl) rfl ?_
  subst hth hz
  exact ⟨rfl, Lib.hid (below_row (HB.out.1.trans (h.out.mono HB.out.1.size)) (Nat.le_refl _))⟩
theorem yGetG (b p : Nat) (m : Nat × Nat) (s1 s2 : Gd) (id : Int) (hwf : (Lit.int .u64 id).wf = true) (w : World) (hc : Cl 97 w b #[.int .i64 2, gvl p]) (H : gWhole w p m s1 s2) :
    Calls Tryz.prog 26 #[ptA b, .int .u64 id] w (YGetEnd w (getO id (bookL s1.rs s2.rs))) := by
  have hm : ∀ (x : Value) (w : World), (Go.method 386 104 x "Get").run Tryz.prog w = .ok (203, x) w := fun x _ => by kernel_rfl
  obtain ⟨w0, hw0⟩ : ∃ w0, w.alloc (.cells (OC ⟨0, 0, 0, 0, 0, 0⟩) 38) = w0 := ⟨_, rfl⟩
  have b0 : Below w.heap.size w w0 := by rw [← hw0]; exact b1_of _ _
  have c0 : Cl 38 w0 w.heap.size (OC ⟨0, 0, 0, 0, 0, 0⟩) := by rw [← hw0]; exact zo_cl w
  have HH := Lib.hid (held_c b _ _ _ _ w0 ⟨(b0.block _ (blk_lt hc)).trans hc, .gro p m s1 s2 (H.below b0)⟩)
  have HC := Lib.hid (getG p m s1 s2 id hwf w0 (H.below b0))
  have hlt : ∀ j, (gft p m s1 s2) j → j < w.heap.size := gft.lt H
  have HB := Lib.hid (And.intro b0 (And.intro c0 hlt))
  clear H hc b0 c0 hlt
  go_enter Tryz.func26, Tryz.ntmps26
  go_wp2_with ((with_reducible refine HH.out.mono ?_); rintro e w' ⟨rfl, rfl⟩)
  ((with_reducible refine HC.out.mono ?_); rintro e w' ⟨rfl, h⟩)
  have c1 : Cl 38 w' w.heap.size (OC ⟨0, 0, 0, 0, 0, 0⟩) := (h.out.block _ (blk_lt HB.out.2.1)).trans HB.out.2.1
  have C1 := Lib.hid c1
  obtain ⟨there, hth⟩ : ∃ t, (getO id (bookL s1.rs s2.rs)).isSome = t := ⟨_, rfl⟩
  obtain ⟨z, hz⟩ : ∃ t, oZ (getO id (bookL s1.rs s2.rs)) = t := ⟨_, rfl⟩
  rw [hth, hz]
  go_wp2_with ((with_reducible apply storeOd); rfl; rfl; rfl; rfl; exact C1.out; skip)
  refine bodyPost_ret (retOt rfl _ _ _ rfl z _ (setRow_heap _ _ _ _ _ _ C1.out) _ rfl) rfl ?_
  subst hth hz
  exact ⟨rfl, Lib.hid (below_row (HB.out.1.trans (h.out.mono HB.out.1.size)) (Nat.le_refl _))⟩
theorem yGet_c (b : Nat) (v : Value) (k : Int) (L : List Od) (S : Nat → Prop) (id : Int) (hwf : (Lit.int .u64 id).wf = true) (w : World) (H : LyB w b v k L S) :
    Calls Tryz.prog 26 #[ptA b, .int .u64 id] w (YGetEnd w (getO id L)) := by
  obtain ⟨hc, h⟩ := H
  cases h with
  | lad p m s1 s2 h => exact yGetL b p m s1 s2 id hwf w hc h
  | gro p m s1 s2 h => exact yGetG b p m s1 s2 id hwf w hc h
theorem yBestL (b p : Nat) (m : Nat) (s1 s2 : Sd) (sd : Int) (hs : (Lit.int .i64 sd).wf = true) (w : World) (hc : Cl 97 w b #[.int .i64 1, lvl p]) (H : Whole w p m s1 s2) :
    Calls Tryz.prog 25 #[ptA b, .int .i64 sd] w (YGetEnd w (bestL sd (bookL s1.rs s2.rs))) := by
  have hm : ∀ (x : Value) (w : World), (Go.method 386 102 x "Best").run Tryz.prog w = .ok (170, x) w := fun x _ => by kernel_rfl
  obtain ⟨w0, hw0⟩ : ∃ w0, w.alloc (.cells (OC ⟨0, 0, 0, 0, 0, 0⟩) 38) = w0 := ⟨_, rfl⟩
  have b0 : Below w.heap.size w w0 := by rw [← hw0]; exact b1_of _ _
  have c0 : Cl 38 w0 w.heap.size (OC ⟨0, 0, 0, 0, 0, 0⟩) := by rw [← hw0]; exact zo_cl w
  have HH := Lib.hid (held_c b _ _ _ _ w0 ⟨(b0.block _ (blk_lt hc)).trans hc, .lad p m s1 s2 (H.below b0)⟩)
  have HC := Lib.hid (bstL p m s1 s2 sd hs w0 (H.below b0))
  have hlt : ∀ j, (foot (some ⟨p, 0, none⟩) (some m) s1 s2) j → j < w.heap.size := fun j hj => H.bk.lt hj
  have HB := Lib.hid (And.intro b0 (And.intro c0 hlt))
  clear H hc b0 c0 hlt
  go_enter Tryz.func25, Tryz.ntmps25
  go_wp2_with ((with_reducible refine HH.out.mono ?_); rintro e w' ⟨rfl, rfl⟩)
  ((with_reducible refine HC.out.mono ?_); rintro e w' ⟨rfl, h⟩)
  have c1 : Cl 38 w' w.heap.size (OC ⟨0, 0, 0, 0, 0, 0⟩) := (h.out.block _ (blk_lt HB.out.2.1)).trans HB.out.2.1
  have C1 := Lib.hid c1
  obtain ⟨there, hth⟩ : ∃ t, (bestL sd (bookL s1.rs s2.rs)).isSome = t := ⟨_, rfl⟩
  obtain ⟨z, hz⟩ : ∃ t, oZ (bestL sd (bookL s1.rs s2.rs)) = t := ⟨_, rfl⟩
  rw [hth, hz]
  go_wp2_with ((with_reducible apply storeOd); rfl; rfl; rfl; rfl; exact C1.out; skip)
  refine bodyPost_ret (retOt rfl _ _ _ rfl z _ (setRow_heap _ _ _ _ _ _ C1.out) _ rfl) rfl ?_
  subst hth hz
  exact ⟨rfl, Lib.hid (below_row (HB.out.1.trans (h.out.mono HB.out.1.size)) (Nat.le_refl _))⟩
theorem yBestG (b p : Nat) (m : Nat × Nat) (s1 s2 : Gd) (sd : Int) (hs : (Lit.int .i64 sd).wf = true) (w : World) (hc : Cl 97 w b #[.int .i64 2, gvl p]) (H : gWhole w p m s1 s2) :
    Calls Tryz.prog 25 #[ptA b, .int .i64 sd] w (YGetEnd w (bestL sd (bookL s1.rs s2.rs))) := by
  have hm : ∀ (x : Value) (w : World), (Go.method 386 104 x "Best").run Tryz.prog w = .ok (201, x) w := fun x _ => by kernel_rfl
  obtain ⟨w0, hw0⟩ : ∃ w0, w.alloc (.cells (OC ⟨0, 0, 0, 0, 0, 0⟩) 38) = w0 := ⟨_, rfl⟩
  have b0 : Below w.heap.size w w0 := by rw [← hw0]; exact b1_of _ _
  have c0 : Cl 38 w0 w.heap.size (OC ⟨0, 0, 0, 0, 0, 0⟩) := by rw [← hw0]; exact zo_cl w
  have HH := Lib.hid (held_c b _ _ _ _ w0 ⟨(b0.block _ (blk_lt hc)).trans hc, .gro p m s1 s2 (H.below b0)⟩)
  have HC := Lib.hid (bstG p m s1 s2 sd hs w0 (H.below b0))
  have hlt : ∀ j, (gft p m s1 s2) j → j < w.heap.size := gft.lt H
  have HB := Lib.hid (And.intro b0 (And.intro c0 hlt))
  clear H hc b0 c0 hlt
  go_enter Tryz.func25, Tryz.ntmps25
  go_wp2_with ((with_reducible refine HH.out.mono ?_); rintro e w' ⟨rfl, rfl⟩)
  ((with_reducible refine HC.out.mono ?_); rintro e w' ⟨rfl, h⟩)
  have c1 : Cl 38 w' w.heap.size (OC ⟨0, 0, 0, 0, 0, 0⟩) := (h.out.block _ (blk_lt HB.out.2.1)).trans HB.out.2.1
  have C1 := Lib.hid c1
  obtain ⟨there, hth⟩ : ∃ t, (bestL sd (bookL s1.rs s2.rs)).isSome = t := ⟨_, rfl⟩
  obtain ⟨z, hz⟩ : ∃ t, oZ (bestL sd (bookL s1.rs s2.rs)) = t := ⟨_, rfl⟩
  rw [hth, hz]
  go_wp2_with ((with_reducible apply storeOd); rfl; rfl; rfl; rfl; exact C1.out; skip)
  refine bodyPost_ret (retOt rfl _ _ _ rfl z _ (setRow_heap _ _ _ _ _ _ C1.out) _ rfl) rfl ?_
  subst hth hz
  exact ⟨rfl, Lib.hid (below_row (HB.out.1.trans (h.out.mono HB.out.1.size)) (Nat.le_refl _))⟩
theorem yBest_c (b : Nat) (v : Value) (k : Int) (L : List Od) (S : Nat → Prop) (sd : Int) (hs : (Lit.int .i64 sd).wf = true) (w : World) (H : LyB w b v k L S) :
    Calls Tryz.prog 25 #[ptA b, .int .i64 sd] w (YGetEnd w (bestL sd L)) := by
  obtain ⟨hc, h⟩ := H
  cases h with
  | lad p m s1 s2 h => exact yBestL b p m s1 s2 sd hs w hc h
  | gro p m s1 s2 h => exact yBestG b p m s1 s2 sd hs w hc h
theorem yLevelL (b p : Nat) (m : Nat) (s1 s2 : Sd) (sd pr : Int) (hs : (Lit.int .i64 sd).wf = true) (w : World) (hc : Cl 97 w b #[.int .i64 1, lvl p]) (H : Whole w p m s1 s2) :
    Calls Tryz.prog 28 #[ptA b, .int .i64 sd, .int .i64 pr] w (RowEnd w (levL sd pr (bookL s1.rs s2.rs))) := by
  have hm : ∀ (x : Value) (w : World), (Go.method 386 102 x "Level").run Tryz.prog w = .ok (174, x) w := fun x _ => by kernel_rfl
  have HH := Lib.hid (held_c b _ _ _ _ w ⟨hc, .lad p m s1 s2 H⟩)
  have HC := Lib.hid (levL' p m s1 s2 sd pr hs w H)
  clear H hc
  go_enter Tryz.func28, Tryz.ntmps28
  go_wp2_with ((with_reducible refine HH.out.mono ?_); rintro e w' ⟨rfl, rfl⟩)
  ((with_reducible refine HC.out.mono ?_); rintro e w' ⟨v', rfl, h⟩)
  go_wp2_with fail
  go_ret
  exact ⟨v', rfl, h⟩
theorem yLevelG (b p : Nat) (m : Nat × Nat) (s1 s2 : Gd) (sd pr : Int) (hs : (Lit.int .i64 sd).wf = true) (w : World) (hc : Cl 97 w b #[.int .i64 2, gvl p]) (H : gWhole w p m s1 s2) :
    Calls Tryz.prog 28 #[ptA b, .int .i64 sd, .int .i64 pr] w (RowEnd w (levL sd pr (bookL s1.rs s2.rs))) := by
  have hm : ∀ (x : Value) (w : World), (Go.method 386 104 x "Level").run Tryz.prog w = .ok (205, x) w := fun x _ => by kernel_rfl
  have HH := Lib.hid (held_c b _ _ _ _ w ⟨hc, .gro p m s1 s2 H⟩)
  have HC := Lib.hid (levG p m s1 s2 sd pr hs w H)
  clear H hc
  go_enter Tryz.func28, Tryz.ntmps28
  go_wp2_with ((with_reducible refine HH.out.mono ?_); rintro e w' ⟨rfl, rfl⟩)
  ((with_reducible refine HC.out.mono ?_); rintro e w' ⟨v', rfl, h⟩)
  go_wp2_with fail
  go_ret
  exact ⟨v', rfl, h⟩
theorem yLevel_c (b : Nat) (v : Value) (k : Int) (L : List Od) (S : Nat → Prop) (sd pr : Int) (hs : (Lit.int .i64 sd).wf = true) (w : World) (H : LyB w b v k L S) :
    Calls Tryz.prog 28 #[ptA b, .int .i64 sd, .int .i64 pr] w (RowEnd w (levL sd pr L)) := by
  obtain ⟨hc, h⟩ := H
  cases h with
  | lad p m s1 s2 h => exact yLevelL b p m s1 s2 sd pr hs w hc h
  | gro p m s1 s2 h => exact yLevelG b p m s1 s2 sd pr hs w hc h
theorem yPricesL (b p : Nat) (m : Nat) (s1 s2 : Sd) (sd : Int) (hs : (Lit.int .i64 sd).wf = true) (w : World) (hc : Cl 97 w b #[.int .i64 1, lvl p]) (H : Whole w p m s1 s2) :
    Calls Tryz.prog 30 #[ptA b, .int .i64 sd] w (IntsEnd w (prs (sideL sd (bookL s1.rs s2.rs)))) := by
  have hm : ∀ (x : Value) (w : World), (Go.method 386 102 x "Prices").run Tryz.prog w = .ok (175, x) w := fun x _ => by kernel_rfl
  have HH := Lib.hid (held_c b _ _ _ _ w ⟨hc, .lad p m s1 s2 H⟩)
  have HC := Lib.hid (prsL p m s1 s2 sd hs w H)
  clear H hc
  go_enter Tryz.func30, Tryz.ntmps30
  go_wp2_with ((with_reducible refine HH.out.mono ?_); rintro e w' ⟨rfl, rfl⟩)
  ((with_reducible refine HC.out.mono ?_); rintro e w' ⟨v', rfl, h⟩)
  go_wp2_with fail
  go_ret
  exact ⟨v', rfl, h⟩
theorem yPricesG (b p : Nat) (m : Nat × Nat) (s1 s2 : Gd) (sd : Int) (hs : (Lit.int .i64 sd).wf = true) (w : World) (hc : Cl 97 w b #[.int .i64 2, gvl p]) (H : gWhole w p m s1 s2) :
    Calls Tryz.prog 30 #[ptA b, .int .i64 sd] w (IntsEnd w (prs (sideL sd (bookL s1.rs s2.rs)))) := by
  have hm : ∀ (x : Value) (w : World), (Go.method 386 104 x "Prices").run Tryz.prog w = .ok (206, x) w := fun x _ => by kernel_rfl
  have HH := Lib.hid (held_c b _ _ _ _ w ⟨hc, .gro p m s1 s2 H⟩)
  have HC := Lib.hid (prsG p m s1 s2 sd hs w H)
  clear H hc
  go_enter Tryz.func30, Tryz.ntmps30
  go_wp2_with ((with_reducible refine HH.out.mono ?_); rintro e w' ⟨rfl, rfl⟩)
  ((with_reducible refine HC.out.mono ?_); rintro e w' ⟨v', rfl, h⟩)
  go_wp2_with fail
  go_ret
  exact ⟨v', rfl, h⟩
theorem yPrices_c (b : Nat) (v : Value) (k : Int) (L : List Od) (S : Nat → Prop) (sd : Int) (hs : (Lit.int .i64 sd).wf = true) (w : World) (H : LyB w b v k L S) :
    Calls Tryz.prog 30 #[ptA b, .int .i64 sd] w (IntsEnd w (prs (sideL sd L))) := by
  obtain ⟨hc, h⟩ := H
  cases h with
  | lad p m s1 s2 h => exact yPricesL b p m s1 s2 sd hs w hc h
  | gro p m s1 s2 h => exact yPricesG b p m s1 s2 sd hs w hc h
theorem yAllL (b p : Nat) (m : Nat) (s1 s2 : Sd)  (w : World) (hc : Cl 97 w b #[.int .i64 1, lvl p]) (H : Whole w p m s1 s2) :
    Calls Tryz.prog 15 #[ptA b] w (RowEnd w (bookL s1.rs s2.rs)) := by
  have hm : ∀ (x : Value) (w : World), (Go.method 386 102 x "All").run Tryz.prog w = .ok (169, x) w := fun x _ => by kernel_rfl
  have HH := Lib.hid (held_c b _ _ _ _ w ⟨hc, .lad p m s1 s2 H⟩)
  have HC := Lib.hid (allL p m s1 s2  w H)
  clear H hc
  go_enter Tryz.func15, Tryz.ntmps15
  go_wp2_with ((with_reducible refine HH.out.mono ?_); rintro e w' ⟨rfl, rfl⟩)
  ((with_reducible refine HC.out.mono ?_); rintro e w' ⟨v', rfl, h⟩)
  go_wp2_with fail
  go_ret
  exact ⟨v', rfl, h⟩
theorem yAllG (b p : Nat) (m : Nat × Nat) (s1 s2 : Gd)  (w : World) (hc : Cl 97 w b #[.int .i64 2, gvl p]) (H : gWhole w p m s1 s2) :
    Calls Tryz.prog 15 #[ptA b] w (RowEnd w (bookL s1.rs s2.rs)) := by
  have hm : ∀ (x : Value) (w : World), (Go.method 386 104 x "All").run Tryz.prog w = .ok (200, x) w := fun x _ => by kernel_rfl
  have HH := Lib.hid (held_c b _ _ _ _ w ⟨hc, .gro p m s1 s2 H⟩)
  have HC := Lib.hid (allG p m s1 s2  w H)
  clear H hc
  go_enter Tryz.func15, Tryz.ntmps15
  go_wp2_with ((with_reducible refine HH.out.mono ?_); rintro e w' ⟨rfl, rfl⟩)
  ((with_reducible refine HC.out.mono ?_); rintro e w' ⟨v', rfl, h⟩)
  go_wp2_with fail
  go_ret
  exact ⟨v', rfl, h⟩
theorem yAll_c (b : Nat) (v : Value) (k : Int) (L : List Od) (S : Nat → Prop)  (w : World) (H : LyB w b v k L S) :
    Calls Tryz.prog 15 #[ptA b] w (RowEnd w L) := by
  obtain ⟨hc, h⟩ := H
  cases h with
  | lad p m s1 s2 h => exact yAllL b p m s1 s2  w hc h
  | gro p m s1 s2 h => exact yAllG b p m s1 s2  w hc h
theorem yLenL (b p : Nat) (m : Nat) (s1 s2 : Sd)  (w : World) (hc : Cl 97 w b #[.int .i64 1, lvl p]) (H : Whole w p m s1 s2) :
    Calls Tryz.prog 27 #[ptA b] w (LenEnd w (bookL s1.rs s2.rs).length) := by
  have hm : ∀ (x : Value) (w : World), (Go.method 386 102 x "Len").run Tryz.prog w = .ok (173, x) w := fun x _ => by kernel_rfl
  have HH := Lib.hid (held_c b _ _ _ _ w ⟨hc, .lad p m s1 s2 H⟩)
  have HC := Lib.hid (lenL p m s1 s2  w H)
  clear H hc
  go_enter Tryz.func27, Tryz.ntmps27
  go_wp2_with ((with_reducible refine HH.out.mono ?_); rintro e w' ⟨rfl, rfl⟩)
  ((with_reducible refine HC.out.mono ?_); rintro e w' ⟨rfl, h⟩)
  go_wp2_with fail
  go_ret
  exact ⟨rfl, h⟩
theorem yLenG (b p : Nat) (m : Nat × Nat) (s1 s2 : Gd)  (w : World) (hc : Cl 97 w b #[.int .i64 2, gvl p]) (H : gWhole w p m s1 s2) :
    Calls Tryz.prog 27 #[ptA b] w (LenEnd w (bookL s1.rs s2.rs).length) := by
  have hm : ∀ (x : Value) (w : World), (Go.method 386 104 x "Len").run Tryz.prog w = .ok (204, x) w := fun x _ => by kernel_rfl
  have HH := Lib.hid (held_c b _ _ _ _ w ⟨hc, .gro p m s1 s2 H⟩)
  have HC := Lib.hid (lenG p m s1 s2  w H)
  clear H hc
  go_enter Tryz.func27, Tryz.ntmps27
  go_wp2_with ((with_reducible refine HH.out.mono ?_); rintro e w' ⟨rfl, rfl⟩)
  ((with_reducible refine HC.out.mono ?_); rintro e w' ⟨rfl, h⟩)
  go_wp2_with fail
  go_ret
  exact ⟨rfl, h⟩
theorem yLen_c (b : Nat) (v : Value) (k : Int) (L : List Od) (S : Nat → Prop)  (w : World) (H : LyB w b v k L S) :
    Calls Tryz.prog 27 #[ptA b] w (LenEnd w L.length) := by
  obtain ⟨hc, h⟩ := H
  cases h with
  | lad p m s1 s2 h => exact yLenL b p m s1 s2  w hc h
  | gro p m s1 s2 h => exact yLenG b p m s1 s2  w hc h
theorem yAddL (b p : Nat) (m : Nat) (s1 s2 : Sd) (x : Od) (w : World) (hc : Cl 97 w b #[.int .i64 1, lvl p]) (H : Whole w p m s1 s2) (hx : Od.ok w x) :
    Calls Tryz.prog 23 #[ptA b, oV x] w (AddEnd w (lvl p) 1 (foot (some ⟨p, 0, none⟩) (some m) s1 s2) (bookL s1.rs s2.rs) x) := by
  have hm : ∀ (x : Value) (w : World), (Go.method 386 102 x "Add").run Tryz.prog w = .ok (168, x) w := fun x _ => by kernel_rfl
  obtain ⟨w0, hw0⟩ : ∃ w0, w.alloc (.cells (OC x) 38) = w0 := ⟨_, rfl⟩
  have b0 : Below w.heap.size w w0 := by rw [← hw0]; exact b1_of _ _
  have c0 : Cl 38 w0 w.heap.size (OC x) := by rw [← hw0]; exact hd_last rfl
  have HC0 : Hid (Cl 38 w0.drew w.heap.size (OC x)) := Lib.hid (hd_drew c0)
  have NF : Hid (¬ (foot (some ⟨p, 0, none⟩) (some m) s1 s2) w.heap.size) := Lib.hid (fun h => Nat.lt_irrefl _ (H.bk.lt h))
  have HH : Hid (∀ W, Below w0.heap.size w0 W → Calls Tryz.prog 48 #[ptA b] W fun e w' => e = .returned (lvl p) ∧ W = w') := Lib.hid fun W hW => by
    have bb := b0.trans (hW.mono b0.size)
    exact (held_c b _ _ _ _ W ⟨(bb.block _ (blk_lt hc)).trans hc, .lad p m s1 s2 (H.below bb)⟩)
  have HC : Hid (∀ W, Below w0.heap.size w0 W → Calls Tryz.prog 168 #[ptA p, oV x] W (AddEnd W (lvl p) 1 (foot (some ⟨p, 0, none⟩) (some m) s1 s2) (bookL s1.rs s2.rs) x)) := Lib.hid fun W hW => addL p m s1 s2 x W (H.below (b0.trans (hW.mono b0.size))) hx
  have HB0 := Lib.hid b0
  clear H hc b0 c0
  go_enter Tryz.func23, Tryz.ntmps23
  go_wp2_with fail
  refine wp_region_held_drew (S := fun W => Cl 38 W w.heap.size (OC x)) (by kernel_rfl) (by exact HC0.out) (fun hHeld => ?_)
  refine tkH 0 ?_ ?_ (by assumption) ?_
  rotate_left
  · (intro w hSw; (try dsimp only at hSw); go_simp; try with_reducible rfl)
  (try simp only [zz])
  refine tkH 2 ?_ ?_ (by assumption) ?_
  rotate_left
  · (intro w hSw; obtain ⟨hs0, hs1, hs2, hs3, hs4, hs5⟩ := six_of hSw; (try dsimp only at hSw); go_simp; try with_reducible rfl)
  (try simp only [zz])
  refine rdH 1 (fun K hK => ?_)
  go_simp
  ((with_reducible refine (HH.out _ ((Below.refl _ _).drew)).mono ?_); rintro e y1 ⟨rfl, rfl⟩)
  refine hK.out _ _ (by exact hHeld) (fun hHeld => ?_)
  clear hK K
  (try simp only [zz])
  refine rdH 3 (fun K hK => ?_)
  go_simp
  ((with_reducible refine (HC.out _ ((Below.refl _ _).drew)).mono ?_); rintro e y2 ⟨S', rfl, h2⟩)
  have h3 := Lib.hid (HTurn.after (HB0.out.trans ((Below.refl _ w0).drew.mono HB0.out.size)) h2.out)
  refine hK.out _ _ (by exact h2.out.fr.blk hHeld NF.out) (fun hHeld => ?_)
  clear hK K
  (try simp only [zz])
  refine tkH 4 ?_ ?_ (by assumption) ?_
  rotate_left
  · (intro w hSw; (try dsimp only at hSw); go_simp; try with_reducible rfl)
  (try simp only [zz])
  refine wpAnyH_done (by kernel_rfl) ?_ _
  go_wp2_with fail
  go_ret
  exact ⟨S', rfl, h3⟩
theorem yAddG (b p : Nat) (m : Nat × Nat) (s1 s2 : Gd) (x : Od) (w : World) (hc : Cl 97 w b #[.int .i64 2, gvl p]) (H : gWhole w p m s1 s2) (hx : Od.ok w x) :
    Calls Tryz.prog 23 #[ptA b, oV x] w (AddEnd w (gvl p) 2 (gft p m s1 s2) (bookL s1.rs s2.rs) x) := by
  have hm : ∀ (x : Value) (w : World), (Go.method 386 104 x "Add").run Tryz.prog w = .ok (199, x) w := fun x _ => by kernel_rfl
  obtain ⟨w0, hw0⟩ : ∃ w0, w.alloc (.cells (OC x) 38) = w0 := ⟨_, rfl⟩
  have b0 : Below w.heap.size w w0 := by rw [← hw0]; exact b1_of _ _
  have c0 : Cl 38 w0 w.heap.size (OC x) := by rw [← hw0]; exact hd_last rfl
  have HC0 : Hid (Cl 38 w0.drew w.heap.size (OC x)) := Lib.hid (hd_drew c0)
  have NF : Hid (¬ (gft p m s1 s2) w.heap.size) := Lib.hid (fun h => Nat.lt_irrefl _ (gft.lt H _ h))
  have HH : Hid (∀ W, Below w0.heap.size w0 W → Calls Tryz.prog 48 #[ptA b] W fun e w' => e = .returned (gvl p) ∧ W = w') := Lib.hid fun W hW => by
    have bb := b0.trans (hW.mono b0.size)
    exact (held_c b _ _ _ _ W ⟨(bb.block _ (blk_lt hc)).trans hc, .gro p m s1 s2 (H.below bb)⟩)
  have HC : Hid (∀ W, Below w0.heap.size w0 W → Calls Tryz.prog 199 #[ptA p, oV x] W (AddEnd W (gvl p) 2 (gft p m s1 s2) (bookL s1.rs s2.rs) x)) := Lib.hid fun W hW => addG p m s1 s2 x W (H.below (b0.trans (hW.mono b0.size))) hx
  have HB0 := Lib.hid b0
  clear H hc b0 c0
  go_enter Tryz.func23, Tryz.ntmps23
  go_wp2_with fail
  refine wp_region_held_drew (S := fun W => Cl 38 W w.heap.size (OC x)) (by kernel_rfl) (by exact HC0.out) (fun hHeld => ?_)
  refine tkH 0 ?_ ?_ (by assumption) ?_
  rotate_left
  · (intro w hSw; (try dsimp only at hSw); go_simp; try with_reducible rfl)
  (try simp only [zz])
  refine tkH 2 ?_ ?_ (by assumption) ?_
  rotate_left
  · (intro w hSw; obtain ⟨hs0, hs1, hs2, hs3, hs4, hs5⟩ := six_of hSw; (try dsimp only at hSw); go_simp; try with_reducible rfl)
  (try simp only [zz])
  refine rdH 1 (fun K hK => ?_)
  go_simp
  ((with_reducible refine (HH.out _ ((Below.refl _ _).drew)).mono ?_); rintro e y1 ⟨rfl, rfl⟩)
  refine hK.out _ _ (by exact hHeld) (fun hHeld => ?_)
  clear hK K
  (try simp only [zz])
  refine rdH 3 (fun K hK => ?_)
  go_simp
  ((with_reducible refine (HC.out _ ((Below.refl _ _).drew)).mono ?_); rintro e y2 ⟨S', rfl, h2⟩)
  have h3 := Lib.hid (HTurn.after (HB0.out.trans ((Below.refl _ w0).drew.mono HB0.out.size)) h2.out)
  refine hK.out _ _ (by exact h2.out.fr.blk hHeld NF.out) (fun hHeld => ?_)
  clear hK K
  (try simp only [zz])
  refine tkH 4 ?_ ?_ (by assumption) ?_
  rotate_left
  · (intro w hSw; (try dsimp only at hSw); go_simp; try with_reducible rfl)
  (try simp only [zz])
  refine wpAnyH_done (by kernel_rfl) ?_ _
  go_wp2_with fail
  go_ret
  exact ⟨S', rfl, h3⟩
theorem yAdd_c (b : Nat) (v : Value) (k : Int) (L : List Od) (S : Nat → Prop) (x : Od) (w : World) (H : LyB w b v k L S) (hx : Od.ok w x) :
    Calls Tryz.prog 23 #[ptA b, oV x] w (AddEnd w v k S L x) := by
  obtain ⟨hc, h⟩ := H
  cases h with
  | lad p m s1 s2 h => exact yAddL b p m s1 s2 x w hc h hx
  | gro p m s1 s2 h => exact yAddG b p m s1 s2 x w hc h hx

theorem lt_tot {x y : Od} (gx : goodO x = true) (gy : goodO y = true) (hi : ¬ x.id = y.id) (h : ltO y x = false) : ltO x y = true := by
  rw [ltO_no] at h
  rw [ltO_iff]
  have kx : kiO x = x.id := by unfold kiO; rw [if_pos (good_side gx)]
  have ky : kiO y = y.id := by unfold kiO; rw [if_pos (good_side gy)]
  rw [kx, ky] at h ⊢
  unfold Lex at *
  omega
theorem book_facts {L : List Od} (h : bookO L = true) : L.length ≤ 64 ∧ (∀ x ∈ L, goodO x = true) ∧ Ids L ∧ L.Pairwise (fun x y => ltO x y = true) := by
  obtain ⟨h1, h2, h3, h4⟩ := (book_iff L).1 h
  have hi : Ids L := by
    have := List.pairwise_map.1 (List.nodup_iff_pairwise_ne.1 h3)
    exact this.imp (fun h => h)
  refine ⟨h1, h2, hi, ?_⟩
  have hw := sortO_weak L
  rw [← h4] at hw
  have hb := hi.and hw
  refine List.Pairwise.imp_of_mem ?_ hb
  intro x y hx hy hxy
  exact lt_tot (h2 x hx) (h2 y hy) hxy.1 hxy.2
theorem facts_book {L : List Od} (h1 : L.length ≤ 64) (h2 : ∀ x ∈ L, goodO x = true) (h3 : Ids L) (h4 : L.Pairwise (fun x y => ltO x y = true)) : bookO L = true := by
  refine (book_iff L).2 ⟨h1, h2, List.nodup_iff_pairwise_ne.2 (List.pairwise_map.2 (h3.imp fun h => h)), (sortO_uniq (List.Perm.refl _) h4).symm⟩
theorem Held.book {w : World} {v : Value} {k : Int} {L : List Od} {S : Nat → Prop} (h : Held w v k L S) : bookO L = true := facts_book h.len (fun x hx => (h.ok x hx).2) h.ids h.pw
theorem HTurn.trans {w w1 w2 : World} {v : Value} {k : Int} {L1 L2 : List Od} {S S1 S2 : Nat → Prop} (h : HTurn w w1 v k S L1 S1) (g : HTurn w1 w2 v k S1 L2 S2) : HTurn w w2 v k S L2 S2 :=
  ⟨g.hd, h.fr.trans g.fr h.ft, fun j hj => by
    rcases g.ft j hj with h' | h'
    · exact h.ft j h'
    · exact .inr (Nat.le_trans h.fr.size h')⟩
structure LyNew (w w' : World) (b : Nat) (v : Value) (k : Int) (L : List Od) (S : Nat → Prop) : Prop where
  ly : LyB w' b v k L S
  be : Below w.heap.size w w'
  lo : ∀ j, S j → w.heap.size ≤ j
  lb : w.heap.size ≤ b
theorem make1_c (w : World) : Calls Tryz.prog 18 #[.int .i64 1] w fun e w' => ∃ b p S, e = .returned (ptA b) ∧ Hid (LyNew w w' b (lvl p) 1 [] S) := by
  have HN := Lib.hid (new_c w)
  go_enter Tryz.func18, Tryz.ntmps18
  go_wp2_with ((with_reducible refine HN.out.mono ?_); rintro e w1 ⟨rfl, h⟩)
  go_ret
  have hb := b1_of w1 (.cells #[.int .i64 1, lvl (w.heap.size + 1)] 97)
  refine ⟨w1.heap.size, w.heap.size + 1, foot (some ⟨w.heap.size + 1, 0, none⟩) (some w.heap.size) nilS nilS, rfl, Lib.hid ⟨⟨hd_last rfl, .lad _ _ nilS nilS ((whole_new h.out.1).below hb)⟩, h.out.2.trans (hb.mono h.out.2.size), fun j hj => ?_, h.out.2.size⟩⟩
  rcases whole_foot hj with e | e <;> omega
theorem make2_c (w : World) : Calls Tryz.prog 18 #[.int .i64 2] w fun e w' => ∃ b p S, e = .returned (ptA b) ∧ Hid (LyNew w w' b (gvl p) 2 [] S) := by
  have HN := Lib.hid (gNew_is w)
  go_enter Tryz.func18, Tryz.ntmps18
  go_wp2_with ((with_reducible refine HN.out.mono ?_); rintro e w1 ⟨p, m, s1, s2, rfl, h⟩)
  go_ret
  have hb := b1_of w1 (.cells #[.int .i64 2, gvl p] 97)
  have hg := Held.gro p m s1 s2 (h.out.wh.below hb)
  rw [h.out.nil] at hg
  exact ⟨w1.heap.size, p, gft p m s1 s2, rfl, Lib.hid ⟨⟨hd_last rfl, hg⟩, h.out.be.trans (hb.mono h.out.be.size), h.out.lo, h.out.be.size⟩⟩
theorem make0_c (k : Int) (h1 : ¬ k = 1) (h2 : ¬ k = 2) (w : World) : Calls Tryz.prog 18 #[.int .i64 k] w fun e w' => e = .returned (.pointer none) ∧ w = w' := by
  have e1 : (k == 1) = false := by simp [h1]
  have e2 : (k == 2) = false := by simp [h2]
  go_enter Tryz.func18, Tryz.ntmps18
  go_wp2_with fail
  go_ret
  exact ⟨rfl, rfl⟩
theorem make_c (k : Int) (hk : k = 1 ∨ k = 2) (w : World) : Calls Tryz.prog 18 #[.int .i64 k] w fun e w' => ∃ b v S, e = .returned (ptA b) ∧ Hid (LyNew w w' b v k [] S) := by
  rcases hk with rfl | rfl
  · exact (make1_c w).mono fun e w' ⟨b, p, S, h, g⟩ => ⟨b, _, S, h, g⟩
  · exact (make2_c w).mono fun e w' ⟨b, p, S, h, g⟩ => ⟨b, _, S, h, g⟩
theorem held_lad {W : World} {v : Value} {k : Int} {L : List Od} {S : Nat → Prop} {x : Od} (h : Held W v k L S) (hx : Od.ok W x) {p : Nat} (e : v = lvl p) : Calls Tryz.prog 168 #[ptA p, oV x] W (AddEnd W v k S L x) := by
  cases h with
  | lad q m s1 s2 h => injection e with _ e; injection e with e; injection e with e; injection e with e; subst e; exact addL q m s1 s2 x W h hx
  | gro q m s1 s2 h => injection e with e _; exact absurd e (by decide)
theorem held_gro {W : World} {v : Value} {k : Int} {L : List Od} {S : Nat → Prop} {x : Od} (h : Held W v k L S) (hx : Od.ok W x) {p : Nat} (e : v = gvl p) : Calls Tryz.prog 199 #[ptA p, oV x] W (AddEnd W v k S L x) := by
  cases h with
  | gro q m s1 s2 h => injection e with _ e; injection e with e; injection e with e; injection e with e; subst e; exact addG q m s1 s2 x W h hx
  | lad q m s1 s2 h => injection e with e _; exact absurd e (by decide)
structure FlI (w0 w wr : World) (v : Value) (k : Int) (S : Nat → Prop) (L : List Od) (i : Nat) (Si : Nat → Prop) : Prop where
  tu : HTurn w wr v k S (L.take i) Si
  be : Below w0.heap.size w0 wr
theorem FlI.step {w0 w wr w' : World} {v : Value} {k : Int} {S Si S' : Nat → Prop} {L : List Od} {i : Nat} {o : Obj} (h : FlI w0 w wr v k S L i Si) (hS : ∀ j, S j → w0.heap.size ≤ j) (hbe : Below w0.heap.size w0 w) (hB : bookO L = true) (hi : i < L.length)
    (t : HTurn (wr.alloc o) w' v k Si (addP (L.take i) (L[i]!)).2 S') : FlI w0 w w' v k S L (i + 1) S' := by
  obtain ⟨h1, h2, h3, h4⟩ := book_facts hB
  have ex : L[i]! = L[i] := getElem!_pos L i hi
  have et : L.take (i + 1) = L.take i ++ [L[i]] := List.take_succ_eq_append_getElem hi
  have hp : addP (L.take i) (L[i]!) = (0, L.take (i + 1)) := by
    rw [ex, addP_put (h2 _ (List.getElem_mem hi)) (fun x hx => ?_) (by rw [List.length_take]; omega), ← et, sortO_uniq (List.Perm.refl _) (h4.sublist (List.take_sublist _ _))]
    rw [List.take_succ_eq_append_getElem hi] at et
    have := h3.sublist (List.take_sublist (i + 1) L)
    rw [List.take_succ_eq_append_getElem hi] at this
    exact (List.pairwise_append.1 this).2.2 x hx _ (List.mem_singleton.2 rfl)
  rw [hp] at t
  have t1 : HTurn w w' v k S (L.take (i + 1)) S' := h.tu.trans (HTurn.after (b1_of wr o) t)
  exact ⟨t1, hbe.trans (t1.fr.below hS hbe.size)⟩
theorem fill_lad (p : Nat) (v : Value) (ev : v = lvl p) (k : Int) (S : Nat → Prop) (A : Option Addr) (n c : Nat) (L : List Od) (w0 w : World) (hO : Ods w0 A n L) (hbe : Below w0.heap.size w0 w) (H : Held w v k [] S) (hS : ∀ j, S j → w0.heap.size ≤ j) (hB : bookO L = true) :
    Calls Tryz.prog 44 #[.func (.method "Add") #[lvl p] #[], .slice A n c] w fun e w' => e = .returned (.tuple #[]) ∧ ∃ S', Hid (HTurn w w' v k S L S') := by
  have hm : ∀ (x : Value) (w : World), (Go.method 386 102 x "Add").run Tryz.prog w = .ok (168, x) w := fun x _ => by kernel_rfl
  have hn := hO.1
  have hn64 : (n : Int) ≤ 64 := by have := (book_facts hB).1; omega
  have HO := Lib.hid hO
  have HBb := Lib.hid hB
  have HBe := Lib.hid hbe
  have HS := Lib.hid hS
  have HN := Lib.hid hn
  have HH := Lib.hid H
  have HEv := Lib.hid ev
  clear hO hB hbe hS hn H ev
  go_enter Tryz.func44, Tryz.ntmps44
  go_wp2_with fail
  go_loopw [8] (fun s wr => ∃ (i : Nat) (Si : Nat → Prop), s = .int .i64 (i : Int) ∧ Hid (i ≤ n ∧ FlI w0 w wr v k S L i Si)) (fun s _ => match s with | .int _ z => n - z.toNat | _ => 0)
  case atStart => exact ⟨0, S, rfl, Nat.zero_le _, by rw [List.take_zero]; exact HTurn.same HH.out (Below.refl _ _), HBe.out⟩
  case round =>
    obtain ⟨i, Si, rfl, hd⟩ := hrel
    by_cases hi : i < n
    · have hiI : (i : Int) < (n : Int) := by omega
      have h1 := (HO.out.below hd.out.2.be).2.2.2
      rcases h1 with h1 | ⟨b, off, rfl, _, hc⟩
      · omega
      have hx := hc i hi
      have hok := HO.out.2.2.1 (L[i]!) (by rw [getElem!_pos L i (by rw [HN.out]; exact hi)]; exact List.getElem_mem (by rw [HN.out]; exact hi))
      clear hc
      have HA := Lib.hid (held_lad (hd.out.2.tu.hd.below (b1_of wr (.cells (OC (L[i]!)) 38))) hok HEv.out)
      have HF : Hid (∀ w' S', HTurn (wr.alloc (.cells (OC (L[i]!)) 38)) w' v k Si (addP (L.take i) (L[i]!)).2 S' → FlI w0 w w' v k S L (i + 1) S') := Lib.hid fun w' S' t => hd.out.2.step HS.out HBe.out HBb.out (by rw [HN.out]; exact hi) t
      have Hi := Lib.hid hi
      clear hd hi hok
      obtain ⟨x, ex⟩ : ∃ x, L[i]! = x := ⟨_, rfl⟩
      rw [ex] at hx HF HA
      obtain ⟨x0, x1, x2, x3, x4, x5⟩ := hx
      go_wp2_with fail
      ((with_reducible refine HA.out.mono ?_); rintro e w3 ⟨S', rfl, ht⟩)
      go_wp2_with fail
      exact ⟨⟨i + 1, S', rfl, Hi.out, HF.out _ _ ht.out⟩, less_left Hi.out⟩
    · obtain rfl : i = n := by have := hd.out.1; omega
      have hiI : ¬ (i : Int) < (i : Int) := by omega
      go_wp2_with fail
      go_end0
      have := hd.out.2.tu
      rw [List.take_of_length_le (by rw [HN.out]; exact Nat.le_refl _)] at this
      exact ⟨rfl, Si, Lib.hid this⟩
theorem fill_gro (p : Nat) (v : Value) (ev : v = gvl p) (k : Int) (S : Nat → Prop) (A : Option Addr) (n c : Nat) (L : List Od) (w0 w : World) (hO : Ods w0 A n L) (hbe : Below w0.heap.size w0 w) (H : Held w v k [] S) (hS : ∀ j, S j → w0.heap.size ≤ j) (hB : bookO L = true) :
    Calls Tryz.prog 44 #[.func (.method "Add") #[gvl p] #[], .slice A n c] w fun e w' => e = .returned (.tuple #[]) ∧ ∃ S', Hid (HTurn w w' v k S L S') := by
  have hm : ∀ (x : Value) (w : World), (Go.method 386 104 x "Add").run Tryz.prog w = .ok (199, x) w := fun x _ => by kernel_rfl
  have hn := hO.1
  have hn64 : (n : Int) ≤ 64 := by have := (book_facts hB).1; omega
  have HO := Lib.hid hO
  have HBb := Lib.hid hB
  have HBe := Lib.hid hbe
  have HS := Lib.hid hS
  have HN := Lib.hid hn
  have HH := Lib.hid H
  have HEv := Lib.hid ev
  clear hO hB hbe hS hn H ev
  go_enter Tryz.func44, Tryz.ntmps44
  go_wp2_with fail
  go_loopw [8] (fun s wr => ∃ (i : Nat) (Si : Nat → Prop), s = .int .i64 (i : Int) ∧ Hid (i ≤ n ∧ FlI w0 w wr v k S L i Si)) (fun s _ => match s with | .int _ z => n - z.toNat | _ => 0)
  case atStart => exact ⟨0, S, rfl, Nat.zero_le _, by rw [List.take_zero]; exact HTurn.same HH.out (Below.refl _ _), HBe.out⟩
  case round =>
    obtain ⟨i, Si, rfl, hd⟩ := hrel
    by_cases hi : i < n
    · have hiI : (i : Int) < (n : Int) := by omega
      have h1 := (HO.out.below hd.out.2.be).2.2.2
      rcases h1 with h1 | ⟨b, off, rfl, _, hc⟩
      · omega
      have hx := hc i hi
      have hok := HO.out.2.2.1 (L[i]!) (by rw [getElem!_pos L i (by rw [HN.out]; exact hi)]; exact List.getElem_mem (by rw [HN.out]; exact hi))
      clear hc
      have HA := Lib.hid (held_gro (hd.out.2.tu.hd.below (b1_of wr (.cells (OC (L[i]!)) 38))) hok HEv.out)
      have HF : Hid (∀ w' S', HTurn (wr.alloc (.cells (OC (L[i]!)) 38)) w' v k Si (addP (L.take i) (L[i]!)).2 S' → FlI w0 w w' v k S L (i + 1) S') := Lib.hid fun w' S' t => hd.out.2.step HS.out HBe.out HBb.out (by rw [HN.out]; exact hi) t
      have Hi := Lib.hid hi
      clear hd hi hok
      obtain ⟨x, ex⟩ : ∃ x, L[i]! = x := ⟨_, rfl⟩
      rw [ex] at hx HF HA
      obtain ⟨x0, x1, x2, x3, x4, x5⟩ := hx
      go_wp2_with fail
      ((with_reducible refine HA.out.mono ?_); rintro e w3 ⟨S', rfl, ht⟩)
      go_wp2_with fail
      exact ⟨⟨i + 1, S', rfl, Hi.out, HF.out _ _ ht.out⟩, less_left Hi.out⟩
    · obtain rfl : i = n := by have := hd.out.1; omega
      have hiI : ¬ (i : Int) < (i : Int) := by omega
      go_wp2_with fail
      go_end0
      have := hd.out.2.tu
      rw [List.take_of_length_le (by rw [HN.out]; exact Nat.le_refl _)] at this
      exact ⟨rfl, Si, Lib.hid this⟩
theorem ordBook_c (A : Option Addr) (n c : Nat) (L : List Od) (w : World) (H : Ods w A n L) : Calls Tryz.prog 43 #[.slice A n c] w (BookIs w (bookO L)) := by
  by_cases h : n ≤ 64
  · exact book_c A n c L w H h (sort64_c n h)
  · exact bookLong_c A n c L w H.1 h
theorem build1_c (A : Option Addr) (n c : Nat) (L : List Od) (w : World) (H : Ods w A n L) (hB : bookO L = true) :
    Calls Tryz.prog 10 #[.int .i64 1, .slice A n c] w fun e w' => ∃ b p S, e = .returned (.tuple #[ptA b, .int .i64 0]) ∧ Hid (LyNew w w' b (lvl p) 1 L S) := by
  have HMk := Lib.hid (make1_c w)
  have HO := Lib.hid H
  have HB := Lib.hid hB
  clear H hB
  go_enter Tryz.func10, Tryz.ntmps10
  go_wp2_with (first
    | ((with_reducible refine HMk.out.mono ?_); rintro e w1 ⟨b, p, S, rfl, hN⟩; have HBk := Lib.hid (by have := ordBook_c A n c L w1 (HO.out.below hN.out.be); rwa [HB.out] at this); clear HMk)
    | ((with_reducible refine HBk.out.mono ?_); rintro e w2 ⟨rfl, h2⟩; have H2 := Lib.hid (hN.out.ly.below h2); have B2 := Lib.hid (hN.out.be.trans (h2.mono hN.out.be.size)); clear h2 HBk; have c1 : w2.cell? ⟨b, 1, none⟩ = some (lvl p) := (H2.out.cl.c 1).trans rfl; have HF := Lib.hid (fill_lad p _ rfl 1 S A n c L w w2 HO.out B2.out H2.out.hd hN.out.lo HB.out))
    | ((with_reducible refine HF.out.mono ?_); rintro e w3 ⟨rfl, S', ht⟩))
  refine bodyPost_ret (results_tmp2 rfl _ _ _) rfl ?_
  have hb3 : Below w.heap.size w w3 := B2.out.trans (ht.out.fr.below hN.out.lo B2.out.size)
  refine ⟨b, p, S', rfl, Lib.hid ⟨H2.out.turn ht.out, hb3, fun j hj => ?_, hN.out.lb⟩⟩
  rcases ht.out.ft j hj with h | h
  · exact hN.out.lo j h
  · exact Nat.le_trans B2.out.size h
theorem build2_c (A : Option Addr) (n c : Nat) (L : List Od) (w : World) (H : Ods w A n L) (hB : bookO L = true) :
    Calls Tryz.prog 10 #[.int .i64 2, .slice A n c] w fun e w' => ∃ b p S, e = .returned (.tuple #[ptA b, .int .i64 0]) ∧ Hid (LyNew w w' b (gvl p) 2 L S) := by
  have HMk := Lib.hid (make2_c w)
  have HO := Lib.hid H
  have HB := Lib.hid hB
  clear H hB
  go_enter Tryz.func10, Tryz.ntmps10
  go_wp2_with (first
    | ((with_reducible refine HMk.out.mono ?_); rintro e w1 ⟨b, p, S, rfl, hN⟩; have HBk := Lib.hid (by have := ordBook_c A n c L w1 (HO.out.below hN.out.be); rwa [HB.out] at this); clear HMk)
    | ((with_reducible refine HBk.out.mono ?_); rintro e w2 ⟨rfl, h2⟩; have H2 := Lib.hid (hN.out.ly.below h2); have B2 := Lib.hid (hN.out.be.trans (h2.mono hN.out.be.size)); clear h2 HBk; have c1 : w2.cell? ⟨b, 1, none⟩ = some (gvl p) := (H2.out.cl.c 1).trans rfl; have HF := Lib.hid (fill_gro p _ rfl 2 S A n c L w w2 HO.out B2.out H2.out.hd hN.out.lo HB.out))
    | ((with_reducible refine HF.out.mono ?_); rintro e w3 ⟨rfl, S', ht⟩))
  refine bodyPost_ret (results_tmp2 rfl _ _ _) rfl ?_
  have hb3 : Below w.heap.size w w3 := B2.out.trans (ht.out.fr.below hN.out.lo B2.out.size)
  refine ⟨b, p, S', rfl, Lib.hid ⟨H2.out.turn ht.out, hb3, fun j hj => ?_, hN.out.lb⟩⟩
  rcases ht.out.ft j hj with h | h
  · exact hN.out.lo j h
  · exact Nat.le_trans B2.out.size h
theorem build_c (k : Int) (hk : k = 1 ∨ k = 2) (A : Option Addr) (n c : Nat) (L : List Od) (w : World) (H : Ods w A n L) (hB : bookO L = true) :
    Calls Tryz.prog 10 #[.int .i64 k, .slice A n c] w fun e w' => ∃ b v S, e = .returned (.tuple #[ptA b, .int .i64 0]) ∧ Hid (LyNew w w' b v k L S) := by
  rcases hk with rfl | rfl
  · exact (build1_c A n c L w H hB).mono fun e w' ⟨b, p, S, h, g⟩ => ⟨b, _, S, h, g⟩
  · exact (build2_c A n c L w H hB).mono fun e w' ⟨b, p, S, h, g⟩ => ⟨b, _, S, h, g⟩
def NoEnd (w : World) (e : Ending) (w' : World) : Prop := e = .returned (.tuple #[.pointer none, .int .i64 2]) ∧ Hid (Below w.heap.size w w')
theorem build_no (k : Int) (h1 : ¬ k = 1) (h2 : ¬ k = 2) (A : Option Addr) (n c : Nat) (w : World) :
    Calls Tryz.prog 10 #[.int .i64 k, .slice A n c] w (NoEnd w) := by
  have HMk := Lib.hid (make0_c k h1 h2 w)
  clear h1 h2
  go_enter Tryz.func10, Tryz.ntmps10
  go_wp2_with ((with_reducible refine HMk.out.mono ?_); rintro e w1 ⟨rfl, rfl⟩)
  refine bodyPost_ret (results_tmp2 rfl _ _ _) rfl ?_
  exact ⟨rfl, Lib.hid (Below.refl _ _)⟩

theorem row_ods {w w' : World} {L : List Od} {v : Value} (h : w'.ownsRow w.heap.size 38 6 v L.length (ol L)) (hl : L.length ≤ 64) (hok : ∀ x ∈ L, Od.ok w x) : ∃ A c, v = .slice A L.length c ∧ Ods w' A L.length L ∧ w'.ownsRow 0 38 6 (.slice A L.length c) L.length (ol L) := by
  obtain ⟨A, c, rfl, _, ho⟩ := own_ods h (by omega) (fun x hx => by have := hok x hx; exact this)
  exact ⟨A, c, rfl, ho, own_base h (Nat.zero_le _)⟩
def TurnEnd (w : World) (k : Int) (L : List Od) (e : Ending) (w' : World) : Prop := ∃ b v S, e = .returned (.tuple #[ptA b, .int .i64 0]) ∧ Hid (LyNew w w' b v k L S)
theorem turn_c (b : Nat) (v : Value) (k : Int) (L : List Od) (S : Nat → Prop) (k2 : Int) (hk : k2 = 1 ∨ k2 = 2) (w : World) (H : LyB w b v k L S) :
    Calls Tryz.prog 16 #[ptA b, .int .i64 k2] w (TurnEnd w k2 L) := by
  have HM := Lib.hid (made15_c b v k L S w H)
  have HAl := Lib.hid (yAll_c b v k L S w H)
  have hl := H.hd.len
  have hok : ∀ x ∈ L, Od.ok w x := fun x hx => (H.hd.ok x hx).1
  have hB := H.hd.book
  obtain ⟨n, hn⟩ : ∃ n, L.length = n := ⟨_, rfl⟩
  have HF := Lib.hid (And.intro hl (And.intro hok (And.intro hB hn)))
  clear H hl hok hB hn
  go_enter Tryz.func16, Tryz.ntmps16
  go_wp2_with (first
    | ((with_reducible refine HM.out.mono ?_); rintro e w' ⟨rfl, rfl⟩; clear HM)
    | ((with_reducible refine HAl.out.mono ?_); rintro e w1 ⟨v1, rfl, h1⟩; obtain ⟨A, c, rfl, _, hr⟩ := row_ods h1.out.1 HF.out.1 HF.out.2.1; have B1 := Lib.hid h1.out.2; rw [HF.out.2.2.2] at hr ⊢; have HCl := Lib.hid (clone_own hr (by have := HF.out.1; have := HF.out.2.2.2; omega)); clear HAl h1 hr)
    | ((with_reducible refine HCl.out.mono ?_); rintro e w2 ⟨v2, rfl, h2⟩; obtain ⟨A2, c2, rfl, _, ho⟩ := own_ods h2.out.1 (by have := HF.out.1; have := HF.out.2.2.2; omega) HF.out.2.1; have B2 := Lib.hid (B1.out.trans (h2.out.2.mono B1.out.size)); have HBd := Lib.hid (build_c k2 hk A2 n c2 L w2 ho HF.out.2.2.1); clear HCl h2 ho)
    | ((with_reducible refine HBd.out.mono ?_); rintro e w3 ⟨b3, v3, S3, rfl, h3⟩))
  refine bodyPost_ret (results_tmp2 rfl _ _ _) rfl ?_
  exact ⟨b3, v3, S3, rfl, Lib.hid ⟨h3.out.ly, B2.out.trans (h3.out.be.mono B2.out.size), fun j hj => Nat.le_trans B2.out.size (h3.out.lo j hj), Nat.le_trans B2.out.size h3.out.lb⟩⟩
theorem turn_no (b : Nat) (v : Value) (k : Int) (L : List Od) (S : Nat → Prop) (k2 : Int) (h1 : ¬ k2 = 1) (h2 : ¬ k2 = 2) (w : World) (H : LyB w b v k L S) :
    Calls Tryz.prog 16 #[ptA b, .int .i64 k2] w (NoEnd w) := by
  have HM := Lib.hid (made15_c b v k L S w H)
  have HAl := Lib.hid (yAll_c b v k L S w H)
  have hl := H.hd.len
  have hok : ∀ x ∈ L, Od.ok w x := fun x hx => (H.hd.ok x hx).1
  obtain ⟨n, hn⟩ : ∃ n, L.length = n := ⟨_, rfl⟩
  have HF := Lib.hid (And.intro hl (And.intro hok hn))
  have HK := Lib.hid (And.intro h1 h2)
  clear H hl hok hn h1 h2
  go_enter Tryz.func16, Tryz.ntmps16
  go_wp2_with (first
    | ((with_reducible refine HM.out.mono ?_); rintro e w' ⟨rfl, rfl⟩; clear HM)
    | ((with_reducible refine HAl.out.mono ?_); rintro e w1 ⟨v1, rfl, h1⟩; obtain ⟨A, c, rfl, _, hr⟩ := row_ods h1.out.1 HF.out.1 HF.out.2.1; have B1 := Lib.hid h1.out.2; rw [HF.out.2.2] at hr ⊢; have HCl := Lib.hid (clone_own hr (by have := HF.out.1; have := HF.out.2.2; omega)); clear HAl h1 hr)
    | ((with_reducible refine HCl.out.mono ?_); rintro e w2 ⟨v2, rfl, h2⟩; obtain ⟨A2, c2, rfl, _, ho⟩ := own_ods h2.out.1 (by have := HF.out.1; have := HF.out.2.2; omega) HF.out.2.1; have B2 := Lib.hid (B1.out.trans (h2.out.2.mono B1.out.size)); have HBd := Lib.hid (build_no k2 HK.out.1 HK.out.2 A2 n c2 w2); clear HCl h2 ho)
    | ((with_reducible refine HBd.out.mono ?_); rintro e w3 ⟨rfl, h3⟩))
  refine bodyPost_ret (results_tmp2 rfl _ _ _) rfl ?_
  exact ⟨rfl, Lib.hid (B2.out.trans (h3.out.mono B2.out.size))⟩
theorem yClone_c (b : Nat) (v : Value) (k : Int) (L : List Od) (S : Nat → Prop) (w : World) (H : LyB w b v k L S) :
    Calls Tryz.prog 22 #[ptA b] w fun e w' => ∃ b' v' S', e = .returned (ptA b') ∧ Hid (LyNew w w' b' v' k L S') := by
  have HK := Lib.hid (kind_c b v k L S w H)
  have HT := Lib.hid (turn_c b v k L S k H.hd.k12 w H)
  clear H
  go_enter Tryz.func22, Tryz.ntmps22
  go_wp2_with (first
    | ((with_reducible refine HK.out.mono ?_); rintro e w' ⟨rfl, rfl⟩)
    | ((with_reducible refine HT.out.mono ?_); rintro e w1 ⟨b', v', S', rfl, h⟩))
  go_ret
  exact ⟨b', v', S', rfl, h⟩
abbrev lyO (i : Int) : Od := ⟨i, 0, 1, 5, 1, i⟩
theorem ly0 : addP [] (lyO 0) = (0, [lyO 0]) := by
  rw [addP_put (by decide +kernel) (by decide) (by decide)]
  congr 1
  exact sortO_uniq (List.Perm.refl _) (by decide +kernel)
theorem ly1 : addP [lyO 0] (lyO 1) = (0, [lyO 0, lyO 1]) := by
  rw [addP_put (by decide +kernel) (by decide) (by decide)]
  congr 1
  exact sortO_uniq (List.Perm.refl _) (by decide +kernel)
theorem ly2 : addP [lyO 0, lyO 1] (lyO 2) = (0, [lyO 0, lyO 1, lyO 2]) := by
  rw [addP_put (by decide +kernel) (by decide) (by decide)]
  congr 1
  exact sortO_uniq (List.Perm.refl _) (by decide +kernel)
def lyL (k : Nat) : List Od := [lyO 0, lyO 1, lyO 2].take k
theorem lyL_add (k : Nat) (hk : k < 3) : (addP (lyL k) (lyO k)).2 = lyL (k + 1) := by
  have : k = 0 ∨ k = 1 ∨ k = 2 := by omega
  rcases this with rfl | rfl | rfl
  · show (addP [] (lyO 0)).2 = _; rw [ly0]; rfl
  · show (addP [lyO 0] (lyO 1)).2 = _; rw [ly1]; rfl
  · show (addP [lyO 0, lyO 1] (lyO 2)).2 = _; rw [ly2]; rfl
theorem lives15_c (w : World) : Calls Tryz.prog 9 #[] w fun e w' => e = .returned (.bool true) ∧ Below w.heap.size w w' := by
  have HMk := Lib.hid (make_c 1 (.inl rfl) w)
  go_enter Tryz.func9, Tryz.ntmps9
  go_wp2_with ((with_reducible refine HMk.out.mono ?_); rintro e w1 ⟨b, v, S, rfl, hN⟩; clear HMk)
  go_loopw [7] (fun s wr => ∃ (k : Nat) (Si : Nat → Prop), s = .int .u64 (k : Int) ∧ Hid (k ≤ 3 ∧ HTurn w1 wr v 1 S (lyL k) Si ∧ LyB wr b v 1 (lyL k) Si)) (fun s _ => match s with | .int _ z => 3 - z.toNat | _ => 0)
  case atStart => exact ⟨0, S, rfl, Nat.zero_le _, HTurn.same hN.out.ly.hd (Below.refl _ _), hN.out.ly⟩
  case round =>
    obtain ⟨k, Si, rfl, hd⟩ := hrel
    have hk : k = 0 ∨ k = 1 ∨ k = 2 ∨ k = 3 := by have := hd.out.1; omega
    rcases hk with rfl | rfl | rfl | rfl
    · have HA := Lib.hid (yAdd_c b v 1 (lyL 0) Si (lyO 0) wr hd.out.2.2 (by unfold Od.ok; decide))
      go_wp2_with ((with_reducible refine HA.out.mono ?_); rintro e w2 ⟨S', rfl, ht⟩)
      have ht := ht.out
      rw [show (addP (lyL 0) (lyO 0)).2 = lyL 1 from lyL_add 0 (by decide)] at ht
      exact ⟨⟨1, S', rfl, by decide, hd.out.2.1.trans ht, hd.out.2.2.turn ht⟩, by decide⟩
    · have HA := Lib.hid (yAdd_c b v 1 (lyL 1) Si (lyO 1) wr hd.out.2.2 (by unfold Od.ok; decide))
      go_wp2_with ((with_reducible refine HA.out.mono ?_); rintro e w2 ⟨S', rfl, ht⟩)
      have ht := ht.out
      rw [show (addP (lyL 1) (lyO 1)).2 = lyL 2 from lyL_add 1 (by decide)] at ht
      exact ⟨⟨2, S', rfl, by decide, hd.out.2.1.trans ht, hd.out.2.2.turn ht⟩, by decide⟩
    · have HA := Lib.hid (yAdd_c b v 1 (lyL 2) Si (lyO 2) wr hd.out.2.2 (by unfold Od.ok; decide))
      go_wp2_with ((with_reducible refine HA.out.mono ?_); rintro e w2 ⟨S', rfl, ht⟩)
      have ht := ht.out
      rw [show (addP (lyL 2) (lyO 2)).2 = lyL 3 from lyL_add 2 (by decide)] at ht
      exact ⟨⟨3, S', rfl, by decide, hd.out.2.1.trans ht, hd.out.2.2.turn ht⟩, by decide⟩
    · have HT := Lib.hid (turn_c b v 1 (lyL 3) Si 2 (.inr rfl) wr hd.out.2.2)
      have BE : Hid (Below w.heap.size w wr) := Lib.hid (hN.out.be.trans (hd.out.2.1.fr.below hN.out.lo hN.out.be.size))
      have HKb : Hid (∀ W, Below wr.heap.size wr W → Calls Tryz.prog 13 #[ptA b] W fun e w' => e = .returned (.int .i64 1) ∧ W = w') := Lib.hid fun W hW => kind_c b v 1 (lyL 3) Si W (hd.out.2.2.below hW)
      clear hd hN
      go_wp2_with (first
        | ((with_reducible refine HT.out.mono ?_); rintro e w2 ⟨b2, v2, S2, rfl, h2⟩; have HAl := Lib.hid (yAll_c b2 v2 2 (lyL 3) S2 w2 h2.out.ly); clear HT)
        | ((with_reducible refine HAl.out.mono ?_); rintro e w3 ⟨v3, rfl, h3⟩; obtain ⟨A, c, rfl, ho, _⟩ := row_ods (L := lyL 3) h3.out.1 (by decide) (fun x hx => (h2.out.ly.hd.ok x hx).1); have B3 := Lib.hid (h2.out.be.trans (h3.out.2.mono h2.out.be.size)); have HK2 := Lib.hid (kind_c b2 v2 2 (lyL 3) S2 w3 (h2.out.ly.below h3.out.2)); have HK1 := Lib.hid (HKb.out w3 B3.out); obtain ⟨hl3, _, _, hor⟩ := ho; obtain ⟨bb, off, rfl, _, hc⟩ := hor.resolve_left (by decide); have y0 : w3.cell? ⟨bb, off, none⟩ = some (.int .u64 0) := (hc 0 (by decide)).1; have y2 : w3.cell? ⟨bb, off + 12, none⟩ = some (.int .u64 2) := (hc 2 (by decide)).1; have elen : (lyL 3).length = 3 := rfl; clear HAl h3 hc)
        | ((with_reducible refine HK2.out.mono ?_); rintro e w4 ⟨rfl, rfl⟩)
        | ((with_reducible refine HK1.out.mono ?_); rintro e w5 ⟨rfl, rfl⟩))
      go_ret
      exact ⟨rfl, BE.out.trans (B3.out.mono BE.out.size)⟩

theorem rb_held {W W' : World} {wb : Nat} {M L : List Od} {v : Value} {k : Int} {S : Nat → Prop} (R : RB W wb M) (H : Held W v k L S) (hf : Fr S W W') : RB W' wb M := by
  obtain ⟨A, c, hc, hr⟩ := R
  refine ⟨A, c, hf.blk hc (fun h => ?_), own_fr hr hf (fun j hj h => ?_)⟩
  · rcases H.kind h hc with e | e | e | e | e | e | e | e <;> exact absurd e (by decide)
  · obtain ⟨cs, hcs⟩ := own_blk hr hj
    rcases H.kind h hcs with e | e | e | e | e | e | e | e <;> exact absurd e (by decide)
theorem rb_nh {W : World} {wb : Nat} {M L : List Od} {v : Value} {k : Int} {S : Nat → Prop} (R : RB W wb M) (H : Held W v k L S) : ∀ j, S j → ¬ j = wb := by
  rintro j hj rfl
  obtain ⟨A, c, hc, _⟩ := R
  rcases H.kind hj hc with e | e | e | e | e | e | e | e <;> exact absurd e (by decide)
theorem rb_nb {W : World} {wb b : Nat} {M L : List Od} {v : Value} {k : Int} {S : Nat → Prop} (R : RB W wb M) (H : LyB W b v k L S) : ¬ b = wb := by
  rintro rfl
  obtain ⟨A, c, hc, _⟩ := R
  exact cl_ne hc H.cl (by decide) rfl
structure LPl (w W : World) (a b : Nat) (va vb : Value) (ka kb : Int) (La Lb M : List Od) (Sa Sb : Nat → Prop) (wb : Nat) : Prop where
  la : LyB W a va ka La Sa
  lb : LyB W b vb kb Lb Sb
  rb : RB W wb M
  dj : ∀ j, Sa j → ¬ Sb j
  be : Below w.heap.size w W
  loa : ∀ j, Sa j → w.heap.size ≤ j
  lob : ∀ j, Sb j → w.heap.size ≤ j
  low : w.heap.size ≤ wb
section
variable {w W W' : World} {a b wb : Nat} {va vb : Value} {ka kb : Int} {La Lb M La' Lb' M' : List Od} {Sa Sb Sa' Sb' : Nat → Prop}
theorem LPl.below (h : LPl w W a b va vb ka kb La Lb M Sa Sb wb) (hb : Below W.heap.size W W') : LPl w W' a b va vb ka kb La Lb M Sa Sb wb :=
  ⟨h.la.below hb, h.lb.below hb, rb_low h.rb hb, h.dj, h.be.trans (hb.mono h.be.size), h.loa, h.lob, h.low⟩
theorem LPl.nab (h : LPl w W a b va vb ka kb La Lb M Sa Sb wb) : ¬ Sa b := fun hs => by
  rcases h.la.hd.kind hs h.lb.cl with e | e | e | e | e | e | e | e <;> exact absurd e (by decide)
theorem LPl.nba (h : LPl w W a b va vb ka kb La Lb M Sa Sb wb) : ¬ Sb a := fun hs => by
  rcases h.lb.hd.kind hs h.la.cl with e | e | e | e | e | e | e | e <;> exact absurd e (by decide)
theorem LPl.turnA (h : LPl w W a b va vb ka kb La Lb M Sa Sb wb) (t : HTurn W W' va ka Sa La' Sa') : LPl w W' a b va vb ka kb La' Lb M Sa' Sb wb :=
  ⟨h.la.turn t, h.lb.fr t.fr h.nab (fun j hj hj' => h.dj j hj' hj), rb_held h.rb h.la.hd t.fr, fun j hj hj' => by
    rcases t.ft j hj with e | e
    · exact h.dj j e hj'
    · have := h.lb.hd.lt j hj'; omega, h.be.trans (t.fr.below h.loa h.be.size), fun j hj => (t.ft j hj).elim (h.loa j) (fun e => Nat.le_trans h.be.size e), h.lob, h.low⟩
theorem LPl.turnB (h : LPl w W a b va vb ka kb La Lb M Sa Sb wb) (t : HTurn W W' vb kb Sb Lb' Sb') : LPl w W' a b va vb ka kb La Lb' M Sa Sb' wb :=
  ⟨h.la.fr t.fr h.nba (fun j hj hj' => h.dj j hj hj'), h.lb.turn t, rb_held h.rb h.lb.hd t.fr, fun j hj hj' => by
    rcases t.ft j hj' with e | e
    · exact h.dj j hj e
    · have := h.la.hd.lt j hj; omega, h.be.trans (t.fr.below h.lob h.be.size), h.loa, fun j hj => (t.ft j hj).elim (h.lob j) (fun e => Nat.le_trans h.be.size e), h.low⟩
theorem LPl.ref (h : LPl w W a b va vb ka kb La Lb M Sa Sb wb) (hr : RB W' wb M') (hf : Fr (fun k => k = wb) W W') : LPl w W' a b va vb ka kb La Lb M' Sa Sb wb :=
  ⟨h.la.fr hf (rb_nb h.rb h.la) (rb_nh h.rb h.la.hd), h.lb.fr hf (rb_nb h.rb h.lb) (rb_nh h.rb h.lb.hd), hr, h.dj, h.be.trans (hf.below (fun j hj => by subst hj; exact h.low) h.be.size), h.loa, h.lob, h.low⟩
theorem LPl.anew {W1 W2 : World} {x y : Nat} {vx vy : Value} {kx ky : Int} {Sx Sy : Nat → Prop} (h : LPl w W a b va vb ka kb La Lb M Sa Sb wb) (h1 : LyNew W W1 x vx kx La Sx) (h2 : LyNew W1 W2 y vy ky Lb Sy) : LPl w W2 x y vx vy kx ky La Lb M Sx Sy wb := by
  have b1 : Below w.heap.size w W1 := h.be.trans (h1.be.mono h.be.size)
  refine ⟨h1.ly.below h2.be, h2.ly, rb_low (rb_low h.rb h1.be) h2.be, fun j hj hj' => ?_, b1.trans (h2.be.mono b1.size), fun j hj => Nat.le_trans h.be.size (h1.lo j hj), fun j hj => Nat.le_trans b1.size (h2.lo j hj), h.low⟩
  have := h1.ly.hd.lt j hj
  have := h2.lo j hj'
  omega
theorem LPl.cloneA {W1 W2 : World} {x : Nat} {vx : Value} {kx : Int} {Sx : Nat → Prop} (h : LPl w W a b va vb ka kb La Lb M Sa Sb wb) (h1 : LyNew W W1 x vx kx La Sx) (t : HTurn W1 W2 va ka Sa La' Sa') : LPl w W2 x b vx vb kx kb La Lb M Sx Sb wb := by
  have h' := h.below h1.be
  have h2 := h'.turnA t
  refine ⟨h1.ly.fr t.fr (fun hs => ?_) (fun j hj hj' => ?_), h2.lb, h2.rb, fun j hj hj' => ?_, h2.be, fun j hj => Nat.le_trans h.be.size (h1.lo j hj), h2.lob, h2.low⟩
  · have := h.la.hd.lt _ hs
    have := h1.lb
    omega
  · have := h.la.hd.lt _ hj'
    have := h1.lo j hj
    omega
  · have := h.lb.hd.lt _ hj'
    have := h1.lo j hj
    omega
end
theorem lpl_new {w w1 w2 : World} {a b : Nat} {va vb : Value} {ka kb : Int} {Sa Sb : Nat → Prop} (h1 : LyNew w w1 a va ka [] Sa) (h2 : LyNew w1 w2 b vb kb [] Sb) :
    LPl w (w2.alloc (.cells #[.slice none 0 0] 46)) a b va vb ka kb [] [] [] Sa Sb w2.heap.size := by
  have b2 := b1_of w2 (.cells #[.slice none 0 0] 46)
  have b0 : Below w.heap.size w w2 := h1.be.trans (h2.be.mono h1.be.size)
  refine ⟨(h1.ly.below h2.be).below b2, h2.ly.below b2, ⟨none, 0, hd_last rfl, World.ownsRow_nil _ _ _ _⟩, fun j hj hj' => ?_, b0.trans (b2.mono b0.size), h1.lo, fun j hj => Nat.le_trans h1.be.size (h2.lo j hj), b0.size⟩
  have := h1.ly.hd.lt j hj
  have := h2.lo j hj'
  omega
theorem bx_turn {T : TypeId} {W W' : World} {v : Value} {k : Int} {L' : List Od} {S S' : Nat → Prop} {c : Nat} {cs : Array Value} (h : Cl T W c cs) (hn : ¬ S c) (t : HTurn W W' v k S L' S') : Cl T W' c cs := t.fr.blk h hn

theorem same_yes {W : World} {A B : Option Addr} {n c c' : Nat} {L : List Od} (h : Ods W A n L) (k : Ods W B n L) (hn : n ≤ 1000) :
    Calls Tryz.prog 14 #[.slice A n c, .slice B n c'] W fun e w' => e = .returned (.bool true) ∧ Hid (Below W.heap.size W w') := by
  refine (same_c A B n c c' L L W h k hn).mono ?_
  rintro e w' ⟨rfl, g⟩
  exact ⟨by rw [(eqL_iff L L).2 rfl], Lib.hid g.b⟩
theorem ly_all {w : World} {b : Nat} {v : Value} {k : Int} {L : List Od} {S : Nat → Prop} {n : Nat} (H : LyB w b v k L S) (hn : L.length = n) : Calls Tryz.prog 15 #[ptA b] w fun e w' => ∃ A c, e = .returned (.slice A n c) ∧ Hid (Below w.heap.size w w' ∧ Ods w' A n L) := by
  subst hn
  refine (yAll_c b v k L S w H).mono ?_
  rintro e w' ⟨v', rfl, h⟩
  obtain ⟨A, c, rfl, ho, _⟩ := row_ods h.out.1 H.hd.len (fun x hx => (H.hd.ok x hx).1)
  exact ⟨A, c, rfl, Lib.hid ⟨h.out.2, ho⟩⟩
end Go.Proofs.YtpigkmfegmfelaaGreat
namespace Go.Proofs.YtpigkmfegmfelaaGreat
open Go.RowKit Go.ChangeShapes Go.WideShapes Go.Deep

structure Opl where
  kind : Int
  kind2 : Int
  id : Int
  acc : Int
  side : Int
  price : Int
  qt : Int
  seq : Int
  n : Int
  qty : Int
instance : Inhabited Opl := ⟨⟨0, 0, 0, 0, 0, 0, 0, 0, 0, 0⟩⟩
def Opl.ok (w : World) (x : Opl) : Prop := (-9223372036854775808 ≤ x.kind ∧ x.kind ≤ 9223372036854775807) ∧ (-9223372036854775808 ≤ x.kind2 ∧ x.kind2 ≤ 9223372036854775807) ∧ (0 ≤ x.id ∧ x.id ≤ 18446744073709551615) ∧ (-9223372036854775808 ≤ x.acc ∧ x.acc ≤ 9223372036854775807) ∧ (-9223372036854775808 ≤ x.side ∧ x.side ≤ 9223372036854775807) ∧ (-9223372036854775808 ≤ x.price ∧ x.price ≤ 9223372036854775807) ∧ (-9223372036854775808 ≤ x.qt ∧ x.qt ≤ 9223372036854775807) ∧ (0 ≤ x.seq ∧ x.seq ≤ 18446744073709551615) ∧ (0 ≤ x.n ∧ x.n ≤ 18446744073709551615) ∧ (-9223372036854775808 ≤ x.qty ∧ x.qty ≤ 9223372036854775807)
def Opl.at (x : Opl) (w : World) (b o : Nat) : Prop := w.cell? ⟨b, o, none⟩ = some (.int .i64 x.kind) ∧ w.cell? ⟨b, o + 1, none⟩ = some (.int .i64 x.kind2) ∧ w.cell? ⟨b, o + 2, none⟩ = some (.int .u64 x.id) ∧ w.cell? ⟨b, o + 3, none⟩ = some (.int .i64 x.acc) ∧ w.cell? ⟨b, o + 4, none⟩ = some (.int .i64 x.side) ∧ w.cell? ⟨b, o + 5, none⟩ = some (.int .i64 x.price) ∧ w.cell? ⟨b, o + 6, none⟩ = some (.int .i64 x.qt) ∧ w.cell? ⟨b, o + 7, none⟩ = some (.int .u64 x.seq) ∧ w.cell? ⟨b, o + 8, none⟩ = some (.int .u64 x.n) ∧ w.cell? ⟨b, o + 9, none⟩ = some (.int .i64 x.qty)
theorem Opl.ok_below {w w' : World} {x : Opl} (h : x.ok w) (hb : Below w.heap.size w w') : x.ok w' := by
  exact h
theorem Opl.at_below {w w' : World} {x : Opl} {b o : Nat} (h : x.at w b o) (hl : b < w.heap.size) (hb : Below w.heap.size w w') : x.at w' b o := by
  unfold Opl.at at h ⊢
  simpa only [hb.cell (p := ⟨b, o, none⟩) hl, hb.cell (p := ⟨b, o + 1, none⟩) hl, hb.cell (p := ⟨b, o + 2, none⟩) hl, hb.cell (p := ⟨b, o + 3, none⟩) hl, hb.cell (p := ⟨b, o + 4, none⟩) hl, hb.cell (p := ⟨b, o + 5, none⟩) hl, hb.cell (p := ⟨b, o + 6, none⟩) hl, hb.cell (p := ⟨b, o + 7, none⟩) hl, hb.cell (p := ⟨b, o + 8, none⟩) hl, hb.cell (p := ⟨b, o + 9, none⟩) hl] using h
def Opls (w : World) (a : Option Addr) (len : Nat) (its : List Opl) : Prop :=
  its.length = len ∧ len ≤ 9223372036854775807 ∧ (∀ x ∈ its, x.ok w) ∧ (len = 0 ∨ ∃ b off, a = some ⟨b, off, none⟩ ∧ b < w.heap.size ∧ ∀ i, i < len → (its[i]!).at w b (off + i * 10))
theorem Opls.below {w w' : World} {a : Option Addr} {len : Nat} {its : List Opl} (h : Opls w a len its) (hb : Below w.heap.size w w') : Opls w' a len its := by
  obtain ⟨h1, hle, h2, h3⟩ := h
  refine ⟨h1, hle, fun x hx => Opl.ok_below (h2 x hx) hb, ?_⟩
  rcases h3 with h0 | ⟨b, off, rfl, hlt, hc⟩
  · exact .inl h0
  · exact .inr ⟨b, off, rfl, Nat.lt_of_lt_of_le hlt hb.size, fun i hi => Opl.at_below (hc i hi) hlt hb⟩
theorem cells_opl : Tryz.prog.cellsOf 48 = 10 := by kernel_rfl

theorem open_opl {H : Type} {enc : TypeId × Value → H} {w : World} {fuel : Nat} {cs : List Value} {y : DataW H × List MemPlace} (hl : cs.length = 10) (h : DataW.trod enc Tryz.prog w 0 (fun _ => true) true fuel 48 cs = some y) :
    ∃ x : Opl, x.ok w ∧ cs[0]? = some (.int .i64 x.kind) ∧ cs[1]? = some (.int .i64 x.kind2) ∧ cs[2]? = some (.int .u64 x.id) ∧ cs[3]? = some (.int .i64 x.acc) ∧ cs[4]? = some (.int .i64 x.side) ∧ cs[5]? = some (.int .i64 x.price) ∧ cs[6]? = some (.int .i64 x.qt) ∧ cs[7]? = some (.int .u64 x.seq) ∧ cs[8]? = some (.int .u64 x.n) ∧ cs[9]? = some (.int .i64 x.qty) := by
  obtain ⟨xs, n', _, _, _, hxl, hg⟩ := DataW.trod_struct Tryz.underlying48 h
  have at_ : ∀ (j k : Nat) (f : Field), j < 5 → k < 10 → f.offset = k ∧ Tryz.prog.cellsOf f.type = 1 → DataW.trod enc Tryz.prog w 0 (fun _ => true) true n' f.type ((cs.drop f.offset).take (Tryz.prog.cellsOf f.type)) = xs[j]? →
      ∃ v y, cs[k]? = some v ∧ DataW.trod enc Tryz.prog w 0 (fun _ => true) true n' f.type [v] = some y := by
    intro j k f hj hk' ⟨ho, hk⟩ htr
    rw [ho, hk] at htr
    have hjl : k < cs.length := by omega
    have e1 : (cs.drop k).take 1 = [cs[k]] := by
      rw [List.drop_eq_getElem_cons hjl]; rfl
    rw [e1] at htr
    have hxj : j < xs.length := by rw [hxl]; exact hj
    rw [List.getElem?_eq_getElem hxj] at htr
    exact ⟨_, _, List.getElem?_eq_getElem hjl, htr⟩
  have g0 := hg 0 _ rfl
  have g1 := hg 1 _ rfl
  have g2 := hg 2 _ rfl
  have g3 := hg 3 _ rfl
  have g4 := hg 4 _ rfl
  obtain ⟨v0, y0, p0, q0⟩ := at_ 0 0 _ (by omega) (by omega) ⟨rfl, by kernel_rfl⟩ g0
  obtain ⟨v1, y1, r1, q1⟩ := at_ 1 1 _ (by omega) (by omega) ⟨rfl, by kernel_rfl⟩ g1
  obtain ⟨v7, y7, p7, q7⟩ := at_ 3 8 _ (by omega) (by omega) ⟨rfl, by kernel_rfl⟩ g3
  obtain ⟨v8, y8, p8, q8⟩ := at_ 4 9 _ (by omega) (by omega) ⟨rfl, by kernel_rfl⟩ g4
  have hx1 : 2 < xs.length := by rw [hxl]; decide
  rw [List.getElem?_eq_getElem hx1] at g2
  have g2' : DataW.trod enc Tryz.prog w 0 (fun _ => true) true n' 38 ((cs.drop 2).take (Tryz.prog.cellsOf 38)) = some xs[2] := g2
  rw [cells_od] at g2'
  obtain ⟨x, hx, p1, p2, p3, p4, p5, p6⟩ := open_od (by rw [List.length_take, List.length_drop]; omega) g2'
  obtain ⟨k0, e0, _, w0⟩ := DataW.trod_int Tryz.underlying3 q0
  obtain ⟨k7, e7, _, w7⟩ := DataW.trod_int Tryz.underlying35 q7
  obtain ⟨k8, e8, _, w8⟩ := DataW.trod_int Tryz.underlying2 q8
  obtain ⟨k1, e1, _, w1⟩ := DataW.trod_int Tryz.underlying3 q1
  injection e0 with e0; injection e1 with e1; injection e7 with e7; injection e8 with e8
  subst e0; subst e1; subst e7; subst e8
  have key : ∀ j u, j < 6 → ((cs.drop 2).take 6)[j]? = some u → cs[j + 2]? = some u := fun j u hj h => by
    rw [List.getElem?_take, if_pos hj, List.getElem?_drop, Nat.add_comm] at h; exact h
  obtain ⟨o1, o2, o3, o4, o5, o6⟩ := hx
  exact ⟨⟨k0, k1, x.id, x.acc, x.side, x.price, x.qty, x.seq, k7, k8⟩, ⟨bounds_i64 w0, bounds_i64 w1, o1, o2, o3, o4, o5, o6, bounds_u64 w7, bounds_i64 w8⟩, p0, r1, key 0 _ (by omega) p1, key 1 _ (by omega) p2, key 2 _ (by omega) p3, key 3 _ (by omega) p4, key 4 _ (by omega) p5, key 5 _ (by omega) p6, p7, p8⟩

theorem open_opls {H : Type} {enc : TypeId × Value → H} {w : World} {a : Option Addr} {len cap : Nat} {d : DataW H} {p : List MemPlace}
    (h : DataW.Trod enc Tryz.prog w 0 (fun _ => true) true 42 (.slice a len cap) d p) : ∃ its, Opls w a len its ∧ len ≤ cap ∧ cap ≤ maxLen := by
  obtain ⟨fuel, hf⟩ := h
  have hlt := DataW.trod_lt _ _ _ _ hf
  rcases open_slice Tryz.underlying42 hf with ⟨hcs, _⟩ | ⟨x, l, c, m, n, D, Pl, hcs, _, hl, hm, hmm, hx, hi⟩
  · simp [Value.cells] at hcs
    obtain ⟨rfl, rfl, rfl⟩ := hcs
    exact ⟨[], ⟨rfl, by omega, by simp, .inl rfl⟩, Nat.le_refl _, Nat.zero_le _⟩
  · simp [Value.cells] at hcs
    obtain ⟨rfl, rfl, rfl⟩ := hcs
    rw [if_pos rfl] at hmm
    subst hmm
    have one : ∀ i, i < len → ∃ y : Opl, y.ok w ∧ w.cell? ((x.add (i * 10)).add 0) = some (.int .i64 y.kind) ∧ w.cell? ((x.add (i * 10)).add 1) = some (.int .i64 y.kind2) ∧ w.cell? ((x.add (i * 10)).add 2) = some (.int .u64 y.id) ∧ w.cell? ((x.add (i * 10)).add 3) = some (.int .i64 y.acc) ∧ w.cell? ((x.add (i * 10)).add 4) = some (.int .i64 y.side) ∧ w.cell? ((x.add (i * 10)).add 5) = some (.int .i64 y.price) ∧ w.cell? ((x.add (i * 10)).add 6) = some (.int .i64 y.qt) ∧ w.cell? ((x.add (i * 10)).add 7) = some (.int .u64 y.seq) ∧ w.cell? ((x.add (i * 10)).add 8) = some (.int .u64 y.n) ∧ w.cell? ((x.add (i * 10)).add 9) = some (.int .i64 y.qty) := by
      intro i hil
      obtain ⟨cs', hc, ht⟩ := hi i (by omega)
      rw [cells_opl] at hc
      obtain ⟨_, hlen, hcell⟩ := World.cells?_some hc
      obtain ⟨y, hy, p0, p1, p2, p3, p4, p5, p6, p7, p8, p9⟩ := open_opl hlen ht
      exact ⟨y, hy, by rw [hcell 0 (by omega), p0], by rw [hcell 1 (by omega), p1], by rw [hcell 2 (by omega), p2], by rw [hcell 3 (by omega), p3], by rw [hcell 4 (by omega), p4], by rw [hcell 5 (by omega), p5], by rw [hcell 6 (by omega), p6], by rw [hcell 7 (by omega), p7], by rw [hcell 8 (by omega), p8], by rw [hcell 9 (by omega), p9]⟩
    refine ⟨(List.range len).map fun i => if h : i < len then Classical.choose (one i h) else default, ⟨by simp, by unfold maxLen at hm; omega, fun z hz => ?_, ?_⟩, hl, hm⟩
    · obtain ⟨i, hi1, rfl⟩ := List.mem_map.1 hz
      have hil : i < len := by simpa using hi1
      rw [dif_pos hil]
      exact (Classical.choose_spec (one i hil)).1
    · by_cases h0 : len = 0
      · exact .inl h0
      obtain ⟨b, off, spot⟩ := x
      obtain ⟨y, _, hy, _⟩ := one 0 (by omega)
      have hspot : spot = none := by simpa [Addr.add] using World.cell?_spot hy
      subst hspot
      have hb : b < w.heap.size := World.block_lt_of_cell? w ⟨b, off + 0 * 10 + 0, none⟩ (by simpa only [addr_add] using hy)
      refine .inr ⟨b, off, rfl, hb, fun i hil => ?_⟩
      have e : ((List.range len).map fun i => if h : i < len then Classical.choose (one i h) else (default : Opl))[i]! = Classical.choose (one i hil) := by
        rw [List.getElem!_eq_getElem?_getD, List.getElem?_map, List.getElem?_range hil]
        simp [hil]
      have hs := (Classical.choose_spec (one i hil)).2
      rw [e]
      unfold Opl.at
      simpa only [addr_add, ← Nat.add_assoc, Nat.add_zero] using hs
end Go.Proofs.YtpigkmfegmfelaaGreat
