/- What the laws lean on, in a few texts (by shake.py): number 14 of 16. -/
import Derived.Test.YtikapeaodobkjaaGreatZk1
import Derived.Test.YtikapeaodobkjaaGreatZk2
import Derived.Test.YtikapeaodobkjaaGreatZk4
import Derived.Test.YtikapeaodobkjaaGreatZk6
import Derived.Test.YtikapeaodobkjaaGreatZk5
import Derived.Test.YtikapeaodobkjaaGreatZk7
import Derived.Test.YtikapeaodobkjaaGreatZk12
import Derived.Test.YtikapeaodobkjaaGreatZk10
import Derived.Test.YtikapeaodobkjaaGreatZk9
import Derived.Test.YtikapeaodobkjaaGreatZk11
import Derived.Test.YtikapeaodobkjaaGreatZk13
import Derived.Test.YtikapeaodobkjaaGreatZk3
import Derived.Shelf.SlSortCmp.QuietGrown
import Derived.Laws.OwnMore
import Derived.Laws.AppendOwnNone
import Derived.OpenShut
import Derived.Deep.Slices
import Derived.Deep.Fields
import Derived.ChangeSame
import Derived.Maps.RangeWalk

set_option maxHeartbeats 16000000
set_option maxRecDepth 1000000
set_option linter.unusedVariables false
namespace Go.Proofs.YtikapeaodobkjaaGreat
open Go.RowKit Go.Sort Go.Lib Go.Maps Go.Shelf

theorem gft_kind {W:World} {p:Nat} {m:Nat × Nat} {s1 s2:Gd} (H:gWhole W p m s1 s2) {k:Nat} (hk:gft p m s1 s2 k) {cs:Array Value} {T:TypeId} (h:Cl T W k cs):T = 138 ∨ T = 3 ∨ T = 156 ∨ T = 278 ∨ T = 35:=by
 obtain ⟨D,H⟩:=H
 have e:∀ {T':TypeId} {cs':Array Value},Cl T' W k cs' → T = T':=fun a=>by
  have a':=h.symm.trans a
  injection a' with a';injection a' with _ a'
 have sd:∀ {s:Int} {g:Sg},SgIn W s g → sfoot g k → T = 138 ∨ T = 3 ∨ T = 156 ∨ T = 278 ∨ T = 35:=fun hs hf=>by
  rcases hs.cls hf with ⟨_,c,a⟩ | ⟨_,c,a⟩ | ⟨_,c,a⟩ | ⟨_,c,a⟩
  ·exact .inr (.inl (e a))
  ·exact .inr (.inr (.inl (e a)))
  ·exact .inr (.inr (.inr (.inl (e a))))
  ·exact .inr (.inr (.inr (.inr (e a))))
 rcases hk with rfl | hk | hk | hk | hk
 ·exact .inl (e H.bookp)
 ·exact absurd hk (cl_ne_map h (H.gk.om _ _ rfl))
 ·exact absurd hk (cl_ne_map h (H.gk.sm _ _ rfl))
 ·exact sd (H.gk.s1 rfl) hk
 ·exact sd (H.gk.s2 rfl) hk
theorem gWhole.fr {S:Nat → Prop} {w w':World} {p:Nat} {m:Nat × Nat} {s1 s2:Gd} (h:gWhole w p m s1 s2) (hf:Fr S w w') (hn:∀ k,gft p m s1 s2 k → ¬ S k):gWhole w' p m s1 s2:=by
 obtain ⟨D,h⟩:=h
 exact ⟨D,h.fr hf hn⟩
theorem gWhole.len {w:World} {p:Nat} {m:Nat × Nat} {s1 s2:Gd} (h:gWhole w p m s1 s2):(bookL s1.rs s2.rs).length≤64:=by
 obtain ⟨D,h⟩:=h;exact h.len
theorem gWhole.ok {w:World} {p:Nat} {m:Nat × Nat} {s1 s2:Gd} (h:gWhole w p m s1 s2):∀ x ∈ bookL s1.rs s2.rs,Od.ok w x∧goodO x = true:=by
 obtain ⟨D,h⟩:=h;exact h.ok
theorem gput_sort {w w':World} {p:Nat} {m:Nat × Nat} {s1 s2 s1' s2':Gd} {o:Od} (h:gPutIs w w' p m s1 s2 s1' s2' o):sortO (bookL s1.rs s2.rs ++ [o]) = bookL s1'.rs s2'.rs :=
 sortO_uniq (h.perm.trans (List.perm_append_comm (l₁:=[o]) (l₂:=bookL s1.rs s2.rs))) h.tu.wh.pw
structure gNewIs (w w':World) (p:Nat) (m:Nat × Nat) (s1 s2:Gd):Prop where
 wh:gWhole w' p m s1 s2
 nil:bookL s1.rs s2.rs = []
 be:Below w.heap.size w w'
 lo:∀ k,gft p m s1 s2 k → w.heap.size≤k
theorem gNew_is (w:World):Calls Tryz.prog 51 #[] w fun e w'=>∃ p m s1 s2,e = .returned (.pointer (some ⟨p,0,none⟩))∧Hid (gNewIs w w' p m s1 s2) :=
 (gNew_c w).mono fun e w' ⟨p,m,s1,s2,he,h⟩=>⟨p,m,s1,s2,he,Lib.hid ⟨h.out.1,h.out.2.1,h.out.2.2.1,h.out.2.2.2⟩⟩

structure gTri (w W:World) (pa:Nat) (ma:Nat × Nat) (a1 a2:Gd) (pb:Nat) (mb:Nat × Nat) (b1 b2:Gd) (wb:Nat) (M:List Od):Prop where
 wa:gWhole W pa ma a1 a2
 wv:gWhole W pb mb b1 b2
 rb:RB W wb M
 be:Below w.heap.size w W
 loa:∀ k,gft pa ma a1 a2 k → w.heap.size≤k
 lob:∀ k,gft pb mb b1 b2 k → w.heap.size≤k
 low:w.heap.size≤wb
 dj:∀ k,gft pa ma a1 a2 k → ¬ gft pb mb b1 b2 k
section
variable {w W W' : World} {pa pb wb : Nat} {ma mb : Nat × Nat} {a1 a2 b1 b2 : Gd} {M : List Od}
theorem gTri.below (h:gTri w W pa ma a1 a2 pb mb b1 b2 wb M) (hb:Below W.heap.size W W'):gTri w W' pa ma a1 a2 pb mb b1 b2 wb M :=
 ⟨h.wa.below hb,h.wv.below hb,rb_low h.rb hb,h.be.trans (hb.mono h.be.size),h.loa,h.lob,h.low,h.dj⟩
end
end Go.Proofs.YtikapeaodobkjaaGreat
namespace Go.Proofs.YtikapeaodobkjaaGreat
open Go.RowKit Go.ChangeShapes Go.WideShapes Go.Deep

structure Op where
 kind:Int
 id:Int
 acc:Int
 side:Int
 price:Int
 qt:Int
 seq:Int
 n:Int
 qty:Int
instance : Inhabited Op := ⟨⟨0, 0, 0, 0, 0, 0, 0, 0, 0⟩⟩
def Op.ok (w:World) (x:Op):Prop:=(-9223372036854775808≤x.kind∧x.kind≤9223372036854775807)∧(0≤x.id∧x.id≤18446744073709551615)∧(-9223372036854775808≤x.acc∧x.acc≤9223372036854775807)∧(-9223372036854775808≤x.side∧x.side≤9223372036854775807)∧(-9223372036854775808≤x.price∧x.price≤9223372036854775807)∧(-9223372036854775808≤x.qt∧x.qt≤9223372036854775807)∧(0≤x.seq∧x.seq≤18446744073709551615)∧(0≤x.n∧x.n≤18446744073709551615)∧(-9223372036854775808≤x.qty∧x.qty≤9223372036854775807)
def Op.val (x:Op):Value:=.agg #[(.int .i64 x.kind),(.int .u64 x.id),(.int .i64 x.acc),(.int .i64 x.side),(.int .i64 x.price),(.int .i64 x.qt),(.int .u64 x.seq),(.int .u64 x.n),(.int .i64 x.qty)]
def Op.at (x:Op) (w:World) (b o:Nat):Prop:=w.cell? ⟨b,o,none⟩ = some (.int .i64 x.kind)∧w.cell? ⟨b,o + 1,none⟩ = some (.int .u64 x.id)∧w.cell? ⟨b,o + 2,none⟩ = some (.int .i64 x.acc)∧w.cell? ⟨b,o + 3,none⟩ = some (.int .i64 x.side)∧w.cell? ⟨b,o + 4,none⟩ = some (.int .i64 x.price)∧w.cell? ⟨b,o + 5,none⟩ = some (.int .i64 x.qt)∧w.cell? ⟨b,o + 6,none⟩ = some (.int .u64 x.seq)∧w.cell? ⟨b,o + 7,none⟩ = some (.int .u64 x.n)∧w.cell? ⟨b,o + 8,none⟩ = some (.int .i64 x.qty)
theorem Op.ok_below {w w':World} {x:Op} (h:x.ok w) (hb:Below w.heap.size w w'):x.ok w':=by
 exact h
theorem Op.at_below {w w':World} {x:Op} {b o:Nat} (h:x.at w b o) (hl:b < w.heap.size) (hb:Below w.heap.size w w'):x.at w' b o:=by
 unfold Op.at at h ⊢
 simpa only [hb.cell (p:=⟨b,o,none⟩) hl,hb.cell (p:=⟨b,o + 1,none⟩) hl,hb.cell (p:=⟨b,o + 2,none⟩) hl,hb.cell (p:=⟨b,o + 3,none⟩) hl,hb.cell (p:=⟨b,o + 4,none⟩) hl,hb.cell (p:=⟨b,o + 5,none⟩) hl,hb.cell (p:=⟨b,o + 6,none⟩) hl,hb.cell (p:=⟨b,o + 7,none⟩) hl,hb.cell (p:=⟨b,o + 8,none⟩) hl] using h
def Ops (w:World) (a:Option Addr) (len:Nat) (its:List Op):Prop :=
 its.length = len∧len≤9223372036854775807∧(∀ x ∈ its,x.ok w)∧(len = 0 ∨ ∃ b off,a = some ⟨b,off,none⟩∧b < w.heap.size∧∀ i,i < len → (its[i]!).at w b (off + i * 9))
theorem Ops.below {w w':World} {a:Option Addr} {len:Nat} {its:List Op} (h:Ops w a len its) (hb:Below w.heap.size w w'):Ops w' a len its:=by
 obtain ⟨h1,hle,h2,h3⟩:=h
 refine ⟨h1,hle,fun x hx=>Op.ok_below (h2 x hx) hb,?_⟩
 rcases h3 with h0 | ⟨b,off,rfl,hlt,hc⟩
 ·exact .inl h0
 ·exact .inr ⟨b,off,rfl,Nat.lt_of_lt_of_le hlt hb.size,fun i hi=>Op.at_below (hc i hi) hlt hb⟩
end Go.Proofs.YtikapeaodobkjaaGreat
namespace Go.Proofs.YtikapeaodobkjaaGreat
open Go.RowKit Go.Shelf Go.Sort Go.Lib Go.Maps

def gRs (s1 s2:Gd) (sd:Int):List Rw:=rsq s1.rs s2.rs sd
theorem gWhole.ids {w:World} {p:Nat} {m:Nat × Nat} {s1 s2:Gd} (h:gWhole w p m s1 s2):Ids (bookL s1.rs s2.rs):=by
 obtain ⟨D,h⟩:=h;exact h.ids
structure gOne (w W:World) (p:Nat) (m:Nat × Nat) (s1 s2:Gd):Prop where
 wh:gWhole W p m s1 s2
 be:Below w.heap.size w W
 lo:∀ k,gft p m s1 s2 k → w.heap.size≤k
theorem gOne.below {w W W':World} {p:Nat} {m:Nat × Nat} {s1 s2:Gd} (h:gOne w W p m s1 s2) (hb:Below W.heap.size W W'):gOne w W' p m s1 s2:=⟨h.wh.below hb,h.be.trans (hb.mono h.be.size),h.lo⟩
structure gKept (w W:World) (p:Nat) (m:Nat × Nat) (s1 s2:Gd) (sd:Int) (R:List Rw) (v:Value) (n:Nat) (l:List Int) (fb:Nat) (z:Od):Prop where
 one:gOne w W p m s1 s2
 rs:gRs s1 s2 sd = R
 was:W.ownsRow 0 2 1 v n (l.map (fun p=>Value.int .i64 p))
 bx:Cl 38 W fb (OC z)
 nf:¬ gft p m s1 s2 fb
 nv:∀ j,v.ownBlock = some j → ¬ gft p m s1 s2 j
section
variable {w W W' : World} {p n fb : Nat} {m : Nat × Nat} {s1 s2 s1' s2' : Gd} {sd : Int} {R : List Rw} {v : Value} {l : List Int} {z : Od}
theorem gKept.below (h:gKept w W p m s1 s2 sd R v n l fb z) (hb:Below W.heap.size W W'):gKept w W' p m s1 s2 sd R v n l fb z :=
 ⟨h.one.below hb,h.rs,own_low h.was hb,(hb.block _ (blk_lt h.bx)).trans h.bx,h.nf,h.nv⟩
end
end Go.Proofs.YtikapeaodobkjaaGreat
namespace Go.Proofs.YtikapeaodobkjaaGreat
open Go.RowKit Go.Shelf Go.Sort Go.Maps Go.Lib

def gTrn (W W':World) (p:Nat) (m:Nat × Nat) (s1 s2 s1' s2':Gd):Prop :=
 gWhole W' p m s1' s2'∧Fr (gft p m s1 s2) W W'∧∀ k,gft p m s1' s2' k → gft p m s1 s2 k ∨ W.heap.size≤k
structure gPl (w W:World) (p:Nat) (m:Nat × Nat) (s1 s2:Gd) (wb:Nat) (M:List Od):Prop where
 wh:gWhole W p m s1 s2
 rb:RB W wb M
 be:Below w.heap.size w W
 lo:∀ k,gft p m s1 s2 k → w.heap.size≤k
 low:w.heap.size≤wb
section
variable {w W W' : World} {p wb : Nat} {m : Nat × Nat} {s1 s2 s1' s2' : Gd} {M M' : List Od}
theorem gPl.below (h:gPl w W p m s1 s2 wb M) (hb:Below W.heap.size W W'):gPl w W' p m s1 s2 wb M:=⟨h.wh.below hb,rb_low h.rb hb,h.be.trans (hb.mono h.be.size),h.lo,h.low⟩
theorem gtrn_same (H:gWhole W p m s1 s2) (hb:Below W.heap.size W W'):gTrn W W' p m s1 s2 s1 s2:=⟨H.below hb,Fr.of_below hb,fun _ h=>.inl h⟩
end

theorem gtake_same {w w':World} {p:Nat} {m:Nat × Nat} {s1 s2 s1' s2':Gd} {o:Od} {id:Int} (H:gWhole w p m s1 s2) (k:gTakeIs w w' p m s1 s2 s1' s2' o) (ho:o ∈ bookL s1.rs s2.rs) (he:o.id = id):(bookL s1.rs s2.rs).eraseIdx (idxN id (bookL s1.rs s2.rs)) = bookL s1'.rs s2'.rs:=by
 obtain ⟨h1,h2⟩:=idx_of H.ids ho he
 have hp:=era_perm h1 h2
 refine uniq ?_ ?_ k.tu.wh.pw
 ·exact (List.Perm.cons_inv (hp.symm.trans k.perm))
 ·exact H.pw.sublist (List.eraseIdx_sublist _ _)
theorem gcut_same {w w':World} {p:Nat} {m:Nat × Nat} {s1 s2 s1' s2':Gd} {id qty c:Int} (H:gWhole w p m s1 s2) (k:gCutIs w w' p m s1 s2 s1' s2' id qty c):(cutR id qty (bookL s1.rs s2.rs)) = (c,bookL s1'.rs s2'.rs)∧gTrn w w' p m s1 s2 s1' s2':=by
 rcases k with ⟨rfl,hno,rfl,rfl,hb⟩ | ⟨o,ho,hid,k⟩
 ·refine ⟨?_,gtrn_same H hb⟩
  unfold cutR
  rw [if_neg]
  rw [idx_none hno];exact Nat.lt_irrefl _
 ·obtain ⟨h1,h2⟩:=idx_of H.ids ho hid
  rw [cutR_some rfl h1,h2]
  rcases k with ⟨rfl,hq,rfl,rfl,hb⟩ | ⟨rfl,hq,he,ht⟩ | ⟨rfl,hq,hl,ht⟩
  ·exact ⟨if_pos hq,gtrn_same H hb⟩
  ·rw [if_neg (by omega),if_pos he]
   exact ⟨by rw [gtake_same H ht ho hid],ht.tu.wh,ht.tu.fr,ht.tu.ft⟩
  ·rw [if_neg (by omega),if_neg (by omega)]
   refine ⟨?_,ht.tu.wh,ht.tu.fr,ht.tu.ft⟩
   rw [ht.now]
   congr 1
   have e:bookL s1.rs s2.rs = (bookL s1.rs s2.rs).take (idxN id (bookL s1.rs s2.rs)) ++ o :: (bookL s1.rs s2.rs).drop (idxN id (bookL s1.rs s2.rs) + 1):=by
    have h3:o = (bookL s1.rs s2.rs)[idxN id (bookL s1.rs s2.rs)]'h1:=by rw [← h2,getElem!_pos (bookL s1.rs s2.rs) _ h1]
    rw [h3,← List.drop_eq_getElem_cons h1,List.take_append_drop]
   have h4:=less_map (P:=(bookL s1.rs s2.rs).take (idxN id (bookL s1.rs s2.rs))) (T:=(bookL s1.rs s2.rs).drop (idxN id (bookL s1.rs s2.rs) + 1)) (o:=o) (qty:=qty) (by rw [← e];exact H.ids)
   rw [← e] at h4
   rw [h4,List.set_eq_take_append_cons_drop,if_pos h1]
theorem glev_same {w:World} {p:Nat} {m:Nat × Nat} {s1 s2:Gd} (H:gWhole w p m s1 s2) (sd pr:Int):atP pr (rsq s1.rs s2.rs sd) = levL sd pr (bookL s1.rs s2.rs):=by
 obtain ⟨D,h⟩:=H
 unfold atP
 rw [← sideQ h.ok1 h.ok2 sd]
 unfold levL sideL
 rw [List.filter_filter]
 congr 1
 funext x
 exact Bool.and_comm _ _
theorem hLevel (p:Nat) (m:Nat × Nat) (s1 s2:Gd) (sd pr:Int) (hs:(Lit.int .i64 sd).wf = true) (w:World) (H:gWhole w p m s1 s2) :
  Calls Tryz.prog 205 #[.pointer (some ⟨p,0,none⟩),.int .i64 sd,.int .i64 pr] w fun e w'=>∃ v,e = .returned v∧Hid (w'.ownsRow w.heap.size 38 6 v (levL sd pr (bookL s1.rs s2.rs)).length (ol (levL sd pr (bookL s1.rs s2.rs)))∧Below w.heap.size w w'):=by
 have e:=glev_same H sd pr
 obtain ⟨D,h⟩:=H
 rw [← e]
 exact gLevel_c p m.1 m.2 D s1.g s2.g s1.rs s2.rs sd pr hs w h

abbrev ptA (b:Nat):Value:=.pointer (some ⟨b,0,none⟩)
abbrev lvl (p:Nat):Value:=.iface 102 (ptA p)
abbrev gvl (p:Nat):Value:=.iface 104 (ptA p)
abbrev oV (o:Od):Value:=.agg #[.int .u64 o.id,.int .i64 o.acc,.int .i64 o.side,.int .i64 o.price,.int .i64 o.qty,.int .u64 o.seq]
inductive Held (w:World):Value → Int → List Od → (Nat → Prop) → Prop
 | lad (p m:Nat) (s1 s2:Sd) (h:Whole w p m s1 s2):Held w (lvl p) 1 (bookL s1.rs s2.rs) (foot (some ⟨p,0,none⟩) (some m) s1 s2)
 | gro (p:Nat) (m:Nat × Nat) (s1 s2:Gd) (h:gWhole w p m s1 s2):Held w (gvl p) 2 (bookL s1.rs s2.rs) (gft p m s1 s2)
section
variable {w w' : World} {v : Value} {k : Int} {L : List Od} {S : Nat → Prop}
theorem Held.len (h:Held w v k L S):L.length≤64:=by cases h with | lad _ _ _ _ h=>exact h.len | gro _ _ _ _ h=>exact h.len
theorem Held.ids (h:Held w v k L S):Ids L:=by cases h with | lad _ _ _ _ h=>exact h.ids | gro _ _ _ _ h=>exact h.ids
theorem Held.ok (h:Held w v k L S):∀ x ∈ L,Od.ok w x∧goodO x = true:=by cases h with | lad _ _ _ _ h=>exact h.ok | gro _ _ _ _ h=>exact h.ok
theorem Held.pw (h:Held w v k L S):L.Pairwise (fun x y=>ltO x y = true):=by cases h with | lad _ _ _ _ h=>exact h.pw | gro _ _ _ _ h=>exact h.pw
theorem Held.lt (h:Held w v k L S):∀ j,S j → j < w.heap.size:=by cases h with | lad _ _ _ _ h=>exact fun j hj=>h.bk.lt hj | gro _ _ _ _ h=>exact gft.lt h
theorem Held.fr {R:Nat → Prop} (h:Held w v k L S) (hf:Fr R w w') (hn:∀ j,S j → ¬ R j):Held w' v k L S:=by
 cases h with | lad p m s1 s2 h=>exact .lad p m s1 s2 (h.fr hf hn) | gro p m s1 s2 h=>exact .gro p m s1 s2 (h.fr hf hn)
theorem Held.below (h:Held w v k L S) (hb:Below w.heap.size w w'):Held w' v k L S:=by
 cases h with | lad p m s1 s2 h=>exact .lad p m s1 s2 (h.below hb) | gro p m s1 s2 h=>exact .gro p m s1 s2 (h.below hb)
theorem Held.kind {T:TypeId} {j:Nat} {cs:Array Value} (h:Held w v k L S) (hj:S j) (hc:Cl T w j cs):T = 132 ∨ T = 247 ∨ T = 38 ∨ T = 138 ∨ T = 3 ∨ T = 156 ∨ T = 278 ∨ T = 35:=by
 cases h with
 | lad p m s1 s2 h=>rcases foot_kind h.bk hj hc with e | e | e <;> simp [e]
 | gro p m s1 s2 h=>rcases gft_kind h hj hc with e | e | e | e | e <;> simp [e]
theorem Held.k12 (h:Held w v k L S):k = 1 ∨ k = 2:=by cases h with | lad=>exact .inl rfl | gro=>exact .inr rfl
end
structure HTurn (w w':World) (v:Value) (k:Int) (S:Nat → Prop) (L':List Od) (S':Nat → Prop):Prop where
 hd:Held w' v k L' S'
 fr:Fr S w w'
 ft:∀ j,S' j → S j ∨ w.heap.size≤j
theorem HTurn.same {w w':World} {v:Value} {k:Int} {L:List Od} {S:Nat → Prop} (h:Held w v k L S) (hb:Below w.heap.size w w'):HTurn w w' v k S L S:=⟨h.below hb,Fr.of_below hb,fun _ h=>.inl h⟩
theorem HTurn.after {w w1 w2:World} {v:Value} {k:Int} {L':List Od} {S S':Nat → Prop} (hb:Below w.heap.size w w1) (h:HTurn w1 w2 v k S L' S'):HTurn w w2 v k S L' S' :=
 ⟨h.hd,(Fr.of_below hb:Fr S w w1).trans h.fr (fun _ h=>.inl h),fun j hj=>(h.ft j hj).imp id (fun h'=>Nat.le_trans hb.size h')⟩

def addP (L:List Od) (o:Od):Int × List Od :=
 if goodO o = false then (2,L) else if (L.any fun x=>x.id == o.id) = true then (52,L) else if L.length = 64 then (50,L) else (0,sortO (L ++ [o]))
theorem addP_bad {L:List Od} {o:Od} (h:goodO o = false):addP L o = (2,L):=if_pos h
theorem addP_there {L:List Od} {o:Od} (h:goodO o = true) (hx:∃ x ∈ L,x.id = o.id):addP L o = (52,L):=by
 unfold addP
 rw [if_neg (by rw [h];decide),if_pos]
 obtain ⟨x,hx,he⟩:=hx
 exact List.any_eq_true.2 ⟨x,hx,by simpa using he⟩
theorem any_no {L:List Od} {o:Od} (hx:∀ x ∈ L,¬ x.id = o.id):¬ (L.any fun x=>x.id == o.id) = true:=fun h=>by
 obtain ⟨x,hm,he⟩:=List.any_eq_true.1 h
 exact hx x hm (by simpa using he)
theorem addP_full {L:List Od} {o:Od} (h:goodO o = true) (hx:∀ x ∈ L,¬ x.id = o.id) (hl:L.length = 64):addP L o = (50,L):=by
 unfold addP
 rw [if_neg (by rw [h];decide),if_neg (any_no hx),if_pos hl]
theorem addP_put {L:List Od} {o:Od} (h:goodO o = true) (hx:∀ x ∈ L,¬ x.id = o.id) (hl:L.length < 64):addP L o = (0,sortO (L ++ [o])):=by
 unfold addP
 rw [if_neg (by rw [h];decide),if_neg (any_no hx),if_neg (by omega)]
def AddEnd (w:World) (v:Value) (k:Int) (S:Nat → Prop) (L:List Od) (o:Od) (e:Ending) (w':World):Prop :=
 ∃ S',e = .returned (.int .i64 (addP L o).1)∧Hid (HTurn w w' v k S (addP L o).2 S')
theorem addL (p m:Nat) (s1 s2:Sd) (o:Od) (w:World) (H:Whole w p m s1 s2) (ho:Od.ok w o) :
  Calls Tryz.prog 168 #[ptA p,oV o] w (AddEnd w (lvl p) 1 (foot (some ⟨p,0,none⟩) (some m) s1 s2) (bookL s1.rs s2.rs) o):=by
 refine (lAdd_c p m s1 s2 o w H ho).mono ?_
 rintro e w' ⟨c,s1',s2',rfl,h⟩
 have h:=h.out
 rcases h with ⟨rfl,hg,rfl,rfl,hb⟩ | ⟨hg,rfl,hx,rfl,rfl,hb⟩ | ⟨hg,hid,⟨rfl,hl',rfl,rfl,hb⟩ | ⟨rfl,hl',hp⟩⟩
 ·exact ⟨_,by rw [addP_bad hg],Lib.hid (by rw [addP_bad hg];exact HTurn.same (.lad p m _ _ H) hb)⟩
 ·exact ⟨_,by rw [addP_there hg hx],Lib.hid (by rw [addP_there hg hx];exact HTurn.same (.lad p m _ _ H) hb)⟩
 ·exact ⟨_,by rw [addP_full hg hid hl'],Lib.hid (by rw [addP_full hg hid hl'];exact HTurn.same (.lad p m _ _ H) hb)⟩
 ·refine ⟨foot (some ⟨p,0,none⟩) (some m) s1' s2',by rw [addP_put hg hid hl'],Lib.hid ?_⟩
  rw [addP_put hg hid hl',show ((0:Int),sortO (bookL s1.rs s2.rs ++ [o])).2 = bookL s1'.rs s2'.rs from put_sort hp]
  exact ⟨.lad p m _ _ hp.wh,hp.fr,hp.ft⟩
theorem addG (p:Nat) (m:Nat × Nat) (s1 s2:Gd) (o:Od) (w:World) (H:gWhole w p m s1 s2) (ho:Od.ok w o) :
  Calls Tryz.prog 199 #[ptA p,oV o] w (AddEnd w (gvl p) 2 (gft p m s1 s2) (bookL s1.rs s2.rs) o):=by
 refine (gAdd_c p m s1 s2 o w H ho).mono ?_
 rintro e w' ⟨c,s1',s2',rfl,h⟩
 have h:=h.out
 rcases h with ⟨rfl,hg,rfl,rfl,hb⟩ | ⟨hg,rfl,hx,rfl,rfl,hb⟩ | ⟨hg,hid,⟨rfl,hl',rfl,rfl,hb⟩ | ⟨rfl,hl',hp⟩⟩
 ·exact ⟨_,by rw [addP_bad hg],Lib.hid (by rw [addP_bad hg];exact HTurn.same (.gro p m _ _ H) hb)⟩
 ·exact ⟨_,by rw [addP_there hg hx],Lib.hid (by rw [addP_there hg hx];exact HTurn.same (.gro p m _ _ H) hb)⟩
 ·exact ⟨_,by rw [addP_full hg hid hl'],Lib.hid (by rw [addP_full hg hid hl'];exact HTurn.same (.gro p m _ _ H) hb)⟩
 ·refine ⟨gft p m s1' s2',by rw [addP_put hg hid hl'],Lib.hid ?_⟩
  rw [addP_put hg hid hl',show ((0:Int),sortO (bookL s1.rs s2.rs ++ [o])).2 = bookL s1'.rs s2'.rs from gput_sort hp]
  exact ⟨.gro p m _ _ hp.tu.wh,hp.tu.fr,hp.tu.ft⟩
def oZ (r:Option Od):Od:=r.getD ⟨0,0,0,0,0,0⟩
theorem opt_oZ (r:Option Od):optV r = .agg (OC (oZ r)):=by cases r <;> rfl
def TakEnd (w:World) (v:Value) (k:Int) (S:Nat → Prop) (L:List Od) (id:Int) (e:Ending) (w':World):Prop :=
 ∃ S',e = .returned (.tuple #[.agg (OC (oZ (getO id L))),.bool (getO id L).isSome])∧Hid (HTurn w w' v k S (L.eraseIdx (idxN id L)) S')
theorem takL (p m:Nat) (s1 s2:Sd) (id:Int) (W:World) (H:Whole W p m s1 s2) :
  Calls Tryz.prog 176 #[ptA p,.int .u64 id] W (TakEnd W (lvl p) 1 (foot (some ⟨p,0,none⟩) (some m) s1 s2) (bookL s1.rs s2.rs) id):=by
 have hz:=H.n1
 by_cases hx:∃ x ∈ bookL s1.rs s2.rs,x.id = id
 ·obtain ⟨o,ho,hid⟩:=hx
  refine (lTake_c p m s1 s2 o id W H ho hid).mono ?_
  rintro e w' ⟨rfl,t1,t2,h⟩
  refine ⟨foot (some ⟨p,0,none⟩) (some m) t1 t2,by rw [get_some H.ids ho hid,← opt_oZ];rfl,Lib.hid ?_⟩
  rw [take_same H h.out ho hid]
  exact ⟨.lad p m _ _ h.out.tu.wh,h.out.tu.fr,h.out.tu.ft⟩
 ·have hno:∀ x ∈ bookL s1.rs s2.rs,¬ x.id = id:=fun x hx' he=>hx ⟨x,hx',he⟩
  refine (take_no _ _ s1 s2 id W H.bk (by omega) (by omega) (by omega) hno).mono ?_
  rintro e w' ⟨rfl,h⟩
  refine ⟨foot (some ⟨p,0,none⟩) (some m) s1 s2,by rw [get_none hno,← opt_oZ];rfl,Lib.hid ?_⟩
  rw [erase_none hno]
  exact HTurn.same (.lad p m _ _ H) h.out
theorem takG (p:Nat) (m:Nat × Nat) (s1 s2:Gd) (id:Int) (hwf:(Lit.int .u64 id).wf = true) (W:World) (H:gWhole W p m s1 s2) :
  Calls Tryz.prog 207 #[ptA p,.int .u64 id] W (TakEnd W (gvl p) 2 (gft p m s1 s2) (bookL s1.rs s2.rs) id):=by
 by_cases hx:∃ x ∈ bookL s1.rs s2.rs,x.id = id
 ·obtain ⟨o,ho,hid⟩:=hx
  refine (gTake_c p m s1 s2 o id W H ho hid).mono ?_
  rintro e w' ⟨rfl,t1,t2,h⟩
  refine ⟨gft p m t1 t2,by rw [get_some H.ids ho hid,← opt_oZ];rfl,Lib.hid ?_⟩
  rw [gtake_same H h.out ho hid]
  exact ⟨.gro p m _ _ h.out.tu.wh,h.out.tu.fr,h.out.tu.ft⟩
 ·have hno:∀ x ∈ bookL s1.rs s2.rs,¬ x.id = id:=fun x hx' he=>hx ⟨x,hx',he⟩
  refine (gTake_none p m s1 s2 id hwf W H hno).mono ?_
  rintro e w' ⟨rfl,h⟩
  refine ⟨gft p m s1 s2,by rw [get_none hno,← opt_oZ];rfl,Lib.hid ?_⟩
  rw [erase_none hno]
  exact HTurn.same (.gro p m _ _ H) h.out
def CutEnd (w:World) (v:Value) (k:Int) (S:Nat → Prop) (L:List Od) (id qty:Int) (e:Ending) (w':World):Prop :=
 ∃ S',e = .returned (.int .i64 (cutR id qty L).1)∧Hid (HTurn w w' v k S (cutR id qty L).2 S')
theorem cutL (p m:Nat) (s1 s2:Sd) (id qty:Int) (W:World) (H:Whole W p m s1 s2) :
  Calls Tryz.prog 171 #[ptA p,.int .u64 id,.int .i64 qty] W (CutEnd W (lvl p) 1 (foot (some ⟨p,0,none⟩) (some m) s1 s2) (bookL s1.rs s2.rs) id qty):=by
 refine (lCut_c p m s1 s2 id qty W H).mono ?_
 rintro e w' ⟨c,t1,t2,rfl,h⟩
 obtain ⟨h1,h2⟩:=cut_same H h.out
 exact ⟨foot (some ⟨p,0,none⟩) (some m) t1 t2,by rw [h1],Lib.hid (by rw [h1];exact ⟨.lad p m _ _ h2.1,h2.2.1,h2.2.2⟩)⟩
theorem cutG (p:Nat) (m:Nat × Nat) (s1 s2:Gd) (id qty:Int) (hwf:(Lit.int .u64 id).wf = true) (W:World) (H:gWhole W p m s1 s2) :
  Calls Tryz.prog 202 #[ptA p,.int .u64 id,.int .i64 qty] W (CutEnd W (gvl p) 2 (gft p m s1 s2) (bookL s1.rs s2.rs) id qty):=by
 refine (gCut_c p m s1 s2 id qty hwf W H).mono ?_
 rintro e w' ⟨c,t1,t2,rfl,h⟩
 obtain ⟨h1,h2⟩:=gcut_same H h.out
 exact ⟨gft p m t1 t2,by rw [h1],Lib.hid (by rw [h1];exact ⟨.gro p m _ _ h2.1,h2.2.1,h2.2.2⟩)⟩
def YGetEnd (w:World) (r:Option Od) (e:Ending) (w':World):Prop:=e = .returned (.tuple #[.agg (OC (oZ r)),.bool r.isSome])∧Hid (Below w.heap.size w w')
def RowEnd (w:World) (L:List Od) (e:Ending) (w':World):Prop:=∃ v,e = .returned v∧Hid (w'.ownsRow w.heap.size 38 6 v L.length (ol L)∧Below w.heap.size w w')
theorem bstL (p m:Nat) (s1 s2:Sd) (sd:Int) (hs:(Lit.int .i64 sd).wf = true) (W:World) (H:Whole W p m s1 s2) :
  Calls Tryz.prog 170 #[ptA p,.int .i64 sd] W (YGetEnd W (bestL sd (bookL s1.rs s2.rs))):=by
 refine (lBest_c _ _ s1 s2 sd hs W H.bk H.ne).mono ?_
 rintro e w' ⟨rfl,hr⟩
 exact ⟨by rw [best_book H,opt_oZ],hr⟩
theorem bstG (p:Nat) (m:Nat × Nat) (s1 s2:Gd) (sd:Int) (hs:(Lit.int .i64 sd).wf = true) (W:World) (H:gWhole W p m s1 s2) :
  Calls Tryz.prog 201 #[ptA p,.int .i64 sd] W (YGetEnd W (bestL sd (bookL s1.rs s2.rs))):=by
 refine (hBest p m s1 s2 sd hs W H).mono ?_
 rintro e w' ⟨rfl,hr⟩
 exact ⟨by rw [opt_oZ],hr⟩
theorem allL (p m:Nat) (s1 s2:Sd) (W:World) (H:Whole W p m s1 s2) :
  Calls Tryz.prog 169 #[ptA p] W (RowEnd W (bookL s1.rs s2.rs)):=by
 have hz:=H.n1
 exact lAll_c _ _ s1 s2 W H.bk (by omega) (by omega) (by omega) H.ne
theorem allG (p:Nat) (m:Nat × Nat) (s1 s2:Gd) (W:World) (H:gWhole W p m s1 s2) :
  Calls Tryz.prog 200 #[ptA p] W (RowEnd W (bookL s1.rs s2.rs)):=hAll p m s1 s2 W H
theorem levL' (p m:Nat) (s1 s2:Sd) (sd pr:Int) (hs:(Lit.int .i64 sd).wf = true) (W:World) (H:Whole W p m s1 s2) :
  Calls Tryz.prog 174 #[ptA p,.int .i64 sd,.int .i64 pr] W (RowEnd W (levL sd pr (bookL s1.rs s2.rs))):=by
 have hz:=H.n1
 have k:=lLevel_c _ _ s1 s2 sd pr hs W H.bk H.ok1 H.ok2 (by omega) (by omega) (by omega)
 rw [lev_same H] at k
 exact k
theorem levG (p:Nat) (m:Nat × Nat) (s1 s2:Gd) (sd pr:Int) (hs:(Lit.int .i64 sd).wf = true) (W:World) (H:gWhole W p m s1 s2) :
  Calls Tryz.prog 205 #[ptA p,.int .i64 sd,.int .i64 pr] W (RowEnd W (levL sd pr (bookL s1.rs s2.rs))):=hLevel p m s1 s2 sd pr hs W H
def LenEnd (w:World) (n:Nat) (e:Ending) (w':World):Prop:=e = .returned (.int .i64 (n:Int))∧Hid (Below w.heap.size w w')
theorem lenL (p m:Nat) (s1 s2:Sd) (W:World) (H:Whole W p m s1 s2) :
  Calls Tryz.prog 173 #[ptA p] W (LenEnd W (bookL s1.rs s2.rs).length):=by
 have hz:=H.n1
 have k:=lLen_c _ _ s1 s2 W H.bk (by omega) (by omega) (by omega)
 rw [lenQ_flat,flatR_app] at k
 exact k
theorem lenG (p:Nat) (m:Nat × Nat) (s1 s2:Gd) (W:World) (H:gWhole W p m s1 s2) :
  Calls Tryz.prog 204 #[ptA p] W (LenEnd W (bookL s1.rs s2.rs).length) :=
 (hLen p m s1 s2 W H).mono fun e w' ⟨h1,h2⟩=>⟨h1,by rw [← h2];exact Lib.hid (Below.refl _ _)⟩

structure LyB (w:World) (b:Nat) (v:Value) (k:Int) (L:List Od) (S:Nat → Prop):Prop where
 cl:Cl 97 w b #[.int .i64 k,v]
 hd:Held w v k L S
section
variable {w w' : World} {b : Nat} {v : Value} {k : Int} {L L' : List Od} {S S' : Nat → Prop}
theorem LyB.below (h:LyB w b v k L S) (hb:Below w.heap.size w w'):LyB w' b v k L S:=⟨(hb.block _ (blk_lt h.cl)).trans h.cl,h.hd.below hb⟩
theorem LyB.nf (h:LyB w b v k L S):¬ S b:=fun hs=>by
 rcases h.hd.kind hs h.cl with e | e | e | e | e | e | e | e <;> exact absurd e (by decide)
theorem LyB.fr {R:Nat → Prop} (h:LyB w b v k L S) (hf:Fr R w w') (hb:¬ R b) (hn:∀ j,S j → ¬ R j):LyB w' b v k L S:=⟨hf.blk h.cl hb,h.hd.fr hf hn⟩
theorem LyB.turn (h:LyB w b v k L S) (t:HTurn w w' v k S L' S'):LyB w' b v k L' S':=⟨t.fr.blk h.cl h.nf,t.hd⟩
end
theorem shape {w:World} {v:Value} {k:Int} {L:List Od} {S:Nat → Prop} (h:Held w v k L S):(∃ p,v = lvl p∧k = 1) ∨ (∃ p,v = gvl p∧k = 2):=by
 cases h with | lad p=>exact .inl ⟨p,rfl,rfl⟩ | gro p=>exact .inr ⟨p,rfl,rfl⟩
theorem neqLy (k:Int) (v:Value) (hv:(∃ p,v = lvl p∧k = 1) ∨ (∃ p,v = gvl p∧k = 2)) (w:World):(binOp .neq 97 (.agg #[.int .i64 k,v]) (.agg #[.int .i64 0,.nilIface])).run Tryz.prog w = .ok (.bool true) w:=by
 rcases hv with ⟨p,rfl,rfl⟩ | ⟨p,rfl,rfl⟩ <;> kernel_rfl
theorem eqgLy (k:Int) (v:Value) (hv:(∃ p,v = lvl p∧k = 1) ∨ (∃ p,v = gvl p∧k = 2)) (x y:Nat) (w:World):(eqGuard .neq 97 (.tmp x) (.tmp y) (.agg #[.int .i64 k,v]) (.agg #[.int .i64 0,.nilIface])).run Tryz.prog w = .ok () w:=by
 rcases hv with ⟨p,rfl,rfl⟩ | ⟨p,rfl,rfl⟩ <;> kernel_rfl
theorem made15_c (b:Nat) (v:Value) (k:Int) (L:List Od) (S:Nat → Prop) (w:World) (H:LyB w b v k L S) :
  Calls Tryz.prog 47 #[ptA b] w fun e w'=>e = .returned (.bool true)∧w = w':=by
 have h0:w.cell? ⟨b,0,none⟩ = some (.int .i64 k):=(H.cl.c 0).trans rfl
 have h1:w.cell? ⟨b,1,none⟩ = some v:=(H.cl.c 1).trans rfl
 have hq:=neqLy k v (shape H.hd)
 have hg:=eqgLy k v (shape H.hd)
 clear H
 go_enter Tryz.func47,Tryz.ntmps47
 go_wp2_with fail
 go_ret
 exact ⟨rfl,rfl⟩
theorem held_c (b:Nat) (v:Value) (k:Int) (L:List Od) (S:Nat → Prop) (w:World) (H:LyB w b v k L S) :
  Calls Tryz.prog 48 #[ptA b] w fun e w'=>e = .returned v∧w = w':=by
 have h1:w.cell? ⟨b,1,none⟩ = some v:=(H.cl.c 1).trans rfl
 have HM:=Lib.hid (made15_c b v k L S w H)
 clear H
 go_enter Tryz.func48,Tryz.ntmps48
 go_wp2_with ((with_reducible refine HM.out.mono ?_);rintro e w' ⟨rfl,rfl⟩)
 go_ret
 exact ⟨rfl,rfl⟩
theorem kind_c (b:Nat) (v:Value) (k:Int) (L:List Od) (S:Nat → Prop) (w:World) (H:LyB w b v k L S) :
  Calls Tryz.prog 13 #[ptA b] w fun e w'=>e = .returned (.int .i64 k)∧w = w':=by
 have h1:w.cell? ⟨b,0,none⟩ = some (.int .i64 k):=(H.cl.c 0).trans rfl
 have HM:=Lib.hid (made15_c b v k L S w H)
 clear H
 go_enter Tryz.func13,Tryz.ntmps13
 go_wp2_with ((with_reducible refine HM.out.mono ?_);rintro e w' ⟨rfl,rfl⟩)
 go_ret
 exact ⟨rfl,rfl⟩
theorem zo_cl (w:World):Cl 38 (w.alloc (.cells (OC ⟨0,0,0,0,0,0⟩) 38)) w.heap.size (OC ⟨0,0,0,0,0,0⟩):=hd_last rfl
theorem tak_end {w w0 w':World} {cs:Array Value} {v:Value} {k:Int} {L':List Od} {S S':Nat → Prop} (b0:Below w.heap.size w w0) (h:HTurn w0 w' v k S L' S') (hc:w.heap.size < w0.heap.size) (nf:¬ S w.heap.size) :
  HTurn w (w'.setRow w.heap.size cs) v k S L' S':=by
 have hn:¬ S' w.heap.size:=fun hj=>by
  rcases h.ft _ hj with h' | h'
  ·exact nf h'
  ·omega
 have f1:Fr (fun j=>j = w.heap.size) w' (w'.setRow w.heap.size cs):=⟨rfl,rfl,rfl,by simp [World.setRow],fun j hj hne=>setRow_other w' _ j cs hne⟩
 refine ⟨h.hd.fr f1 (fun j hj e=>hn (by rw [← e];exact hj)),?_,fun j hj=>(h.ft j hj).imp id (fun h'=>Nat.le_trans b0.size h')⟩
 have f0:Fr S w w':=(Fr.of_below b0:Fr S w w0).trans h.fr (fun _ h=>.inl h)
 refine ⟨f1.os.trans f0.os,f1.tape.trans f0.tape,f1.output.trans f0.output,Nat.le_trans f0.size f1.size,fun j hj hs=>?_⟩
 exact (f1.block j (Nat.lt_of_lt_of_le hj f0.size) (by omega)).trans (f0.block j hj hs)
theorem b1_of (w:World) (o:Obj):Below w.heap.size w (w.alloc o):=(Below.refl _ _).alloc (Nat.le_refl _) _
theorem yTakeL (b p:Nat) (m:Nat) (s1 s2:Sd) (id:Int) (hwf:(Lit.int .u64 id).wf = true) (w:World) (hc:Cl 97 w b #[.int .i64 1,lvl p]) (H:Whole w p m s1 s2) :
  Calls Tryz.prog 17 #[ptA b,.int .u64 id] w (TakEnd w (lvl p) 1 (foot (some ⟨p,0,none⟩) (some m) s1 s2) (bookL s1.rs s2.rs) id):=by
 have hm:∀ (x:Value) (w:World),(Go.method 386 102 x "Take").run Tryz.prog w = .ok (176,x) w:=fun x _=>by kernel_rfl
 obtain ⟨w0,hw0⟩:∃ w0,w.alloc (.cells (OC ⟨0,0,0,0,0,0⟩) 38) = w0:=⟨_,rfl⟩
 have b0:Below w.heap.size w w0:=by rw [← hw0];exact b1_of _ _
 have c0:Cl 38 w0 w.heap.size (OC ⟨0,0,0,0,0,0⟩):=by rw [← hw0];exact zo_cl w
 have HH:=Lib.hid (held_c b _ _ _ _ w0 ⟨(b0.block _ (blk_lt hc)).trans hc,.lad p m s1 s2 (H.below b0)⟩)
 have HC:=Lib.hid (takL p m s1 s2 id w0 (H.below b0))
 have hlt:∀ j,(foot (some ⟨p,0,none⟩) (some m) s1 s2) j → j < w.heap.size:=fun j hj=>H.bk.lt hj
 have HB:=Lib.hid (And.intro b0 (And.intro c0 hlt))
 clear H hc b0 c0 hlt
 go_enter Tryz.func17,Tryz.ntmps17
 go_wp2_with ((with_reducible refine HH.out.mono ?_);rintro e w' ⟨rfl,rfl⟩)
 ((with_reducible refine HC.out.mono ?_);rintro e w' ⟨S',rfl,h⟩)
 have nf:¬ (foot (some ⟨p,0,none⟩) (some m) s1 s2) w.heap.size:=fun hj=>Nat.lt_irrefl _ (HB.out.2.2 _ hj)
 have c1:Cl 38 w' w.heap.size (OC ⟨0,0,0,0,0,0⟩):=h.out.fr.blk HB.out.2.1 nf
 have C1:=Lib.hid c1
 have hT:HTurn w (w'.setRow w.heap.size (OC (oZ (getO id (bookL s1.rs s2.rs))))) (lvl p) 1 (foot (some ⟨p,0,none⟩) (some m) s1 s2) ((bookL s1.rs s2.rs).eraseIdx (idxN id (bookL s1.rs s2.rs))) S':=tak_end HB.out.1 h.out (blk_lt HB.out.2.1) nf
 have HT:=Lib.hid hT
 clear hT
 obtain ⟨there,hth⟩:∃ t,(getO id (bookL s1.rs s2.rs)).isSome = t:=⟨_,rfl⟩
 obtain ⟨z,hz⟩:∃ t,oZ (getO id (bookL s1.rs s2.rs)) = t:=⟨_,rfl⟩
 rw [hz] at HT
 rw [hth,hz]
 go_wp2_with ((with_reducible apply storeOd);rfl;rfl;rfl;rfl;exact C1.out;skip)
 refine bodyPost_ret (retOt rfl _ _ _ rfl z _ (setRow_heap _ _ _ _ _ _ C1.out) _ rfl) rfl ?_
 subst hth hz
 exact ⟨S',rfl,HT⟩
theorem yTakeG (b p:Nat) (m:Nat × Nat) (s1 s2:Gd) (id:Int) (hwf:(Lit.int .u64 id).wf = true) (w:World) (hc:Cl 97 w b #[.int .i64 2,gvl p]) (H:gWhole w p m s1 s2) :
  Calls Tryz.prog 17 #[ptA b,.int .u64 id] w (TakEnd w (gvl p) 2 (gft p m s1 s2) (bookL s1.rs s2.rs) id):=by
 have hm:∀ (x:Value) (w:World),(Go.method 386 104 x "Take").run Tryz.prog w = .ok (207,x) w:=fun x _=>by kernel_rfl
 obtain ⟨w0,hw0⟩:∃ w0,w.alloc (.cells (OC ⟨0,0,0,0,0,0⟩) 38) = w0:=⟨_,rfl⟩
 have b0:Below w.heap.size w w0:=by rw [← hw0];exact b1_of _ _
 have c0:Cl 38 w0 w.heap.size (OC ⟨0,0,0,0,0,0⟩):=by rw [← hw0];exact zo_cl w
 have HH:=Lib.hid (held_c b _ _ _ _ w0 ⟨(b0.block _ (blk_lt hc)).trans hc,.gro p m s1 s2 (H.below b0)⟩)
 have HC:=Lib.hid (takG p m s1 s2 id hwf w0 (H.below b0))
 have hlt:∀ j,(gft p m s1 s2) j → j < w.heap.size:=gft.lt H
 have HB:=Lib.hid (And.intro b0 (And.intro c0 hlt))
 clear H hc b0 c0 hlt
 go_enter Tryz.func17,Tryz.ntmps17
 go_wp2_with ((with_reducible refine HH.out.mono ?_);rintro e w' ⟨rfl,rfl⟩)
 ((with_reducible refine HC.out.mono ?_);rintro e w' ⟨S',rfl,h⟩)
 have nf:¬ (gft p m s1 s2) w.heap.size:=fun hj=>Nat.lt_irrefl _ (HB.out.2.2 _ hj)
 have c1:Cl 38 w' w.heap.size (OC ⟨0,0,0,0,0,0⟩):=h.out.fr.blk HB.out.2.1 nf
 have C1:=Lib.hid c1
 have hT:HTurn w (w'.setRow w.heap.size (OC (oZ (getO id (bookL s1.rs s2.rs))))) (gvl p) 2 (gft p m s1 s2) ((bookL s1.rs s2.rs).eraseIdx (idxN id (bookL s1.rs s2.rs))) S':=tak_end HB.out.1 h.out (blk_lt HB.out.2.1) nf
 have HT:=Lib.hid hT
 clear hT
 obtain ⟨there,hth⟩:∃ t,(getO id (bookL s1.rs s2.rs)).isSome = t:=⟨_,rfl⟩
 obtain ⟨z,hz⟩:∃ t,oZ (getO id (bookL s1.rs s2.rs)) = t:=⟨_,rfl⟩
 rw [hz] at HT
 rw [hth,hz]
 go_wp2_with ((with_reducible apply storeOd);rfl;rfl;rfl;rfl;exact C1.out;skip)
 refine bodyPost_ret (retOt rfl _ _ _ rfl z _ (setRow_heap _ _ _ _ _ _ C1.out) _ rfl) rfl ?_
 subst hth hz
 exact ⟨S',rfl,HT⟩
theorem yTake_c (b:Nat) (v:Value) (k:Int) (L:List Od) (S:Nat → Prop) (id:Int) (hwf:(Lit.int .u64 id).wf = true) (w:World) (H:LyB w b v k L S) :
  Calls Tryz.prog 17 #[ptA b,.int .u64 id] w (TakEnd w v k S L id):=by
 obtain ⟨hc,h⟩:=H
 cases h with
 | lad p m s1 s2 h=>exact yTakeL b p m s1 s2 id hwf w hc h
 | gro p m s1 s2 h=>exact yTakeG b p m s1 s2 id hwf w hc h
theorem yCutL (b p:Nat) (m:Nat) (s1 s2:Sd) (id qty:Int) (hwf:(Lit.int .u64 id).wf = true) (w:World) (hc:Cl 97 w b #[.int .i64 1,lvl p]) (H:Whole w p m s1 s2) :
  Calls Tryz.prog 20 #[ptA b,.int .u64 id,.int .i64 qty] w (CutEnd w (lvl p) 1 (foot (some ⟨p,0,none⟩) (some m) s1 s2) (bookL s1.rs s2.rs) id qty):=by
 have hm:∀ (x:Value) (w:World),(Go.method 386 102 x "Cut").run Tryz.prog w = .ok (171,x) w:=fun x _=>by kernel_rfl
 have HH:=Lib.hid (held_c b _ _ _ _ w ⟨hc,.lad p m s1 s2 H⟩)
 have HC:=Lib.hid (cutL p m s1 s2 id qty w H)
 clear H hc
 go_enter Tryz.func20,Tryz.ntmps20
 go_wp2_with ((with_reducible refine HH.out.mono ?_);rintro e w' ⟨rfl,rfl⟩)
 ((with_reducible refine HC.out.mono ?_);rintro e w' ⟨S',rfl,h⟩)
 go_wp2_with fail
 go_ret
 exact ⟨S',rfl,h⟩
theorem yCutG (b p:Nat) (m:Nat × Nat) (s1 s2:Gd) (id qty:Int) (hwf:(Lit.int .u64 id).wf = true) (w:World) (hc:Cl 97 w b #[.int .i64 2,gvl p]) (H:gWhole w p m s1 s2) :
  Calls Tryz.prog 20 #[ptA b,.int .u64 id,.int .i64 qty] w (CutEnd w (gvl p) 2 (gft p m s1 s2) (bookL s1.rs s2.rs) id qty):=by
 have hm:∀ (x:Value) (w:World),(Go.method 386 104 x "Cut").run Tryz.prog w = .ok (202,x) w:=fun x _=>by kernel_rfl
 have HH:=Lib.hid (held_c b _ _ _ _ w ⟨hc,.gro p m s1 s2 H⟩)
 have HC:=Lib.hid (cutG p m s1 s2 id qty hwf w H)
 clear H hc
 go_enter Tryz.func20,Tryz.ntmps20
 go_wp2_with ((with_reducible refine HH.out.mono ?_);rintro e w' ⟨rfl,rfl⟩)
 ((with_reducible refine HC.out.mono ?_);rintro e w' ⟨S',rfl,h⟩)
 go_wp2_with fail
 go_ret
 exact ⟨S',rfl,h⟩
theorem yCut_c (b:Nat) (v:Value) (k:Int) (L:List Od) (S:Nat → Prop) (id qty:Int) (hwf:(Lit.int .u64 id).wf = true) (w:World) (H:LyB w b v k L S) :
  Calls Tryz.prog 20 #[ptA b,.int .u64 id,.int .i64 qty] w (CutEnd w v k S L id qty):=by
 obtain ⟨hc,h⟩:=H
 cases h with
 | lad p m s1 s2 h=>exact yCutL b p m s1 s2 id qty hwf w hc h
 | gro p m s1 s2 h=>exact yCutG b p m s1 s2 id qty hwf w hc h
theorem yBestL (b p:Nat) (m:Nat) (s1 s2:Sd) (sd:Int) (hs:(Lit.int .i64 sd).wf = true) (w:World) (hc:Cl 97 w b #[.int .i64 1,lvl p]) (H:Whole w p m s1 s2) :
  Calls Tryz.prog 25 #[ptA b,.int .i64 sd] w (YGetEnd w (bestL sd (bookL s1.rs s2.rs))):=by
 have hm:∀ (x:Value) (w:World),(Go.method 386 102 x "Best").run Tryz.prog w = .ok (170,x) w:=fun x _=>by kernel_rfl
 obtain ⟨w0,hw0⟩:∃ w0,w.alloc (.cells (OC ⟨0,0,0,0,0,0⟩) 38) = w0:=⟨_,rfl⟩
 have b0:Below w.heap.size w w0:=by rw [← hw0];exact b1_of _ _
 have c0:Cl 38 w0 w.heap.size (OC ⟨0,0,0,0,0,0⟩):=by rw [← hw0];exact zo_cl w
 have HH:=Lib.hid (held_c b _ _ _ _ w0 ⟨(b0.block _ (blk_lt hc)).trans hc,.lad p m s1 s2 (H.below b0)⟩)
 have HC:=Lib.hid (bstL p m s1 s2 sd hs w0 (H.below b0))
 have hlt:∀ j,(foot (some ⟨p,0,none⟩) (some m) s1 s2) j → j < w.heap.size:=fun j hj=>H.bk.lt hj
 have HB:=Lib.hid (And.intro b0 (And.intro c0 hlt))
 clear H hc b0 c0 hlt
 go_enter Tryz.func25,Tryz.ntmps25
 go_wp2_with ((with_reducible refine HH.out.mono ?_);rintro e w' ⟨rfl,rfl⟩)
 ((with_reducible refine HC.out.mono ?_);rintro e w' ⟨rfl,h⟩)
 have c1:Cl 38 w' w.heap.size (OC ⟨0,0,0,0,0,0⟩):=(h.out.block _ (blk_lt HB.out.2.1)).trans HB.out.2.1
 have C1:=Lib.hid c1
 obtain ⟨there,hth⟩:∃ t,(bestL sd (bookL s1.rs s2.rs)).isSome = t:=⟨_,rfl⟩
 obtain ⟨z,hz⟩:∃ t,oZ (bestL sd (bookL s1.rs s2.rs)) = t:=⟨_,rfl⟩
 rw [hth,hz]
 go_wp2_with ((with_reducible apply storeOd);rfl;rfl;rfl;rfl;exact C1.out;skip)
 refine bodyPost_ret (retOt rfl _ _ _ rfl z _ (setRow_heap _ _ _ _ _ _ C1.out) _ rfl) rfl ?_
 subst hth hz
 exact ⟨rfl,Lib.hid (below_row (HB.out.1.trans (h.out.mono HB.out.1.size)) (Nat.le_refl _))⟩
theorem yBestG (b p:Nat) (m:Nat × Nat) (s1 s2:Gd) (sd:Int) (hs:(Lit.int .i64 sd).wf = true) (w:World) (hc:Cl 97 w b #[.int .i64 2,gvl p]) (H:gWhole w p m s1 s2) :
  Calls Tryz.prog 25 #[ptA b,.int .i64 sd] w (YGetEnd w (bestL sd (bookL s1.rs s2.rs))):=by
 have hm:∀ (x:Value) (w:World),(Go.method 386 104 x "Best").run Tryz.prog w = .ok (201,x) w:=fun x _=>by kernel_rfl
 obtain ⟨w0,hw0⟩:∃ w0,w.alloc (.cells (OC ⟨0,0,0,0,0,0⟩) 38) = w0:=⟨_,rfl⟩
 have b0:Below w.heap.size w w0:=by rw [← hw0];exact b1_of _ _
 have c0:Cl 38 w0 w.heap.size (OC ⟨0,0,0,0,0,0⟩):=by rw [← hw0];exact zo_cl w
 have HH:=Lib.hid (held_c b _ _ _ _ w0 ⟨(b0.block _ (blk_lt hc)).trans hc,.gro p m s1 s2 (H.below b0)⟩)
 have HC:=Lib.hid (bstG p m s1 s2 sd hs w0 (H.below b0))
 have hlt:∀ j,(gft p m s1 s2) j → j < w.heap.size:=gft.lt H
 have HB:=Lib.hid (And.intro b0 (And.intro c0 hlt))
 clear H hc b0 c0 hlt
 go_enter Tryz.func25,Tryz.ntmps25
 go_wp2_with ((with_reducible refine HH.out.mono ?_);rintro e w' ⟨rfl,rfl⟩)
 ((with_reducible refine HC.out.mono ?_);rintro e w' ⟨rfl,h⟩)
 have c1:Cl 38 w' w.heap.size (OC ⟨0,0,0,0,0,0⟩):=(h.out.block _ (blk_lt HB.out.2.1)).trans HB.out.2.1
 have C1:=Lib.hid c1
 obtain ⟨there,hth⟩:∃ t,(bestL sd (bookL s1.rs s2.rs)).isSome = t:=⟨_,rfl⟩
 obtain ⟨z,hz⟩:∃ t,oZ (bestL sd (bookL s1.rs s2.rs)) = t:=⟨_,rfl⟩
 rw [hth,hz]
 go_wp2_with ((with_reducible apply storeOd);rfl;rfl;rfl;rfl;exact C1.out;skip)
 refine bodyPost_ret (retOt rfl _ _ _ rfl z _ (setRow_heap _ _ _ _ _ _ C1.out) _ rfl) rfl ?_
 subst hth hz
 exact ⟨rfl,Lib.hid (below_row (HB.out.1.trans (h.out.mono HB.out.1.size)) (Nat.le_refl _))⟩
theorem yBest_c (b:Nat) (v:Value) (k:Int) (L:List Od) (S:Nat → Prop) (sd:Int) (hs:(Lit.int .i64 sd).wf = true) (w:World) (H:LyB w b v k L S) :
  Calls Tryz.prog 25 #[ptA b,.int .i64 sd] w (YGetEnd w (bestL sd L)):=by
 obtain ⟨hc,h⟩:=H
 cases h with
 | lad p m s1 s2 h=>exact yBestL b p m s1 s2 sd hs w hc h
 | gro p m s1 s2 h=>exact yBestG b p m s1 s2 sd hs w hc h
theorem yLevelL (b p:Nat) (m:Nat) (s1 s2:Sd) (sd pr:Int) (hs:(Lit.int .i64 sd).wf = true) (w:World) (hc:Cl 97 w b #[.int .i64 1,lvl p]) (H:Whole w p m s1 s2) :
  Calls Tryz.prog 28 #[ptA b,.int .i64 sd,.int .i64 pr] w (RowEnd w (levL sd pr (bookL s1.rs s2.rs))):=by
 have hm:∀ (x:Value) (w:World),(Go.method 386 102 x "Level").run Tryz.prog w = .ok (174,x) w:=fun x _=>by kernel_rfl
 have HH:=Lib.hid (held_c b _ _ _ _ w ⟨hc,.lad p m s1 s2 H⟩)
 have HC:=Lib.hid (levL' p m s1 s2 sd pr hs w H)
 clear H hc
 go_enter Tryz.func28,Tryz.ntmps28
 go_wp2_with ((with_reducible refine HH.out.mono ?_);rintro e w' ⟨rfl,rfl⟩)
 ((with_reducible refine HC.out.mono ?_);rintro e w' ⟨v',rfl,h⟩)
 go_wp2_with fail
 go_ret
 exact ⟨v',rfl,h⟩
theorem yLevelG (b p:Nat) (m:Nat × Nat) (s1 s2:Gd) (sd pr:Int) (hs:(Lit.int .i64 sd).wf = true) (w:World) (hc:Cl 97 w b #[.int .i64 2,gvl p]) (H:gWhole w p m s1 s2) :
  Calls Tryz.prog 28 #[ptA b,.int .i64 sd,.int .i64 pr] w (RowEnd w (levL sd pr (bookL s1.rs s2.rs))):=by
 have hm:∀ (x:Value) (w:World),(Go.method 386 104 x "Level").run Tryz.prog w = .ok (205,x) w:=fun x _=>by kernel_rfl
 have HH:=Lib.hid (held_c b _ _ _ _ w ⟨hc,.gro p m s1 s2 H⟩)
 have HC:=Lib.hid (levG p m s1 s2 sd pr hs w H)
 clear H hc
 go_enter Tryz.func28,Tryz.ntmps28
 go_wp2_with ((with_reducible refine HH.out.mono ?_);rintro e w' ⟨rfl,rfl⟩)
 ((with_reducible refine HC.out.mono ?_);rintro e w' ⟨v',rfl,h⟩)
 go_wp2_with fail
 go_ret
 exact ⟨v',rfl,h⟩
theorem yLevel_c (b:Nat) (v:Value) (k:Int) (L:List Od) (S:Nat → Prop) (sd pr:Int) (hs:(Lit.int .i64 sd).wf = true) (w:World) (H:LyB w b v k L S) :
  Calls Tryz.prog 28 #[ptA b,.int .i64 sd,.int .i64 pr] w (RowEnd w (levL sd pr L)):=by
 obtain ⟨hc,h⟩:=H
 cases h with
 | lad p m s1 s2 h=>exact yLevelL b p m s1 s2 sd pr hs w hc h
 | gro p m s1 s2 h=>exact yLevelG b p m s1 s2 sd pr hs w hc h
theorem yAllL (b p:Nat) (m:Nat) (s1 s2:Sd)  (w:World) (hc:Cl 97 w b #[.int .i64 1,lvl p]) (H:Whole w p m s1 s2) :
  Calls Tryz.prog 15 #[ptA b] w (RowEnd w (bookL s1.rs s2.rs)):=by
 have hm:∀ (x:Value) (w:World),(Go.method 386 102 x "All").run Tryz.prog w = .ok (169,x) w:=fun x _=>by kernel_rfl
 have HH:=Lib.hid (held_c b _ _ _ _ w ⟨hc,.lad p m s1 s2 H⟩)
 have HC:=Lib.hid (allL p m s1 s2  w H)
 clear H hc
 go_enter Tryz.func15,Tryz.ntmps15
 go_wp2_with ((with_reducible refine HH.out.mono ?_);rintro e w' ⟨rfl,rfl⟩)
 ((with_reducible refine HC.out.mono ?_);rintro e w' ⟨v',rfl,h⟩)
 go_wp2_with fail
 go_ret
 exact ⟨v',rfl,h⟩
theorem yAllG (b p:Nat) (m:Nat × Nat) (s1 s2:Gd)  (w:World) (hc:Cl 97 w b #[.int .i64 2,gvl p]) (H:gWhole w p m s1 s2) :
  Calls Tryz.prog 15 #[ptA b] w (RowEnd w (bookL s1.rs s2.rs)):=by
 have hm:∀ (x:Value) (w:World),(Go.method 386 104 x "All").run Tryz.prog w = .ok (200,x) w:=fun x _=>by kernel_rfl
 have HH:=Lib.hid (held_c b _ _ _ _ w ⟨hc,.gro p m s1 s2 H⟩)
 have HC:=Lib.hid (allG p m s1 s2  w H)
 clear H hc
 go_enter Tryz.func15,Tryz.ntmps15
 go_wp2_with ((with_reducible refine HH.out.mono ?_);rintro e w' ⟨rfl,rfl⟩)
 ((with_reducible refine HC.out.mono ?_);rintro e w' ⟨v',rfl,h⟩)
 go_wp2_with fail
 go_ret
 exact ⟨v',rfl,h⟩
theorem yAll_c (b:Nat) (v:Value) (k:Int) (L:List Od) (S:Nat → Prop)  (w:World) (H:LyB w b v k L S) :
  Calls Tryz.prog 15 #[ptA b] w (RowEnd w L):=by
 obtain ⟨hc,h⟩:=H
 cases h with
 | lad p m s1 s2 h=>exact yAllL b p m s1 s2  w hc h
 | gro p m s1 s2 h=>exact yAllG b p m s1 s2  w hc h
theorem yLenL (b p:Nat) (m:Nat) (s1 s2:Sd)  (w:World) (hc:Cl 97 w b #[.int .i64 1,lvl p]) (H:Whole w p m s1 s2) :
  Calls Tryz.prog 27 #[ptA b] w (LenEnd w (bookL s1.rs s2.rs).length):=by
 have hm:∀ (x:Value) (w:World),(Go.method 386 102 x "Len").run Tryz.prog w = .ok (173,x) w:=fun x _=>by kernel_rfl
 have HH:=Lib.hid (held_c b _ _ _ _ w ⟨hc,.lad p m s1 s2 H⟩)
 have HC:=Lib.hid (lenL p m s1 s2  w H)
 clear H hc
 go_enter Tryz.func27,Tryz.ntmps27
 go_wp2_with ((with_reducible refine HH.out.mono ?_);rintro e w' ⟨rfl,rfl⟩)
 ((with_reducible refine HC.out.mono ?_);rintro e w' ⟨rfl,h⟩)
 go_wp2_with fail
 go_ret
 exact ⟨rfl,h⟩
theorem yLenG (b p:Nat) (m:Nat × Nat) (s1 s2:Gd)  (w:World) (hc:Cl 97 w b #[.int .i64 2,gvl p]) (H:gWhole w p m s1 s2) :
  Calls Tryz.prog 27 #[ptA b] w (LenEnd w (bookL s1.rs s2.rs).length):=by
 have hm:∀ (x:Value) (w:World),(Go.method 386 104 x "Len").run Tryz.prog w = .ok (204,x) w:=fun x _=>by kernel_rfl
 have HH:=Lib.hid (held_c b _ _ _ _ w ⟨hc,.gro p m s1 s2 H⟩)
 have HC:=Lib.hid (lenG p m s1 s2  w H)
 clear H hc
 go_enter Tryz.func27,Tryz.ntmps27
 go_wp2_with ((with_reducible refine HH.out.mono ?_);rintro e w' ⟨rfl,rfl⟩)
 ((with_reducible refine HC.out.mono ?_);rintro e w' ⟨rfl,h⟩)
 go_wp2_with fail
 go_ret
 exact ⟨rfl,h⟩
theorem yLen_c (b:Nat) (v:Value) (k:Int) (L:List Od) (S:Nat → Prop)  (w:World) (H:LyB w b v k L S) :
  Calls Tryz.prog 27 #[ptA b] w (LenEnd w L.length):=by
 obtain ⟨hc,h⟩:=H
 cases h with
 | lad p m s1 s2 h=>exact yLenL b p m s1 s2  w hc h
 | gro p m s1 s2 h=>exact yLenG b p m s1 s2  w hc h

theorem lt_tot {x y:Od} (gx:goodO x = true) (gy:goodO y = true) (hi:¬ x.id = y.id) (h:ltO y x = false):ltO x y = true:=by
 rw [ltO_no] at h
 rw [ltO_iff]
 have kx:kiO x = x.id:=by unfold kiO;rw [if_pos (good_side gx)]
 have ky:kiO y = y.id:=by unfold kiO;rw [if_pos (good_side gy)]
 rw [kx,ky] at h ⊢
 unfold Lex at *
 omega
theorem book_facts {L:List Od} (h:bookO L = true):L.length≤64∧(∀ x ∈ L,goodO x = true)∧Ids L∧L.Pairwise (fun x y=>ltO x y = true):=by
 obtain ⟨h1,h2,h3,h4⟩:=(book_iff L).1 h
 have hi:Ids L:=by
  have:=List.pairwise_map.1 (List.nodup_iff_pairwise_ne.1 h3)
  exact this.imp (fun h=>h)
 refine ⟨h1,h2,hi,?_⟩
 have hw:=sortO_weak L
 rw [← h4] at hw
 have hb:=hi.and hw
 refine List.Pairwise.imp_of_mem ?_ hb
 intro x y hx hy hxy
 exact lt_tot (h2 x hx) (h2 y hy) hxy.1 hxy.2
theorem facts_book {L:List Od} (h1:L.length≤64) (h2:∀ x ∈ L,goodO x = true) (h3:Ids L) (h4:L.Pairwise (fun x y=>ltO x y = true)):bookO L = true:=by
 refine (book_iff L).2 ⟨h1,h2,List.nodup_iff_pairwise_ne.2 (List.pairwise_map.2 (h3.imp fun h=>h)),(sortO_uniq (List.Perm.refl _) h4).symm⟩
theorem HTurn.trans {w w1 w2:World} {v:Value} {k:Int} {L1 L2:List Od} {S S1 S2:Nat → Prop} (h:HTurn w w1 v k S L1 S1) (g:HTurn w1 w2 v k S1 L2 S2):HTurn w w2 v k S L2 S2 :=
 ⟨g.hd,h.fr.trans g.fr h.ft,fun j hj=>by
  rcases g.ft j hj with h' | h'
  ·exact h.ft j h'
  ·exact .inr (Nat.le_trans h.fr.size h')⟩
structure LyNew (w w':World) (b:Nat) (v:Value) (k:Int) (L:List Od) (S:Nat → Prop):Prop where
 ly:LyB w' b v k L S
 be:Below w.heap.size w w'
 lo:∀ j,S j → w.heap.size≤j
 lb:w.heap.size≤b
theorem make1_c (w:World):Calls Tryz.prog 18 #[.int .i64 1] w fun e w'=>∃ b p S,e = .returned (ptA b)∧Hid (LyNew w w' b (lvl p) 1 [] S):=by
 have HN:=Lib.hid (new_c w)
 go_enter Tryz.func18,Tryz.ntmps18
 go_wp2_with ((with_reducible refine HN.out.mono ?_);rintro e w1 ⟨rfl,h⟩)
 go_ret
 have hb:=b1_of w1 (.cells #[.int .i64 1,lvl (w.heap.size + 1)] 97)
 refine ⟨w1.heap.size,w.heap.size + 1,foot (some ⟨w.heap.size + 1,0,none⟩) (some w.heap.size) nilS nilS,rfl,Lib.hid ⟨⟨hd_last rfl,.lad _ _ nilS nilS ((whole_new h.out.1).below hb)⟩,h.out.2.trans (hb.mono h.out.2.size),fun j hj=>?_,h.out.2.size⟩⟩
 rcases whole_foot hj with e | e <;> omega
theorem make2_c (w:World):Calls Tryz.prog 18 #[.int .i64 2] w fun e w'=>∃ b p S,e = .returned (ptA b)∧Hid (LyNew w w' b (gvl p) 2 [] S):=by
 have HN:=Lib.hid (gNew_is w)
 go_enter Tryz.func18,Tryz.ntmps18
 go_wp2_with ((with_reducible refine HN.out.mono ?_);rintro e w1 ⟨p,m,s1,s2,rfl,h⟩)
 go_ret
 have hb:=b1_of w1 (.cells #[.int .i64 2,gvl p] 97)
 have hg:=Held.gro p m s1 s2 (h.out.wh.below hb)
 rw [h.out.nil] at hg
 exact ⟨w1.heap.size,p,gft p m s1 s2,rfl,Lib.hid ⟨⟨hd_last rfl,hg⟩,h.out.be.trans (hb.mono h.out.be.size),h.out.lo,h.out.be.size⟩⟩
theorem make0_c (k:Int) (h1:¬ k = 1) (h2:¬ k = 2) (w:World):Calls Tryz.prog 18 #[.int .i64 k] w fun e w'=>e = .returned (.pointer none)∧w = w':=by
 have e1:(k == 1) = false:=by simp [h1]
 have e2:(k == 2) = false:=by simp [h2]
 go_enter Tryz.func18,Tryz.ntmps18
 go_wp2_with fail
 go_ret
 exact ⟨rfl,rfl⟩
theorem make_c (k:Int) (hk:k = 1 ∨ k = 2) (w:World):Calls Tryz.prog 18 #[.int .i64 k] w fun e w'=>∃ b v S,e = .returned (ptA b)∧Hid (LyNew w w' b v k [] S):=by
 rcases hk with rfl | rfl
 ·exact (make1_c w).mono fun e w' ⟨b,p,S,h,g⟩=>⟨b,_,S,h,g⟩
 ·exact (make2_c w).mono fun e w' ⟨b,p,S,h,g⟩=>⟨b,_,S,h,g⟩
theorem held_lad {W:World} {v:Value} {k:Int} {L:List Od} {S:Nat → Prop} {x:Od} (h:Held W v k L S) (hx:Od.ok W x) {p:Nat} (e:v = lvl p):Calls Tryz.prog 168 #[ptA p,oV x] W (AddEnd W v k S L x):=by
 cases h with
 | lad q m s1 s2 h=>injection e with _ e;injection e with e;injection e with e;injection e with e;subst e;exact addL q m s1 s2 x W h hx
 | gro q m s1 s2 h=>injection e with e _;exact absurd e (by decide)
theorem held_gro {W:World} {v:Value} {k:Int} {L:List Od} {S:Nat → Prop} {x:Od} (h:Held W v k L S) (hx:Od.ok W x) {p:Nat} (e:v = gvl p):Calls Tryz.prog 199 #[ptA p,oV x] W (AddEnd W v k S L x):=by
 cases h with
 | gro q m s1 s2 h=>injection e with _ e;injection e with e;injection e with e;injection e with e;subst e;exact addG q m s1 s2 x W h hx
 | lad q m s1 s2 h=>injection e with e _;exact absurd e (by decide)
structure FlI (w0 w wr:World) (v:Value) (k:Int) (S:Nat → Prop) (L:List Od) (i:Nat) (Si:Nat → Prop):Prop where
 tu:HTurn w wr v k S (L.take i) Si
 be:Below w0.heap.size w0 wr
theorem FlI.step {w0 w wr w':World} {v:Value} {k:Int} {S Si S':Nat → Prop} {L:List Od} {i:Nat} {o:Obj} (h:FlI w0 w wr v k S L i Si) (hS:∀ j,S j → w0.heap.size≤j) (hbe:Below w0.heap.size w0 w) (hB:bookO L = true) (hi:i < L.length)
  (t:HTurn (wr.alloc o) w' v k Si (addP (L.take i) (L[i]!)).2 S'):FlI w0 w w' v k S L (i + 1) S':=by
 obtain ⟨h1,h2,h3,h4⟩:=book_facts hB
 have ex:L[i]! = L[i]:=getElem!_pos L i hi
 have et:L.take (i + 1) = L.take i ++ [L[i]]:=List.take_succ_eq_append_getElem hi
 have hp:addP (L.take i) (L[i]!) = (0,L.take (i + 1)):=by
  rw [ex,addP_put (h2 _ (List.getElem_mem hi)) (fun x hx=>?_) (by rw [List.length_take];omega),← et,sortO_uniq (List.Perm.refl _) (h4.sublist (List.take_sublist _ _))]
  rw [List.take_succ_eq_append_getElem hi] at et
  have:=h3.sublist (List.take_sublist (i + 1) L)
  rw [List.take_succ_eq_append_getElem hi] at this
  exact (List.pairwise_append.1 this).2.2 x hx _ (List.mem_singleton.2 rfl)
 rw [hp] at t
 have t1:HTurn w w' v k S (L.take (i + 1)) S':=h.tu.trans (HTurn.after (b1_of wr o) t)
 exact ⟨t1,hbe.trans (t1.fr.below hS hbe.size)⟩
theorem fill_lad (p:Nat) (v:Value) (ev:v = lvl p) (k:Int) (S:Nat → Prop) (A:Option Addr) (n c:Nat) (L:List Od) (w0 w:World) (hO:Ods w0 A n L) (hbe:Below w0.heap.size w0 w) (H:Held w v k [] S) (hS:∀ j,S j → w0.heap.size≤j) (hB:bookO L = true) :
  Calls Tryz.prog 44 #[.func (.method "Add") #[lvl p] #[],.slice A n c] w fun e w'=>e = .returned (.tuple #[])∧∃ S',Hid (HTurn w w' v k S L S'):=by
 have hm:∀ (x:Value) (w:World),(Go.method 386 102 x "Add").run Tryz.prog w = .ok (168,x) w:=fun x _=>by kernel_rfl
 have hn:=hO.1
 have hn64:(n:Int)≤64:=by have:=(book_facts hB).1;omega
 have HO:=Lib.hid hO
 have HBb:=Lib.hid hB
 have HBe:=Lib.hid hbe
 have HS:=Lib.hid hS
 have HN:=Lib.hid hn
 have HH:=Lib.hid H
 have HEv:=Lib.hid ev
 clear hO hB hbe hS hn H ev
 go_enter Tryz.func44,Tryz.ntmps44
 go_wp2_with fail
 go_loopw [8] (fun s wr=>∃ (i:Nat) (Si:Nat → Prop),s = .int .i64 (i:Int)∧Hid (i≤n∧FlI w0 w wr v k S L i Si)) (fun s _=>match s with | .int _ z=>n - z.toNat | _=>0)
 case atStart=>exact ⟨0,S,rfl,Nat.zero_le _,by rw [List.take_zero];exact HTurn.same HH.out (Below.refl _ _),HBe.out⟩
 case round =>
  obtain ⟨i,Si,rfl,hd⟩:=hrel
  by_cases hi:i < n
  ·have hiI:(i:Int) < (n:Int):=by omega
   have h1:=(HO.out.below hd.out.2.be).2.2.2
   rcases h1 with h1 | ⟨b,off,rfl,_,hc⟩
   ·omega
   have hx:=hc i hi
   have hok:=HO.out.2.2.1 (L[i]!) (by rw [getElem!_pos L i (by rw [HN.out];exact hi)];exact List.getElem_mem (by rw [HN.out];exact hi))
   clear hc
   have HA:=Lib.hid (held_lad (hd.out.2.tu.hd.below (b1_of wr (.cells (OC (L[i]!)) 38))) hok HEv.out)
   have HF:Hid (∀ w' S',HTurn (wr.alloc (.cells (OC (L[i]!)) 38)) w' v k Si (addP (L.take i) (L[i]!)).2 S' → FlI w0 w w' v k S L (i + 1) S'):=Lib.hid fun w' S' t=>hd.out.2.step HS.out HBe.out HBb.out (by rw [HN.out];exact hi) t
   have Hi:=Lib.hid hi
   clear hd hi hok
   obtain ⟨x,ex⟩:∃ x,L[i]! = x:=⟨_,rfl⟩
   rw [ex] at hx HF HA
   obtain ⟨x0,x1,x2,x3,x4,x5⟩:=hx
   go_wp2_with fail
   ((with_reducible refine HA.out.mono ?_);rintro e w3 ⟨S',rfl,ht⟩)
   go_wp2_with fail
   exact ⟨⟨i + 1,S',rfl,Hi.out,HF.out _ _ ht.out⟩,less_left Hi.out⟩
  ·obtain rfl:i = n:=by have:=hd.out.1;omega
   have hiI:¬ (i:Int) < (i:Int):=by omega
   go_wp2_with fail
   go_end0
   have:=hd.out.2.tu
   rw [List.take_of_length_le (by rw [HN.out];exact Nat.le_refl _)] at this
   exact ⟨rfl,Si,Lib.hid this⟩
theorem fill_gro (p:Nat) (v:Value) (ev:v = gvl p) (k:Int) (S:Nat → Prop) (A:Option Addr) (n c:Nat) (L:List Od) (w0 w:World) (hO:Ods w0 A n L) (hbe:Below w0.heap.size w0 w) (H:Held w v k [] S) (hS:∀ j,S j → w0.heap.size≤j) (hB:bookO L = true) :
  Calls Tryz.prog 44 #[.func (.method "Add") #[gvl p] #[],.slice A n c] w fun e w'=>e = .returned (.tuple #[])∧∃ S',Hid (HTurn w w' v k S L S'):=by
 have hm:∀ (x:Value) (w:World),(Go.method 386 104 x "Add").run Tryz.prog w = .ok (199,x) w:=fun x _=>by kernel_rfl
 have hn:=hO.1
 have hn64:(n:Int)≤64:=by have:=(book_facts hB).1;omega
 have HO:=Lib.hid hO
 have HBb:=Lib.hid hB
 have HBe:=Lib.hid hbe
 have HS:=Lib.hid hS
 have HN:=Lib.hid hn
 have HH:=Lib.hid H
 have HEv:=Lib.hid ev
 clear hO hB hbe hS hn H ev
 go_enter Tryz.func44,Tryz.ntmps44
 go_wp2_with fail
 go_loopw [8] (fun s wr=>∃ (i:Nat) (Si:Nat → Prop),s = .int .i64 (i:Int)∧Hid (i≤n∧FlI w0 w wr v k S L i Si)) (fun s _=>match s with | .int _ z=>n - z.toNat | _=>0)
 case atStart=>exact ⟨0,S,rfl,Nat.zero_le _,by rw [List.take_zero];exact HTurn.same HH.out (Below.refl _ _),HBe.out⟩
 case round =>
  obtain ⟨i,Si,rfl,hd⟩:=hrel
  by_cases hi:i < n
  ·have hiI:(i:Int) < (n:Int):=by omega
   have h1:=(HO.out.below hd.out.2.be).2.2.2
   rcases h1 with h1 | ⟨b,off,rfl,_,hc⟩
   ·omega
   have hx:=hc i hi
   have hok:=HO.out.2.2.1 (L[i]!) (by rw [getElem!_pos L i (by rw [HN.out];exact hi)];exact List.getElem_mem (by rw [HN.out];exact hi))
   clear hc
   have HA:=Lib.hid (held_gro (hd.out.2.tu.hd.below (b1_of wr (.cells (OC (L[i]!)) 38))) hok HEv.out)
   have HF:Hid (∀ w' S',HTurn (wr.alloc (.cells (OC (L[i]!)) 38)) w' v k Si (addP (L.take i) (L[i]!)).2 S' → FlI w0 w w' v k S L (i + 1) S'):=Lib.hid fun w' S' t=>hd.out.2.step HS.out HBe.out HBb.out (by rw [HN.out];exact hi) t
   have Hi:=Lib.hid hi
   clear hd hi hok
   obtain ⟨x,ex⟩:∃ x,L[i]! = x:=⟨_,rfl⟩
   rw [ex] at hx HF HA
   obtain ⟨x0,x1,x2,x3,x4,x5⟩:=hx
   go_wp2_with fail
   ((with_reducible refine HA.out.mono ?_);rintro e w3 ⟨S',rfl,ht⟩)
   go_wp2_with fail
   exact ⟨⟨i + 1,S',rfl,Hi.out,HF.out _ _ ht.out⟩,less_left Hi.out⟩
  ·obtain rfl:i = n:=by have:=hd.out.1;omega
   have hiI:¬ (i:Int) < (i:Int):=by omega
   go_wp2_with fail
   go_end0
   have:=hd.out.2.tu
   rw [List.take_of_length_le (by rw [HN.out];exact Nat.le_refl _)] at this
   exact ⟨rfl,Si,Lib.hid this⟩
theorem ordBook_c (A:Option Addr) (n c:Nat) (L:List Od) (w:World) (H:Ods w A n L):Calls Tryz.prog 43 #[.slice A n c] w (BookIs w (bookO L)):=by
 by_cases h:n≤64
 ·exact book_c A n c L w H h (sort64_c n h)
 ·exact bookLong_c A n c L w H.1 h
theorem build1_c (A:Option Addr) (n c:Nat) (L:List Od) (w:World) (H:Ods w A n L) (hB:bookO L = true) :
  Calls Tryz.prog 10 #[.int .i64 1,.slice A n c] w fun e w'=>∃ b p S,e = .returned (.tuple #[ptA b,.int .i64 0])∧Hid (LyNew w w' b (lvl p) 1 L S):=by
 have HMk:=Lib.hid (make1_c w)
 have HO:=Lib.hid H
 have HB:=Lib.hid hB
 clear H hB
 go_enter Tryz.func10,Tryz.ntmps10
 go_wp2_with (first
  | ((with_reducible refine HMk.out.mono ?_);rintro e w1 ⟨b,p,S,rfl,hN⟩;have HBk:=Lib.hid (by have:=ordBook_c A n c L w1 (HO.out.below hN.out.be);rwa [HB.out] at this);clear HMk)
  | ((with_reducible refine HBk.out.mono ?_);rintro e w2 ⟨rfl,h2⟩;have H2:=Lib.hid (hN.out.ly.below h2);have B2:=Lib.hid (hN.out.be.trans (h2.mono hN.out.be.size));clear h2 HBk;have c1:w2.cell? ⟨b,1,none⟩ = some (lvl p):=(H2.out.cl.c 1).trans rfl;have HF:=Lib.hid (fill_lad p _ rfl 1 S A n c L w w2 HO.out B2.out H2.out.hd hN.out.lo HB.out))
  | ((with_reducible refine HF.out.mono ?_);rintro e w3 ⟨rfl,S',ht⟩))
 refine bodyPost_ret (results_tmp2 rfl _ _ _) rfl ?_
 have hb3:Below w.heap.size w w3:=B2.out.trans (ht.out.fr.below hN.out.lo B2.out.size)
 refine ⟨b,p,S',rfl,Lib.hid ⟨H2.out.turn ht.out,hb3,fun j hj=>?_,hN.out.lb⟩⟩
 rcases ht.out.ft j hj with h | h
 ·exact hN.out.lo j h
 ·exact Nat.le_trans B2.out.size h
theorem build2_c (A:Option Addr) (n c:Nat) (L:List Od) (w:World) (H:Ods w A n L) (hB:bookO L = true) :
  Calls Tryz.prog 10 #[.int .i64 2,.slice A n c] w fun e w'=>∃ b p S,e = .returned (.tuple #[ptA b,.int .i64 0])∧Hid (LyNew w w' b (gvl p) 2 L S):=by
 have HMk:=Lib.hid (make2_c w)
 have HO:=Lib.hid H
 have HB:=Lib.hid hB
 clear H hB
 go_enter Tryz.func10,Tryz.ntmps10
 go_wp2_with (first
  | ((with_reducible refine HMk.out.mono ?_);rintro e w1 ⟨b,p,S,rfl,hN⟩;have HBk:=Lib.hid (by have:=ordBook_c A n c L w1 (HO.out.below hN.out.be);rwa [HB.out] at this);clear HMk)
  | ((with_reducible refine HBk.out.mono ?_);rintro e w2 ⟨rfl,h2⟩;have H2:=Lib.hid (hN.out.ly.below h2);have B2:=Lib.hid (hN.out.be.trans (h2.mono hN.out.be.size));clear h2 HBk;have c1:w2.cell? ⟨b,1,none⟩ = some (gvl p):=(H2.out.cl.c 1).trans rfl;have HF:=Lib.hid (fill_gro p _ rfl 2 S A n c L w w2 HO.out B2.out H2.out.hd hN.out.lo HB.out))
  | ((with_reducible refine HF.out.mono ?_);rintro e w3 ⟨rfl,S',ht⟩))
 refine bodyPost_ret (results_tmp2 rfl _ _ _) rfl ?_
 have hb3:Below w.heap.size w w3:=B2.out.trans (ht.out.fr.below hN.out.lo B2.out.size)
 refine ⟨b,p,S',rfl,Lib.hid ⟨H2.out.turn ht.out,hb3,fun j hj=>?_,hN.out.lb⟩⟩
 rcases ht.out.ft j hj with h | h
 ·exact hN.out.lo j h
 ·exact Nat.le_trans B2.out.size h
theorem build_c (k:Int) (hk:k = 1 ∨ k = 2) (A:Option Addr) (n c:Nat) (L:List Od) (w:World) (H:Ods w A n L) (hB:bookO L = true) :
  Calls Tryz.prog 10 #[.int .i64 k,.slice A n c] w fun e w'=>∃ b v S,e = .returned (.tuple #[ptA b,.int .i64 0])∧Hid (LyNew w w' b v k L S):=by
 rcases hk with rfl | rfl
 ·exact (build1_c A n c L w H hB).mono fun e w' ⟨b,p,S,h,g⟩=>⟨b,_,S,h,g⟩
 ·exact (build2_c A n c L w H hB).mono fun e w' ⟨b,p,S,h,g⟩=>⟨b,_,S,h,g⟩
def NoEnd (w:World) (e:Ending) (w':World):Prop:=e = .returned (.tuple #[.pointer none,.int .i64 2])∧Hid (Below w.heap.size w w')
theorem build_no (k:Int) (h1:¬ k = 1) (h2:¬ k = 2) (A:Option Addr) (n c:Nat) (w:World) :
  Calls Tryz.prog 10 #[.int .i64 k,.slice A n c] w (NoEnd w):=by
 have HMk:=Lib.hid (make0_c k h1 h2 w)
 clear h1 h2
 go_enter Tryz.func10,Tryz.ntmps10
 go_wp2_with ((with_reducible refine HMk.out.mono ?_);rintro e w1 ⟨rfl,rfl⟩)
 refine bodyPost_ret (results_tmp2 rfl _ _ _) rfl ?_
 exact ⟨rfl,Lib.hid (Below.refl _ _)⟩
theorem build_bad (k:Int) (hk:k = 1 ∨ k = 2) (A:Option Addr) (n c:Nat) (L:List Od) (w:World) (H:Ods w A n L) (hB:bookO L = false) :
  Calls Tryz.prog 10 #[.int .i64 k,.slice A n c] w (NoEnd w):=by
 have HMk:=Lib.hid (make_c k hk w)
 have HO:=Lib.hid H
 have HB:=Lib.hid hB
 clear H hB hk
 go_enter Tryz.func10,Tryz.ntmps10
 go_wp2_with (first
  | ((with_reducible refine HMk.out.mono ?_);rintro e w1 ⟨b,v,S,rfl,hN⟩;have HBk:=Lib.hid (by have:=ordBook_c A n c L w1 (HO.out.below hN.out.be);rwa [HB.out] at this);clear HMk)
  | ((with_reducible refine HBk.out.mono ?_);rintro e w2 ⟨rfl,h2⟩))
 refine bodyPost_ret (results_tmp2 rfl _ _ _) rfl ?_
 exact ⟨rfl,Lib.hid (hN.out.be.trans (h2.mono hN.out.be.size))⟩

theorem row_ods {w w':World} {L:List Od} {v:Value} (h:w'.ownsRow w.heap.size 38 6 v L.length (ol L)) (hl:L.length≤64) (hok:∀ x ∈ L,Od.ok w x):∃ A c,v = .slice A L.length c∧Ods w' A L.length L∧w'.ownsRow 0 38 6 (.slice A L.length c) L.length (ol L):=by
 obtain ⟨A,c,rfl,_,ho⟩:=own_ods h (by omega) (fun x hx=>by have:=hok x hx;exact this)
 exact ⟨A,c,rfl,ho,own_base h (Nat.zero_le _)⟩
end Go.Proofs.YtikapeaodobkjaaGreat
