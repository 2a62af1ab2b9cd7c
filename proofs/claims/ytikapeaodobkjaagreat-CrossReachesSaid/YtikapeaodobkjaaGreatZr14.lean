/- What the laws lean on, in a few texts (by shake.py): number 14 of 16. -/
import Derived.Test.YtikapeaodobkjaaGreatZr1
import Derived.Test.YtikapeaodobkjaaGreatZr2
import Derived.Test.YtikapeaodobkjaaGreatZr4
import Derived.Test.YtikapeaodobkjaaGreatZr6
import Derived.Test.YtikapeaodobkjaaGreatZr5
import Derived.Test.YtikapeaodobkjaaGreatZr7
import Derived.Test.YtikapeaodobkjaaGreatZr12
import Derived.Test.YtikapeaodobkjaaGreatZr10
import Derived.Test.YtikapeaodobkjaaGreatZr9
import Derived.Test.YtikapeaodobkjaaGreatZr11
import Derived.Test.YtikapeaodobkjaaGreatZr13
import Derived.Test.YtikapeaodobkjaaGreatZr3
import Derived.Shelf.SlSortCmp.QuietGrown
import Derived.Laws.OwnMore
import Derived.Laws.AppendOwnNone
import Derived.OpenShut
import Derived.Deep.Slices
import Derived.Deep.Fields
import Derived.ChangeSame
import Derived.Maps.RangeWalk

set_option maxHeartbeats 16000000
set_option maxRecDepth 1000000
set_option linter.unusedVariables false
set_option linter.unusedSimpArgs false
namespace Go.Proofs.YtikapeaodobkjaaGreat
open _root_.Go.Proofs.Tryz
section
open Go.RowKit Go.Sort Go.Lib Go.Maps Go.Shelf
theorem qi3 {W:World}{p:Nat}{m:Nat×Nat}{s1 s2:Gd}(H:gWhole W p m s1 s2){k:Nat}(hk:gft p m s1 s2 k){cs:Array Value}{T:TypeId}(h:Cl T W k cs):T=138∨T=3∨T=156∨T=278∨T=35:=by
 obtain⟨D,H⟩:=H
 have e:∀{T':TypeId} {cs':Array Value},Cl T' W k cs'->T=T':=λa=>by
  have a':=h.symm.trans a;injection a' with a';injection a' with _ a'
 have sd:∀{s:Int} {g:Sg},SgIn W s g->QF g k->T=138∨T=3∨T=156∨T=278∨T=35:=λhs hf=>by
  rcases hs.cls hf with ⟨_,c,a⟩ | ⟨_,c,a⟩ | ⟨_,c,a⟩ | ⟨_,c,a⟩
  ·exact .inr (.inl (e a))
  ·exact .inr (.inr (.inl (e a)))
  ·exact .inr (.inr (.inr (.inl (e a))))
  ·exact .inr (.inr (.inr (.inr (e a))))
 rcases hk with rfl|hk|hk|hk|hk
 ·exact .inl (e H.bookp)
 ·exact absurd hk (ZS h (H.gk.om _ _ rfl))
 ·exact absurd hk (ZS h (H.gk.sm _ _ rfl))
 ·exact sd (H.gk.s1 rfl) hk
 ·exact sd (H.gk.s2 rfl) hk
theorem gWhole.fr {S:Nat->Prop}{w w':World}{p:Nat}{m:Nat×Nat}{s1 s2:Gd}(h:gWhole w p m s1 s2)(hf:Fr S w w')(hn:∀k,gft p m s1 s2 k->¬S k):gWhole w' p m s1 s2:=by
 obtain⟨D,h⟩:=h
 exact⟨D,h.fr hf hn⟩
theorem gWhole.len {w:World}{p:Nat}{m:Nat×Nat}{s1 s2:Gd}(h:gWhole w p m s1 s2):(Qa s1.rs s2.rs).length<=64:=by
 obtain⟨D,h⟩:=h;exact h.len
theorem gWhole.ok {w:World}{p:Nat}{m:Nat×Nat}{s1 s2:Gd}(h:gWhole w p m s1 s2):∀x∈Qa s1.rs s2.rs,Od.ok w x/\Qk x=true:=by
 obtain⟨D,h⟩:=h;exact h.ok
theorem qi4 {w w':World}{p:Nat}{m:Nat×Nat}{s1 s2 s1' s2':Gd}{o:Od}(h:gPutIs w w' p m s1 s2 s1' s2' o):QZ (Qa s1.rs s2.rs++[o])=Qa s1'.rs s2'.rs :=
 YS (h.perm.trans (Rk (l₁:=[o]) (l₂:=Qa s1.rs s2.rs))) h.tu.wh.pw
structure gNewIs (w w':World) (p:Nat) (m:Nat×Nat) (s1 s2:Gd):Prop where
 wh:gWhole w' p m s1 s2
 nil:Qa s1.rs s2.rs=[]
 be:Ok w w'
 lo:∀k,gft p m s1 s2 k->w.heap.size<=k
theorem qi5 (w:World):Calls prog 51 #[] w λe w'=>∃p m s1 s2,e=.returned (.pointer (some ⟨p,0,none⟩))/\Hid (gNewIs w w' p m s1 s2) :=
 (qiT w).mono λe w' ⟨p,m,s1,s2,he,h⟩=>⟨p,m,s1,s2,he,Ou ⟨h.out.1,h.out.2.1,h.out.2.2.1,h.out.2.2.2⟩⟩
end
section
open Go.RowKit Go.ChangeShapes Go.WideShapes Go.Deep
structure Op where
 kind:Int
 id:Int
 acc:Int
 side:Int
 price:Int
 qt:Int
 seq:Int
 n:Int
 qty:Int
instance : Inhabited Op := ⟨⟨0, 0, 0, 0, 0, 0, 0, 0, 0⟩⟩
def Op.ok (w:World)(x:Op):Prop:=(-9223372036854775808<=x.kind/\x.kind<=9223372036854775807)/\(0<=x.id/\x.id<=18446744073709551615)/\(-9223372036854775808<=x.acc/\x.acc<=9223372036854775807)/\(-9223372036854775808<=x.side/\x.side<=9223372036854775807)/\(-9223372036854775808<=x.price/\x.price<=9223372036854775807)/\(-9223372036854775808<=x.qt/\x.qt<=9223372036854775807)/\(0<=x.seq/\x.seq<=18446744073709551615)/\(0<=x.n/\x.n<=18446744073709551615)/\(-9223372036854775808<=x.qty/\x.qty<=9223372036854775807)
def Op.val (x:Op):Value:=.agg #[(.int .i64 x.kind),(.int .u64 x.id),(.int .i64 x.acc),(.int .i64 x.side),(.int .i64 x.price),(.int .i64 x.qt),(.int .u64 x.seq),(.int .u64 x.n),(.int .i64 x.qty)]
end
section
open Go.RowKit Go.Shelf Go.Sort Go.Lib Go.Maps
theorem gWhole.ids {w:World}{p:Nat}{m:Nat×Nat}{s1 s2:Gd}(h:gWhole w p m s1 s2):Ids (Qa s1.rs s2.rs):=by
 obtain⟨D,h⟩:=h;exact h.ids
section
variable {w W W':World}{p n fb:Nat}{m:Nat × Nat}{s1 s2 s1' s2':Gd}{sd:Int}{R:List Rw}{v:Value}{l:List Int}{z:Od}
end
end
section
open Go.RowKit Go.Shelf Go.Sort Go.Maps Go.Lib
def qbe (W W':World)(p:Nat)(m:Nat×Nat)(s1 s2 s1' s2':Gd):Prop :=
 gWhole W' p m s1' s2'/\Fr (gft p m s1 s2) W W'/\∀k,gft p m s1' s2' k->gft p m s1 s2 k∨W.heap.size<=k
section
variable {w W W':World}{p wb:Nat}{m:Nat × Nat}{s1 s2 s1' s2':Gd}{M M':List Od}
theorem qbf (H:gWhole W p m s1 s2)(hb:Ok W W'):qbe W W' p m s1 s2 s1 s2:=⟨H.below hb,Fr.of_below hb,λ_ h=>.inl h⟩
end
theorem qbg {w w':World}{p:Nat}{m:Nat×Nat}{s1 s2 s1' s2':Gd}{o:Od}{id:Int}(H:gWhole w p m s1 s2)(k:gTakeIs w w' p m s1 s2 s1' s2' o)(ho:o∈Qa s1.rs s2.rs)(he:o.id=id):(Qa s1.rs s2.rs).eraseIdx (QB id (Qa s1.rs s2.rs))=Qa s1'.rs s2'.rs:=by
 obtain⟨h1,h2⟩:=J0 H.ids ho he
 have hp:=Xg h1 h2
 refine UB ?_ ?_ k.tu.wh.pw
 ·exact(List.Perm.cons_inv (hp.symm.trans k.perm))
 ·exact H.pw.sublist (Rv _ _)
theorem qi6 {w w':World}{p:Nat}{m:Nat×Nat}{s1 s2 s1' s2':Gd}{id qty c:Int}(H:gWhole w p m s1 s2)(k:qa0 w w' p m s1 s2 s1' s2' id qty c):(QU id qty (Qa s1.rs s2.rs))=(c,Qa s1'.rs s2'.rs)/\qbe w w' p m s1 s2 s1' s2':=by
 rcases k with ⟨rfl,hno,rfl,rfl,hb⟩ | ⟨o,ho,hid,k⟩
 ·refine⟨?_,qbf H hb⟩;unfold QU;rw[Sw];rw[Xn hno];exact Ay _
 ·obtain⟨h1,h2⟩:=J0 H.ids ho hid;rw[Xr rfl h1,h2];rcases k with ⟨rfl,hq,rfl,rfl,hb⟩ | ⟨rfl,hq,he,ht⟩ | ⟨rfl,hq,hl,ht⟩
  ·exact⟨Sx hq,qbf H hb⟩
  ·rw[Sw Oz,Sx he];exact⟨by rw[qbg H ht ho hid],ht.tu.wh,ht.tu.fr,ht.tu.ft⟩
  ·rw[Sw Oz,Sw (by omega)];refine⟨?_,ht.tu.wh,ht.tu.fr,ht.tu.ft⟩;rw[ht.now]
   congr 1
   have e:Qa s1.rs s2.rs=(Qa s1.rs s2.rs).take (QB id (Qa s1.rs s2.rs))++o :: (Qa s1.rs s2.rs).drop (QB id (Qa s1.rs s2.rs)+1):=by
    have h3:o=(Qa s1.rs s2.rs)[QB id (Qa s1.rs s2.rs)]'h1:=by rw[<-h2,Sj (Qa s1.rs s2.rs) _ h1]
    rw[h3,<-Au h1,Fz]
   have h4:=Vn (P:=(Qa s1.rs s2.rs).take (QB id (Qa s1.rs s2.rs))) (T:=(Qa s1.rs s2.rs).drop (QB id (Qa s1.rs s2.rs)+1)) (o:=o) (qty:=qty) (by rw[<-e];exact H.ids);rw[<-e]at h4;rw[h4,List.set_eq_take_append_cons_drop,Sx h1]
theorem qi7 {w:World}{p:Nat}{m:Nat×Nat}{s1 s2:Gd}(H:gWhole w p m s1 s2)(sd pr:Int):atP pr (rsq s1.rs s2.rs sd)=QR sd pr (Qa s1.rs s2.rs):=by
 obtain⟨D,h⟩:=H
 unfold atP
 rw[<-qbd h.ok1 h.ok2 sd]
 unfold QR Zo
 rw[List.filter_filter]
 congr 1
 funext x
 exact Bool.and_comm _ _
theorem qi8 (p:Nat)(m:Nat×Nat)(s1 s2:Gd)(sd pr:Int)(hs:(Lit.int .i64 sd).wf=true)(w:World)(H:gWhole w p m s1 s2) :
  Calls prog 205 #[.pointer (some ⟨p,0,none⟩),.int .i64 sd,.int .i64 pr] w λe w'=>∃v,e=.returned v/\Hid (w'.ownsRow w.heap.size 38 6 v (QR sd pr (Qa s1.rs s2.rs)).length (ol (QR sd pr (Qa s1.rs s2.rs)))/\Ok w w'):=by
 have e:=qi7 H sd pr
 obtain⟨D,h⟩:=H
 rw[<-e]
 exact qij p m.1 m.2 D s1.g s2.g s1.rs s2.rs sd pr hs w h
abbrev ptA (b:Nat):Value:=.pointer (some ⟨b,0,none⟩)
abbrev lvl (p:Nat):Value:=.iface 102 (ptA p)
abbrev gvl (p:Nat):Value:=.iface 104 (ptA p)
abbrev oV (o:Od):Value:=.agg #[.int .u64 o.id,.int .i64 o.acc,.int .i64 o.side,.int .i64 o.price,.int .i64 o.qty,.int .u64 o.seq]
inductive Held (w:World):Value->Int->List Od->(Nat->Prop)->Prop
 | lad (p m:Nat) (s1 s2:Sd) (h:Whole w p m s1 s2):Held w (lvl p) 1 (Qa s1.rs s2.rs) (QI (some ⟨p,0,none⟩) (some m) s1 s2)
 | gro (p:Nat) (m:Nat×Nat) (s1 s2:Gd) (h:gWhole w p m s1 s2):Held w (gvl p) 2 (Qa s1.rs s2.rs) (gft p m s1 s2)
section
variable {w w':World}{v:Value}{k:Int}{L:List Od}{S:Nat → Prop}
theorem Held.len (h:Held w v k L S):L.length<=64:=by cases h with|lad _ _ _ _ h=>exact h.len|gro _ _ _ _ h=>exact h.len
theorem Held.ids (h:Held w v k L S):Ids L:=by cases h with|lad _ _ _ _ h=>exact h.ids|gro _ _ _ _ h=>exact h.ids
theorem Held.ok (h:Held w v k L S):∀x∈L,Od.ok w x/\Qk x=true:=by cases h with|lad _ _ _ _ h=>exact h.ok|gro _ _ _ _ h=>exact h.ok
theorem Held.pw (h:Held w v k L S):L.Pairwise (λx y=>ltO x y=true):=by cases h with|lad _ _ _ _ h=>exact h.pw|gro _ _ _ _ h=>exact h.pw
theorem Held.lt (h:Held w v k L S):∀j,S j->j<w.heap.size:=by cases h with|lad _ _ _ _ h=>exact λj hj=>h.bk.lt hj|gro _ _ _ _ h=>exact gft.lt h
theorem Held.fr {R:Nat->Prop}(h:Held w v k L S)(hf:Fr R w w')(hn:∀j,S j->¬R j):Held w' v k L S:=by
 cases h with|lad p m s1 s2 h=>exact .lad p m s1 s2 (h.fr hf hn)|gro p m s1 s2 h=>exact .gro p m s1 s2 (h.fr hf hn)
theorem Held.below (h:Held w v k L S)(hb:Ok w w'):Held w' v k L S:=by
 cases h with|lad p m s1 s2 h=>exact .lad p m s1 s2 (h.below hb)|gro p m s1 s2 h=>exact .gro p m s1 s2 (h.below hb)
theorem Held.kind {T:TypeId}{j:Nat}{cs:Array Value}(h:Held w v k L S)(hj:S j)(hc:Cl T w j cs):T=132∨T=247∨T=38∨T=138∨T=3∨T=156∨T=278∨T=35:=by
 cases h with
 | lad p m s1 s2 h=>rcases qhI h.bk hj hc with e|e|e<;>simp[e]
 | gro p m s1 s2 h=>rcases qi3 h hj hc with e|e|e|e|e<;>simp[e]
theorem Held.k12 (h:Held w v k L S):k=1∨k=2:=by cases h with|lad=>exact .inl rfl|gro=>exact .inr rfl
end
structure HTurn (w w':World) (v:Value) (k:Int) (S:Nat->Prop) (L':List Od) (S':Nat->Prop):Prop where
 hd:Held w' v k L' S'
 fr:Fr S w w'
 ft:∀j,S' j->S j∨w.heap.size<=j
theorem HTurn.same {w w':World}{v:Value}{k:Int}{L:List Od}{S:Nat->Prop}(h:Held w v k L S)(hb:Ok w w'):HTurn w w' v k S L S:=⟨h.below hb,Fr.of_below hb,λ_ h=>.inl h⟩
theorem HTurn.after {w w1 w2:World}{v:Value}{k:Int}{L':List Od}{S S':Nat->Prop}(hb:Ok w w1)(h:HTurn w1 w2 v k S L' S'):HTurn w w2 v k S L' S' :=
 ⟨h.hd,(Fr.of_below hb:Fr S w w1).trans h.fr (λ_ h=>.inl h),λj hj=>(h.ft j hj).imp id (λh'=>Sk hb.size h')⟩
def Jm (L:List Od)(o:Od):Int×List Od :=
 if Qk o=false then (2,L) else if (L.any λx=>x.id==o.id)=true then (52,L) else if L.length=64 then (50,L) else (0,QZ (L++[o]))
theorem XE {L:List Od}{o:Od}(h:Qk o=false):Jm L o=(2,L):=Sx h
theorem XF {L:List Od}{o:Od}(h:Qk o=true)(hx:∃x∈L,x.id=o.id):Jm L o=(52,L):=by
 unfold Jm
 rw[Sw (by rw[h];decide),Sx]
 obtain⟨x,hx,he⟩:=hx
 exact List.any_eq_true.2 ⟨x,hx,by simpa using he⟩
theorem qbh {L:List Od}{o:Od}(hx:∀x∈L,¬x.id=o.id):¬(L.any λx=>x.id==o.id)=true:=λh=>by
 obtain⟨x,hm,he⟩:=List.any_eq_true.1 h
 exact hx x hm (by simpa using he)
theorem XG {L:List Od}{o:Od}(h:Qk o=true)(hx:∀x∈L,¬x.id=o.id)(hl:L.length=64):Jm L o=(50,L):=by
 unfold Jm
 rw[Sw (by rw[h];decide),Sw (qbh hx),Sx hl]
theorem Ya {L:List Od}{o:Od}(h:Qk o=true)(hx:∀x∈L,¬x.id=o.id)(hl:L.length<64):Jm L o=(0,QZ (L++[o])):=by
 unfold Jm
 rw[Sw (by rw[h];decide),Sw (qbh hx),Sw (by omega)]
def XH (w:World)(v:Value)(k:Int)(S:Nat->Prop)(L:List Od)(o:Od)(e:Ending)(w':World):Prop :=
 ∃S',e=.returned (.int .i64 (Jm L o).1)/\Hid (HTurn w w' v k S (Jm L o).2 S')
theorem qi9 (p m:Nat)(s1 s2:Sd)(o:Od)(w:World)(H:Whole w p m s1 s2)(ho:Od.ok w o) :
  Calls prog 168 #[ptA p,oV o] w (XH w (lvl p) 1 (QI (some ⟨p,0,none⟩) (some m) s1 s2) (Qa s1.rs s2.rs) o):=by
 refine(qgJ p m s1 s2 o w H ho).mono ?_
 rintro e w' ⟨c,s1',s2',rfl,h⟩
 have h:=h.out
 rcases h with ⟨rfl,hg,rfl,rfl,hb⟩ | ⟨hg,rfl,hx,rfl,rfl,hb⟩ | ⟨hg,hid,⟨rfl,hl',rfl,rfl,hb⟩ | ⟨rfl,hl',hp⟩⟩
 ·exact⟨_,by rw[XE hg],Ou (by rw[XE hg];exact HTurn.same (.lad p m _ _ H) hb)⟩
 ·exact⟨_,by rw[XF hg hx],Ou (by rw[XF hg hx];exact HTurn.same (.lad p m _ _ H) hb)⟩
 ·exact⟨_,by rw[XG hg hid hl'],Ou (by rw[XG hg hid hl'];exact HTurn.same (.lad p m _ _ H) hb)⟩
 ·refine⟨QI (some ⟨p,0,none⟩) (some m) s1' s2',by rw[Ya hg hid hl'],Ou ?_⟩;rw[Ya hg hid hl',show ((0:Int),QZ (Qa s1.rs s2.rs++[o])).2=Qa s1'.rs s2'.rs from qhJ hp];exact⟨.lad p m _ _ hp.wh,hp.fr,hp.ft⟩
theorem qja (p:Nat)(m:Nat×Nat)(s1 s2:Gd)(o:Od)(w:World)(H:gWhole w p m s1 s2)(ho:Od.ok w o) :
  Calls prog 199 #[ptA p,oV o] w (XH w (gvl p) 2 (gft p m s1 s2) (Qa s1.rs s2.rs) o):=by
 refine(qiC p m s1 s2 o w H ho).mono ?_
 rintro e w' ⟨c,s1',s2',rfl,h⟩
 have h:=h.out
 rcases h with ⟨rfl,hg,rfl,rfl,hb⟩ | ⟨hg,rfl,hx,rfl,rfl,hb⟩ | ⟨hg,hid,⟨rfl,hl',rfl,rfl,hb⟩ | ⟨rfl,hl',hp⟩⟩
 ·exact⟨_,by rw[XE hg],Ou (by rw[XE hg];exact HTurn.same (.gro p m _ _ H) hb)⟩
 ·exact⟨_,by rw[XF hg hx],Ou (by rw[XF hg hx];exact HTurn.same (.gro p m _ _ H) hb)⟩
 ·exact⟨_,by rw[XG hg hid hl'],Ou (by rw[XG hg hid hl'];exact HTurn.same (.gro p m _ _ H) hb)⟩
 ·refine⟨gft p m s1' s2',by rw[Ya hg hid hl'],Ou ?_⟩;rw[Ya hg hid hl',show ((0:Int),QZ (Qa s1.rs s2.rs++[o])).2=Qa s1'.rs s2'.rs from qi4 hp];exact⟨.gro p m _ _ hp.tu.wh,hp.tu.fr,hp.tu.ft⟩
def oZ (r:Option Od):Od:=r.getD ⟨0,0,0,0,0,0⟩
theorem Kg (r:Option Od):QG r=.agg (OC (oZ r)):=by cases r<;>rfl
def Vv (w:World)(v:Value)(k:Int)(S:Nat->Prop)(L:List Od)(id:Int)(e:Ending)(w':World):Prop :=
 ∃S',e=.returned (.tuple #[.agg (OC (oZ (Zg id L))),.bool (Zg id L).isSome])/\Hid (HTurn w w' v k S (L.eraseIdx (QB id L)) S')
theorem qjb (p m:Nat)(s1 s2:Sd)(id:Int)(W:World)(H:Whole W p m s1 s2) :
  Calls prog 176 #[ptA p,.int .u64 id] W (Vv W (lvl p) 1 (QI (some ⟨p,0,none⟩) (some m) s1 s2) (Qa s1.rs s2.rs) id):=by
 have hz:=H.n1
 by_cases hx:∃x∈Qa s1.rs s2.rs,x.id=id
 ·obtain⟨o,ho,hid⟩:=hx;refine(TU p m s1 s2 o id W H ho hid).mono ?_;rintro e w' ⟨rfl,t1,t2,h⟩;refine⟨QI (some ⟨p,0,none⟩) (some m) t1 t2,by rw[Gb H.ids ho hid,<-Kg];rfl,Ou ?_⟩;rw[qar H h.out ho hid];exact⟨.lad p m _ _ h.out.tu.wh,h.out.tu.fr,h.out.tu.ft⟩
 ·have hno:∀x∈Qa s1.rs s2.rs,¬x.id=id:=λx hx' he=>hx ⟨x,hx',he⟩;refine(qg9 _ _ s1 s2 id W H.bk Oz Oz Oz hno).mono ?_;rintro e w' ⟨rfl,h⟩;refine⟨QI (some ⟨p,0,none⟩) (some m) s1 s2,by rw[qap hno,<-Kg];rfl,Ou ?_⟩;rw[qaq hno];exact HTurn.same (.lad p m _ _ H) h.out
theorem qjc (p:Nat)(m:Nat×Nat)(s1 s2:Gd)(id:Int)(hwf:(Lit.int .u64 id).wf=true)(W:World)(H:gWhole W p m s1 s2) :
  Calls prog 207 #[ptA p,.int .u64 id] W (Vv W (gvl p) 2 (gft p m s1 s2) (Qa s1.rs s2.rs) id):=by
 by_cases hx:∃x∈Qa s1.rs s2.rs,x.id=id
 ·obtain⟨o,ho,hid⟩:=hx;refine(qaY p m s1 s2 o id W H ho hid).mono ?_;rintro e w' ⟨rfl,t1,t2,h⟩;refine⟨gft p m t1 t2,by rw[Gb H.ids ho hid,<-Kg];rfl,Ou ?_⟩;rw[qbg H h.out ho hid];exact⟨.gro p m _ _ h.out.tu.wh,h.out.tu.fr,h.out.tu.ft⟩
 ·have hno:∀x∈Qa s1.rs s2.rs,¬x.id=id:=λx hx' he=>hx ⟨x,hx',he⟩;refine(qiK p m s1 s2 id hwf W H hno).mono ?_;rintro e w' ⟨rfl,h⟩;refine⟨gft p m s1 s2,by rw[qap hno,<-Kg];rfl,Ou ?_⟩;rw[qaq hno];exact HTurn.same (.gro p m _ _ H) h.out
def Yb (w:World)(v:Value)(k:Int)(S:Nat->Prop)(L:List Od)(id qty:Int)(e:Ending)(w':World):Prop :=
 ∃S',e=.returned (.int .i64 (QU id qty L).1)/\Hid (HTurn w w' v k S (QU id qty L).2 S')
theorem qjd (p m:Nat)(s1 s2:Sd)(id qty:Int)(W:World)(H:Whole W p m s1 s2) :
  Calls prog 171 #[ptA p,.int .u64 id,.int .i64 qty] W (Yb W (lvl p) 1 (QI (some ⟨p,0,none⟩) (some m) s1 s2) (Qa s1.rs s2.rs) id qty):=by
 refine(qg6 p m s1 s2 id qty W H).mono ?_
 rintro e w' ⟨c,t1,t2,rfl,h⟩
 obtain⟨h1,h2⟩:=qhW H h.out
 exact⟨QI (some ⟨p,0,none⟩) (some m) t1 t2,by rw[h1],Ou (by rw[h1];exact⟨.lad p m _ _ h2.1,h2.2.1,h2.2.2⟩)⟩
theorem qje (p:Nat)(m:Nat×Nat)(s1 s2:Gd)(id qty:Int)(hwf:(Lit.int .u64 id).wf=true)(W:World)(H:gWhole W p m s1 s2) :
  Calls prog 202 #[ptA p,.int .u64 id,.int .i64 qty] W (Yb W (gvl p) 2 (gft p m s1 s2) (Qa s1.rs s2.rs) id qty):=by
 refine(qiR p m s1 s2 id qty hwf W H).mono ?_
 rintro e w' ⟨c,t1,t2,rfl,h⟩
 obtain⟨h1,h2⟩:=qi6 H h.out
 exact⟨gft p m t1 t2,by rw[h1],Ou (by rw[h1];exact⟨.gro p m _ _ h2.1,h2.2.1,h2.2.2⟩)⟩
def Kh (w:World)(r:Option Od)(e:Ending)(w':World):Prop:=e=.returned (.tuple #[.agg (OC (oZ r)),.bool r.isSome])/\Hid (Ok w w')
def Jy (w:World)(L:List Od)(e:Ending)(w':World):Prop:=∃v,e=.returned v/\Hid (w'.ownsRow w.heap.size 38 6 v L.length (ol L)/\Ok w w')
theorem qjf (p m:Nat)(s1 s2:Sd)(sd:Int)(hs:(Lit.int .i64 sd).wf=true)(W:World)(H:Whole W p m s1 s2) :
  Calls prog 170 #[ptA p,.int .i64 sd] W (Kh W (QE sd (Qa s1.rs s2.rs))):=by
 refine(Tj _ _ s1 s2 sd hs W H.bk H.ne).mono ?_
 rintro e w' ⟨rfl,hr⟩
 exact⟨by rw[qgM H,Kg],hr⟩
theorem qjg (p:Nat)(m:Nat×Nat)(s1 s2:Gd)(sd:Int)(hs:(Lit.int .i64 sd).wf=true)(W:World)(H:gWhole W p m s1 s2) :
  Calls prog 201 #[ptA p,.int .i64 sd] W (Kh W (QE sd (Qa s1.rs s2.rs))):=by
 refine(qi0 p m s1 s2 sd hs W H).mono ?_
 rintro e w' ⟨rfl,hr⟩
 exact⟨by rw[Kg],hr⟩
theorem qjh (p m:Nat)(s1 s2:Sd)(W:World)(H:Whole W p m s1 s2) :
  Calls prog 169 #[ptA p] W (Jy W (Qa s1.rs s2.rs)):=by
 have hz:=H.n1
 exact qgt _ _ s1 s2 W H.bk Oz Oz Oz H.ne
theorem qji (p:Nat)(m:Nat×Nat)(s1 s2:Gd)(W:World)(H:gWhole W p m s1 s2) :
  Calls prog 200 #[ptA p] W (Jy W (Qa s1.rs s2.rs)):=qi2 p m s1 s2 W H
theorem qjj (p m:Nat)(s1 s2:Sd)(sd pr:Int)(hs:(Lit.int .i64 sd).wf=true)(W:World)(H:Whole W p m s1 s2) :
  Calls prog 174 #[ptA p,.int .i64 sd,.int .i64 pr] W (Jy W (QR sd pr (Qa s1.rs s2.rs))):=by
 have hz:=H.n1
 have k:=qg8 _ _ s1 s2 sd pr hs W H.bk H.ok1 H.ok2 Oz Oz Oz
 rw[qhX H]at k
 exact k
theorem qjk (p:Nat)(m:Nat×Nat)(s1 s2:Gd)(sd pr:Int)(hs:(Lit.int .i64 sd).wf=true)(W:World)(H:gWhole W p m s1 s2) :
  Calls prog 205 #[ptA p,.int .i64 sd,.int .i64 pr] W (Jy W (QR sd pr (Qa s1.rs s2.rs))):=qi8 p m s1 s2 sd pr hs W H
def Vw (w:World)(n:Nat)(e:Ending)(w':World):Prop:=e=.returned (.int .i64 (n:Int))/\Hid (Ok w w')
theorem qjl (p m:Nat)(s1 s2:Sd)(W:World)(H:Whole W p m s1 s2) :
  Calls prog 173 #[ptA p] W (Vw W (Qa s1.rs s2.rs).length):=by
 have hz:=H.n1
 have k:=YX _ _ s1 s2 W H.bk Oz Oz Oz
 rw[VP,Kw]at k
 exact k
theorem qjm (p:Nat)(m:Nat×Nat)(s1 s2:Gd)(W:World)(H:gWhole W p m s1 s2) :
  Calls prog 204 #[ptA p] W (Vw W (Qa s1.rs s2.rs).length) :=
 (qi1 p m s1 s2 W H).mono λe w' ⟨h1,h2⟩=>⟨h1,by rw[<-h2];exact Ou (Oq _ _)⟩
structure LyB (w:World) (b:Nat) (v:Value) (k:Int) (L:List Od) (S:Nat->Prop):Prop where
 cl:Cl 97 w b #[.int .i64 k,v]
 hd:Held w v k L S
section
variable {w w':World}{b:Nat}{v:Value}{k:Int}{L L':List Od}{S S':Nat → Prop}
theorem LyB.below (h:LyB w b v k L S)(hb:Ok w w'):LyB w' b v k L S:=⟨(hb.block _ (Qc h.cl)).trans h.cl,h.hd.below hb⟩
theorem LyB.nf (h:LyB w b v k L S):¬S b:=λhs=>by
 rcases h.hd.kind hs h.cl with e|e|e|e|e|e|e|e<;>exact absurd e Ox
theorem LyB.fr {R:Nat->Prop}(h:LyB w b v k L S)(hf:Fr R w w')(hb:¬R b)(hn:∀j,S j->¬R j):LyB w' b v k L S:=⟨hf.blk h.cl hb,h.hd.fr hf hn⟩
theorem LyB.turn (h:LyB w b v k L S)(t:HTurn w w' v k S L' S'):LyB w' b v k L' S':=⟨t.fr.blk h.cl h.nf,t.hd⟩
end
theorem shape {w:World}{v:Value}{k:Int}{L:List Od}{S:Nat->Prop}(h:Held w v k L S):(∃p,v=lvl p/\k=1)∨(∃p,v=gvl p/\k=2):=by
 cases h with|lad p=>exact .inl ⟨p,rfl,rfl⟩|gro p=>exact .inr ⟨p,rfl,rfl⟩
theorem qjn (k:Int)(v:Value)(hv:(∃p,v=lvl p/\k=1)∨(∃p,v=gvl p/\k=2))(w:World):(binOp .neq 97 (.agg #[.int .i64 k,v]) (.agg #[.int .i64 0,.nilIface])).run prog w=.ok (.bool true) w:=by
 rcases hv with ⟨p,rfl,rfl⟩ | ⟨p,rfl,rfl⟩<;>kernel_rfl
theorem qjo (k:Int)(v:Value)(hv:(∃p,v=lvl p/\k=1)∨(∃p,v=gvl p/\k=2))(x y:Nat)(w:World):(eqGuard .neq 97 (.tmp x) (.tmp y) (.agg #[.int .i64 k,v]) (.agg #[.int .i64 0,.nilIface])).run prog w=.ok () w:=by
 rcases hv with ⟨p,rfl,rfl⟩ | ⟨p,rfl,rfl⟩<;>kernel_rfl
theorem Gt (b:Nat)(v:Value)(k:Int)(L:List Od)(S:Nat->Prop)(w:World)(H:LyB w b v k L S) :
  Calls prog 47 #[ptA b] w λe w'=>e=.returned (.bool true)/\w=w':=by
 have h0:w.cell? ⟨b,0,none⟩=some (.int .i64 k):=(H.cl.c 0).trans rfl
 have h1:w.cell? ⟨b,1,none⟩=some v:=(H.cl.c 1).trans rfl
 have hq:=qjn k v (shape H.hd)
 have hg:=qjo k v (shape H.hd)
 clear H
 go_enter func47,ntmps47
 go_wp2_with fail
 go_ret
 exact⟨rfl,rfl⟩
theorem Jz (b:Nat)(v:Value)(k:Int)(L:List Od)(S:Nat->Prop)(w:World)(H:LyB w b v k L S) :
  Calls prog 48 #[ptA b] w λe w'=>e=.returned v/\w=w':=by
 have h1:w.cell? ⟨b,1,none⟩=some v:=(H.cl.c 1).trans rfl
 have HM:=Ou (Gt b v k L S w H)
 clear H
 go_enter func48,ntmps48
 go_wp2_with ((with_reducible refine HM.out.mono ?_);rintro e w' ⟨rfl,rfl⟩)
 go_ret
 exact⟨rfl,rfl⟩
theorem Gu (b:Nat)(v:Value)(k:Int)(L:List Od)(S:Nat->Prop)(w:World)(H:LyB w b v k L S) :
  Calls prog 13 #[ptA b] w λe w'=>e=.returned (.int .i64 k)/\w=w':=by
 have h1:w.cell? ⟨b,0,none⟩=some (.int .i64 k):=(H.cl.c 0).trans rfl
 have HM:=Ou (Gt b v k L S w H)
 clear H
 go_enter func13,ntmps13
 go_wp2_with ((with_reducible refine HM.out.mono ?_);rintro e w' ⟨rfl,rfl⟩)
 go_ret
 exact⟨rfl,rfl⟩
theorem Yc (w:World):Cl 38 (w.alloc (.cells (OC ⟨0,0,0,0,0,0⟩) 38)) w.heap.size (OC ⟨0,0,0,0,0,0⟩):=Qe rfl
theorem qbi {w w0 w':World}{cs:Array Value}{v:Value}{k:Int}{L':List Od}{S S':Nat->Prop}(b0:Ok w w0)(h:HTurn w0 w' v k S L' S')(hc:w.heap.size<w0.heap.size)(nf:¬S w.heap.size) :
  HTurn w (w'.setRow w.heap.size cs) v k S L' S':=by
 have hn:¬S' w.heap.size:=λhj=>by
  rcases h.ft _ hj with h'|h'
  ·exact nf h'
  ·omega
 have f1:Fr (λj=>j=w.heap.size) w' (w'.setRow w.heap.size cs):=⟨rfl,rfl,rfl,by simp[World.setRow],λj hj hne=>setRow_other w' _ j cs hne⟩
 refine⟨h.hd.fr f1 (λj hj e=>hn (by rw[<-e];exact hj)),?_,λj hj=>(h.ft j hj).imp id (λh'=>Sk b0.size h')⟩
 have f0:Fr S w w':=(Fr.of_below b0:Fr S w w0).trans h.fr (λ_ h=>.inl h)
 refine⟨f1.os.trans f0.os,f1.tape.trans f0.tape,f1.output.trans f0.output,Sk f0.size f1.size,λj hj hs=>?_⟩
 exact(f1.block j (Ww hj f0.size) Oz).trans (f0.block j hj hs)
theorem Zp (w:World)(o:Obj):Ok w (w.alloc o):=(Oq _ _).alloc (Sq _) _
theorem qjp (b p:Nat)(m:Nat)(s1 s2:Sd)(id:Int)(hwf:(Lit.int .u64 id).wf=true)(w:World)(hc:Cl 97 w b #[.int .i64 1,lvl p])(H:Whole w p m s1 s2) :
  Calls prog 17 #[ptA b,.int .u64 id] w (Vv w (lvl p) 1 (QI (some ⟨p,0,none⟩) (some m) s1 s2) (Qa s1.rs s2.rs) id):=by
 have hm:∀(x:Value) (w:World),(Go.method 386 102 x "Take").run prog w=.ok (176,x) w:=λx _=>by kernel_rfl
 obtain⟨w0,hw0⟩:∃w0,w.alloc (.cells (OC ⟨0,0,0,0,0,0⟩) 38)=w0:=⟨_,rfl⟩
 have b0:Ok w w0:=by rw[<-hw0];exact Zp _ _
 have c0:Cl 38 w0 w.heap.size (OC ⟨0,0,0,0,0,0⟩):=by rw[<-hw0];exact Yc w
 have HH:=Ou (Jz b _ _ _ _ w0 ⟨(b0.block _ (Qc hc)).trans hc,.lad p m s1 s2 (H.below b0)⟩)
 have HC:=Ou (qjb p m s1 s2 id w0 (H.below b0))
 have hlt:∀j,(QI (some ⟨p,0,none⟩) (some m) s1 s2) j->j<w.heap.size:=λj hj=>H.bk.lt hj
 have HB:=Ou (Sv b0 (Sv c0 hlt))
 clear H hc b0 c0 hlt
 go_enter func17,ntmps17
 go_wp2_with ((with_reducible refine HH.out.mono ?_);rintro e w' ⟨rfl,rfl⟩)
 ((with_reducible refine HC.out.mono ?_);rintro e w' ⟨S',rfl,h⟩)
 have nf:¬(QI (some ⟨p,0,none⟩) (some m) s1 s2) w.heap.size:=λhj=>Ay _ (HB.out.2.2 _ hj)
 have c1:Cl 38 w' w.heap.size (OC ⟨0,0,0,0,0,0⟩):=h.out.fr.blk HB.out.2.1 nf
 have C1:=Ou c1
 have hT:HTurn w (w'.setRow w.heap.size (OC (oZ (Zg id (Qa s1.rs s2.rs))))) (lvl p) 1 (QI (some ⟨p,0,none⟩) (some m) s1 s2) ((Qa s1.rs s2.rs).eraseIdx (QB id (Qa s1.rs s2.rs))) S':=qbi HB.out.1 h.out (Qc HB.out.2.1) nf
 have HT:=Ou hT
 clear hT
 obtain⟨there,aS⟩:∃t,(Zg id (Qa s1.rs s2.rs)).isSome=t:=⟨_,rfl⟩
 obtain⟨z,hz⟩:∃t,oZ (Zg id (Qa s1.rs s2.rs))=t:=⟨_,rfl⟩
 rw[hz]at HT
 rw[aS,hz]
 go_wp2_with ((with_reducible apply K5);rfl;rfl;rfl;rfl;exact C1.out;skip)
 refine bodyPost_ret (ZK rfl _ _ _ rfl z _ (setRow_heap _ _ _ _ _ _ C1.out) _ rfl) rfl ?_
 subst aS hz
 exact⟨S',rfl,HT⟩
theorem qjq (b p:Nat)(m:Nat×Nat)(s1 s2:Gd)(id:Int)(hwf:(Lit.int .u64 id).wf=true)(w:World)(hc:Cl 97 w b #[.int .i64 2,gvl p])(H:gWhole w p m s1 s2) :
  Calls prog 17 #[ptA b,.int .u64 id] w (Vv w (gvl p) 2 (gft p m s1 s2) (Qa s1.rs s2.rs) id):=by
 have hm:∀(x:Value) (w:World),(Go.method 386 104 x "Take").run prog w=.ok (207,x) w:=λx _=>by kernel_rfl
 obtain⟨w0,hw0⟩:∃w0,w.alloc (.cells (OC ⟨0,0,0,0,0,0⟩) 38)=w0:=⟨_,rfl⟩
 have b0:Ok w w0:=by rw[<-hw0];exact Zp _ _
 have c0:Cl 38 w0 w.heap.size (OC ⟨0,0,0,0,0,0⟩):=by rw[<-hw0];exact Yc w
 have HH:=Ou (Jz b _ _ _ _ w0 ⟨(b0.block _ (Qc hc)).trans hc,.gro p m s1 s2 (H.below b0)⟩)
 have HC:=Ou (qjc p m s1 s2 id hwf w0 (H.below b0))
 have hlt:∀j,(gft p m s1 s2) j->j<w.heap.size:=gft.lt H
 have HB:=Ou (Sv b0 (Sv c0 hlt))
 clear H hc b0 c0 hlt
 go_enter func17,ntmps17
 go_wp2_with ((with_reducible refine HH.out.mono ?_);rintro e w' ⟨rfl,rfl⟩)
 ((with_reducible refine HC.out.mono ?_);rintro e w' ⟨S',rfl,h⟩)
 have nf:¬(gft p m s1 s2) w.heap.size:=λhj=>Ay _ (HB.out.2.2 _ hj)
 have c1:Cl 38 w' w.heap.size (OC ⟨0,0,0,0,0,0⟩):=h.out.fr.blk HB.out.2.1 nf
 have C1:=Ou c1
 have hT:HTurn w (w'.setRow w.heap.size (OC (oZ (Zg id (Qa s1.rs s2.rs))))) (gvl p) 2 (gft p m s1 s2) ((Qa s1.rs s2.rs).eraseIdx (QB id (Qa s1.rs s2.rs))) S':=qbi HB.out.1 h.out (Qc HB.out.2.1) nf
 have HT:=Ou hT
 clear hT
 obtain⟨there,aS⟩:∃t,(Zg id (Qa s1.rs s2.rs)).isSome=t:=⟨_,rfl⟩
 obtain⟨z,hz⟩:∃t,oZ (Zg id (Qa s1.rs s2.rs))=t:=⟨_,rfl⟩
 rw[hz]at HT
 rw[aS,hz]
 go_wp2_with ((with_reducible apply K5);rfl;rfl;rfl;rfl;exact C1.out;skip)
 refine bodyPost_ret (ZK rfl _ _ _ rfl z _ (setRow_heap _ _ _ _ _ _ C1.out) _ rfl) rfl ?_
 subst aS hz
 exact⟨S',rfl,HT⟩
theorem qjr (b:Nat)(v:Value)(k:Int)(L:List Od)(S:Nat->Prop)(id:Int)(hwf:(Lit.int .u64 id).wf=true)(w:World)(H:LyB w b v k L S) :
  Calls prog 17 #[ptA b,.int .u64 id] w (Vv w v k S L id):=by
 obtain⟨hc,h⟩:=H
 cases h with
 | lad p m s1 s2 h=>exact qjp b p m s1 s2 id hwf w hc h
 | gro p m s1 s2 h=>exact qjq b p m s1 s2 id hwf w hc h
theorem qjs (b p:Nat)(m:Nat)(s1 s2:Sd)(id qty:Int)(hwf:(Lit.int .u64 id).wf=true)(w:World)(hc:Cl 97 w b #[.int .i64 1,lvl p])(H:Whole w p m s1 s2) :
  Calls prog 20 #[ptA b,.int .u64 id,.int .i64 qty] w (Yb w (lvl p) 1 (QI (some ⟨p,0,none⟩) (some m) s1 s2) (Qa s1.rs s2.rs) id qty):=by
 have hm:∀(x:Value) (w:World),(Go.method 386 102 x "Cut").run prog w=.ok (171,x) w:=λx _=>by kernel_rfl
 have HH:=Ou (Jz b _ _ _ _ w ⟨hc,.lad p m s1 s2 H⟩)
 have HC:=Ou (qjd p m s1 s2 id qty w H)
 clear H hc
 go_enter func20,ntmps20
 go_wp2_with ((with_reducible refine HH.out.mono ?_);rintro e w' ⟨rfl,rfl⟩)
 ((with_reducible refine HC.out.mono ?_);rintro e w' ⟨S',rfl,h⟩)
 go_wp2_with fail
 go_ret
 exact⟨S',rfl,h⟩
theorem qjt (b p:Nat)(m:Nat×Nat)(s1 s2:Gd)(id qty:Int)(hwf:(Lit.int .u64 id).wf=true)(w:World)(hc:Cl 97 w b #[.int .i64 2,gvl p])(H:gWhole w p m s1 s2) :
  Calls prog 20 #[ptA b,.int .u64 id,.int .i64 qty] w (Yb w (gvl p) 2 (gft p m s1 s2) (Qa s1.rs s2.rs) id qty):=by
 have hm:∀(x:Value) (w:World),(Go.method 386 104 x "Cut").run prog w=.ok (202,x) w:=λx _=>by kernel_rfl
 have HH:=Ou (Jz b _ _ _ _ w ⟨hc,.gro p m s1 s2 H⟩)
 have HC:=Ou (qje p m s1 s2 id qty hwf w H)
 clear H hc
 go_enter func20,ntmps20
 go_wp2_with ((with_reducible refine HH.out.mono ?_);rintro e w' ⟨rfl,rfl⟩)
 ((with_reducible refine HC.out.mono ?_);rintro e w' ⟨S',rfl,h⟩)
 go_wp2_with fail
 go_ret
 exact⟨S',rfl,h⟩
theorem qju (b:Nat)(v:Value)(k:Int)(L:List Od)(S:Nat->Prop)(id qty:Int)(hwf:(Lit.int .u64 id).wf=true)(w:World)(H:LyB w b v k L S) :
  Calls prog 20 #[ptA b,.int .u64 id,.int .i64 qty] w (Yb w v k S L id qty):=by
 obtain⟨hc,h⟩:=H
 cases h with
 | lad p m s1 s2 h=>exact qjs b p m s1 s2 id qty hwf w hc h
 | gro p m s1 s2 h=>exact qjt b p m s1 s2 id qty hwf w hc h
theorem qjv (b p:Nat)(m:Nat)(s1 s2:Sd)(sd:Int)(hs:(Lit.int .i64 sd).wf=true)(w:World)(hc:Cl 97 w b #[.int .i64 1,lvl p])(H:Whole w p m s1 s2) :
  Calls prog 25 #[ptA b,.int .i64 sd] w (Kh w (QE sd (Qa s1.rs s2.rs))):=by
 have hm:∀(x:Value) (w:World),(Go.method 386 102 x "Best").run prog w=.ok (170,x) w:=λx _=>by kernel_rfl
 obtain⟨w0,hw0⟩:∃w0,w.alloc (.cells (OC ⟨0,0,0,0,0,0⟩) 38)=w0:=⟨_,rfl⟩
 have b0:Ok w w0:=by rw[<-hw0];exact Zp _ _
 have c0:Cl 38 w0 w.heap.size (OC ⟨0,0,0,0,0,0⟩):=by rw[<-hw0];exact Yc w
 have HH:=Ou (Jz b _ _ _ _ w0 ⟨(b0.block _ (Qc hc)).trans hc,.lad p m s1 s2 (H.below b0)⟩)
 have HC:=Ou (qjf p m s1 s2 sd hs w0 (H.below b0))
 have hlt:∀j,(QI (some ⟨p,0,none⟩) (some m) s1 s2) j->j<w.heap.size:=λj hj=>H.bk.lt hj
 have HB:=Ou (Sv b0 (Sv c0 hlt))
 clear H hc b0 c0 hlt
 go_enter func25,ntmps25
 go_wp2_with ((with_reducible refine HH.out.mono ?_);rintro e w' ⟨rfl,rfl⟩)
 ((with_reducible refine HC.out.mono ?_);rintro e w' ⟨rfl,h⟩)
 have c1:Cl 38 w' w.heap.size (OC ⟨0,0,0,0,0,0⟩):=(h.out.block _ (Qc HB.out.2.1)).trans HB.out.2.1
 have C1:=Ou c1
 obtain⟨there,aS⟩:∃t,(QE sd (Qa s1.rs s2.rs)).isSome=t:=⟨_,rfl⟩
 obtain⟨z,hz⟩:∃t,oZ (QE sd (Qa s1.rs s2.rs))=t:=⟨_,rfl⟩
 rw[aS,hz]
 go_wp2_with ((with_reducible apply K5);rfl;rfl;rfl;rfl;exact C1.out;skip)
 refine bodyPost_ret (ZK rfl _ _ _ rfl z _ (setRow_heap _ _ _ _ _ _ C1.out) _ rfl) rfl ?_
 subst aS hz
 exact⟨rfl,Ou (Zy (HB.out.1.trans (h.out.mono HB.out.1.size)) (Sq _))⟩
theorem qjw (b p:Nat)(m:Nat×Nat)(s1 s2:Gd)(sd:Int)(hs:(Lit.int .i64 sd).wf=true)(w:World)(hc:Cl 97 w b #[.int .i64 2,gvl p])(H:gWhole w p m s1 s2) :
  Calls prog 25 #[ptA b,.int .i64 sd] w (Kh w (QE sd (Qa s1.rs s2.rs))):=by
 have hm:∀(x:Value) (w:World),(Go.method 386 104 x "Best").run prog w=.ok (201,x) w:=λx _=>by kernel_rfl
 obtain⟨w0,hw0⟩:∃w0,w.alloc (.cells (OC ⟨0,0,0,0,0,0⟩) 38)=w0:=⟨_,rfl⟩
 have b0:Ok w w0:=by rw[<-hw0];exact Zp _ _
 have c0:Cl 38 w0 w.heap.size (OC ⟨0,0,0,0,0,0⟩):=by rw[<-hw0];exact Yc w
 have HH:=Ou (Jz b _ _ _ _ w0 ⟨(b0.block _ (Qc hc)).trans hc,.gro p m s1 s2 (H.below b0)⟩)
 have HC:=Ou (qjg p m s1 s2 sd hs w0 (H.below b0))
 have hlt:∀j,(gft p m s1 s2) j->j<w.heap.size:=gft.lt H
 have HB:=Ou (Sv b0 (Sv c0 hlt))
 clear H hc b0 c0 hlt
 go_enter func25,ntmps25
 go_wp2_with ((with_reducible refine HH.out.mono ?_);rintro e w' ⟨rfl,rfl⟩)
 ((with_reducible refine HC.out.mono ?_);rintro e w' ⟨rfl,h⟩)
 have c1:Cl 38 w' w.heap.size (OC ⟨0,0,0,0,0,0⟩):=(h.out.block _ (Qc HB.out.2.1)).trans HB.out.2.1
 have C1:=Ou c1
 obtain⟨there,aS⟩:∃t,(QE sd (Qa s1.rs s2.rs)).isSome=t:=⟨_,rfl⟩
 obtain⟨z,hz⟩:∃t,oZ (QE sd (Qa s1.rs s2.rs))=t:=⟨_,rfl⟩
 rw[aS,hz]
 go_wp2_with ((with_reducible apply K5);rfl;rfl;rfl;rfl;exact C1.out;skip)
 refine bodyPost_ret (ZK rfl _ _ _ rfl z _ (setRow_heap _ _ _ _ _ _ C1.out) _ rfl) rfl ?_
 subst aS hz
 exact⟨rfl,Ou (Zy (HB.out.1.trans (h.out.mono HB.out.1.size)) (Sq _))⟩
theorem qbj (b:Nat)(v:Value)(k:Int)(L:List Od)(S:Nat->Prop)(sd:Int)(hs:(Lit.int .i64 sd).wf=true)(w:World)(H:LyB w b v k L S) :
  Calls prog 25 #[ptA b,.int .i64 sd] w (Kh w (QE sd L)):=by
 obtain⟨hc,h⟩:=H
 cases h with
 | lad p m s1 s2 h=>exact qjv b p m s1 s2 sd hs w hc h
 | gro p m s1 s2 h=>exact qjw b p m s1 s2 sd hs w hc h
theorem qjx (b p:Nat)(m:Nat)(s1 s2:Sd)(sd pr:Int)(hs:(Lit.int .i64 sd).wf=true)(w:World)(hc:Cl 97 w b #[.int .i64 1,lvl p])(H:Whole w p m s1 s2) :
  Calls prog 28 #[ptA b,.int .i64 sd,.int .i64 pr] w (Jy w (QR sd pr (Qa s1.rs s2.rs))):=by
 have hm:∀(x:Value) (w:World),(Go.method 386 102 x "Level").run prog w=.ok (174,x) w:=λx _=>by kernel_rfl
 have HH:=Ou (Jz b _ _ _ _ w ⟨hc,.lad p m s1 s2 H⟩)
 have HC:=Ou (qjj p m s1 s2 sd pr hs w H)
 clear H hc
 go_enter func28,ntmps28
 go_wp2_with ((with_reducible refine HH.out.mono ?_);rintro e w' ⟨rfl,rfl⟩)
 ((with_reducible refine HC.out.mono ?_);rintro e w' ⟨v',rfl,h⟩)
 go_wp2_with fail
 go_ret
 exact⟨v',rfl,h⟩
theorem qjy (b p:Nat)(m:Nat×Nat)(s1 s2:Gd)(sd pr:Int)(hs:(Lit.int .i64 sd).wf=true)(w:World)(hc:Cl 97 w b #[.int .i64 2,gvl p])(H:gWhole w p m s1 s2) :
  Calls prog 28 #[ptA b,.int .i64 sd,.int .i64 pr] w (Jy w (QR sd pr (Qa s1.rs s2.rs))):=by
 have hm:∀(x:Value) (w:World),(Go.method 386 104 x "Level").run prog w=.ok (205,x) w:=λx _=>by kernel_rfl
 have HH:=Ou (Jz b _ _ _ _ w ⟨hc,.gro p m s1 s2 H⟩)
 have HC:=Ou (qjk p m s1 s2 sd pr hs w H)
 clear H hc
 go_enter func28,ntmps28
 go_wp2_with ((with_reducible refine HH.out.mono ?_);rintro e w' ⟨rfl,rfl⟩)
 ((with_reducible refine HC.out.mono ?_);rintro e w' ⟨v',rfl,h⟩)
 go_wp2_with fail
 go_ret
 exact⟨v',rfl,h⟩
theorem qjz (b:Nat)(v:Value)(k:Int)(L:List Od)(S:Nat->Prop)(sd pr:Int)(hs:(Lit.int .i64 sd).wf=true)(w:World)(H:LyB w b v k L S) :
  Calls prog 28 #[ptA b,.int .i64 sd,.int .i64 pr] w (Jy w (QR sd pr L)):=by
 obtain⟨hc,h⟩:=H
 cases h with
 | lad p m s1 s2 h=>exact qjx b p m s1 s2 sd pr hs w hc h
 | gro p m s1 s2 h=>exact qjy b p m s1 s2 sd pr hs w hc h
theorem qjA (b p:Nat)(m:Nat)(s1 s2:Sd)  (w:World)(hc:Cl 97 w b #[.int .i64 1,lvl p])(H:Whole w p m s1 s2) :
  Calls prog 15 #[ptA b] w (Jy w (Qa s1.rs s2.rs)):=by
 have hm:∀(x:Value) (w:World),(Go.method 386 102 x "All").run prog w=.ok (169,x) w:=λx _=>by kernel_rfl
 have HH:=Ou (Jz b _ _ _ _ w ⟨hc,.lad p m s1 s2 H⟩)
 have HC:=Ou (qjh p m s1 s2  w H)
 clear H hc
 go_enter func15,ntmps15
 go_wp2_with ((with_reducible refine HH.out.mono ?_);rintro e w' ⟨rfl,rfl⟩)
 ((with_reducible refine HC.out.mono ?_);rintro e w' ⟨v',rfl,h⟩)
 go_wp2_with fail
 go_ret
 exact⟨v',rfl,h⟩
theorem qjB (b p:Nat)(m:Nat×Nat)(s1 s2:Gd)  (w:World)(hc:Cl 97 w b #[.int .i64 2,gvl p])(H:gWhole w p m s1 s2) :
  Calls prog 15 #[ptA b] w (Jy w (Qa s1.rs s2.rs)):=by
 have hm:∀(x:Value) (w:World),(Go.method 386 104 x "All").run prog w=.ok (200,x) w:=λx _=>by kernel_rfl
 have HH:=Ou (Jz b _ _ _ _ w ⟨hc,.gro p m s1 s2 H⟩)
 have HC:=Ou (qji p m s1 s2  w H)
 clear H hc
 go_enter func15,ntmps15
 go_wp2_with ((with_reducible refine HH.out.mono ?_);rintro e w' ⟨rfl,rfl⟩)
 ((with_reducible refine HC.out.mono ?_);rintro e w' ⟨v',rfl,h⟩)
 go_wp2_with fail
 go_ret
 exact⟨v',rfl,h⟩
theorem qbk (b:Nat)(v:Value)(k:Int)(L:List Od)(S:Nat->Prop)  (w:World)(H:LyB w b v k L S) :
  Calls prog 15 #[ptA b] w (Jy w L):=by
 obtain⟨hc,h⟩:=H
 cases h with
 | lad p m s1 s2 h=>exact qjA b p m s1 s2  w hc h
 | gro p m s1 s2 h=>exact qjB b p m s1 s2  w hc h
theorem qjC (b p:Nat)(m:Nat)(s1 s2:Sd)  (w:World)(hc:Cl 97 w b #[.int .i64 1,lvl p])(H:Whole w p m s1 s2) :
  Calls prog 27 #[ptA b] w (Vw w (Qa s1.rs s2.rs).length):=by
 have hm:∀(x:Value) (w:World),(Go.method 386 102 x "Len").run prog w=.ok (173,x) w:=λx _=>by kernel_rfl
 have HH:=Ou (Jz b _ _ _ _ w ⟨hc,.lad p m s1 s2 H⟩)
 have HC:=Ou (qjl p m s1 s2  w H)
 clear H hc
 go_enter func27,ntmps27
 go_wp2_with ((with_reducible refine HH.out.mono ?_);rintro e w' ⟨rfl,rfl⟩)
 ((with_reducible refine HC.out.mono ?_);rintro e w' ⟨rfl,h⟩)
 go_wp2_with fail
 go_ret
 exact⟨rfl,h⟩
theorem qjD (b p:Nat)(m:Nat×Nat)(s1 s2:Gd)  (w:World)(hc:Cl 97 w b #[.int .i64 2,gvl p])(H:gWhole w p m s1 s2) :
  Calls prog 27 #[ptA b] w (Vw w (Qa s1.rs s2.rs).length):=by
 have hm:∀(x:Value) (w:World),(Go.method 386 104 x "Len").run prog w=.ok (204,x) w:=λx _=>by kernel_rfl
 have HH:=Ou (Jz b _ _ _ _ w ⟨hc,.gro p m s1 s2 H⟩)
 have HC:=Ou (qjm p m s1 s2  w H)
 clear H hc
 go_enter func27,ntmps27
 go_wp2_with ((with_reducible refine HH.out.mono ?_);rintro e w' ⟨rfl,rfl⟩)
 ((with_reducible refine HC.out.mono ?_);rintro e w' ⟨rfl,h⟩)
 go_wp2_with fail
 go_ret
 exact⟨rfl,h⟩
theorem qjE (b:Nat)(v:Value)(k:Int)(L:List Od)(S:Nat->Prop)  (w:World)(H:LyB w b v k L S) :
  Calls prog 27 #[ptA b] w (Vw w L.length):=by
 obtain⟨hc,h⟩:=H
 cases h with
 | lad p m s1 s2 h=>exact qjC b p m s1 s2  w hc h
 | gro p m s1 s2 h=>exact qjD b p m s1 s2  w hc h
theorem qjF {x y:Od}(gx:Qk x=true)(gy:Qk y=true)(hi:¬x.id=y.id)(h:ltO y x=false):ltO x y=true:=by
 rw[Uh]at h
 rw[Ug]
 have kx:kiO x=x.id:=by unfold kiO;rw[Sx (Vj gx)]
 have ky:kiO y=y.id:=by unfold kiO;rw[Sx (Vj gy)]
 rw[kx,ky]at h ⊢
 unfold Lex at *
 omega
theorem Yd {L:List Od}(h:QW L=true):L.length<=64/\(∀x∈L,Qk x=true)/\Ids L/\L.Pairwise (λx y=>ltO x y=true):=by
 obtain⟨h1,h2,h3,h4⟩:=(CA L).1 h
 have hi:Ids L:=by
  have:=List.pairwise_map.1 (List.nodup_iff_pairwise_ne.1 h3);exact this.imp (λh=>h)
 refine⟨h1,h2,hi,?_⟩
 have hw:=CU L
 rw[<-h4]at hw
 have hb:=hi.and hw
 refine List.Pairwise.imp_of_mem ?_ hb
 intro x y hx hy hxy
 exact qjF (h2 x hx) (h2 y hy) hxy.1 hxy.2
theorem qbl {L:List Od}(h1:L.length<=64)(h2:∀x∈L,Qk x=true)(h3:Ids L)(h4:L.Pairwise (λx y=>ltO x y=true)):QW L=true:=by
 refine(CA L).2 ⟨h1,h2,List.nodup_iff_pairwise_ne.2 (List.pairwise_map.2 (h3.imp λh=>h)),(YS (List.Perm.refl _) h4).symm⟩
theorem Held.book {w:World}{v:Value}{k:Int}{L:List Od}{S:Nat->Prop}(h:Held w v k L S):QW L=true:=qbl h.len (λx hx=>(h.ok x hx).2) h.ids h.pw
theorem HTurn.trans {w w1 w2:World}{v:Value}{k:Int}{L1 L2:List Od}{S S1 S2:Nat->Prop}(h:HTurn w w1 v k S L1 S1)(g:HTurn w1 w2 v k S1 L2 S2):HTurn w w2 v k S L2 S2 :=
 ⟨g.hd,h.fr.trans g.fr h.ft,λj hj=>by
  rcases g.ft j hj with h'|h'
  ·exact h.ft j h'
  ·exact .inr (Sk h.fr.size h')⟩
structure LyNew (w w':World) (b:Nat) (v:Value) (k:Int) (L:List Od) (S:Nat->Prop):Prop where
 ly:LyB w' b v k L S
 be:Ok w w'
 lo:∀j,S j->w.heap.size<=j
 lb:w.heap.size<=b
theorem qbm (w:World):Calls prog 18 #[.int .i64 1] w λe w'=>∃b p S,e=.returned (ptA b)/\Hid (LyNew w w' b (lvl p) 1 [] S):=by
 have HN:=Ou (qf5 w)
 go_enter func18,ntmps18
 go_wp2_with ((with_reducible refine HN.out.mono ?_);rintro e w1 ⟨rfl,h⟩)
 go_ret
 have hb:=Zp w1 (.cells #[.int .i64 1,lvl (w.heap.size+1)] 97)
 refine⟨w1.heap.size,w.heap.size+1,QI (some ⟨w.heap.size+1,0,none⟩) (some w.heap.size) Zm Zm,rfl,Ou ⟨⟨Qe rfl,.lad _ _ Zm Zm ((qgN h.out.1).below hb)⟩,h.out.2.trans (hb.mono h.out.2.size),λj hj=>?_,h.out.2.size⟩⟩
 rcases qgO hj with e|e<;>omega
theorem qbn (w:World):Calls prog 18 #[.int .i64 2] w λe w'=>∃b p S,e=.returned (ptA b)/\Hid (LyNew w w' b (gvl p) 2 [] S):=by
 have HN:=Ou (qi5 w)
 go_enter func18,ntmps18
 go_wp2_with ((with_reducible refine HN.out.mono ?_);rintro e w1 ⟨p,m,s1,s2,rfl,h⟩)
 go_ret
 have hb:=Zp w1 (.cells #[.int .i64 2,gvl p] 97)
 have hg:=Held.gro p m s1 s2 (h.out.wh.below hb)
 rw[h.out.nil]at hg
 exact⟨w1.heap.size,p,gft p m s1 s2,rfl,Ou ⟨⟨Qe rfl,hg⟩,h.out.be.trans (hb.mono h.out.be.size),h.out.lo,h.out.be.size⟩⟩
theorem qjG (k:Int)(h1:¬k=1)(h2:¬k=2)(w:World):Calls prog 18 #[.int .i64 k] w λe w'=>e=.returned (.pointer none)/\w=w':=by
 have e1:(k==1)=false:=by simp[h1]
 have e2:(k==2)=false:=by simp[h2]
 go_enter func18,ntmps18
 go_wp2_with fail
 go_ret
 exact⟨rfl,rfl⟩
theorem qjH (k:Int)(hk:k=1∨k=2)(w:World):Calls prog 18 #[.int .i64 k] w λe w'=>∃b v S,e=.returned (ptA b)/\Hid (LyNew w w' b v k [] S):=by
 rcases hk with rfl|rfl
 ·exact(qbm w).mono λe w' ⟨b,p,S,h,g⟩=>⟨b,_,S,h,g⟩
 ·exact(qbn w).mono λe w' ⟨b,p,S,h,g⟩=>⟨b,_,S,h,g⟩
theorem qjI {W:World}{v:Value}{k:Int}{L:List Od}{S:Nat->Prop}{x:Od}(h:Held W v k L S)(hx:Od.ok W x){p:Nat}(e:v=lvl p):Calls prog 168 #[ptA p,oV x] W (XH W v k S L x):=by
 cases h with
 | lad q m s1 s2 h=>injection e with _ e;injection e with e;injection e with e;injection e with e;subst e;exact qi9 q m s1 s2 x W h hx
 | gro q m s1 s2 h=>injection e with e _;exact absurd e Ox
theorem qjJ {W:World}{v:Value}{k:Int}{L:List Od}{S:Nat->Prop}{x:Od}(h:Held W v k L S)(hx:Od.ok W x){p:Nat}(e:v=gvl p):Calls prog 199 #[ptA p,oV x] W (XH W v k S L x):=by
 cases h with
 | gro q m s1 s2 h=>injection e with _ e;injection e with e;injection e with e;injection e with e;subst e;exact qja q m s1 s2 x W h hx
 | lad q m s1 s2 h=>injection e with e _;exact absurd e Ox
structure FlI (w0 w wr:World) (v:Value) (k:Int) (S:Nat->Prop) (L:List Od) (i:Nat) (Si:Nat->Prop):Prop where
 tu:HTurn w wr v k S (L.take i) Si
 be:Ok w0 wr
theorem FlI.step {w0 w wr w':World}{v:Value}{k:Int}{S Si S':Nat->Prop}{L:List Od}{i:Nat}{o:Obj}(h:FlI w0 w wr v k S L i Si)(hS:∀j,S j->w0.heap.size<=j)(mZ:Ok w0 w)(hB:QW L=true)(hi:i<L.length)
  (t:HTurn (wr.alloc o) w' v k Si (Jm (L.take i) (L[i]!)).2 S'):FlI w0 w w' v k S L (i+1) S':=by
 obtain⟨h1,h2,h3,h4⟩:=Yd hB
 have ex:L[i]! = L[i]:=Sj L i hi
 have et:L.take (i+1)=L.take i++[L[i]]:=Ek hi
 have hp:Jm (L.take i) (L[i]!)=(0,L.take (i+1)):=by
  rw[ex,Ya (h2 _ (Wt hi)) (λx hx=>?_) (by rw[Wy];omega),<-et,YS (List.Perm.refl _) (h4.sublist (List.take_sublist _ _))];rw[Ek hi]at et;have:=h3.sublist (List.take_sublist (i+1) L);rw[Ek hi]at this;exact(List.pairwise_append.1 this).2.2 x hx _ (List.mem_singleton.2 rfl)
 rw[hp]at t
 have t1:HTurn w w' v k S (L.take (i+1)) S':=h.tu.trans (HTurn.after (Zp wr o) t)
 exact⟨t1,mZ.trans (t1.fr.below hS mZ.size)⟩
theorem qjK (p:Nat)(v:Value)(ev:v=lvl p)(k:Int)(S:Nat->Prop)(A:Option Addr)(n c:Nat)(L:List Od)(w0 w:World)(hO:Ods w0 A n L)(mZ:Ok w0 w)(H:Held w v k [] S)(hS:∀j,S j->w0.heap.size<=j)(hB:QW L=true) :
  Calls prog 44 #[.func (.method "Add") #[lvl p] #[],.slice A n c] w λe w'=>e=.returned (.tuple #[])/\∃S',Hid (HTurn w w' v k S L S'):=by
 have hm:∀(x:Value) (w:World),(Go.method 386 102 x "Add").run prog w=.ok (168,x) w:=λx _=>by kernel_rfl
 have hn:=hO.1
 have lV:(n:Int)<=64:=by have:=(Yd hB).1;omega
 have HO:=Ou hO
 have rW:=Ou hB
 have bY:=Ou mZ
 have HS:=Ou hS
 have HN:=Ou hn
 have HH:=Ou H
 have yU:=Ou ev
 clear hO hB mZ hS hn H ev
 go_enter func44,ntmps44
 go_wp2_with fail
 go_loopw [8] (λs wr=>∃(i:Nat) (Si:Nat->Prop),s=.int .i64 (i:Int)/\Hid (i<=n/\FlI w0 w wr v k S L i Si)) (λs _=>match s with | .int _ z=>n-z.toNat|_=>0)
 case atStart=>exact⟨0,S,rfl,As _,by rw[List.take_zero];exact HTurn.same HH.out (Oq _ _),bY.out⟩
 case round =>
  obtain⟨i,Si,rfl,hd⟩:=hrel;by_cases hi:i<n
  ·have jL:(i:Int)<(n:Int):=by omega
   have h1:=(HO.out.below hd.out.2.be).2.2.2;rcases h1 with h1 | ⟨b,off,rfl,_,hc⟩
   ·omega
   have hx:=hc i hi;have hok:=HO.out.2.2.1 (L[i]!) (by rw[Sj L i (by rw[HN.out];exact hi)];exact Wt (by rw[HN.out];exact hi));clear hc;have HA:=Ou (qjI (hd.out.2.tu.hd.below (Zp wr (.cells (OC (L[i]!)) 38))) hok yU.out);have HF:Hid (∀w' S',HTurn (wr.alloc (.cells (OC (L[i]!)) 38)) w' v k Si (Jm (L.take i) (L[i]!)).2 S'->FlI w0 w w' v k S L (i+1) S'):=Ou λw' S' t=>hd.out.2.step HS.out bY.out rW.out (by rw[HN.out];exact hi) t;have Hi:=Ou hi;clear hd hi hok;obtain⟨x,ex⟩:∃x,L[i]! = x:=⟨_,rfl⟩
   rw[ex]at hx HF HA;obtain⟨x0,x1,x2,x3,x4,x5⟩:=hx;go_wp2_with fail
   ((with_reducible refine HA.out.mono ?_);rintro e w3 ⟨S',rfl,ht⟩);go_wp2_with fail
   exact⟨⟨i+1,S',rfl,Hi.out,HF.out _ _ ht.out⟩,KU Hi.out⟩
  ·obtain rfl:i=n:=by have:=hd.out.1;omega
   have jL:¬(i:Int)<(i:Int):=by omega
   go_wp2_with fail
   go_end0;have:=hd.out.2.tu;rw[Fs (by rw[HN.out];exact Sq _)]at this;exact⟨rfl,Si,Ou this⟩
theorem qjL (p:Nat)(v:Value)(ev:v=gvl p)(k:Int)(S:Nat->Prop)(A:Option Addr)(n c:Nat)(L:List Od)(w0 w:World)(hO:Ods w0 A n L)(mZ:Ok w0 w)(H:Held w v k [] S)(hS:∀j,S j->w0.heap.size<=j)(hB:QW L=true) :
  Calls prog 44 #[.func (.method "Add") #[gvl p] #[],.slice A n c] w λe w'=>e=.returned (.tuple #[])/\∃S',Hid (HTurn w w' v k S L S'):=by
 have hm:∀(x:Value) (w:World),(Go.method 386 104 x "Add").run prog w=.ok (199,x) w:=λx _=>by kernel_rfl
 have hn:=hO.1
 have lV:(n:Int)<=64:=by have:=(Yd hB).1;omega
 have HO:=Ou hO
 have rW:=Ou hB
 have bY:=Ou mZ
 have HS:=Ou hS
 have HN:=Ou hn
 have HH:=Ou H
 have yU:=Ou ev
 clear hO hB mZ hS hn H ev
 go_enter func44,ntmps44
 go_wp2_with fail
 go_loopw [8] (λs wr=>∃(i:Nat) (Si:Nat->Prop),s=.int .i64 (i:Int)/\Hid (i<=n/\FlI w0 w wr v k S L i Si)) (λs _=>match s with | .int _ z=>n-z.toNat|_=>0)
 case atStart=>exact⟨0,S,rfl,As _,by rw[List.take_zero];exact HTurn.same HH.out (Oq _ _),bY.out⟩
 case round =>
  obtain⟨i,Si,rfl,hd⟩:=hrel;by_cases hi:i<n
  ·have jL:(i:Int)<(n:Int):=by omega
   have h1:=(HO.out.below hd.out.2.be).2.2.2;rcases h1 with h1 | ⟨b,off,rfl,_,hc⟩
   ·omega
   have hx:=hc i hi;have hok:=HO.out.2.2.1 (L[i]!) (by rw[Sj L i (by rw[HN.out];exact hi)];exact Wt (by rw[HN.out];exact hi));clear hc;have HA:=Ou (qjJ (hd.out.2.tu.hd.below (Zp wr (.cells (OC (L[i]!)) 38))) hok yU.out);have HF:Hid (∀w' S',HTurn (wr.alloc (.cells (OC (L[i]!)) 38)) w' v k Si (Jm (L.take i) (L[i]!)).2 S'->FlI w0 w w' v k S L (i+1) S'):=Ou λw' S' t=>hd.out.2.step HS.out bY.out rW.out (by rw[HN.out];exact hi) t;have Hi:=Ou hi;clear hd hi hok;obtain⟨x,ex⟩:∃x,L[i]! = x:=⟨_,rfl⟩
   rw[ex]at hx HF HA;obtain⟨x0,x1,x2,x3,x4,x5⟩:=hx;go_wp2_with fail
   ((with_reducible refine HA.out.mono ?_);rintro e w3 ⟨S',rfl,ht⟩);go_wp2_with fail
   exact⟨⟨i+1,S',rfl,Hi.out,HF.out _ _ ht.out⟩,KU Hi.out⟩
  ·obtain rfl:i=n:=by have:=hd.out.1;omega
   have jL:¬(i:Int)<(i:Int):=by omega
   go_wp2_with fail
   go_end0;have:=hd.out.2.tu;rw[Fs (by rw[HN.out];exact Sq _)]at this;exact⟨rfl,Si,Ou this⟩
theorem Gv (A:Option Addr)(n c:Nat)(L:List Od)(w:World)(H:Ods w A n L):Calls prog 43 #[.slice A n c] w (Ul w (QW L)):=by
 by_cases h:n<=64
 ·exact qft A n c L w H h (qfs n h)
 ·exact qev A n c L w H.1 h
theorem qjM (A:Option Addr)(n c:Nat)(L:List Od)(w:World)(H:Ods w A n L)(hB:QW L=true) :
  Calls prog 10 #[.int .i64 1,.slice A n c] w λe w'=>∃b p S,e=.returned (.tuple #[ptA b,.int .i64 0])/\Hid (LyNew w w' b (lvl p) 1 L S):=by
 have jX:=Ou (qbm w)
 have HO:=Ou H
 have HB:=Ou hB
 clear H hB
 go_enter func10,ntmps10
 go_wp2_with (first
  | ((with_reducible refine jX.out.mono ?_);rintro e w1 ⟨b,p,S,rfl,hN⟩;have jU:=Ou (by have:=Gv A n c L w1 (HO.out.below hN.out.be);rwa [HB.out]at this);clear jX)
  | ((with_reducible refine jU.out.mono ?_);rintro e w2 ⟨rfl,h2⟩;have H2:=Ou (hN.out.ly.below h2);have B2:=Ou (hN.out.be.trans (h2.mono hN.out.be.size));clear h2 jU;have c1:w2.cell? ⟨b,1,none⟩=some (lvl p):=(H2.out.cl.c 1).trans rfl;have HF:=Ou (qjK p _ rfl 1 S A n c L w w2 HO.out B2.out H2.out.hd hN.out.lo HB.out))
  | ((with_reducible refine HF.out.mono ?_);rintro e w3 ⟨rfl,S',ht⟩))
 refine bodyPost_ret (results_tmp2 rfl _ _ _) rfl ?_
 have hb3:Ok w w3:=B2.out.trans (ht.out.fr.below hN.out.lo B2.out.size)
 refine⟨b,p,S',rfl,Ou ⟨H2.out.turn ht.out,hb3,λj hj=>?_,hN.out.lb⟩⟩
 rcases ht.out.ft j hj with h|h
 ·exact hN.out.lo j h
 ·exact Sk B2.out.size h
theorem qjN (A:Option Addr)(n c:Nat)(L:List Od)(w:World)(H:Ods w A n L)(hB:QW L=true) :
  Calls prog 10 #[.int .i64 2,.slice A n c] w λe w'=>∃b p S,e=.returned (.tuple #[ptA b,.int .i64 0])/\Hid (LyNew w w' b (gvl p) 2 L S):=by
 have jX:=Ou (qbn w)
 have HO:=Ou H
 have HB:=Ou hB
 clear H hB
 go_enter func10,ntmps10
 go_wp2_with (first
  | ((with_reducible refine jX.out.mono ?_);rintro e w1 ⟨b,p,S,rfl,hN⟩;have jU:=Ou (by have:=Gv A n c L w1 (HO.out.below hN.out.be);rwa [HB.out]at this);clear jX)
  | ((with_reducible refine jU.out.mono ?_);rintro e w2 ⟨rfl,h2⟩;have H2:=Ou (hN.out.ly.below h2);have B2:=Ou (hN.out.be.trans (h2.mono hN.out.be.size));clear h2 jU;have c1:w2.cell? ⟨b,1,none⟩=some (gvl p):=(H2.out.cl.c 1).trans rfl;have HF:=Ou (qjL p _ rfl 2 S A n c L w w2 HO.out B2.out H2.out.hd hN.out.lo HB.out))
  | ((with_reducible refine HF.out.mono ?_);rintro e w3 ⟨rfl,S',ht⟩))
 refine bodyPost_ret (results_tmp2 rfl _ _ _) rfl ?_
 have hb3:Ok w w3:=B2.out.trans (ht.out.fr.below hN.out.lo B2.out.size)
 refine⟨b,p,S',rfl,Ou ⟨H2.out.turn ht.out,hb3,λj hj=>?_,hN.out.lb⟩⟩
 rcases ht.out.ft j hj with h|h
 ·exact hN.out.lo j h
 ·exact Sk B2.out.size h
theorem Gx (k:Int)(hk:k=1∨k=2)(A:Option Addr)(n c:Nat)(L:List Od)(w:World)(H:Ods w A n L)(hB:QW L=true) :
  Calls prog 10 #[.int .i64 k,.slice A n c] w λe w'=>∃b v S,e=.returned (.tuple #[ptA b,.int .i64 0])/\Hid (LyNew w w' b v k L S):=by
 rcases hk with rfl|rfl
 ·exact(qjM A n c L w H hB).mono λe w' ⟨b,p,S,h,g⟩=>⟨b,_,S,h,g⟩
 ·exact(qjN A n c L w H hB).mono λe w' ⟨b,p,S,h,g⟩=>⟨b,_,S,h,g⟩
def XI (w:World)(e:Ending)(w':World):Prop:=e=.returned (.tuple #[.pointer none,.int .i64 2])/\Hid (Ok w w')
theorem qjO (k:Int)(h1:¬k=1)(h2:¬k=2)(A:Option Addr)(n c:Nat)(w:World) :
  Calls prog 10 #[.int .i64 k,.slice A n c] w (XI w):=by
 have jX:=Ou (qjG k h1 h2 w)
 clear h1 h2
 go_enter func10,ntmps10
 go_wp2_with ((with_reducible refine jX.out.mono ?_);rintro e w1 ⟨rfl,rfl⟩)
 refine bodyPost_ret (results_tmp2 rfl _ _ _) rfl ?_
 exact⟨rfl,Ou (Oq _ _)⟩
theorem qjP (k:Int)(hk:k=1∨k=2)(A:Option Addr)(n c:Nat)(L:List Od)(w:World)(H:Ods w A n L)(hB:QW L=false) :
  Calls prog 10 #[.int .i64 k,.slice A n c] w (XI w):=by
 have jX:=Ou (qjH k hk w)
 have HO:=Ou H
 have HB:=Ou hB
 clear H hB hk
 go_enter func10,ntmps10
 go_wp2_with (first
  | ((with_reducible refine jX.out.mono ?_);rintro e w1 ⟨b,v,S,rfl,hN⟩;have jU:=Ou (by have:=Gv A n c L w1 (HO.out.below hN.out.be);rwa [HB.out]at this);clear jX)
  | ((with_reducible refine jU.out.mono ?_);rintro e w2 ⟨rfl,h2⟩))
 refine bodyPost_ret (results_tmp2 rfl _ _ _) rfl ?_
 exact⟨rfl,Ou (hN.out.be.trans (h2.mono hN.out.be.size))⟩
theorem qbo {w w':World}{L:List Od}{v:Value}(h:w'.ownsRow w.heap.size 38 6 v L.length (ol L))(hl:L.length<=64)(hok:∀x∈L,Od.ok w x):∃A c,v=.slice A L.length c/\Ods w' A L.length L/\w'.ownsRow 0 38 6 (.slice A L.length c) L.length (ol L):=by
 obtain⟨A,c,rfl,_,ho⟩:=VJ h Oz (λx hx=>by have:=hok x hx;exact this)
 exact⟨A,c,rfl,ho,Ju h (As _)⟩
def qjQ (w:World)(k:Int)(L:List Od)(e:Ending)(w':World):Prop:=∃b v S,e=.returned (.tuple #[ptA b,.int .i64 0])/\Hid (LyNew w w' b v k L S)
theorem qjR (b:Nat)(v:Value)(k:Int)(L:List Od)(S:Nat->Prop)(k2:Int)(hk:k2=1∨k2=2)(w:World)(H:LyB w b v k L S) :
  Calls prog 16 #[ptA b,.int .i64 k2] w (qjQ w k2 L):=by
 have HM:=Ou (Gt b v k L S w H)
 have qM:=Ou (qbk b v k L S w H)
 have hl:=H.hd.len
 have hok:∀x∈L,Od.ok w x:=λx hx=>(H.hd.ok x hx).1
 have hB:=H.hd.book
 obtain⟨n,hn⟩:∃n,L.length=n:=⟨_,rfl⟩
 have HF:=Ou (Sv hl (Sv hok (Sv hB hn)))
 clear H hl hok hB hn
 go_enter func16,ntmps16
 go_wp2_with (first
  | ((with_reducible refine HM.out.mono ?_);rintro e w' ⟨rfl,rfl⟩;clear HM)
  | ((with_reducible refine qM.out.mono ?_);rintro e w1 ⟨v1,rfl,h1⟩;obtain⟨A,c,rfl,_,hr⟩:=qbo h1.out.1 HF.out.1 HF.out.2.1;have B1:=Ou h1.out.2;rw[HF.out.2.2.2]at hr ⊢;have HCl:=Ou (TX hr (by have:=HF.out.1;have:=HF.out.2.2.2;omega));clear qM h1 hr)
  | ((with_reducible refine HCl.out.mono ?_);rintro e w2 ⟨v2,rfl,h2⟩;obtain⟨A2,c2,rfl,_,ho⟩:=VJ h2.out.1 (by have:=HF.out.1;have:=HF.out.2.2.2;omega) HF.out.2.1;have B2:=Ou (B1.out.trans (h2.out.2.mono B1.out.size));have iV:=Ou (Gx k2 hk A2 n c2 L w2 ho HF.out.2.2.1);clear HCl h2 ho)
  | ((with_reducible refine iV.out.mono ?_);rintro e w3 ⟨b3,v3,S3,rfl,h3⟩))
 refine bodyPost_ret (results_tmp2 rfl _ _ _) rfl ?_
 exact⟨b3,v3,S3,rfl,Ou ⟨h3.out.ly,B2.out.trans (h3.out.be.mono B2.out.size),λj hj=>Sk B2.out.size (h3.out.lo j hj),Sk B2.out.size h3.out.lb⟩⟩
theorem qjS (b:Nat)(v:Value)(k:Int)(L:List Od)(S:Nat->Prop)(w:World)(H:LyB w b v k L S) :
  Calls prog 22 #[ptA b] w λe w'=>∃b' v' S',e=.returned (ptA b')/\Hid (LyNew w w' b' v' k L S'):=by
 have HK:=Ou (Gu b v k L S w H)
 have HT:=Ou (qjR b v k L S k H.hd.k12 w H)
 clear H
 go_enter func22,ntmps22
 go_wp2_with (first
  | ((with_reducible refine HK.out.mono ?_);rintro e w' ⟨rfl,rfl⟩)
  | ((with_reducible refine HT.out.mono ?_);rintro e w1 ⟨b',v',S',rfl,h⟩))
 go_ret
 exact⟨b',v',S',rfl,h⟩
end
end Go.Proofs.YtikapeaodobkjaaGreat
