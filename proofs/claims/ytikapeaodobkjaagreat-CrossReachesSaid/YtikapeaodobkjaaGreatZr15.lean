/- What the laws lean on, in a few texts (by shake.py): number 15 of 16. -/
import Derived.Test.YtikapeaodobkjaaGreatZr1
import Derived.Test.YtikapeaodobkjaaGreatZr2
import Derived.Test.YtikapeaodobkjaaGreatZr4
import Derived.Test.YtikapeaodobkjaaGreatZr6
import Derived.Test.YtikapeaodobkjaaGreatZr5
import Derived.Test.YtikapeaodobkjaaGreatZr7
import Derived.Test.YtikapeaodobkjaaGreatZr8
import Derived.Test.YtikapeaodobkjaaGreatZr12
import Derived.Test.YtikapeaodobkjaaGreatZr10
import Derived.Test.YtikapeaodobkjaaGreatZr9
import Derived.Test.YtikapeaodobkjaaGreatZr11
import Derived.Test.YtikapeaodobkjaaGreatZr13
import Derived.Test.YtikapeaodobkjaaGreatZr14
import Derived.Test.YtikapeaodobkjaaGreatZr3
import Derived.Shelf.SlSortCmp.QuietGrown
import Derived.Laws.OwnMore
import Derived.Laws.AppendOwnNone
import Derived.Maps.RangeWalk
import Derived.Deep.DeepCutAuto
import Derived.Deep.AppendLies
import Derived.Deep.RegionLaw
import Derived.OpenShut
import Derived.Deep.Slices
import Derived.Deep.Fields
import Derived.ChangeSame

set_option maxHeartbeats 16000000
set_option maxRecDepth 1000000
set_option linter.unusedVariables false
set_option linter.unusedSimpArgs false
namespace Go.Proofs.YtikapeaodobkjaaGreat
open _root_.Go.Proofs.Tryz
section
open Go.RowKit Go.Shelf Go.Sort Go.Maps Go.Lib
structure Rl where
 acc:Int
 side:Int
 price:Int
 lot:Int
 mode:Int
 self:Int
structure Mt where
 L:List Od
 left:Int
 cash:Int
 F:List (Od×Int)
 D:List Od
def prM (R:Rl)(L:List Od):Option Int :=
 match QE (3-R.side) L with
 | none=>none
 | some b=>if ¬R.price=0/\QN R.side R.price b.price=false then none else some b.price
def Qy (R:Rl)(m:Mt):Bool:=(R.side==1)&&decide (0<=m.cash)
def ZT (R:Rl)(m:Mt)(p:Int):Int:=if Qy R m=true then min m.left (Qj R.lot (m.cash / p)) else m.left
def lvM (R:Rl)(m:Mt)(p:Int):List Od:=QR (3-R.side) p m.L
def nM (R:Rl)(m:Mt)(p:Int):Nat:=Zd R.self R.acc (lvM R m p)
def QM (R:Rl)(m:Mt)(p:Int):List Int:=qs ((lvM R m p).take (nM R m p))
def fM (R:Rl)(m:Mt)(p:Int):Nat->Int:=gtN R.mode R.lot (ZT R m p) (QM R m p)
def NoM (R:Rl)(m:Mt)(p:Int):Prop:=Jf R.mode (QM R m p) (ZT R m p) R.lot
def ZM (pay:Bool)(m:Mt)(x:Od)(q:Int):Mt:=if 0<q then ⟨(QU x.id q m.L).2,m.left-q,if pay=true then m.cash-x.price*q else m.cash,m.F++[(x,q)],m.D⟩ else m
def Qr (pay:Bool)(l:List Od)(f:Nat->Int)(m:Mt):Nat->Mt
 | 0=>m
 | k+1=>ZM pay (Qr pay l f m k) l[k]! (f k)
open Classical in
noncomputable def Qq (R:Rl)(m:Mt)(p:Int):Mt:=if NoM R m p then m else Qr (Qy R m) (lvM R m p) (fM R m p) m (nM R m p)
def Zi (R:Rl)(m:Mt)(p:Int):Prop:=nM R m p=0∨(¬NoM R m p/\∀i,i<nM R m p->fM R m p i=((lvM R m p)[i]!).qty)
def Zb (id:Int)(m:Mt):Mt:=⟨m.L.eraseIdx (QB id m.L),m.left,m.cash,m.F,m.D++[oZ (Zg id m.L)]⟩
def Z3 (R:Rl)(id:Int)(m:Mt):Mt:=if drN R.self=true then Zb id m else m
open Classical in
noncomputable def crM (R:Rl):Nat->Mt->Mt×Bool
 | 0,m=>(m,false)
 | k+1,m =>
  match prM R m.L with
  | none=>(m,false)
  | some p =>
   if ¬Zi R m p∨(Qq R m p).left=0 then (Qq R m p,false)
   else if nM R m p=(lvM R m p).length then crM R k (Qq R m p)
   else if stN R.self=true then (Z3 R ((lvM R m p)[nM R m p]!).id (Qq R m p),true)
   else crM R k (Z3 R ((lvM R m p)[nM R m p]!).id (Qq R m p))
theorem XJ {M:List Od}{x:Od}{q:Int}(hi:Ids M)(hx:x∈M)(h1:1<=q)(h2:q<=x.qty) :
  (QU x.id q M).2=if q=x.qty then M.eraseIdx (QB x.id M) else M.set (QB x.id M) (Qz x q):=by
 obtain⟨hlt,he⟩:=J0 hi hx rfl
 rw[Xr rfl hlt,he,Sw (by omega)]
 split<;>rfl
theorem JH {L:List Od}{i:Nat}(h:i<L.length):L[i]!∈L:=by rw[Sj L i h];exact Wt _
theorem ids_map {M:List Od}:Ids M↔(M.map Od.id).Nodup:=by
 unfold Ids List.Nodup
 rw[Mj]
theorem qbp {M:List Od}(h:Ids M)(i:Nat):Ids (M.eraseIdx i):=List.Pairwise.sublist (Rv _ _) h
theorem qjT {M:List Od}(h:Ids M){i:Nat}(hi:i<M.length){y:Od}(he:y.id=(M[i]!).id):Ids (M.set i y):=by
 rw[ids_map,List.map_set,he]
 have:(M.map Od.id).set i (M[i]!).id=M.map Od.id:=by
  refine List.ext_getElem Oy λj h1 h2=>?_;rw[List.getElem_set]
  split
  ·rename_i e;subst e;rw[Sj M i hi,List.getElem_map]
  ·rfl
 rw[this]
 exact ids_map.1 h
theorem qbq {M:List Od}(hi:Ids M){x y:Od}(hx:x∈M)(hy:y∈M)(hn:¬y.id=x.id):y∈M.eraseIdx (QB x.id M)/\∀z,y∈M.set (QB x.id M) z:=by
 obtain⟨hlt,he⟩:=J0 hi hx rfl
 obtain⟨j,hj,rfl⟩:=List.getElem_of_mem hy
 have hne:j≠QB x.id M:=λe=>hn (by rw[Sj M _ hlt]at he;rw[<-he];congr 2)
 refine⟨List.mem_eraseIdx_iff_getElem.2 ⟨j,hj,hne,rfl⟩,λz=>?_⟩
 have:(M.set (QB x.id M) z)[j]'(by rw[Wk];exact hj)=M[j]:=List.getElem_set_ne (λe=>hne e.symm) _
 rw[<-this]
 exact Wt _
theorem qjU {M:List Od}{x:Od}{q:Int}(hi:Ids M)(hx:x∈M)(h1:1<=q)(h2:q<=x.qty):Ids (QU x.id q M).2:=by
 obtain⟨hlt,he⟩:=J0 hi hx rfl
 rw[XJ hi hx h1 h2]
 split
 ·exact qbp hi _
 ·exact qjT hi hlt (by rw[he];rfl)
theorem qjV {M:List Od}{x y:Od}{q:Int}(hi:Ids M)(hx:x∈M)(h1:1<=q)(h2:q<=x.qty)(hy:y∈M)(hn:¬y.id=x.id):y∈(QU x.id q M).2:=by
 rw[XJ hi hx h1 h2]
 split
 ·exact(qbq hi hx hy hn).1
 ·exact(qbq hi hx hy hn).2 _
theorem qjW {M:List Od}{x:Od}{q:Int}(hi:Ids M)(hx:x∈M)(h1:1<=q)(h2:q<=x.qty):(QU x.id q M).2.length<=M.length/\(q=x.qty->(QU x.id q M).2.length+1=M.length):=by
 obtain⟨hlt,he⟩:=J0 hi hx rfl
 rw[XJ hi hx h1 h2]
 split
 ·rw[List.length_eraseIdx_of_lt hlt];omega
 ·rw[Wk];exact⟨Sq _,λh=>absurd h Ov⟩
structure FilIs (pay:Bool) (l:List Od) (f:Nat->Int) (m:Mt) (p:Int) (k:Nat):Prop where
 ids:Ids (Qr pay l f m k).L
 there:∀i,k<=i->i<l.length->l[i]!∈(Qr pay l f m k).L
 len:(Qr pay l f m k).L.length<=m.L.length
 less:(∀i,i<k->f i=(l[i]!).qty)->(Qr pay l f m k).L.length+k=m.L.length
 D:(Qr pay l f m k).D=m.D
theorem Gy {pay:Bool}{l:List Od}{f:Nat->Int}{m:Mt}{p:Int}(hi:Ids m.L)(hl:∀x∈l,x∈m.L/\1<=x.qty)(hp:l.Pairwise (λx y=>¬x.id=y.id))(n:Nat)(hn:n<=l.length)(hf:∀i,i<n->0<=f i/\f i<=(l[i]!).qty) :
  ∀k,k<=n->FilIs pay l f m p k
 | 0,_=>⟨hi,λi _ h=>(hl _ (JH h)).1,Sq _,λ_=>rfl,rfl⟩
 | k+1,h=>by
  have ih:=Gy (pay:=pay) (p:=p) hi hl hp n hn hf k Oz;have hq:=hf k Oz;have hx:=ih.there k (Sq _) Oz;have hq1:=(hl _ (JH (show k<l.length by omega))).2;by_cases h0:0<f k
  ·have e:Qr pay l f m (k+1)=⟨(QU (l[k]!).id (f k) (Qr pay l f m k).L).2,(Qr pay l f m k).left-f k,if pay=true then (Qr pay l f m k).cash-(l[k]!).price*f k else (Qr pay l f m k).cash,(Qr pay l f m k).F++[(l[k]!,f k)],(Qr pay l f m k).D⟩:=Sx h0;have hc:=qjW ih.ids hx Oz hq.2;refine⟨?_,λi h1 h2=>?_,?_,λh1=>?_,?_⟩<;>rw[e]
   ·exact qjU ih.ids hx Oz hq.2
   ·refine qjV ih.ids hx Oz hq.2 (ih.there i Oz h2) ?_;rw[Sj l i h2,Sj l k (by omega)];exact λe=>(List.pairwise_iff_getElem.1 hp k i Oz h2 Oz) e.symm
   ·exact Sk hc.1 ih.len
   ·have:=ih.less (λi hi=>h1 i Oz);have:=hc.2 (h1 k Oz);simp only;omega
   ·exact ih.D
  ·have e:Qr pay l f m (k+1)=Qr pay l f m k:=Sw h0;refine⟨?_,λi h1 h2=>?_,?_,λh1=>?_,?_⟩<;>rw[e]
   ·exact ih.ids
   ·exact ih.there i Oz h2
   ·exact ih.len
   ·have:=h1 k Oz;omega
   ·exact ih.D
theorem J1 {x:Od}(h:Qk x=true):0<=x.acc/\x.acc<8/\(x.side=1∨x.side=2)/\1<=x.price/\x.price<=1099511627776/\1<=x.qty/\x.qty<=1099511627776:=by
 unfold Qk rkN at h
 simp only[Iv,decide_eq_true_eq,bne_iff_ne,ne_eq]at h
 obtain⟨h1,h2,h3,h4,h5,h6,h7⟩:=h
 refine⟨h1,h2,?_,h4,h5,h6,h7⟩
 by_cases e1:x.side=1
 ·exact .inl e1
 ·by_cases e2:x.side=2
  ·exact .inr e2
  ·rw[Sw e1,Sw e2]at h3;exact absurd rfl h3
theorem qjX {x:Od}{q:Int}(h:Qk x=true)(h0:0<=q)(h1:q<x.qty):Qk (Qz x q)=true:=by
 have g:=J1 h
 unfold Qk at h ⊢
 simp only[Iv,decide_eq_true_eq]at h ⊢
 obtain⟨h1',h2,h3,h4,h5,h6,h7⟩:=h
 refine⟨h1',h2,h3,h4,h5,?_,?_⟩<;>simp only[Qz]<;>omega
theorem qjY {M:List Od}{x:Od}{q:Int}(hi:Ids M)(hg:∀y∈M,Qk y=true)(hx:x∈M)(h1:1<=q)(h2:q<=x.qty):∀y∈(QU x.id q M).2,Qk y=true:=by
 rw[XJ hi hx h1 h2]
 split
 ·exact λy hy=>hg y (OzZ hy)
 ·intro y hy;rcases List.mem_or_eq_of_mem_set hy with h|rfl
  ·exact hg y h
  ·exact qjX (hg x hx) Oz Oz
theorem Gz {pay:Bool}{l:List Od}{f:Nat->Int}{m:Mt}(hi:Ids m.L)(hg:∀y∈m.L,Qk y=true)(hl:∀x∈l,x∈m.L)(hp:l.Pairwise (λx y=>¬x.id=y.id))(n:Nat)(hn:n<=l.length)(hf:∀i,i<n->0<=f i/\f i<=(l[i]!).qty) :
  ∀k,k<=n->∀y∈(Qr pay l f m k).L,Qk y=true
 | 0,_=>hg
 | k+1,h=>by
  have ih:=Gz (pay:=pay) hi hg hl hp n hn hf k Oz;have I:=Gy (pay:=pay) (p:=0) hi (λx hx=>⟨hl x hx,(J1 (hg x (hl x hx))).2.2.2.2.2.1⟩) hp n hn hf k Oz;have hq:=hf k Oz;by_cases h0:0<f k
  ·rw[show (Qr pay l f m (k+1))=_ from Sx h0];exact qjY I.ids ih (I.there k (Sq _) Oz) Oz hq.2
  ·rw[show (Qr pay l f m (k+1))=_ from Sw h0];exact ih
def sF (f:Nat->Int):Nat->Int
 | 0=>0
 | k+1=>sF f k+f k
theorem qbr (mode lot v:Int)(Q:List Int):∀k,sF (gtN mode lot v Q) k=gtS mode lot v Q k
 | 0=>rfl
 | k+1=>by rw[sF,qbr mode lot v Q k];rfl
theorem qbs {pay:Bool}{l:List Od}{f:Nat->Int}{m:Mt}:∀k,(∀i,i<k->0<=f i)->(Qr pay l f m k).left=m.left-sF f k
 | 0,_=>by simp[Qr,sF]
 | k+1,h=>by
  have ih:=qbs (pay:=pay) (l:=l) (m:=m) k (λi hi=>h i Oz);have:=h k Oz;simp only[Qr,sF];unfold ZM
  split
  ·simp only[ih];omega
  ·rw[ih];omega
theorem qbt {l:List Od}{f:Nat->Int}{m:Mt}{p:Int}:∀k,k<=l.length->(∀i,i<k->0<=f i)->(∀x∈l,x.price=p)->(Qr true l f m k).cash=m.cash-p*sF f k
 | 0,_,_,_=>by simp[Qr,sF]
 | k+1,hk,h,hp=>by
  have ih:=qbt (m:=m) k Oz (λi hi=>h i Oz) hp;have h0:=h k Oz;simp only[Qr,sF];unfold ZM
  split
  ·simp only[ih,if_true,hp _ (JH (show k<l.length by omega)),Int.mul_add];omega
  ·rw[ih,show f k=0 by omega,Int.add_zero]
theorem GB {l:List Od}{f:Nat->Int}{m:Mt}:∀k,(Qr false l f m k).cash=m.cash
 | 0=>rfl
 | k+1=>by
  simp only[Qr];unfold ZM
  split
  ·exact GB k
  ·exact GB k
structure GM (m:Mt):Prop where
 ids:Ids m.L
 gd:∀x∈m.L,Qk x=true
theorem Jn {R:Rl}{m:Mt}{p:Int}{x:Od}(h:x∈lvM R m p):x∈m.L/\x.side=3-R.side/\x.price=p:=by
 unfold lvM QR at h
 rw[List.mem_filter]at h
 simp only[Iv,beq_iff_eq]at h
 exact h
theorem GC {R:Rl}{m:Mt}{p:Int}(h:GM m):(lvM R m p).Pairwise (λx y=>¬x.id=y.id):=List.Pairwise.sublist List.filter_sublist h.ids
theorem ZU {R:Rl}{m:Mt}{p:Int}:nM R m p<=(lvM R m p).length:=qfH _ _ _
theorem qbu {R:Rl}{m:Mt}{p:Int}:(QM R m p).length=nM R m p:=by
 unfold QM qs
 rw[Fv,Wy]
 exact Pz ZU
theorem qjZ {R:Rl}{m:Mt}{p:Int}{i:Nat}(hi:i<nM R m p):(QM R m p).getD i 0=((lvM R m p)[i]!).qty:=by
 have hl:i<(lvM R m p).length:=Ww hi ZU
 unfold QM qs
 rw[Ej,List.getElem?_map,List.getElem?_take,Sx hi,List.getElem?_eq_getElem hl,Sj _ i hl]
 rfl
theorem XK {R:Rl}{m:Mt}{p:Int}(h:¬NoM R m p){i:Nat}(hi:i<nM R m p):0<=fM R m p i/\fM R m p i<=((lvM R m p)[i]!).qty:=by
 have:=CI (mode:=R.mode) (VE h).2 (k:=i) (by rw[qbu];exact hi)
 rw[qjZ hi]at this
 exact this
theorem GD {R:Rl}{m:Mt}{p:Int}(h:¬NoM R m p){k:Nat}(hk:k<=nM R m p):0<=sF (fM R m p) k/\sF (fM R m p) k<=ZT R m p:=by
 have h1:=qfy (mode:=R.mode) (VE h).2 (k:=k) (by rw[qbu];exact hk)
 have h2:=YO (mode:=R.mode) (VE h).2
 unfold fM
 rw[qbr]
 exact⟨h1.1,Int.le_trans h1.2 h2.2.1⟩
theorem qj0 {R:Rl}{m:Mt}{p:Int}:ZT R m p<=m.left:=by
 unfold ZT;split<;>omega
theorem qj1 {R:Rl}{m:Mt}{p:Int}(hp:1<=p)(hl:1<=R.lot)(h:Qy R m=true){s:Int}(hs:s<=ZT R m p):p*s<=m.cash:=by
 have hc:0<=m.cash:=by unfold Qy at h;simp only[Iv,decide_eq_true_eq]at h;exact h.2
 have h1:s<=m.cash / p:=by
  unfold ZT at hs;rw[Sx h]at hs;have:=(ZJ (lot:=R.lot) (q:=m.cash / p) hl (Ex hc Oz)).2;omega
 have h2:p*s<=p*(m.cash / p):=Et h1 Oz
 have h3:p*(m.cash / p)<=m.cash:=Int.mul_ediv_self_le Oz
 omega
structure AftK (R:Rl) (m:Mt) (p:Int) (k:Nat) (m1:Mt):Prop where
 gm:GM m1
 there:∀i,k<=i->i<(lvM R m p).length->(lvM R m p)[i]!∈m1.L
 len:m1.L.length<=m.L.length
 less:(∀i,i<k->fM R m p i=((lvM R m p)[i]!).qty)->m1.L.length+k=m.L.length
 D:m1.D=m.D
 l0:0<=m1.left
 l1:m1.left=m.left-sF (fM R m p) k
 c0:Qy R m=true->0<=m1.cash/\m1.cash=m.cash-p*sF (fM R m p) k
 c1:Qy R m=false->m1.cash=m.cash
theorem GE {R:Rl}{m:Mt}{p:Int}(hg:GM m)(hp:1<=p)(hl:1<=R.lot)(h:¬NoM R m p){k:Nat}(hk:k<=nM R m p) :
  AftK R m p k (Qr (Qy R m) (lvM R m p) (fM R m p) m k):=by
 have hf:=λi (hi:i<nM R m p)=>XK h hi
 have I:=Gy (pay:=Qy R m) (p:=p) hg.ids (λx hx=>⟨(Jn hx).1,(J1 (hg.gd x (Jn hx).1)).2.2.2.2.2.1⟩) (GC hg) (nM R m p) ZU hf k hk
 have G:=Gz (pay:=Qy R m) hg.ids hg.gd (λx hx=>(Jn hx).1) (GC hg) (nM R m p) ZU hf k hk
 have S:=GD h hk
 have Lf:=qbs (pay:=Qy R m) (l:=lvM R m p) (m:=m) k (λi hi=>(hf i Oz).1)
 have ml:=qj0 (R:=R) (m:=m) (p:=p)
 refine⟨⟨I.ids,G⟩,I.there,I.len,I.less,I.D,by omega,Lf,λcN=>?_,λcN=>?_⟩
 ·have C:=qbt (m:=m) (p:=p) k (Sk hk ZU) (λi hi=>(hf i Oz).1) (λx hx=>(Jn hx).2.2);rw[cN,C];have:=qj1 hp hl cN S.2;exact⟨by omega,rfl⟩
 ·rw[cN];exact GB k
theorem qbv {R:Rl}{L:List Od}{p:Int}(h:prM R L=some p):∃b,QE (3-R.side) L=some b/\b∈L/\b.side=3-R.side/\b.price=p/\(R.price=0∨QN R.side R.price p=true):=by
 unfold prM at h
 split at h
 ·cases h
 ·rename_i b hb
  split at h
  ·cases h
  ·rename_i hc
   injection h with h;have hm:b∈Zo (3-R.side) L:=by
    unfold QE at hb;exact List.mem_of_mem_head? hb
   unfold Zo at hm;rw[List.mem_filter]at hm;simp only[beq_iff_eq]at hm;refine⟨b,hb,hm.1,hm.2,h,?_⟩;rw[<-h];by_cases h0:R.price=0
   ·exact .inl h0
   ·right
    cases e:QN R.side R.price b.price with
    | true=>rfl
    | false=>exact absurd ⟨h0,e⟩ hc
theorem XL {R:Rl}{m:Mt}{p:Int}(h:prM R m.L=some p):0<(lvM R m p).length:=by
 obtain⟨b,_,hb,hs,hp,_⟩:=qbv h
 refine List.length_pos_of_mem (a:=b) ?_
 unfold lvM QR
 rw[List.mem_filter]
 simp only[Iv,beq_iff_eq]
 exact⟨hb,hs,hp⟩
theorem Ki {R:Rl}{m:Mt}{p:Int}(hg:GM m)(h:prM R m.L=some p):1<=p/\p<=1099511627776:=by
 obtain⟨b,_,hb,_,hp,_⟩:=qbv h
 have:=J1 (hg.gd b hb)
 omega
theorem qj2 {R:Rl}{m:Mt}{p:Int}(hg:GM m)(hp:1<=p)(hl:1<=R.lot):(NoM R m p/\Qq R m p=m)∨(¬NoM R m p/\AftK R m p (nM R m p) (Qq R m p)):=by
 by_cases h:NoM R m p
 ·exact .inl ⟨h,Sx h⟩
 ·refine .inr ⟨h,?_⟩;unfold Qq;rw[Sw h];exact GE hg hp hl h (Sq _)
structure AftF (R:Rl) (m:Mt) (p:Int) (m1:Mt):Prop where
 gm:GM m1
 there:∀i,nM R m p<=i->i<(lvM R m p).length->(lvM R m p)[i]!∈m1.L
 len:m1.L.length<=m.L.length
 emp:Zi R m p->m1.L.length+nM R m p=m.L.length
 D:m1.D=m.D
 l0:0<=m1.left
 l1:m1.left<=m.left
 c0:Qy R m=true->0<=m1.cash/\m1.cash<=m.cash
 c1:Qy R m=false->m1.cash=m.cash
theorem Kj {R:Rl}{m:Mt}{p:Int}(hg:GM m)(hp:1<=p)(hl:1<=R.lot)(h0:0<=m.left):AftF R m p (Qq R m p):=by
 rcases qj2 hg hp hl with ⟨h,e⟩ | ⟨h,k⟩
 ·rw[e];refine⟨hg,λi _ h2=>(Jn (JH h2)).1,Sq _,λhe=>?_,rfl,h0,Fw _,λhp=>⟨?_,Fw _⟩,λ_=>rfl⟩
  ·rcases he with he | ⟨he,_⟩
   ·rw[he];rfl
   ·exact absurd h he
  ·unfold Qy at hp;simp only[Iv,decide_eq_true_eq]at hp;exact hp.2
 ·have S:=GD h (Sq (nM R m p));refine⟨k.gm,k.there,k.len,λhe=>?_,k.D,k.l0,by rw[k.l1];omega,λcN=>⟨(k.c0 cN).1,?_⟩,k.c1⟩
  ·rcases he with he | ⟨_,he⟩
   ·exact k.less (λi hi=>by omega)
   ·exact k.less he
  ·rw[(k.c0 cN).2];have:=Ey (show 0<=p by omega) S.1;omega
theorem qbw {p a:Int}{L:List Od}(hp:QV p=true)(hs:stN p=false)(h:Zd p a L<L.length):drN p=true:=by
 unfold QV at hp
 unfold stN at hs
 simp only[Bool.or_eq_true,beq_iff_eq]at hp
 simp only[Bool.or_eq_false_iff,beq_eq_false_iff_ne,ne_eq]at hs
 have e:p=1∨p=3:=by omega
 rcases e with rfl|rfl
 ·exfalso;have:Zd 1 a L=L.length:=by
   unfold Zd;rw[Sx (by decide)];exact Uw λj _=>rfl
  omega
 ·rfl
structure DrpF (id:Int) (x:Od) (m m1:Mt):Prop where
 gm:GM m1
 len:m1.L.length+1=m.L.length
 get:Zg id m.L=some x
 left:m1.left=m.left
 cash:m1.cash=m.cash
theorem Vx {m:Mt}{x:Od}(hg:GM m)(hx:x∈m.L):DrpF x.id x m (Zb x.id m):=by
 obtain⟨hlt,he⟩:=J0 hg.ids hx rfl
 refine⟨⟨qbp hg.ids _,λy hy=>hg.gd y (OzZ hy)⟩,?_,Gb hg.ids hx rfl,rfl,rfl⟩
 show (m.L.eraseIdx (QB x.id m.L)).length+1=m.L.length
 rw[List.length_eraseIdx_of_lt hlt]
 omega
theorem XM (R:Rl)(hp:QV R.self=true)(hl:1<=R.lot):∀(n:Nat) (m:Mt),m.L.length<=n->GM m->0<=m.left->∀k k',m.L.length<k->m.L.length<k'->crM R k m=crM R k' m
 | n,m,hn,hg,h0,0,_,hk,_=>absurd hk (Ax _)
 | n,m,hn,hg,h0,_,0,_,hk=>absurd hk (Ax _)
 | n,m,hn,hg,h0,k+1,k'+1,hk,hk'=>by
  rw[crM,crM]
  cases aH:prM R m.L with
  | none=>rfl
  | some p =>
   have A:=Kj hg (Ki hg aH).1 hl h0;have hpos:=XL aH;simp only;by_cases h1:¬Zi R m p∨(Qq R m p).left=0
   ·rw[Sx h1,Sx h1]
   ·rw[Sw h1,Sw h1];have he:Zi R m p:=Classical.byContradiction λh=>h1 (.inl h);have hlen:=A.emp he;by_cases h2:nM R m p=(lvM R m p).length
    ·rw[Sx h2,Sx h2]
     match n,hn with
     | 0,hn=>omega
     | n+1,hn=>exact XM R hp hl n _ Oz A.gm A.l0 k k' Oz Oz
    ·rw[Sw h2,Sw h2];by_cases h3:stN R.self=true
     ·rw[Sx h3,Sx h3]
     ·rw[Sw h3,Sw h3];have hlt:nM R m p<(lvM R m p).length:=by have:=ZU (R:=R) (m:=m) (p:=p);omega
      have hd:=qbw hp (by simpa using h3) hlt;have D:=Vx A.gm (A.there _ (Sq _) hlt);have e:Z3 R ((lvM R m p)[nM R m p]!).id (Qq R m p)=Zb ((lvM R m p)[nM R m p]!).id (Qq R m p):=Sx hd;rw[e];have:=D.len
      match n,hn with
      | 0,hn=>omega
      | n+1,hn=>exact XM R hp hl n _ Oz D.gm (by rw[D.left];exact A.l0) k k' Oz Oz
noncomputable def crF (R:Rl)(m:Mt):Mt×Bool:=crM R (m.L.length+1) m
section
variable {R:Rl}{m:Mt}{p:Int} (hp:QV R.self = true) (hl:1 ≤ R.lot) (hg:GM m) (h0:0 ≤ m.left)
theorem qbx (h:prM R m.L=none):crF R m=(m,false):=by unfold crF;rw[crM,h]
theorem XN (h:prM R m.L=some p)(h1:¬Zi R m p∨(Qq R m p).left=0):crF R m=(Qq R m p,false):=by
 unfold crF;rw[crM,h];simp only;rw[Sx h1]
theorem qby (h:prM R m.L=some p)(h1:Zi R m p)(h2:¬(Qq R m p).left=0)(h3:nM R m p<(lvM R m p).length)(h4:stN R.self=true) :
  crF R m=(Z3 R ((lvM R m p)[nM R m p]!).id (Qq R m p),true):=by
 unfold crF;rw[crM,h];simp only
 rw[Sw (λh=>h.elim (λh=>h h1) h2),Sw Oz,Sx h4]
include hp hl hg h0
theorem GF (h:prM R m.L=some p)(h1:Zi R m p)(h2:¬(Qq R m p).left=0)(h3:nM R m p=(lvM R m p).length) :
  crF R m=crF R (Qq R m p)/\(Qq R m p).L.length<m.L.length:=by
 have A:=Kj hg (Ki hg h).1 hl h0
 have hlen:=A.emp h1
 have hpos:=XL h
 refine⟨?_,by omega⟩
 unfold crF
 rw[crM,h];simp only
 rw[Sw (λh=>h.elim (λh=>h h1) h2),Sx h3]
 exact XM R hp hl _ _ (Sq _) A.gm A.l0 _ _ Oz Oz
theorem qbz (h:prM R m.L=some p)(h1:Zi R m p)(h2:¬(Qq R m p).left=0)(h3:nM R m p<(lvM R m p).length)(h4:stN R.self=false) :
  drN R.self=true/\crF R m=crF R (Zb ((lvM R m p)[nM R m p]!).id (Qq R m p))/\(Zb ((lvM R m p)[nM R m p]!).id (Qq R m p)).L.length<m.L.length:=by
 have A:=Kj hg (Ki hg h).1 hl h0
 have hlen:=A.emp h1
 have hd:=qbw hp h4 h3
 have D:=Vx A.gm (A.there _ (Sq _) h3)
 have hdl:=D.len
 refine⟨hd,?_,by omega⟩
 have e:Z3 R ((lvM R m p)[nM R m p]!).id (Qq R m p)=Zb ((lvM R m p)[nM R m p]!).id (Qq R m p):=Sx hd
 unfold crF
 rw[crM,h];simp only
 rw[Sw (λh=>h.elim (λh=>h h1) h2),Sw Oz,Sw (by rw[h4];decide),e]
 exact XM R hp hl _ _ (Sq _) D.gm (by rw[D.left];exact A.l0) _ _ Oz Oz
end
end
section
open Go.RowKit Go.Lib Go.Maps Go.Deep
def Zt (s:Int):Int:=if s=1 then 2 else if s=2 then 1 else 0
theorem Ye (s:Int)(w:World):Calls prog 63 #[.int .i64 s] w λe w'=>e=.returned (.int .i64 (Zt s))/\w=w':=by
 by_cases h1:s=1
 ·subst h1;go_enter func63,ntmps63;go_wp2_with fail
  go_ret;exact⟨rfl,rfl⟩
 ·have g1:(s==1)=false:=by simp[h1]
  by_cases h2:s=2
  ·subst h2;go_enter func63,ntmps63;go_wp2_with fail
   go_ret;exact⟨rfl,rfl⟩
  ·have g2:(s==2)=false:=by simp[h2]
   have e:Zt s=0:=by unfold Zt;rw[Sw h1,Sw h2]
   rw[e];clear h1 h2 e;go_enter func63,ntmps63;go_wp2_with fail
   go_ret;exact⟨rfl,rfl⟩
structure Ruls where
 ver:Value
 ticks:Value
 band:Value
 fees:Value
 round:Value
 lay:Value
abbrev mC (bk:Nat)(X:Ruls)(R:Rl)(left cash:Int)(fv dv:Value)(lf:Int)(st:Bool):Array Value :=
 #[ptA bk,X.ver,X.ticks,.int .i64 R.lot,X.band,X.fees,X.round,.int .i64 R.mode,.int .i64 R.self,X.lay,.int .i64 R.acc,.int .i64 R.side,.int .i64 R.price,.int .i64 left,.int .i64 cash,fv,dv,.int .i64 lf,.bool st]
def MB (w:World)(g bk:Nat)(X:Ruls)(R:Rl)(left cash:Int)(fv dv:Value)(lf:Int)(st:Bool):Prop:=Cl 109 w g (mC bk X R left cash fv dv lf st)
def ZN (side cash:Int):Bool:=(side==1)&&decide (0<=cash)
theorem qbA (g bk:Nat)(X:Ruls)(R:Rl)(left cash:Int)(fv dv:Value)(lf:Int)(st:Bool)(w:World)(H:MB w g bk X R left cash fv dv lf st) :
  Calls prog 91 #[ptA g] w λe w'=>e=.returned (.bool (ZN R.side cash))/\w=w':=by
 have h11:w.cell? ⟨g,11,none⟩=some (.int .i64 R.side):=(H.c 11).trans rfl
 have h14:w.cell? ⟨g,14,none⟩=some (.int .i64 cash):=(H.c 14).trans rfl
 clear H
 unfold ZN
 generalize R.side=s at h11
 by_cases h1:s=1
 ·subst h1;obtain⟨b,hb⟩:∃b,decide (0<=cash)=b:=⟨_,rfl⟩
  rw[hb];go_enter func91,ntmps91;go_wp2_with fail
  go_ret;exact⟨rfl,rfl⟩
 ·have g1:(s==1)=false:=by simp[h1]
  rw[g1];clear h1;go_enter func91,ntmps91;go_wp2_with fail
  go_ret;exact⟨rfl,rfl⟩
theorem qj3 {a p:Int}(h1:0<=a)(h2:a<=9223372036854775807)(h3:1<=p):dv a 1 p 1=a / p/\0<=a / p/\a / p<=a:=by
 have hq:a / p<=a:=Int.ediv_le_self _ h1
 have hq0:0<=a / p:=Ex h1 Oz
 have e:Jd a 1 p 1=a / p:=by
  rw[X9 a 1 p 1 false _ (by rw[Sz Oz,Sz (by omega)];rfl) rfl];have e1:(a*1).natAbs=a.toNat:=by omega
  have e2:p.natAbs=p.toNat:=by omega
  rw[Sw (show ¬(false=true) by decide),e1,e2];unfold Z6;have e3:∀(x:Nat) (b:Bool),(if (if x=0 then false else if (1:Int)=2 then !false else if (1:Int)=1 then false else b)=true then 1 else 0)=(0:Nat):=by intro x b;simp
  rw[e3,Ak,Lq,Es h1,Es (by omega)]
 have hi:InR (Jd a 1 p 1):=by rw[e];unfold InR;omega
 rw[dv,Sw (not_not_intro (.inl rfl)),Sw Oz,Yo hi,e]
 exact⟨rfl,hq0,hq⟩
theorem Cl.bel {T:TypeId}{w X:World}{c:Nat}{cs:Array Value}(h:Cl T w c cs)(hX:Ok w X):Cl T X c cs:=(hX.block _ (Qc h)).trans h
def GG (R:Rl)(cash p qty:Int):Int:=if ZN R.side cash=true then min qty (Qj R.lot (cash / p)) else qty
theorem qj4 (c3 c4 g bk:Nat)(X:Ruls)(R:Rl)(left cash:Int)(fv dv:Value)(lf:Int)(st:Bool)(p qty:Int)(w:World)(H:MB w g bk X R left cash fv dv lf st)
  (K3:Cl 139 w c3 #[ptA g]) (K4:Cl 2 w c4 #[.int .i64 p]) (hc:InR cash) (hl:InR R.lot) (hp:1<=p) (hp2:p<=1099511627776) :
  Calls prog 90 #[.int .i64 qty,ptA c3,ptA c4] w λe w'=>e=.returned (.int .i64 (GG R cash p qty))/\Ok w w':=by
 have HP:=Ou (qbA g bk X R left cash fv dv lf st w H)
 have N3:Hid (∀X',Ok w X'->X'.cell? ⟨c3,0,none⟩=some (ptA g)):=Ou (λX' hX=>((Cl.bel K3 hX).c 0).trans rfl)
 have N4:Hid (∀X',Ok w X'->X'.cell? ⟨c4,0,none⟩=some (.int .i64 p)):=Ou (λX' hX=>((Cl.bel K4 hX).c 0).trans rfl)
 have N14:Hid (∀X',Ok w X'->X'.cell? ⟨g,14,none⟩=some (.int .i64 cash)):=Ou (λX' hX=>((Cl.bel H hX).c 14).trans rfl)
 have N3':Hid (∀X',Ok w X'->X'.cell? ⟨g,3,none⟩=some (.int .i64 R.lot)):=Ou (λX' hX=>((Cl.bel H hX).c 3).trans rfl)
 have k3:=N3.out w (Oq _ _)
 unfold GG
 generalize R.lot=lot at hl N3'
 generalize R.side=s at HP
 clear H K3 K4
 cases hb:ZN s cash with
 | false =>
  rw[hb]at HP;rw[Sw (by decide)];clear hb;go_enter func90,ntmps90;go_wp2_with ((with_reducible refine HP.out.mono ?_);rintro e w' ⟨rfl,rfl⟩)
  go_ret;exact⟨rfl,Below.refl _ _⟩
 | true =>
  have h0:0<=cash:=by unfold ZN at hb;simp only[Iv,decide_eq_true_eq]at hb;exact hb.2
  rw[hb]at HP;rw[Sx rfl];obtain⟨d1,d2,d3⟩:=qj3 h0 hc.2 hp
  have jW:Hid (∀w,Calls prog 92 #[.int .i64 cash,.int .i64 1,.int .i64 p,.int .i64 1] w λe w'=>e=.returned (.tuple #[.int .i64 (cash / p),.int .i64 (de cash 1 p 1)])/\Ok w w'):=Ou (λw=>by
   have h:=DM cash 1 p hc ⟨by omega,by omega⟩ ⟨by omega,by omega⟩ Oz hp (by have:=hc.2;rw[Int.mul_one];omega) w
   rw[d1]at h;exact h)
  have hcp:InR (cash / p):=⟨by omega,by have:=hc.2;omega⟩
  generalize de cash 1 p 1=er at jW;generalize cash / p=q at *;have HT:=Ou (λW=>KJ lot q hcp hl W);generalize Qj lot q=tq at HT;obtain⟨res,hres⟩:∃r,min qty tq=r:=⟨_,rfl⟩
  rw[hres];clear hb h0 d1 d2 d3 hc hl hp hp2 hcp;go_enter func90,ntmps90;go_upto_region 3 with ((with_reducible refine HP.out.mono ?_);rintro e w' ⟨rfl,rfl⟩)
  refine wp_region_held_drew (S:=λX=>Ok w X) Ow (by exact(Oq _ _).drew) (λhHeld=>?_);refine tkH 0 ?_ ?_ Ov ?_;rotate_left
  ·(intro w hSw;have hs:=N3.out _ hSw;(try dsimp only at hSw);go_simp;try with_reducible rfl)
  (try simp only[zz]);refine tkA 1 ?_;refine tkA 2 ?_;refine tkA 3 ?_;refine tkH 4 ?_ ?_ Ov ?_;rotate_left
  ·(intro w hSw;have hs:=N14.out _ hSw;(try dsimp only at hSw);go_simp;try with_reducible rfl)
  (try simp only[zz]);refine tkH 5 ?_ ?_ Ov ?_;rotate_left
  ·(intro w hSw;have hs:=N4.out _ hSw;(try dsimp only at hSw);go_simp;try with_reducible rfl)
  (try simp only[zz]);refine rdH 6 (λK hK=>?_);go_simp;((with_reducible refine(jW.out _).mono ?_);rintro e y1 ⟨rfl,hb⟩;have hb:=Ou hb);refine hK.out _ _ (by exact hHeld.trans (hb.out.mono hHeld.size)) (λhHeld=>?_);clear hK K;(try simp only[zz]);refine tkA 7 ?_;refine tkA 8 ?_;refine tkA 9 ?_;refine tkA 10 ?_;refine tkA 11 ?_;(try simp only[zz]);refine wpAnyH_done Ow ?_ _
  rename_i X1
  have E1:=Ou hHeld;have m3:=N3.out _ hHeld;have m4:=N3'.out _ hHeld;clear hHeld;go_wp2_with ((with_reducible refine(HT.out _).mono ?_);rintro e w5 ⟨rfl,rfl⟩)
  go_ret;exact⟨rfl,E1.out⟩
theorem qbB {s:Int}(h:s=1∨s=2):Zt s=3-s:=by rcases h with rfl|rfl<;>rfl
theorem qj5 (g bk:Nat)(v:Value)(k:Int)(L:List Od)(S:Nat->Prop)(X:Ruls)(R:Rl)(left cash:Int)(fv dv:Value)(lf:Int)(st:Bool)(w:World)(H:MB w g bk X R left cash fv dv lf st)(HB:LyB w bk v k L S)(hs:R.side=1∨R.side=2) :
  Calls prog 54 #[ptA g] w λe w'=>e=.returned (.tuple #[.int .i64 ((prM R L).getD 0),.bool (prM R L).isSome])/\Ok w w':=by
 obtain⟨w0,hw0⟩:∃w0,w.alloc (.cells #[.int .i64 R.acc,.int .i64 R.side,.int .i64 R.price,.int .i64 left,.int .i64 cash] 64)=w0:=⟨_,rfl⟩
 have b0:Ok w w0:=by rw[<-hw0];exact(Oq _ _).alloc (Sq _) _
 have c0:Cl 64 w0 w.heap.size #[.int .i64 R.acc,.int .i64 R.side,.int .i64 R.price,.int .i64 left,.int .i64 cash]:=by rw[<-hw0];exact Qe rfl
 have h10:w.cell? ⟨g,10,none⟩=some (.int .i64 R.acc):=(H.c 10).trans rfl
 have h11:w.cell? ⟨g,11,none⟩=some (.int .i64 R.side):=(H.c 11).trans rfl
 have h12:w.cell? ⟨g,12,none⟩=some (.int .i64 R.price):=(H.c 12).trans rfl
 have xI:w.cell? ⟨g,13,none⟩=some (.int .i64 left):=(H.c 13).trans rfl
 have h14:w.cell? ⟨g,14,none⟩=some (.int .i64 cash):=(H.c 14).trans rfl
 have H0:Cl _ w0 g _:=Cl.bel H b0
 have N0:Hid (∀X',Ok w0 X'->X'.cell? ⟨g,0,none⟩=some (ptA bk)):=Ou (λX' hX=>((Cl.bel H0 hX).c 0).trans rfl)
 have N1:Hid (∀X',Ok w0 X'->X'.cell? ⟨w.heap.size,1,none⟩=some (.int .i64 R.side)):=Ou (λX' hX=>((Cl.bel c0 hX).c 1).trans rfl)
 have N2:Hid (∀X',Ok w0 X'->X'.cell? ⟨w.heap.size,2,none⟩=some (.int .i64 R.price)):=Ou (λX' hX=>((Cl.bel c0 hX).c 2).trans rfl)
 have HO:=Ou (λW=>Ye R.side W)
 rw[qbB hs]at HO
 have bY:=Ou (λW (hW:Ok w0 W)=>qbj bk v k L S (3-R.side) (by rcases hs with h|h<;>rw[h]<;>rfl) W ((HB.below b0).below hW))
 have eQ:=Ou (λa b W=>Cw R.side a b W)
 have B0:=Ou b0
 have aH:prM R L=match QE (3-R.side) L with|none=>none|some b=>if ¬R.price=0/\QN R.side R.price b.price=false then none else some b.price:=rfl
 have aW:=Ou aH
 clear H0 c0 b0 HB hs aH H
 generalize hbs:QE (3-R.side) L=bs at bY aW
 generalize R.side=s at *
 generalize R.price=pr at *
 generalize R.acc=ac at *
 clear hbs
 generalize prM R L=pm at aW ⊢
 obtain⟨z,hz⟩:∃z,oZ bs=z:=⟨_,rfl⟩
 obtain⟨there,aS⟩:∃t,bs.isSome=t:=⟨_,rfl⟩
 unfold Kh at bY
 rw[hz,aS]at bY
 have HZ:=Ou (Sv hz aS)
 clear hz aS
 go_enter func54,ntmps54
 go_upto_region 2 with fail
 go_cut [5,6] (λs5 s6 wx=>∃c:Nat,s5=.pointer (some ⟨c,0,none⟩)/\s6=.bool there/\Hid (Ok w0 wx)/\Hid (Cl 38 wx c (OC z)))
 case first =>
  refine wp_region_held_drew (S:=λW=>Ok w0 W) Ow (by exact(Oq _ _).drew) (λhHeld=>?_);refine tkA 0 ?_;refine tkA 1 ?_;refine tkA 2 ?_;refine tkH 3 ?_ ?_ Ov ?_;rotate_left
  ·(intro w hSw;have hs:=N0.out _ hSw;(try dsimp only at hSw);go_simp;try with_reducible rfl)
  (try simp only[zz]);refine tkA 4 ?_;refine tkH 5 ?_ ?_ Ov ?_;rotate_left
  ·(intro w hSw;have hs:=N1.out _ hSw;(try dsimp only at hSw);go_simp;try with_reducible rfl)
  (try simp only[zz]);refine wpAnyH_ready (rs:=[6,11]) Ow Oy ?_;refine(AllReadyH.cons (o:=⟨some 18,_,_,_,_,_⟩) rfl (λK hK=>?_) (AllReadyH.cons (o:=⟨some 5,_,_,_,_,_⟩) rfl (λK hK=>?_) AllReadyH.nil))
  ·go_simp;((with_reducible refine(HO.out _).mono ?_);rintro e y0 ⟨rfl,rfl⟩);refine hK.out _ _ (by exact hHeld) (λhHeld=>?_);clear hK K;(try simp only[zz]);refine wpAnyH_ready (rs:=[7,11]) Ow Oy ?_;refine(AllReadyH.cons (o:=⟨some 19,_,_,_,_,_⟩) rfl (λK hK=>?_) (AllReadyH.cons (o:=⟨some 5,_,_,_,_,_⟩) rfl (λK hK=>?_) AllReadyH.nil))
   ·go_simp;((with_reducible refine(bY.out _ hHeld).mono ?_);rintro e y1 ⟨rfl,hb⟩);have HS:Hid (w0.heap.size<=y1.heap.size):=Ou (by have h1:=hHeld.size;have h2:=hb.out.size;omega);refine hK.out _ _ (by exact hHeld.trans (hb.out.mono hHeld.size)) (λhHeld=>?_);clear hK K;(try simp only[zz]);refine tkA 8 ?_;refine tkA 9 ?_;refine tkA 10 ?_;(try simp only[zz]);refine wpAnyH_ready (rs:=[11]) Ow Oy ?_;refine(AllReadyH.cons (o:=⟨some 5,_,_,_,_,_⟩) rfl (λK hK=>?_) AllReadyH.nil);go_simp;refine hK.out _ _ (by exact hHeld.alloc hHeld.size _) (λhHeld=>?_);clear hK K;(try simp only[zz]);refine wpAnyH_ready (rs:=[12]) Ow Oy ?_
    refine(AllReadyH.cons (o:=⟨none,_,_,_,_,_⟩) rfl (λK hK=>?_) AllReadyH.nil);have dP:=setRow_heap _ _ _ (OC z) _ _ ((show Cl 38 _ y1.heap.size (OC ⟨0,0,0,0,0,0⟩) from Qh (Qe rfl)));((with_reducible apply V6);rfl;rfl;rfl;rfl;exact(show Cl 38 _ y1.heap.size (OC ⟨0,0,0,0,0,0⟩) from Qh (Qe rfl));skip);have tK:=Ou dP;clear dP;refine hK.out _ _ (by exact Zy hHeld (HS.out)) (λhHeld=>?_);clear hK K;(try simp only[zz]);refine tkA 13 ?_;(try simp only[zz]);refine wpAnyH_done Ow ?_ _;go_wp2_with fail
    go_meet;exact⟨y1.heap.size,rfl,rfl,Ou hHeld,Ou (Qh tK.out)⟩
   ·go_simp;refine hK.out _ _ (by exact hHeld.alloc hHeld.size _) (λhHeld=>?_);clear hK K;(try simp only[zz]);refine wpAnyH_ready (rs:=[7]) Ow Oy ?_;refine(AllReadyH.cons (o:=⟨some 19,_,_,_,_,_⟩) rfl (λK hK=>?_) AllReadyH.nil);go_simp;((with_reducible refine(bY.out _ hHeld).mono ?_);rintro e y1 ⟨rfl,hb⟩);have hA:Hid (Cl 38 y1 w0.heap.size (OC ⟨0,0,0,0,0,0⟩)):=Ou (Cl.bel (show Cl 38 _ w0.heap.size (OC ⟨0,0,0,0,0,0⟩) from Qh (Qe rfl)) hb.out);refine hK.out _ _ (by exact hHeld.trans (hb.out.mono hHeld.size)) (λhHeld=>?_);clear hK K;(try simp only[zz]);refine tkA 8 ?_;refine tkA 9 ?_;refine tkA 10 ?_
    (try simp only[zz]);refine wpAnyH_ready (rs:=[12]) Ow Oy ?_;refine(AllReadyH.cons (o:=⟨none,_,_,_,_,_⟩) rfl (λK hK=>?_) AllReadyH.nil);have dP:=setRow_heap _ _ _ (OC z) _ _ (Qh hA.out);((with_reducible apply V6);rfl;rfl;rfl;rfl;exact Qh hA.out;skip);have tK:=Ou dP;clear dP;refine hK.out _ _ (by exact Zy hHeld (Sq _)) (λhHeld=>?_);clear hK K;(try simp only[zz]);refine tkA 13 ?_;(try simp only[zz]);refine wpAnyH_done Ow ?_ _;go_wp2_with fail
    go_meet;exact⟨w0.heap.size,rfl,rfl,Ou hHeld,Ou (Qh tK.out)⟩
  ·go_simp;refine hK.out _ _ (by exact hHeld.alloc hHeld.size _) (λhHeld=>?_);clear hK K;(try simp only[zz]);refine wpAnyH_ready (rs:=[6]) Ow Oy ?_;refine(AllReadyH.cons (o:=⟨some 18,_,_,_,_,_⟩) rfl (λK hK=>?_) AllReadyH.nil);go_simp;((with_reducible refine(HO.out _).mono ?_);rintro e y0 ⟨rfl,rfl⟩);refine hK.out _ _ (by exact hHeld) (λhHeld=>?_);clear hK K;(try simp only[zz]);refine wpAnyH_ready (rs:=[7]) Ow Oy ?_;refine(AllReadyH.cons (o:=⟨some 19,_,_,_,_,_⟩) rfl (λK hK=>?_) AllReadyH.nil);go_simp;((with_reducible refine(bY.out _ hHeld).mono ?_);rintro e y1 ⟨rfl,hb⟩);have hA:Hid (Cl 38 y1 w0.heap.size (OC ⟨0,0,0,0,0,0⟩)):=Ou (Cl.bel (show Cl 38 _ w0.heap.size (OC ⟨0,0,0,0,0,0⟩) from Qh (Qe rfl)) hb.out)
   refine hK.out _ _ (by exact hHeld.trans (hb.out.mono hHeld.size)) (λhHeld=>?_);clear hK K;(try simp only[zz]);refine tkA 8 ?_;refine tkA 9 ?_;refine tkA 10 ?_;(try simp only[zz]);refine wpAnyH_ready (rs:=[12]) Ow Oy ?_;refine(AllReadyH.cons (o:=⟨none,_,_,_,_,_⟩) rfl (λK hK=>?_) AllReadyH.nil);have dP:=setRow_heap _ _ _ (OC z) _ _ (Qh hA.out);((with_reducible apply V6);rfl;rfl;rfl;rfl;exact Qh hA.out;skip);have tK:=Ou dP;clear dP;refine hK.out _ _ (by exact Zy hHeld (Sq _)) (λhHeld=>?_);clear hK K;(try simp only[zz]);refine tkA 13 ?_;(try simp only[zz])
   refine wpAnyH_done Ow ?_ _;go_wp2_with fail
   go_meet;exact⟨w0.heap.size,rfl,rfl,Ou hHeld,Ou (Qh tK.out)⟩
 case rest =>
  obtain⟨c,rfl,rfl,hB,hC⟩:=hcut;have q1:=N1.out _ hB.out;have q2:=N2.out _ hB.out;have q3:wc.cell? ⟨c,3,none⟩=some (.int .i64 z.price):=(hC.out.c 3).trans rfl;have BW:=Ou (B0.out.trans (hB.out.mono B0.out.size));have hZ:=HZ.out;clear N0 N1 N2 HO bY hB hC hw0 h10 h11 h12 xI h14 HZ B0
  cases bs with
  | none =>
   obtain⟨-,h2⟩:=hZ;subst h2;have e9:pm=none:=aW.out;subst e9;clear aW eQ;go_wp2_with fail
   go_ret2;exact⟨rfl,BW.out⟩
  | some b =>
   obtain⟨h1,h2⟩:=hZ;have h1:b=z:=h1;subst h1 h2;dsimp only at aW;by_cases p0:pr=0
   ·have g1:(pr != 0)=false:=by simp[p0]
    have e9:=aW.out;rw[Sw (λh=>h.1 p0)]at e9;subst e9;clear aW eQ p0;go_wp2_with fail
    go_ret2;exact⟨rfl,BW.out⟩
   ·have g1:(pr != 0)=true:=by simp[p0]
    have HC:=Ou (eQ.out pr b.price wc)
    cases hc:QN s pr b.price with
    | true =>
     rw[hc]at HC aW;have e9:=aW.out;rw[Sw (λh=>by cases h.2)]at e9;subst e9;clear aW eQ p0 hc;go_wp2_with ((with_reducible refine HC.out.mono ?_);rintro e w' ⟨rfl,rfl⟩)
     go_ret2;exact⟨rfl,BW.out⟩
    | false =>
     rw[hc]at HC aW;have e9:=aW.out;rw[Sx ⟨p0,rfl⟩]at e9;subst e9;clear aW eQ p0 hc;go_wp2_with ((with_reducible refine HC.out.mono ?_);rintro e w' ⟨rfl,rfl⟩)
     go_ret2;exact⟨rfl,BW.out⟩
structure FitP (R:Rl) (q:Int):Prop where
 side:R.side=1∨R.side=2
 pr0:0<=R.price
 pr1:R.price<=1099511627776
 q0:1<=q
 q1:q<=1099511627776
 l0:1<=R.lot
 l1:R.lot<=1099511627776
 m0:1<=R.mode
 m1:R.mode<=2
 s0:1<=R.self
 s1:R.self<=4
theorem GH {R:Rl}{q:Int}(h:FitP R q):QV R.self=true:=by
 have h1:=h.s0
 have h2:=h.s1
 have e:R.self=1∨R.self=2∨R.self=3∨R.self=4:=by omega
 rcases e with e|e|e|e<;>rw[e]<;>rfl
theorem qj6 {s:Int}(h:¬(s=1∨s=2)):Zt s=0:=by
 unfold Zt
 rw[Sw (λe=>h (.inl e)),Sw (λe=>h (.inr e))]
theorem qbC (X:Ruls)(R:Rl)(q cash:Int)(w:World)(b:Bool)(hb:b=true↔FitP R q) :
  Calls prog 53 #[.agg #[.int .i64 R.acc,.int .i64 R.side,.int .i64 R.price,.int .i64 q,.int .i64 cash],.agg #[X.ver,X.ticks,.int .i64 R.lot,X.band,X.fees,X.round,.int .i64 R.mode,.int .i64 R.self,X.lay]] w λe w'=>e=.returned (.bool b)/\Ok w w':=by
 have HB:Hid (Ok w ((w.alloc (.cells #[.int .i64 R.acc,.int .i64 R.side,.int .i64 R.price,.int .i64 q,.int .i64 cash] 64)).alloc (.cells #[X.ver,X.ticks,.int .i64 R.lot,X.band,X.fees,X.round,.int .i64 R.mode,.int .i64 R.self,X.lay] 68))):=Ou (((Oq _ _).alloc (Sq _) _).alloc Oy _)
 have HO:=Ou (λW=>Ye R.side W)
 by_cases h0:R.side=1∨R.side=2
 ·have go:(Zt R.side != 0)=true:=by rcases h0 with h|h<;>rw[h]<;>rfl
  by_cases h1:0<=R.price
  ·have g1:decide (0<=R.price)=true:=Sy h1;by_cases h2:R.price<=1099511627776
   ·have g2:decide (R.price<=1099511627776)=true:=Sy h2;by_cases h3:1<=q
    ·have g3:decide (1<=q)=true:=Sy h3;by_cases h4:q<=1099511627776
     ·have g4:decide (q<=1099511627776)=true:=Sy h4;by_cases h5:1<=R.lot
      ·have g5:decide (1<=R.lot)=true:=Sy h5;by_cases h6:R.lot<=1099511627776
       ·have g6:decide (R.lot<=1099511627776)=true:=Sy h6;by_cases h7:1<=R.mode
        ·have g7:decide (1<=R.mode)=true:=Sy h7;by_cases h8:R.mode<=2
         ·have g8:decide (R.mode<=2)=true:=Sy h8;by_cases h9:1<=R.self
          ·have g9:decide (1<=R.self)=true:=Sy h9;by_cases h10:R.self<=4
           ·have g10:decide (R.self<=4)=true:=Sy h10;have e:b=true:=hb.2 ⟨h0,h1,h2,h3,h4,h5,h6,h7,h8,h9,h10⟩;subst e;clear hb h1 h2 h3 h4 h5 h6 h7 h8 h9 h10;clear h0;go_enter func53,ntmps53;go_wp2_with ((with_reducible refine(HO.out _).mono ?_);rintro e w' ⟨rfl,rfl⟩)
            go_ret;exact⟨rfl,HB.out⟩
           ·have e:b=false:=by
             cases b with
             | false=>rfl
             | true=>exact absurd (hb.1 rfl).s1 h10
            subst e;have g10:decide (R.self<=4)=false:=Sz h10;clear hb h10;clear h1 h2 h3 h4 h5 h6 h7 h8 h9;clear h0;go_enter func53,ntmps53;go_wp2_with ((with_reducible refine(HO.out _).mono ?_);rintro e w' ⟨rfl,rfl⟩)
            go_ret;exact⟨rfl,HB.out⟩
          ·have e:b=false:=by
            cases b with
            | false=>rfl
            | true=>exact absurd (hb.1 rfl).s0 h9
           subst e;have g9:decide (1<=R.self)=false:=Sz h9;clear hb h9;clear h1 h2 h3 h4 h5 h6 h7 h8;clear h0;go_enter func53,ntmps53;go_wp2_with ((with_reducible refine(HO.out _).mono ?_);rintro e w' ⟨rfl,rfl⟩)
           go_ret;exact⟨rfl,HB.out⟩
         ·have e:b=false:=by
           cases b with
           | false=>rfl
           | true=>exact absurd (hb.1 rfl).m1 h8
          subst e;have g8:decide (R.mode<=2)=false:=Sz h8;clear hb h8;clear h1 h2 h3 h4 h5 h6 h7;clear h0;go_enter func53,ntmps53;go_wp2_with ((with_reducible refine(HO.out _).mono ?_);rintro e w' ⟨rfl,rfl⟩)
          go_ret;exact⟨rfl,HB.out⟩
        ·have e:b=false:=by
          cases b with
          | false=>rfl
          | true=>exact absurd (hb.1 rfl).m0 h7
         subst e;have g7:decide (1<=R.mode)=false:=Sz h7;clear hb h7;clear h1 h2 h3 h4 h5 h6;clear h0;go_enter func53,ntmps53;go_wp2_with ((with_reducible refine(HO.out _).mono ?_);rintro e w' ⟨rfl,rfl⟩)
         go_ret;exact⟨rfl,HB.out⟩
       ·have e:b=false:=by
         cases b with
         | false=>rfl
         | true=>exact absurd (hb.1 rfl).l1 h6
        subst e;have g6:decide (R.lot<=1099511627776)=false:=Sz h6;clear hb h6;clear h1 h2 h3 h4 h5;clear h0;go_enter func53,ntmps53;go_wp2_with ((with_reducible refine(HO.out _).mono ?_);rintro e w' ⟨rfl,rfl⟩)
        go_ret;exact⟨rfl,HB.out⟩
      ·have e:b=false:=by
        cases b with
        | false=>rfl
        | true=>exact absurd (hb.1 rfl).l0 h5
       subst e;have g5:decide (1<=R.lot)=false:=Sz h5;clear hb h5;clear h1 h2 h3 h4;clear h0;go_enter func53,ntmps53;go_wp2_with ((with_reducible refine(HO.out _).mono ?_);rintro e w' ⟨rfl,rfl⟩)
       go_ret;exact⟨rfl,HB.out⟩
     ·have e:b=false:=by
       cases b with
       | false=>rfl
       | true=>exact absurd (hb.1 rfl).q1 h4
      subst e;have g4:decide (q<=1099511627776)=false:=Sz h4;clear hb h4;clear h1 h2 h3;clear h0;go_enter func53,ntmps53;go_wp2_with ((with_reducible refine(HO.out _).mono ?_);rintro e w' ⟨rfl,rfl⟩)
      go_ret;exact⟨rfl,HB.out⟩
    ·have e:b=false:=by
      cases b with
      | false=>rfl
      | true=>exact absurd (hb.1 rfl).q0 h3
     subst e;have g3:decide (1<=q)=false:=Sz h3;clear hb h3;clear h1 h2;clear h0;go_enter func53,ntmps53;go_wp2_with ((with_reducible refine(HO.out _).mono ?_);rintro e w' ⟨rfl,rfl⟩)
     go_ret;exact⟨rfl,HB.out⟩
   ·have e:b=false:=by
     cases b with
     | false=>rfl
     | true=>exact absurd (hb.1 rfl).pr1 h2
    subst e;have g2:decide (R.price<=1099511627776)=false:=Sz h2;clear hb h2;clear h1;clear h0;go_enter func53,ntmps53;go_wp2_with ((with_reducible refine(HO.out _).mono ?_);rintro e w' ⟨rfl,rfl⟩)
    go_ret;exact⟨rfl,HB.out⟩
  ·have e:b=false:=by
    cases b with
    | false=>rfl
    | true=>exact absurd (hb.1 rfl).pr0 h1
   subst e;have g1:decide (0<=R.price)=false:=Sz h1;clear hb h1;clear h0;go_enter func53,ntmps53;go_wp2_with ((with_reducible refine(HO.out _).mono ?_);rintro e w' ⟨rfl,rfl⟩)
   go_ret;exact⟨rfl,HB.out⟩
 ·have e:b=false:=by
   cases b with
   | false=>rfl
   | true=>exact absurd (hb.1 rfl).side h0
  subst e;have go:(Zt R.side != 0)=false:=by rw[qj6 h0];rfl
  clear hb h0;go_enter func53,ntmps53;go_wp2_with ((with_reducible refine(HO.out _).mono ?_);rintro e w' ⟨rfl,rfl⟩)
  go_ret;exact⟨rfl,HB.out⟩
theorem qbD (X:Ruls)(R:Rl)(q cash:Int)(w:World)(b:Bool)(hb:b=true↔FitP R q) :
  Calls prog 56 #[.agg #[.int .i64 R.acc,.int .i64 R.side,.int .i64 R.price,.int .i64 q,.int .i64 cash],.agg #[.int .i64 R.lot,.int .i64 R.mode,.int .i64 R.self]] w λe w'=>e=.returned (.bool b)/\Ok w w':=by
 have HB:Hid (Ok w ((w.alloc (.cells #[.int .i64 R.acc,.int .i64 R.side,.int .i64 R.price,.int .i64 q,.int .i64 cash] 80)).alloc (.cells #[.int .i64 R.lot,.int .i64 R.mode,.int .i64 R.self] 82))):=Ou (((Oq _ _).alloc (Sq _) _).alloc Oy _)
 by_cases h0:R.side=1∨R.side=2
 ·by_cases h1:0<=R.price
  ·have g1:decide (0<=R.price)=true:=Sy h1;by_cases h2:R.price<=1099511627776
   ·have g2:decide (R.price<=1099511627776)=true:=Sy h2;by_cases h3:1<=q
    ·have g3:decide (1<=q)=true:=Sy h3;by_cases h4:q<=1099511627776
     ·have g4:decide (q<=1099511627776)=true:=Sy h4;by_cases h5:1<=R.lot
      ·have g5:decide (1<=R.lot)=true:=Sy h5;by_cases h6:R.lot<=1099511627776
       ·have g6:decide (R.lot<=1099511627776)=true:=Sy h6;by_cases h7:1<=R.mode
        ·have g7:decide (1<=R.mode)=true:=Sy h7;by_cases h8:R.mode<=2
         ·have g8:decide (R.mode<=2)=true:=Sy h8;by_cases h9:1<=R.self
          ·have g9:decide (1<=R.self)=true:=Sy h9;by_cases h10:R.self<=4
           ·have g10:decide (R.self<=4)=true:=Sy h10;have e:b=true:=hb.2 ⟨h0,h1,h2,h3,h4,h5,h6,h7,h8,h9,h10⟩;subst e;clear hb h1 h2 h3 h4 h5 h6 h7 h8 h9 h10;rcases h0 with h0|h0
            ·have a1:(R.side==1)=true:=by simp[h0]
             clear h0;go_enter func56,ntmps56;go_wp2_with fail
             go_ret;exact⟨rfl,HB.out⟩
            ·have a1:(R.side==1)=false:=by simp[h0]
             have a2:(R.side==2)=true:=by simp[h0]
             clear h0;go_enter func56,ntmps56;go_wp2_with fail
             go_ret;exact⟨rfl,HB.out⟩
           ·have e:b=false:=by
             cases b with
             | false=>rfl
             | true=>exact absurd (hb.1 rfl).s1 h10
            subst e;have g10:decide (R.self<=4)=false:=Sz h10;clear hb h10;clear h1 h2 h3 h4 h5 h6 h7 h8 h9;rcases h0 with h0|h0
            ·have a1:(R.side==1)=true:=by simp[h0]
             clear h0;go_enter func56,ntmps56;go_wp2_with fail
             go_ret;exact⟨rfl,HB.out⟩
            ·have a1:(R.side==1)=false:=by simp[h0]
             have a2:(R.side==2)=true:=by simp[h0]
             clear h0;go_enter func56,ntmps56;go_wp2_with fail
             go_ret;exact⟨rfl,HB.out⟩
          ·have e:b=false:=by
            cases b with
            | false=>rfl
            | true=>exact absurd (hb.1 rfl).s0 h9
           subst e;have g9:decide (1<=R.self)=false:=Sz h9;clear hb h9;clear h1 h2 h3 h4 h5 h6 h7 h8;rcases h0 with h0|h0
           ·have a1:(R.side==1)=true:=by simp[h0]
            clear h0;go_enter func56,ntmps56;go_wp2_with fail
            go_ret;exact⟨rfl,HB.out⟩
           ·have a1:(R.side==1)=false:=by simp[h0]
            have a2:(R.side==2)=true:=by simp[h0]
            clear h0;go_enter func56,ntmps56;go_wp2_with fail
            go_ret;exact⟨rfl,HB.out⟩
         ·have e:b=false:=by
           cases b with
           | false=>rfl
           | true=>exact absurd (hb.1 rfl).m1 h8
          subst e;have g8:decide (R.mode<=2)=false:=Sz h8;clear hb h8;clear h1 h2 h3 h4 h5 h6 h7;rcases h0 with h0|h0
          ·have a1:(R.side==1)=true:=by simp[h0]
           clear h0;go_enter func56,ntmps56;go_wp2_with fail
           go_ret;exact⟨rfl,HB.out⟩
          ·have a1:(R.side==1)=false:=by simp[h0]
           have a2:(R.side==2)=true:=by simp[h0]
           clear h0;go_enter func56,ntmps56;go_wp2_with fail
           go_ret;exact⟨rfl,HB.out⟩
        ·have e:b=false:=by
          cases b with
          | false=>rfl
          | true=>exact absurd (hb.1 rfl).m0 h7
         subst e;have g7:decide (1<=R.mode)=false:=Sz h7;clear hb h7;clear h1 h2 h3 h4 h5 h6;rcases h0 with h0|h0
         ·have a1:(R.side==1)=true:=by simp[h0]
          clear h0;go_enter func56,ntmps56;go_wp2_with fail
          go_ret;exact⟨rfl,HB.out⟩
         ·have a1:(R.side==1)=false:=by simp[h0]
          have a2:(R.side==2)=true:=by simp[h0]
          clear h0;go_enter func56,ntmps56;go_wp2_with fail
          go_ret;exact⟨rfl,HB.out⟩
       ·have e:b=false:=by
         cases b with
         | false=>rfl
         | true=>exact absurd (hb.1 rfl).l1 h6
        subst e;have g6:decide (R.lot<=1099511627776)=false:=Sz h6;clear hb h6;clear h1 h2 h3 h4 h5;rcases h0 with h0|h0
        ·have a1:(R.side==1)=true:=by simp[h0]
         clear h0;go_enter func56,ntmps56;go_wp2_with fail
         go_ret;exact⟨rfl,HB.out⟩
        ·have a1:(R.side==1)=false:=by simp[h0]
         have a2:(R.side==2)=true:=by simp[h0]
         clear h0;go_enter func56,ntmps56;go_wp2_with fail
         go_ret;exact⟨rfl,HB.out⟩
      ·have e:b=false:=by
        cases b with
        | false=>rfl
        | true=>exact absurd (hb.1 rfl).l0 h5
       subst e;have g5:decide (1<=R.lot)=false:=Sz h5;clear hb h5;clear h1 h2 h3 h4;rcases h0 with h0|h0
       ·have a1:(R.side==1)=true:=by simp[h0]
        clear h0;go_enter func56,ntmps56;go_wp2_with fail
        go_ret;exact⟨rfl,HB.out⟩
       ·have a1:(R.side==1)=false:=by simp[h0]
        have a2:(R.side==2)=true:=by simp[h0]
        clear h0;go_enter func56,ntmps56;go_wp2_with fail
        go_ret;exact⟨rfl,HB.out⟩
     ·have e:b=false:=by
       cases b with
       | false=>rfl
       | true=>exact absurd (hb.1 rfl).q1 h4
      subst e;have g4:decide (q<=1099511627776)=false:=Sz h4;clear hb h4;clear h1 h2 h3;rcases h0 with h0|h0
      ·have a1:(R.side==1)=true:=by simp[h0]
       clear h0;go_enter func56,ntmps56;go_wp2_with fail
       go_ret;exact⟨rfl,HB.out⟩
      ·have a1:(R.side==1)=false:=by simp[h0]
       have a2:(R.side==2)=true:=by simp[h0]
       clear h0;go_enter func56,ntmps56;go_wp2_with fail
       go_ret;exact⟨rfl,HB.out⟩
    ·have e:b=false:=by
      cases b with
      | false=>rfl
      | true=>exact absurd (hb.1 rfl).q0 h3
     subst e;have g3:decide (1<=q)=false:=Sz h3;clear hb h3;clear h1 h2;rcases h0 with h0|h0
     ·have a1:(R.side==1)=true:=by simp[h0]
      clear h0;go_enter func56,ntmps56;go_wp2_with fail
      go_ret;exact⟨rfl,HB.out⟩
     ·have a1:(R.side==1)=false:=by simp[h0]
      have a2:(R.side==2)=true:=by simp[h0]
      clear h0;go_enter func56,ntmps56;go_wp2_with fail
      go_ret;exact⟨rfl,HB.out⟩
   ·have e:b=false:=by
     cases b with
     | false=>rfl
     | true=>exact absurd (hb.1 rfl).pr1 h2
    subst e;have g2:decide (R.price<=1099511627776)=false:=Sz h2;clear hb h2;clear h1;rcases h0 with h0|h0
    ·have a1:(R.side==1)=true:=by simp[h0]
     clear h0;go_enter func56,ntmps56;go_wp2_with fail
     go_ret;exact⟨rfl,HB.out⟩
    ·have a1:(R.side==1)=false:=by simp[h0]
     have a2:(R.side==2)=true:=by simp[h0]
     clear h0;go_enter func56,ntmps56;go_wp2_with fail
     go_ret;exact⟨rfl,HB.out⟩
  ·have e:b=false:=by
    cases b with
    | false=>rfl
    | true=>exact absurd (hb.1 rfl).pr0 h1
   subst e;have g1:decide (0<=R.price)=false:=Sz h1;clear hb h1;rcases h0 with h0|h0
   ·have a1:(R.side==1)=true:=by simp[h0]
    clear h0;go_enter func56,ntmps56;go_wp2_with fail
    go_ret;exact⟨rfl,HB.out⟩
   ·have a1:(R.side==1)=false:=by simp[h0]
    have a2:(R.side==2)=true:=by simp[h0]
    clear h0;go_enter func56,ntmps56;go_wp2_with fail
    go_ret;exact⟨rfl,HB.out⟩
 ·have e:b=false:=by
   cases b with
   | false=>rfl
   | true=>exact absurd (hb.1 rfl).side h0
  subst e;have a1:(R.side==1)=false:=by simp;omega
  have a2:(R.side==2)=false:=by simp;omega
  clear hb h0;go_enter func56,ntmps56;go_wp2_with fail
  go_ret;exact⟨rfl,HB.out⟩
theorem GI {w w':World}{wb:Nat}{M:List Od}(H:RB w wb M)(hb:Ok w w'):RB w' wb M:=by
 obtain⟨A,c,h1,h2⟩:=H
 exact⟨A,c,Cl.bel h1 hb,Qi h2 (Fr.of_below hb:Fr (λ_=>False) w w') (λ_ _ h=>h)⟩
theorem qj7 (wb:Nat)(L:List Od)(R:Rl)(q cash:Int)(w:World)(HB:RB w wb L)(hn:L.length<=1000)(hs:R.side=1∨R.side=2) :
  Calls prog 57 #[ptA wb,.agg #[.int .i64 R.acc,.int .i64 R.side,.int .i64 R.price,.int .i64 q,.int .i64 cash]] w λe w'=>e=.returned (.tuple #[.int .i64 ((prM R L).getD 0),.bool (prM R L).isSome])/\Ok w w':=by
 obtain⟨w0,hw0⟩:∃w0,w.alloc (.cells #[.int .i64 R.acc,.int .i64 R.side,.int .i64 R.price,.int .i64 q,.int .i64 cash] 80)=w0:=⟨_,rfl⟩
 have b0:Ok w w0:=by rw[<-hw0];exact(Oq _ _).alloc (Sq _) _
 have c0:Cl 80 w0 w.heap.size #[.int .i64 R.acc,.int .i64 R.side,.int .i64 R.price,.int .i64 q,.int .i64 cash]:=by rw[<-hw0];exact Qe rfl
 have k1:w0.cell? ⟨w.heap.size,1,none⟩=some (.int .i64 R.side):=(c0.c 1).trans rfl
 have N1:Hid (∀X',Ok w0 X'->X'.cell? ⟨w.heap.size,1,none⟩=some (.int .i64 R.side)):=Ou (λX' hX=>((Cl.bel c0 hX).c 1).trans rfl)
 have N2:Hid (∀X',Ok w0 X'->X'.cell? ⟨w.heap.size,2,none⟩=some (.int .i64 R.price)):=Ou (λX' hX=>((Cl.bel c0 hX).c 2).trans rfl)
 have hsub:IntKind.i64.wrap (3-R.side)=3-R.side:=by rw[Wz];omega
 have bY:=Ou (U9 wb (3-R.side) L w0 (GI HB b0) hn)
 have eQ:=Ou (λa b W=>Cy R.side a b W)
 have B0:=Ou b0
 have aH:prM R L=match QE (3-R.side) L with|none=>none|some b=>if ¬R.price=0/\QN R.side R.price b.price=false then none else some b.price:=rfl
 have aW:=Ou aH
 have hr1:-9223372036854775808<=3-R.side/\3-R.side<9223372036854775808:=by omega
 obtain⟨hr1,hr2⟩:=hr1
 clear c0 b0 HB hs aH
 generalize hbs:QE (3-R.side) L=bs at bY aW
 generalize R.side=s at *
 generalize R.price=pr at *
 generalize R.acc=ac at *
 clear hbs
 generalize prM R L=pm at aW ⊢
 obtain⟨⟨z0,z1,z2,z3,z4,z5⟩,hz⟩:∃z,oZ bs=z:=⟨_,rfl⟩
 obtain⟨there,aS⟩:∃t,bs.isSome=t:=⟨_,rfl⟩
 rw[Kg,hz,aS]at bY
 have HZ:=Ou (Sv hz aS)
 clear hz aS
 go_enter func57,ntmps57
 go_wp2_with fail
 ((with_reducible refine bY.out.mono ?_);rintro e y1 ⟨rfl,hb⟩)
 have BW:=Ou (B0.out.trans (hb.out.mono B0.out.size))
 have BY:=Ou ((hb.out.alloc hb.out.size (.cells #[.int .u64 z0,.int .i64 z1,.int .i64 z2,.int .i64 z3,.int .i64 z4,.int .u64 z5] 49)))
 have BX:=Ou (B0.out.trans (BY.out.mono B0.out.size))
 have q1:=N1.out _ BY.out
 have q2:=N2.out _ BY.out
 have hZ:=HZ.out
 clear N1 N2 bY hb HZ k1
 cases bs with
 | none =>
  obtain⟨-,h2⟩:=hZ;subst h2;have e9:pm=none:=aW.out;subst e9;clear aW eQ;go_wp2_with fail
  go_ret2;exact⟨rfl,BX.out⟩
 | some b =>
  obtain⟨h1,h2⟩:=hZ;have h1:b=_:=h1;subst h1 h2;dsimp only at aW;by_cases p0:pr=0
  ·have g1:(pr != 0)=false:=by simp[p0]
   have e9:=aW.out;rw[Sw (λh=>h.1 p0)]at e9;subst e9;clear aW eQ p0;go_wp2_with fail
   go_ret2;exact⟨rfl,BX.out⟩
  ·have g1:(pr != 0)=true:=by simp[p0]
   have HC:=Ou (λW=>eQ.out pr z3 W)
   cases hc:QN s pr z3 with
   | true =>
    rw[hc]at HC aW;have e9:=aW.out;rw[Sw (λh=>by cases h.2)]at e9;subst e9;clear aW eQ p0 hc;go_wp2_with ((with_reducible refine(HC.out _).mono ?_);rintro e w' ⟨rfl,rfl⟩)
    go_ret2;exact⟨rfl,BX.out⟩
   | false =>
    rw[hc]at HC aW;have e9:=aW.out;rw[Sx ⟨p0,rfl⟩]at e9;subst e9;clear aW eQ p0 hc;go_wp2_with ((with_reducible refine(HC.out _).mono ?_);rintro e w' ⟨rfl,rfl⟩)
    go_ret2;exact⟨rfl,BX.out⟩
def Kk (s p:Int)(L:List Od):Bool:=match QE (Zt s) L with|none=>false|some b=>QN s p b.price
theorem qbE (s:Int):(Lit.int .i64 (Zt s)).wf=true:=by
 unfold Zt
 split
 ·rfl
 ·split<;>rfl
theorem qj8 (bk:Nat)(v:Value)(k:Int)(L:List Od)(S:Nat->Prop)(s p:Int)(w:World)(HB:LyB w bk v k L S) :
  Calls prog 38 #[ptA bk,.int .i64 s,.int .i64 p] w λe w'=>e=.returned (.bool (Kk s p L))/\Ok w w':=by
 have HO:=Ou (λW=>Ye s W)
 have bY:=Ou (qbj bk v k L S (Zt s) (qbE s) w HB)
 have eQ:=Ou (λa b W=>Cw s a b W)
 have aH:Kk s p L=match QE (Zt s) L with|none=>false|some b=>QN s p b.price:=rfl
 have aW:=Ou aH
 clear HB aH
 generalize QE (Zt s) L=bs at bY aW
 generalize Zt s=so at *
 generalize Kk s p L=pm at aW ⊢
 obtain⟨⟨z0,z1,z2,z3,z4,z5⟩,hz⟩:∃z,oZ bs=z:=⟨_,rfl⟩
 obtain⟨there,aS⟩:∃t,bs.isSome=t:=⟨_,rfl⟩
 unfold Kh at bY
 rw[hz,aS]at bY
 have HZ:=Ou (Sv hz aS)
 clear hz aS
 go_enter func38,ntmps38
 go_wp2_with ((with_reducible refine(HO.out _).mono ?_);rintro e w' ⟨rfl,rfl⟩)
 ((with_reducible refine bY.out.mono ?_);rintro e y1 ⟨rfl,hb⟩)
 have BX:=Ou ((hb.out.alloc hb.out.size (.cells #[.int .u64 z0,.int .i64 z1,.int .i64 z2,.int .i64 z3,.int .i64 z4,.int .u64 z5] 38)))
 have hZ:=HZ.out
 clear bY hb HZ
 cases bs with
 | none =>
  obtain⟨-,h2⟩:=hZ;subst h2;have e9:pm=false:=aW.out;subst e9;clear aW eQ;go_wp2_with fail
  go_ret;exact⟨rfl,BX.out⟩
 | some b =>
  obtain⟨h1,h2⟩:=hZ;have h1:b=_:=h1;subst h1 h2;have e9:pm=QN s p z3:=aW.out;have HC:=Ou (λW=>eQ.out p z3 W);rw[<-e9]at HC;clear aW eQ e9;go_wp2_with ((with_reducible refine(HC.out _).mono ?_);rintro e w' ⟨rfl,rfl⟩)
  go_ret;exact⟨rfl,BX.out⟩
theorem K6 {w:World}{v:Value}{k:Int}{L:List Od}{S:Nat->Prop}{g:Nat}{cs:Array Value}(h:Held w v k L S)(hg:Cl 109 w g cs):¬S g:=λhs=>by
 rcases h.kind hs hg with e|e|e|e|e|e|e|e<;>exact absurd e Ox
def Z4 (x:Od×Int):List Value:=Qn x.1++[.int .i64 x.2]
def flF (F:List (Od×Int)):List Value:=F.flatMap Z4
theorem GJ {w:World}{v:Value}{k:Int}{L:List Od}{S:Nat->Prop}{base n size:Nat}{fv:Value}{xs:List Value}(h:Held w v k L S)(hf:w.ownsRow base 90 size fv n xs):∀j,fv.ownBlock=some j->¬S j:=λj hj hs=>by
 rcases hf.2 with ⟨rfl,_⟩ | ⟨g,cap,cur,rfl,_,hk,_⟩
 ·simp[Value.ownBlock]at hj
 ·simp only[Value.ownBlock,Option.some.injEq]at hj;subst hj;rcases h.kind hs hk with e|e|e|e|e|e|e|e<;>exact absurd e Ox
structure MW (w:World) (base g bk:Nat) (X:Ruls) (R:Rl) (v:Value) (k:Int) (S:Nat->Prop) (m:Mt) (fv dv:Value) (lf:Int) (st:Bool):Prop where
 mb:MB w g bk X R m.left m.cash fv dv lf st
 ly:LyB w bk v k m.L S
 fo:w.ownsRow base 90 7 fv m.F.length (flF m.F)
 dr:w.ownsRow base 38 6 dv m.D.length (ol m.D)
 ds:∀j,dv.ownBlock=some j->¬S j
 lo:base<=w.heap.size
 fn:m.F.length<=100000
theorem qj9:(prog.info? 90).map (λi=>(i.zero,i.size,i.bytes))=some (some (.agg (Z4 (⟨0,0,0,0,0,0⟩,0)).toArray),7,56):=by kernel_rfl
theorem qbF (x:Od×Int):∀u∈Z4 x,u.oneCell'=true:=by
 intro u hu
 unfold Z4 Qn at hu
 simp only[Ew,Mu,Iz,Iy,or_false]at hu
 rcases hu with rfl|rfl|rfl|rfl|rfl|rfl|rfl<;>rfl
theorem qbG (T:TypeId)(w:World)(x:Od×Int):∀(j:Nat) (u:Value),(Z4 x)[j]? = some u->(w.alloc (Obj.cells (Z4 x).toArray T)).cell? ((⟨w.heap.size,0,none⟩:Addr).add j)=some u:=by
 intro j u hu
 rw[QP,Ij,cell_of_row _ _ _ _ _ _ (heap_alloc_new w _)]
 simpa using hu
theorem GK {w:World}{base n size:Nat}{e:TypeId}{v:Value}{xs:List Value}(h:w.ownsRow base e size v n xs)(o:Obj):(w.drew.alloc o).ownsRow base e size v n xs:=World.ownsRow.alloc (show w.drew.ownsRow base e size v n xs from h) o
theorem MW.cell {w:World}{base g bk:Nat}{X:Ruls}{R:Rl}{v:Value}{k:Int}{S:Nat->Prop}{m m':Mt}{fv dv:Value}{lf:Int}{st:Bool}(H:MW w base g bk X R v k S m fv dv lf st){j:Nat}{u:Value}
  (hm:Cl 109 (w.setCell ⟨g,j,none⟩ u) g (mC bk X R m'.left m'.cash fv dv lf st)) (hL:m'.L=m.L) (hF:m'.F=m.F) (hD:m'.D=m.D):MW (w.setCell ⟨g,j,none⟩ u) base g bk X R v k S m' fv dv lf st:=by
 have f:Fr (λi=>i=g) w (w.setCell ⟨g,j,none⟩ u):=(Fr.refl (λi=>i=g) w).set (p:=⟨g,j,none⟩) (.inl rfl) _
 have hmb:Cl 109 w g _:=H.mb
 refine⟨hm,?_,?_,?_,H.ds,Sk H.lo f.size,by rw[hF];exact H.fn⟩
 ·rw[hL];refine H.ly.fr f (λh=>?_) (λi hi h=>?_)
  ·subst h;exact absurd (H.ly.cl.symm.trans hmb) Oy
  ·subst h;exact K6 H.ly.hd hmb hi
 ·rw[hF];exact Qi H.fo f (λi hi h=>by subst h;exact Qo H.fo hmb Ox hi)
 ·rw[hD];exact Qi H.dr f (λi hi h=>by subst h;exact Qo H.dr hmb Ox hi)
theorem MW.drew {w:World}{base g bk:Nat}{X:Ruls}{R:Rl}{v:Value}{k:Int}{S:Nat->Prop}{m:Mt}{fv dv:Value}{lf:Int}{st:Bool}(H:MW w base g bk X R v k S m fv dv lf st):MW w.drew base g bk X R v k S m fv dv lf st :=
 ⟨Qh H.mb,H.ly.below ((Below.refl _ w).drew),H.fo,H.dr,H.ds,H.lo,H.fn⟩
theorem Yf {w:World}{b b' n n' s s':Nat}{e e':TypeId}{v v':Value}{xs xs':List Value}(h:w.ownsRow b e s v n xs)(h':w.ownsRow b' e' s' v' n' xs')(hne:e≠e'):∀j,v.ownBlock=some j->¬v'.ownBlock=some j:=λj hj hj'=>by
 rcases h'.2 with ⟨rfl,_⟩ | ⟨g,cap,cur,rfl,_,hk,_⟩
 ·simp[Value.ownBlock]at hj'
 ·simp only[Value.ownBlock,Option.some.injEq]at hj';subst hj';exact Qo h hk hne hj
theorem J2 {w:World}{b n s:Nat}{e:TypeId}{v:Value}{xs:List Value}(h:w.ownsRow b e s v n xs):∀j,v.ownBlock=some j->j<w.heap.size:=λj hj=>by
 rcases h.2 with ⟨rfl,_⟩ | ⟨g,cap,cur,rfl,_,hk,_⟩
 ·simp[Value.ownBlock]at hj
 ·simp only[Value.ownBlock,Option.some.injEq]at hj;subst hj;exact Qc hk
theorem qka {w y1 w3:World}{base g bk gg cp:Nat}{X:Ruls}{R:Rl}{v:Value}{k:Int}{S S':Nat->Prop}{L L':List Od}{left cash:Int}{F:List (Od×Int)}{D:List Od}{fv dv:Value}{lf:Int}{st:Bool}{x:Od}{q:Int}{o:Obj}
  (nK:LyB w bk v k L S) (hfo:w.ownsRow base 90 7 fv F.length (flF F)) (hdr:w.ownsRow base 38 6 dv D.length (ol D)) (hds:∀j,dv.ownBlock=some j->¬S j) (hlo:base<=w.heap.size) (hfn:F.length<100000)
  (h3:HTurn w y1 v k S L' S') (hg:Cl 109 y1 g (mC bk X R left cash fv dv lf st)) (hx:Cl 38 y1 w.heap.size (OC x)) (fJ:y1.ownsRow base 90 7 fv F.length (flF F))
  (hown:w3.ownsRow base 90 7 (.slice (some ⟨gg,0,none⟩) (F.length+1) cp) (F.length+1) (flF F++Z4 (x,q))) (hgr:(y1.drew.alloc o).grownBy w3 fv.ownBlock) (hat:fv.ownBlock=some gg∨gg=y1.heap.size+1) (hg3:Cl 109 w3 g (mC bk X R left cash fv dv lf st)) (kF:g<w.heap.size) :
  MW (w3.setCell ⟨g,15,none⟩ (.slice (some ⟨gg,0,none⟩) (F.length+1) cp)) base g bk X R v k S' ⟨L',left,cash,F++[(x,q)],D⟩ (.slice (some ⟨gg,0,none⟩) (F.length+1) cp) dv lf st /\
  Fr (λj=>S j∨j=g∨fv.ownBlock=some j) w (w3.setCell ⟨g,15,none⟩ (.slice (some ⟨gg,0,none⟩) (F.length+1) cp))/\(∀j,S' j->S j∨w.heap.size<=j)/\(fv.ownBlock=some gg∨w.heap.size<=gg) /\
  Cl 38 (w3.setCell ⟨g,15,none⟩ (.slice (some ⟨gg,0,none⟩) (F.length+1) cp)) w.heap.size (OC x):=by
 have f3:Fr (λj=>j=g∨fv.ownBlock=some j) y1 (w3.setCell ⟨g,15,none⟩ (.slice (some ⟨gg,0,none⟩) (F.length+1) cp)) :=
  ((((Fr.refl _ y1).drew).alloc o).grown hgr (λj hj=>.inl (.inr hj))).set (p:=⟨g,15,none⟩) (.inl (.inl rfl)) _
 have dN:=nK.turn h3
 have gJ:=Qi hdr h3.fr hds
 have lw:=J2 hdr
 have nfg:fv.ownBlock≠some g:=Qo fJ hg Ox
 refine⟨⟨?_,?_,?_,?_,λj hj hs=>?_,Sk hlo (Sk h3.fr.size f3.size),?_⟩,?_,h3.ft,?_,?_⟩
 ·exact QK hg3
 ·refine dN.fr f3 (λh=>?_) (λj hj h=>?_)
  ·rcases h with h|h
   ·subst h;exact absurd (dN.cl.symm.trans hg) Oy
   ·exact Qo fJ dN.cl Ox h
  ·rcases h with h|h
   ·subst h;exact K6 dN.hd hg hj
   ·exact GJ dN.hd fJ j h hj
 ·have:(w3.setCell ⟨g,15,none⟩ (.slice (some ⟨gg,0,none⟩) (F.length+1) cp)).ownsRow base 90 7 (.slice (some ⟨gg,0,none⟩) (F.length+1) cp) (F.length+1) (flF F++Z4 (x,q)):=Qi hown ((Fr.refl (λj=>j=g) w3).set (p:=⟨g,15,none⟩) (.inl rfl) _) (λj hj h=>by subst h;exact Qo hown hg3 Ox hj);simpa [flF] using this
 ·refine Qi gJ f3 (λj hj h=>?_);rcases h with h|h
  ·subst h;exact Qo gJ hg Ox hj
  ·exact Yf gJ fJ Ox j hj h
 ·rcases h3.ft j hs with h|h
  ·exact hds j hj h
  ·have:=lw j hj;omega
 ·show (F++[(x,q)]).length<=100000;rw[Su];simp;omega
 ·exact(h3.fr.mono (λj hj=>.inl (.inl hj))).trans f3 (λj hj=>.inl (.inr hj))
 ·rcases hat with h|h
  ·exact .inl h
  ·right;have:=h3.fr.size;omega
 ·refine f3.blk hx (λh=>?_);rcases h with h|h
  ·omega
  ·have:=J2 hfo _ h;omega
theorem qkb (base g bk:Nat)(X:Ruls)(R:Rl)(v:Value)(k:Int)(S:Nat->Prop)(m:Mt)(fv dv:Value)(lf:Int)(st:Bool)(x:Od)(q:Int)(w:World)(H:MW w base g bk X R v k S m fv dv lf st)(hx:Od.ok w x)(hfl:m.F.length<100000)(hq0:1<=q)(hq1:q<=m.left)(hq2:m.left<=1099511627776)(hp0:1<=x.price)(hpc:ZN R.side m.cash=true->x.price*q<=m.cash)(hcr:InR m.cash) :
  Calls prog 95 #[ptA g,.agg (OC x),.int .i64 q] w λe w'=>e=.returned (.tuple #[])/\∃(gg cp:Nat) (S':Nat->Prop),Hid (MW w' base g bk X R v k S' (ZM (ZN R.side m.cash) m x q) (.slice (some ⟨gg,0,none⟩) (m.F.length+1) cp) dv lf st)/\Hid (Fr (λj=>S j∨j=g∨fv.ownBlock=some j) w w')/\Hid (∀j,S' j->S j∨w.heap.size<=j)/\Hid (fv.ownBlock=some gg∨w.heap.size<=gg):=by
 obtain⟨hmb,nK,hfo,hdr,hds,hlo,-⟩:=H
 obtain⟨L,left,cash,F,D⟩:=m
 dsimp only at hmb nK hfo hdr hfl hq1 hq2 hpc hcr
 rw[show ZM (ZN R.side cash) ⟨L,left,cash,F,D⟩ x q=⟨(QU x.id q L).2,left-q,if ZN R.side cash=true then cash-x.price*q else cash,F++[(x,q)],D⟩ from Sx (by omega)]
 obtain⟨pb,hpb⟩:∃b,ZN R.side cash=b:=⟨_,rfl⟩
 rw[hpb]at hpc ⊢
 have zP:=Ou hpb
 clear hpb
 have zQ:=Ou hpc
 have fW:=Ou hcr
 have HQ:=Ou (Sv hq0 (Sv hq1 (Sv hq2 hp0)))
 clear hpc hcr hq0 hq1 hq2 hp0
 have HGw:=Ou (Qc hmb)
 obtain⟨w0,hw0⟩:∃w0,w.alloc (.cells (OC x) 38)=w0:=⟨_,rfl⟩
 have b0:Ok w w0:=by rw[<-hw0];exact Zp _ _
 have c0:Cl 38 w0 w.heap.size (OC x):=by rw[<-hw0];exact Qe rfl
 have fQ:Hid (Cl 109 w0.drew g (mC bk X R left cash fv dv lf st)/\Cl 38 w0.drew w.heap.size (OC x)):=Ou ⟨Qh (Cl.bel hmb b0),Qh c0⟩
 have NF:Hid (¬S w.heap.size):=Ou (λh=>Ay _ (nK.hd.lt _ h))
 have NG:Hid (¬S g):=Ou (K6 nK.hd hmb)
 have rZ:=Ou (λW (hW:Ok w0 W)=>qju bk v k L S x.id q (Jw hx.1) W ((nK.below b0).below hW))
 have bN:=Ou b0
 have zD:=Ou nK
 have kN:=Ou hfo
 have mH:=Ou hdr
 have mI:=Ou hds
 have oH:=Ou hlo
 clear hmb nK hfo hdr hds hlo b0 c0
 go_enter func95,ntmps95
 go_upto_region 1 with fail
 refine wp_region_held_drew (S:=λW=>Cl 109 W g (mC bk X R left cash fv dv lf st)/\Cl 38 W w.heap.size (OC x)) Ow (by exact fQ.out) (λhHeld=>?_)
 refine tkA 0 ?_
 refine tkA 1 ?_
 refine tkA 2 ?_
 refine tkH 3 ?_ ?_ Ov ?_
 rotate_left
 ·(intro w hSw;have hs:=(hSw.1.c 0).trans rfl;(try dsimp only at hSw);go_simp;try with_reducible rfl)
 (try simp only[zz])
 refine tkA 4 ?_
 refine tkH 5 ?_ ?_ Ov ?_
 rotate_left
 ·(intro w hSw;have hs:=(hSw.2.c 0).trans rfl;(try dsimp only at hSw);go_simp;try with_reducible rfl)
 (try simp only[zz])
 refine tkA 6 ?_
 (try simp only[zz])
 refine rdH 7 (λK hK=>?_)
 go_simp
 ((with_reducible refine(rZ.out _ ((Oq _ _).drew)).mono ?_);rintro e y1 ⟨S',rfl,h2⟩)
 have h3:=Ou (HTurn.after (bN.out.trans ((Below.refl _ w0).drew.mono bN.out.size)) h2.out)
 refine hK.out _ _ (by exact⟨h2.out.fr.blk hHeld.1 NG.out,h2.out.fr.blk hHeld.2 NF.out⟩) (λhHeld=>?_)
 clear hK K
 (try simp only[zz])
 refine wpAnyH_done Ow ?_ _
 obtain⟨i0,hi0,hz0,hz1,hz2⟩:=info_parts qj9
 have g15:y1.cell? ⟨g,15,none⟩=some fv:=(hHeld.1.c 15).trans rfl
 obtain⟨x0,x1,x2,x3,x4,x5⟩:=Qm hHeld.2
 have oF:=Ou hHeld.1
 have hx1:=hHeld.2
 have lg:=Qc hHeld.1
 have kO:=Ou (Qi kN.out h3.out.fr (GJ zD.out.hd kN.out))
 have rA:Hid (base<=y1.heap.size):=Ou (Sk oH.out h3.out.fr.size)
 have r9:Hid (fv.ownBlock≠some g):=Ou (Qo kO.out oF.out Ox)
 have oD:=Ou hfl
 clear hHeld hfl
 have kC:=Ou hx1
 clear hx1
 go_upto_region 2 with fail
 go_cut [] (λwx=>∃(gg cp:Nat) (S':Nat->Prop),Hid (MW wx base g bk X R v k S' ⟨(QU x.id q L).2,left,cash,F++[(x,q)],D⟩ (.slice (some ⟨gg,0,none⟩) (F.length+1) cp) dv lf st)/\Hid (Fr (λj=>S j∨j=g∨fv.ownBlock=some j) w wx)/\Hid (∀j,S' j->S j∨w.heap.size<=j)/\Hid (fv.ownBlock=some gg∨w.heap.size<=gg)/\Hid (Cl 38 wx w.heap.size (OC x)))
 case first =>
  go_region_law
   ((refine step_append_lies _ (by rfl) _ _ 69 (by rfl) base 90 i0 (.agg (Z4 (⟨0,0,0,0,0,0⟩,0)).toArray) 7 56 underlying69 hi0 hz0 hz1 hz2 rfl Ox fv F.length (flF F) (by rfl) (GK kO.out _) ⟨y1.heap.size,0,none⟩ 1 1 (Z4 (x,q)) (by rfl) (by rfl) (qbG _ _ (x,q)) (qbF (x,q)) Ox (by unfold maxLen;have:=oD.out;omega) (by have:=oD.out;omega) (by have:=rA.out;simp;omega) (y1.heap.size+1) Oy ?_;intro gg cp w3 aV hgrow hat hlt;have hg3:Cl 109 w3 g (mC bk X R left cash fv dv lf st):=(hgrow.block g (Ww lg Oy) (Ne.symm r9.out)).trans ((Below.heap_alloc y1.drew _ g lg).trans oF.out);have sH:=Ou hg3;have mQ:=Ou aV;have sI:=Ou hgrow;have rU:=Ou hat;have cg15:w3.frozen? ⟨g,15,none⟩=false:=frozen_of_row _ _ _ _ _ hg3;have cv15:w3.cell? ⟨g,15,none⟩=some fv:=(hg3.c 15).trans rfl))
  all_goals
   go_wp2_with fail
   go_meet;obtain⟨r1,r2,r3,r4,r5⟩:=qka zD.out kN.out mH.out mI.out oH.out oD.out h3.out oF.out kC.out kO.out mQ.out sI.out rU.out sH.out HGw.out;exact⟨_,_,_,Ou r1,Ou r2,Ou r3,Ou r4,Ou r5⟩
 case rest =>
  obtain⟨gg,cp,S2,hM,hF2,fF,hg2,eO⟩:=hcut;have gm:Cl 109 wc g (mC bk X R left cash (.slice (some ⟨gg,0,none⟩) (F.length+1) cp) dv lf st):=hM.out.mb;have g13:wc.cell? ⟨g,13,none⟩=some (.int .i64 left):=(gm.c 13).trans rfl;have f13:wc.frozen? ⟨g,13,none⟩=false:=frozen_of_row _ _ _ _ _ gm;obtain⟨hq0,hq1,hq2,hp0⟩:=HQ.out;have hsub:IntKind.i64.wrap (left-q)=left-q:=by rw[Wz];omega
  have gm1:Cl 109 (wc.setCell ⟨g,13,none⟩ (.int .i64 (left-q))) g (mC bk X R (left-q) cash (.slice (some ⟨gg,0,none⟩) (F.length+1) cp) dv lf st):=QK gm;have HP:=Ou (qbA g bk X R (left-q) cash _ dv lf st _ gm1);rw[zP.out]at HP;have f1:Fr (λj=>S j∨j=g∨fv.ownBlock=some j) w (wc.setCell ⟨g,13,none⟩ (.int .i64 (left-q))):=hF2.out.set (p:=⟨g,13,none⟩) (.inl (.inr (.inl rfl))) _;have M1:=Ou (MW.cell (m':=⟨(QU x.id q L).2,left-q,cash,F++[(x,q)],D⟩) hM.out gm1 rfl rfl rfl);have wQ:=Ou gm1;have F1:=Ou f1;have hne:w.heap.size≠g:=by have:=HGw.out;omega
  have hb3:(wc.setCell ⟨g,13,none⟩ (.int .i64 (left-q))).cell? ⟨w.heap.size,3,none⟩=some (.int .i64 x.price):=(Cl.c (show Cl 38 _ w.heap.size (OC x) from(QL (by simpa using hne)).trans eO.out) 3).trans rfl;have bT:=Ou hb3;clear gm gm1 f1 hne hb3 h2 h3 zD kN mH mI oH kO oF kC fQ rZ
  cases pb with
  | false =>
   clear zQ zP;go_wp2_with ((with_reducible refine HP.out.mono ?_);rintro e w' ⟨rfl,rfl⟩)
   go_end0;exact⟨rfl,gg,cp,S2,M1,F1,fF,hg2⟩
  | true =>
   have hpc:=zQ.out rfl;have vG:0<=x.price*q:=Ey Oz Oz;have hcr:=fW.out.2;have hc0:0<=cash:=by omega
   have hmul:IntKind.i64.wrap (x.price*q)=x.price*q:=by rw[Wz];omega
   have yC:IntKind.i64.wrap (cash-x.price*q)=cash-x.price*q:=by rw[Wz];omega
   have b3:=bT.out;have g14:(wc.setCell ⟨g,13,none⟩ (.int .i64 (left-q))).cell? ⟨g,14,none⟩=some (.int .i64 cash):=(wQ.out.c 14).trans rfl;have e14:(wc.setCell ⟨g,13,none⟩ (.int .i64 (left-q))).frozen? ⟨g,14,none⟩=false:=frozen_of_row _ _ _ _ _ wQ.out;have gm2:Cl 109 ((wc.setCell ⟨g,13,none⟩ (.int .i64 (left-q))).setCell ⟨g,14,none⟩ (.int .i64 (cash-x.price*q))) g (mC bk X R (left-q) (cash-x.price*q) (.slice (some ⟨gg,0,none⟩) (F.length+1) cp) dv lf st):=QK wQ.out;have M2:=Ou (MW.cell (m':=⟨(QU x.id q L).2,left-q,cash-x.price*q,F++[(x,q)],D⟩) M1.out gm2 rfl rfl rfl);have F2:=Ou (F1.out.set (p:=⟨g,14,none⟩) (.inl (.inr (.inl rfl))) (.int .i64 (cash-x.price*q)))
   clear gm2 wQ bT M1 F1 zQ zP hpc vG hcr hc0 hq0 hq1 hq2 hp0;go_upto_region 5 with ((with_reducible refine HP.out.mono ?_);rintro e w' ⟨rfl,rfl⟩)
   go_region
   all_goals
    go_wp2_with fail
    go_end0;exact⟨rfl,gg,cp,S2,Ou M2.out.drew,Ou F2.out.drew,fF,hg2⟩
theorem MW.below {w w':World}{base g bk:Nat}{X:Ruls}{R:Rl}{v:Value}{k:Int}{S:Nat->Prop}{m:Mt}{fv dv:Value}{lf:Int}{st:Bool}(H:MW w base g bk X R v k S m fv dv lf st)(hb:Ok w w'):MW w' base g bk X R v k S m fv dv lf st:=by
 have f:Fr (λ_=>False) w w':=Fr.of_below hb
 exact⟨Cl.bel H.mb hb,H.ly.below hb,Qi H.fo f (λ_ _ h=>h),Qi H.dr f (λ_ _ h=>h),H.ds,Sk H.lo hb.size,H.fn⟩
theorem qkc (R:Rl)(m:Mt)(p:Int):GG R m.cash p m.left=ZT R m p:=rfl
def Ft (S:Nat->Prop)(g:Nat)(fv dv:Value)(j:Nat):Prop:=S j∨j=g∨fv.ownBlock=some j∨dv.ownBlock=some j
structure MTurn (w w':World) (base g bk:Nat) (X:Ruls) (R:Rl) (v:Value) (k:Int) (S S1:Nat->Prop) (m1:Mt) (fv dv fv1 dv1:Value) (lf:Int) (st:Bool):Prop where
 mw:MW w' base g bk X R v k S1 m1 fv1 dv1 lf st
 fr:Fr (Ft S g fv dv) w w'
 ft:∀j,S1 j->S j∨w.heap.size<=j
 ff:∀j,fv1.ownBlock=some j->fv.ownBlock=some j∨w.heap.size<=j
 fd:∀j,dv1.ownBlock=some j->dv.ownBlock=some j∨w.heap.size<=j
section
variable {w w' w'':World}{base g bk:Nat}{X:Ruls}{R:Rl}{v:Value}{k:Int}{S S1 S2:Nat → Prop}{m m1 m2:Mt}{fv dv fv1 dv1 fv2 dv2:Value}{lf:Int}{st:Bool}
theorem MTurn.same (H:MW w base g bk X R v k S m fv dv lf st):MTurn w w base g bk X R v k S S m fv dv fv dv lf st:=⟨H,Fr.refl _ _,λ_ h=>.inl h,λ_ h=>.inl h,λ_ h=>.inl h⟩
theorem MTurn.bel (H:MW w base g bk X R v k S m fv dv lf st)(hb:Ok w w'):MTurn w w' base g bk X R v k S S m fv dv fv dv lf st:=⟨H.below hb,Fr.of_below hb,λ_ h=>.inl h,λ_ h=>.inl h,λ_ h=>.inl h⟩
theorem MTurn.trans {lf0:Int}{st0:Bool}(h:MTurn w w' base g bk X R v k S S1 m1 fv dv fv1 dv1 lf0 st0)(h2:MTurn w' w'' base g bk X R v k S1 S2 m2 fv1 dv1 fv2 dv2 lf st):MTurn w w'' base g bk X R v k S S2 m2 fv dv fv2 dv2 lf st:=by
 have hs:=h.fr.size
 refine⟨h2.mw,h.fr.trans h2.fr (λj hj=>?_),λj hj=>?_,λj hj=>?_,λj hj=>?_⟩
 ·rcases hj with hj|hj|hj|hj
  ·exact(h.ft j hj).imp .inl id
  ·exact .inl (.inr (.inl hj))
  ·exact(h.ff j hj).imp (λh=>.inr (.inr (.inl h))) id
  ·exact(h.fd j hj).imp (λh=>.inr (.inr (.inr h))) id
 ·rcases h2.ft j hj with hj|hj
  ·exact h.ft j hj
  ·right;omega
 ·rcases h2.ff j hj with hj|hj
  ·exact h.ff j hj
  ·right;omega
 ·rcases h2.fd j hj with hj|hj
  ·exact h.fd j hj
  ·right;omega
theorem MTurn.grow (h:MTurn w w' base g bk X R v k S S1 m1 fv dv fv1 dv1 lf st)(hb:Ok w' w''):MTurn w w'' base g bk X R v k S S1 m1 fv dv fv1 dv1 lf st:=h.trans (MTurn.bel h.mw hb)
theorem MTurn.after (hb:Ok w w')(h:MTurn w' w'' base g bk X R v k S S1 m1 fv dv fv1 dv1 lf st):MTurn w w'' base g bk X R v k S S1 m1 fv dv fv1 dv1 lf st:=by
 have hs:=hb.size
 exact⟨h.mw,(Fr.of_below hb:Fr (Ft S g fv dv) w w').trans h.fr (λ_ h=>.inl h),λj hj=>(h.ft j hj).imp id (λh=>by omega),λj hj=>(h.ff j hj).imp id (λh=>by omega),λj hj=>(h.fd j hj).imp id (λh=>by omega)⟩
theorem MW.lt (H:MW w base g bk X R v k S m fv dv lf st):∀j,Ft S g fv dv j->j<w.heap.size:=λj hj=>by
 rcases hj with hj|hj|hj|hj
 ·exact H.ly.hd.lt j hj
 ·subst hj;exact Qc H.mb
 ·exact J2 H.fo j hj
 ·exact J2 H.dr j hj
theorem MW.far (H:MW w base g bk X R v k S m fv dv lf st){j:Nat}(hj:w.heap.size<=j):¬Ft S g fv dv j:=λh=>by have:=H.lt j h;omega
theorem MTurn.fill {gg nf cp:Nat}(hM:MW w' base g bk X R v k S1 m1 (.slice (some ⟨gg,0,none⟩) nf cp) dv lf st)(hF:Fr (λj=>S j∨j=g∨fv.ownBlock=some j) w w')(hS:∀j,S1 j->S j∨w.heap.size<=j)(hg:fv.ownBlock=some gg∨w.heap.size<=gg) :
  MTurn w w' base g bk X R v k S S1 m1 fv dv (.slice (some ⟨gg,0,none⟩) nf cp) dv lf st:=by
 refine⟨hM,hF.mono (λj hj=>.inl ?_),hS,λj hj=>?_,λj hj=>.inl hj⟩
 ·rcases hj with hj|hj|hj
  ·exact .inl hj
  ·exact .inr (.inl hj)
  ·exact .inr (.inr (.inl hj))
 ·simp only[Value.ownBlock,Option.some.injEq]at hj;subst hj;exact hg
end
theorem XO {pay:Bool}{l:List Od}{f:Nat->Int}{m:Mt}:∀k,(Qr pay l f m k).F.length<=m.F.length+k
 | 0=>Sq _
 | k+1=>by
  have ih:=XO (pay:=pay) (l:=l) (f:=f) (m:=m) k;simp only[Qr];unfold ZM
  split
  ·simp only[Su,Pq];omega
  ·omega
structure FillOk (R:Rl) (m:Mt) (p:Int) (i:Nat) (mi:Mt):Prop where
 q1:fM R m p i<=mi.left
 q2:mi.left<=1099511627776
 p0:1<=((lvM R m p)[i]!).price
 pay:ZN R.side mi.cash=Qy R m
 pc:ZN R.side mi.cash=true->((lvM R m p)[i]!).price*fM R m p i<=mi.cash
 cr:InR mi.cash
 fl:mi.F.length<=m.F.length+i
theorem qbH {R:Rl}{m:Mt}{p:Int}(hg:GM m)(hp:1<=p)(hl:1<=R.lot)(hno:¬NoM R m p)(h0:m.left<=1099511627776)(hc:InR m.cash){i:Nat}(hi:i<nM R m p)(hq:0<fM R m p i) :
  FillOk R m p i (Qr (Qy R m) (lvM R m p) (fM R m p) m i):=by
 have A:=GE hg hp hl hno (Lx hi)
 have B:=GE hg hp hl hno (show i+1<=nM R m p from hi)
 have S:=GD hno (Lx hi)
 have e:sF (fM R m p) (i+1)=sF (fM R m p) i+fM R m p i:=rfl
 have hx:=Jn (JH (Ww hi ZU))
 have aH:=(J1 (hg.gd _ hx.1)).2.2.2.1
 have b1:=B.l1
 have b0:=B.l0
 have a1:=A.l1
 rw[e]at b1
 have cN:ZN R.side (Qr (Qy R m) (lvM R m p) (fM R m p) m i).cash=Qy R m:=by
  cases aX:Qy R m with
  | true =>
   have c:=A.c0 aX;have h1:(R.side==1)=true:=by unfold Qy at aX;simp only[Iv]at aX;exact aX.1
   rw[aX]at c;unfold ZN;rw[h1,Sy c.1];rfl
  | false =>
   have c:=A.c1 aX;rw[aX]at c;unfold ZN;rw[c];exact aX
 refine⟨by omega,by omega,aH,cN,λhp2=>?_,?_,XO i⟩
 ·rw[cN]at hp2;have ca:=A.c0 hp2;have cb:=B.c0 hp2;rw[e,Int.mul_add]at cb;rw[hx.2.2];omega
 ·cases aX:Qy R m with
  | true =>
   have c:=A.c0 aX;rw[aX]at c;have:=Ey (show 0<=p by omega) S.1;unfold InR at hc ⊢;omega
  | false =>
   have c:=A.c1 aX;rw[aX]at c;rw[c];exact hc
def eB (f:Nat->Int)(l:List Od)(b:Bool):Nat->Bool
 | 0=>b
 | i+1=>eB f l b i&&(f i==(l[i]!).qty)
theorem qbI {f:Nat->Int}{l:List Od}{b:Bool}:∀i,eB f l b i=true↔b=true/\∀j,j<i->f j=(l[j]!).qty
 | 0=>⟨λh=>⟨h,λj hj=>absurd hj (Ax _)⟩,λh=>h.1⟩
 | i+1=>by
  rw[eB,Iv,qbI i,beq_iff_eq];constructor
  ·rintro ⟨⟨h1,h2⟩,h3⟩;refine⟨h1,λj hj=>?_⟩;by_cases e:j=i
   ·subst e;exact h3
   ·exact h2 j Oz
  ·rintro ⟨h1,h2⟩;exact⟨⟨h1,λj hj=>h2 j Oz⟩,h2 i Oz⟩
theorem qkd {R:Rl}{m:Mt}{p:Int}{mm:Nat}(h:(mm=0/\NoM R m p)∨(mm=nM R m p/\¬NoM R m p)) :
  eB (fM R m p) (lvM R m p) ((mm:Int)==(nM R m p:Int)) mm=true↔Zi R m p:=by
 rw[qbI]
 unfold Zi
 rcases h with ⟨rfl,hn⟩ | ⟨rfl,hn⟩
 ·constructor
  ·rintro ⟨h1,_⟩;left;simp at h1;omega
  ·rintro (h|h)
   ·exact⟨by rw[h];rfl,λj hj=>absurd hj (Ax _)⟩
   ·exact absurd hn h.1
 ·constructor
  ·rintro ⟨_,h2⟩;exact .inr ⟨hn,h2⟩
  ·rintro (h|h)
   ·exact⟨by simp,λj hj=>by omega⟩
   ·exact⟨by simp,h.2⟩
theorem qke {R:Rl}{m:Mt}{p:Int}{mm:Nat}(h:(mm=0/\NoM R m p)∨(mm=nM R m p/\¬NoM R m p)):Qr (Qy R m) (lvM R m p) (fM R m p) m mm=Qq R m p:=by
 unfold Qq
 rcases h with ⟨rfl,hn⟩ | ⟨rfl,hn⟩
 ·rw[Sx hn];rfl
 ·rw[Sw hn]
def GL (w:World)(base g bk:Nat)(X:Ruls)(R:Rl)(v:Value)(k:Int)(S:Nat->Prop)(m:Mt)(fv dv:Value)(lf:Int)(st:Bool)(p:Int)(e:Ending)(w':World):Prop :=
 ∃(em:Bool) (fv':Value) (S':Nat->Prop),e=.returned (.bool em)/\Hid ((em=true↔Zi R m p)/\MTurn w w' base g bk X R v k S S' (Qq R m p) fv dv fv' dv lf st)
theorem Kl {S:Nat->Prop}{w w':World}{b j:Nat}{u:Value}(h:Fr S w w')(hb:b<w.heap.size)(hn:¬S b)(hc:w.cell? ⟨b,j,none⟩=some u):w'.cell? ⟨b,j,none⟩=some u :=
 (World.cell?_of_block (w:=w) (a:=⟨b,j,none⟩) (h.block b hb hn)).trans hc
theorem qbJ {S:Nat->Prop}{w w':World}{b o:Nat}{x:Od}(h:Fr S w w')(hb:b<w.heap.size)(hn:¬S b)(hc:x.at w b o):x.at w' b o:=by
 unfold Od.at at hc ⊢
 obtain⟨h0,h1,h2,h3,h4,h5⟩:=hc
 exact⟨Kl h hb hn h0,Kl h hb hn h1,Kl h hb hn h2,Kl h hb hn h3,Kl h hb hn h4,Kl h hb hn h5⟩
theorem qbK {S:Nat->Prop}{w w':World}{b n:Nat}{T:TypeId}{f:Nat->Value}(h:Fr S w w')(hn:¬S b)(hr:w.rowIs b T n f):w'.rowIs b T n f :=
 hr.of_block (h.block b hr.lt hn)
structure TdIn (w w3 wr:World) (base g bk:Nat) (X:Ruls) (R:Rl) (v:Value) (k:Int) (S S1:Nat->Prop) (m m1:Mt) (fv dv fv1:Value) (lf:Int) (st:Bool) (p:Int) (A PA:Option Addr) (n mm:Nat):Prop where
 tu:MTurn w3 wr base g bk X R v k S S1 m1 fv dv fv1 dv lf st
 c3:wr.cell? ⟨w.heap.size,0,none⟩=some (ptA g)
 run:Ods wr A n ((lvM R m p).take n)
 par:mm=0∨∃b,PA=some ⟨b,0,none⟩/\wr.rowIs b 2 mm (λi=>.int .i64 (fM R m p i))/\¬Ft S1 g fv1 dv b
theorem TdIn.next {w w3 wr w5:World}{base g bk:Nat}{X:Ruls}{R:Rl}{v:Value}{k:Int}{S S1 S2:Nat->Prop}{m m1 m2:Mt}{fv dv fv1 fv2:Value}{lf:Int}{st:Bool}{p:Int}{A PA:Option Addr}{n mm:Nat}
  (h:TdIn w w3 wr base g bk X R v k S S1 m m1 fv dv fv1 lf st p A PA n mm) (t:MTurn wr w5 base g bk X R v k S1 S2 m2 fv1 dv fv2 dv lf st) (hc:w.heap.size<wr.heap.size) (hc3:¬Ft S1 g fv1 dv w.heap.size) (hA:∀b off,A=some ⟨b,off,none⟩->¬Ft S1 g fv1 dv b) :
  TdIn w w3 w5 base g bk X R v k S S2 m m2 fv dv fv2 lf st p A PA n mm:=by
 refine⟨h.tu.trans t,Kl t.fr hc hc3 h.c3,qan h.run t.fr hA,?_⟩
 rcases h.par with h0 | ⟨b,e,hr,hn⟩
 ·exact .inl h0
 ·refine .inr ⟨b,e,qbK t.fr hn hr,λhf=>?_⟩;have hb:=hr.lt;rcases hf with hf|hf|hf|hf
  ·rcases t.ft b hf with h1|h1
   ·exact hn (.inl h1)
   ·omega
  ·exact hn (.inr (.inl hf))
  ·rcases t.ff b hf with h1|h1
   ·exact hn (.inr (.inr (.inl h1)))
   ·omega
  ·exact hn (.inr (.inr (.inr hf)))
theorem TdIn.far {w w3 wr:World}{base g bk:Nat}{X:Ruls}{R:Rl}{v:Value}{k:Int}{S S1:Nat->Prop}{m m1:Mt}{fv dv fv1:Value}{lf:Int}{st:Bool}{p:Int}{A PA:Option Addr}{n mm:Nat}
  (h:TdIn w w3 wr base g bk X R v k S S1 m m1 fv dv fv1 lf st p A PA n mm) {b:Nat} (hb:b<w3.heap.size) (hn:¬Ft S g fv dv b):¬Ft S1 g fv1 dv b:=λhf=>by
 rcases hf with hf|hf|hf|hf
 ·rcases h.tu.ft b hf with h1|h1
  ·exact hn (.inl h1)
  ·omega
 ·exact hn (.inr (.inl hf))
 ·rcases h.tu.ff b hf with h1|h1
  ·exact hn (.inr (.inr (.inl h1)))
  ·omega
 ·exact hn (.inr (.inr (.inr hf)))
theorem qkf {R:Rl}{m:Mt}{p:Int}{n:Nat}(hn:n=nM R m p):qs ((lvM R m p).take n)=QM R m p:=by subst hn;rfl
theorem qkg {w w2 w3:World}{base g bk:Nat}{X:Ruls}{R:Rl}{v:Value}{k:Int}{S:Nat->Prop}{m:Mt}{fv dv:Value}{lf:Int}{st:Bool}{p:Int}{A PA:Option Addr}{n mm:Nat}{Qv:Int}
  (H:MW w base g bk X R v k S m fv dv lf st) (HO:Ods w A n ((lvM R m p).take n)) (b2:Ok w w2) (b3:Ok w2 w3) (h3:w2.cell? ⟨w.heap.size,0,none⟩=some (ptA g)) (hlt:w.heap.size<w2.heap.size)
  (hp:mm=0∨∃b,PA=some ⟨b,0,none⟩/\w2.heap.size<=b/\w3.rowIs b 2 mm (λi=>.int .i64 (fM R m p i))) :
  TdIn w w3 w3 base g bk X R v k S S m m fv dv fv lf st p A PA n mm:=by
 have bw:=b2.trans (b3.mono b2.size)
 refine⟨MTurn.same (H.below bw),(b3.cell (p:=⟨w.heap.size,0,none⟩) hlt).trans h3,HO.below bw,?_⟩
 rcases hp with h0 | ⟨b,e,hb,hr⟩
 ·exact .inl h0
 ·exact .inr ⟨b,e,hr,H.far (by have:=b2.size;omega)⟩
theorem qkh (base g bk:Nat)(X:Ruls)(R:Rl)(v:Value)(k:Int)(S:Nat->Prop)(m:Mt)(fv dv:Value)(lf:Int)(st:Bool)(p:Int)(A:Option Addr)(n c:Nat)(w:World)(H:MW w base g bk X R v k S m fv dv lf st)(HO:Ods w A n ((lvM R m p).take n))
  (hn:n=nM R m p) (hA:∀b off,A=some ⟨b,off,none⟩->¬Ft S g fv dv b) (hg:GM m) (hp:1<=p/\p<=1099511627776) (hl:1<=R.lot/\R.lot<=1099511627776) (h0:m.left<=1099511627776) (hc:InR m.cash) (hF:m.F.length+64<100000) (h64:m.L.length<=64) :
  Calls prog 74 #[ptA g,.int .i64 p,.slice A n c] w (GL w base g bk X R v k S m fv dv lf st p):=by
 have lV:n<=64:=by rw[hn];exact Sk ZU (Sk (by unfold lvM;exact V4 _ _ _) h64)
 obtain⟨w1,hw1⟩:∃w1,w.alloc (.cells #[ptA g] 139)=w1:=⟨_,rfl⟩
 have b1:Ok w w1:=by rw[<-hw1];exact Zp _ _
 have s1:w1.heap.size=w.heap.size+1:=by rw[<-hw1];simp
 have c1:Cl 139 w1 w.heap.size #[ptA g]:=by rw[<-hw1];exact Qe rfl
 obtain⟨w2,hw2⟩:∃w2,w1.alloc (.cells #[.int .i64 p] 2)=w2:=⟨_,rfl⟩
 have b12:Ok w1 w2:=by rw[<-hw2];exact Zp _ _
 have b2:Ok w w2:=b1.trans (b12.mono b1.size)
 have c4:Cl 2 w2 w1.heap.size #[.int .i64 p]:=by rw[<-hw2];exact Qe rfl
 have c3:Cl 139 w2 w.heap.size #[ptA g]:=(b12.block _ Oz).trans c1
 have dZ:w.heap.size<w2.heap.size:=by have:=b12.size;omega
 have M2:=H.below b2
 have N3:Hid (∀W,Ok w2 W->W.cell? ⟨w.heap.size,0,none⟩=some (ptA g)):=Ou (λW hW=>((Cl.bel c3 hW).c 0).trans rfl)
 have tN:Hid (∀W,Ok w2 W->W.cell? ⟨g,7,none⟩=some (.int .i64 R.mode)):=Ou (λW hW=>((Cl.bel M2.mb hW).c 7).trans rfl)
 have NLe:Hid (∀W,Ok w2 W->W.cell? ⟨g,13,none⟩=some (.int .i64 m.left)):=Ou (λW hW=>((Cl.bel M2.mb hW).c 13).trans rfl)
 have oQ:Hid (∀W,Ok w2 W->W.cell? ⟨g,3,none⟩=some (.int .i64 R.lot)):=Ou (λW hW=>((Cl.bel M2.mb hW).c 3).trans rfl)
 have mO:Hid (∀W,Ok w2 W->Calls prog 90 #[.int .i64 m.left,ptA w.heap.size,ptA w1.heap.size] W λe w'=>e=.returned (.int .i64 (ZT R m p))/\Ok W w'):=Ou (λW hW=>by
  rw[<-qkc]
  exact qj4 w.heap.size w1.heap.size g bk X R m.left m.cash fv dv lf st p m.left W (Cl.bel M2.mb hW) (Cl.bel c3 hW) (Cl.bel c4 hW) hc ⟨by omega,by omega⟩ hp.1 hp.2)
 have jA:Hid (∀W,Ok w2 W->Calls prog 94 #[.int .i64 R.mode,.slice A n c,.int .i64 (ZT R m p),.int .i64 R.lot] W (YP W R.mode n (QM R m p) (ZT R m p) R.lot)):=Ou (λW hW=>by
  have h:=qfz R.mode A n c ((lvM R m p).take n) (ZT R m p) R.lot ⟨by omega,by omega⟩ W ((HO.below b2).below hW) Oz
  rw[qkf hn]at h;exact h)
 have tL:Hid (∀w3 PA mm,Ok w2 w3->(mm=0∨∃b,PA=some ⟨b,0,none⟩/\w2.heap.size<=b/\w3.rowIs b 2 mm (λi=>.int .i64 (fM R m p i)))->TdIn w w3 w3 base g bk X R v k S S m m fv dv fv lf st p A PA n mm):=Ou (λw3 PA mm b3 h=>qkg (Qv:=0) H HO b2 b3 ((c3.c 0).trans rfl) dZ h)
 have HFk:=Ou (λi (hno:¬NoM R m p) (hi:i<nM R m p) (hq:0<fM R m p i)=>qbH hg hp.1 hl.1 hno h0 hc hi hq)
 have HRg:=Ou (λi (hno:¬NoM R m p) (hi:i<nM R m p)=>XK (R:=R) (m:=m) (p:=p) hno hi)
 have HFl:=Ou hF
 have HN:=Ou (Sv hn (Sv lV dZ))
 have HA:=Ou hA
 have yY:=Ou (H.far (Sq _))
 have aG:=Ou b2
 clear H HO hA hg hp hl h0 hc hF h64 b1 s1 c1 b12 b2 c4 c3 dZ M2 hn lV
 go_enter func74,ntmps74
 go_upto_region 2 with fail
 refine wp_region_held_drew (S:=λW=>Ok w2 W) Ow (by exact(Oq _ _).drew) (λhHeld=>?_)
 refine tkH 0 ?_ ?_ Ov ?_
 rotate_left
 ·(intro w hSw;have hs:=N3.out _ hSw;(try dsimp only at hSw);go_simp;try with_reducible rfl)
 (try simp only[zz])
 refine tkA 1 ?_
 refine tkA 2 ?_
 refine tkA 3 ?_
 refine tkH 4 ?_ ?_ Ov ?_
 rotate_left
 ·(intro w hSw;have hs:=tN.out _ hSw;(try dsimp only at hSw);go_simp;try with_reducible rfl)
 (try simp only[zz])
 refine tkA 5 ?_
 refine tkA 6 ?_
 refine tkH 7 ?_ ?_ Ov ?_
 rotate_left
 ·(intro w hSw;have hs:=N3.out _ hSw;(try dsimp only at hSw);go_simp;try with_reducible rfl)
 (try simp only[zz])
 refine tkA 8 ?_
 refine tkA 9 ?_
 refine tkA 10 ?_
 refine tkH 11 ?_ ?_ Ov ?_
 rotate_left
 ·(intro w hSw;have hs:=NLe.out _ hSw;(try dsimp only at hSw);go_simp;try with_reducible rfl)
 (try simp only[zz])
 refine tkH 13 ?_ ?_ Ov ?_
 rotate_left
 ·(intro w hSw;have hs:=N3.out _ hSw;(try dsimp only at hSw);go_simp;try with_reducible rfl)
 (try simp only[zz])
 refine tkA 14 ?_
 refine tkA 15 ?_
 refine tkA 16 ?_
 refine tkH 17 ?_ ?_ Ov ?_
 rotate_left
 ·(intro w hSw;have hs:=oQ.out _ hSw;(try dsimp only at hSw);go_simp;try with_reducible rfl)
 (try simp only[zz])
 refine rdH 12 (λK hK=>?_)
 go_simp
 ((with_reducible refine(mO.out _ hHeld).mono ?_);rintro e y1 ⟨rfl,hb⟩;have hb:=Ou hb)
 refine hK.out _ _ (by exact hHeld.trans (hb.out.mono hHeld.size)) (λhHeld=>?_)
 clear hK K
 (try simp only[zz])
 refine rdH 18 (λK hK=>?_)
 go_simp
 have hS1:=Ou hHeld.size
 ((with_reducible refine(jA.out _ hHeld).mono ?_);rintro e y2 ⟨PA,mm,PC,rfl,pX,hsh⟩)
 refine hK.out _ _ (by exact hHeld.trans (hsh.out.1.mono hHeld.size)) (λhHeld=>?_)
 clear hK K
 (try simp only[zz])
 refine tkA 19 ?_
 (try simp only[zz])
 refine wpAnyH_done Ow ?_ _
 obtain⟨B3,hrow,vE⟩:=hsh.out
 have HM:Hid ((mm=0/\NoM R m p)∨(mm=nM R m p/\¬NoM R m p)):=Ou (by
  rcases vE with h | ⟨h1,h2,h3⟩
  ·exact .inl h
  ·refine .inr ⟨h1.trans HN.out.1,?_⟩;rintro (h|h|h|h)
   ·exact h h2
   ·have:=h3.t;have:=h3.t1;omega
   ·have:=h3.y1;omega
   ·have:=h3.y2;omega)
 have hmm64:mm<=64:=Sk pX HN.out.2.1
 have eW:Hid (TdIn w y2 y2 base g bk X R v k S S m m fv dv fv lf st p A PA n mm):=Ou (tL.out y2 PA mm hHeld (by
  rcases hrow with h | ⟨b,e,h1,h2⟩
  ·exact .inl h
  ·exact .inr ⟨b,e,Sk hS1.out h1,h2⟩))
 have mQ:=Ou (aG.out.trans (hHeld.mono aG.out.size))
 have gU:=Ou (Ww HN.out.2.2 hHeld.size)
 have zT:=Ou (tL.out y2 PA 0 hHeld (.inl rfl)).run
 have HL:Hid (n<=(lvM R m p).length):=Ou (by rw[HN.out.1];exact ZU)
 obtain⟨b0,hb0⟩:∃b,((mm:Int)==(n:Int))=b:=⟨_,rfl⟩
 have bN:=Ou hb0
 clear hHeld hrow vE B3 hsh hS1 N3 tN NLe oQ mO jA tL
 go_wp2_with fail
 go_loopg [39,9] mm (λkx s39 s9 wr=>∃(i:Nat) (fv1:Value) (S1:Nat->Prop) (b1:Bool),s39=.int .i64 (i:Int)/\s9=.bool b1/\i<=mm/\mm-i<=kx/\Hid (b1=eB (fM R m p) (lvM R m p) b0 i/\TdIn w y2 wr base g bk X R v k S S1 m (Qr (Qy R m) (lvM R m p) (fM R m p) m i) fv dv fv1 lf st p A PA n mm))
 case atStart=>exact⟨0,fv,S,b0,rfl,rfl,by omega,by omega,Ou ⟨rfl,eW.out⟩⟩
 case round =>
  obtain⟨i,fv1,S1,b1,rfl,rfl,hi,aP,oW⟩:=hrel;have HB:=Ou oW.out.1;have HI:=Ou oW.out.2;clear oW eW hb0;by_cases hlt:i<mm
  ·have aF:(i:Int)<(mm:Int):=by omega
   have hi0:(0:Int)<=(i:Int):=by omega
   have hin:i<n:=by omega
   have qU:Hid (¬NoM R m p/\i<nM R m p):=Ou (by
    rcases HM.out with h|h
    ·omega
    ·exact⟨h.2,by omega⟩)
   obtain⟨bp,rfl,rK,hfp⟩:∃b,PA=some ⟨b,0,none⟩/\wr.rowIs b 2 mm (λi=>.int .i64 (fM R m p i))/\¬Ft S1 g fv1 dv b:=by
    rcases HI.out.par with h|h
    ·omega
    ·exact h
   obtain⟨b,off,rfl,hb,gW⟩:∃b off,A=some ⟨b,off,none⟩/\b<wr.heap.size/\∀j,j<n->(((lvM R m p).take n)[j]!).at wr b (off+j*6):=by
    rcases HI.out.run.2.2.2 with h|h
    ·omega
    ·exact h
   have hx:=gW i hin;rw[Vd hin]at hx;have cp0:=rK.cell hlt;obtain⟨x,ex⟩:∃x,(lvM R m p)[i]! = x:=⟨_,rfl⟩
   obtain⟨q,eq⟩:∃q,fM R m p i=q:=⟨_,rfl⟩
   have HE:=Ou (Sv ex eq);have hok:Od.ok wr x:=by
    rw[<-ex];refine HI.out.run.2.2.1 _ ?_;rw[<-Vd hin];exact JH (by rw[HI.out.run.1];exact hin)
   have hrg:=HRg.out i qU.out.1 qU.out.2;have lO:=HFk.out i qU.out.1 qU.out.2;rw[ex]at hx hrg;rw[eq]at hrg lO;have cp:wr.cell? ⟨bp,i,none⟩=some (.int .i64 q):=by rw[<-eq];exact cp0
   clear cp0;have HC:=Ou hx;have rW:=Ou hb;obtain⟨x0,x1,x2,x3,x4,x5⟩:=hx
   have xJ:¬Ft S1 g fv1 dv b:=HI.out.far (Ww (show b<y2.heap.size by
    obtain⟨b',off',e',hb',_⟩:∃b' off',(some (⟨b,off,none⟩:Addr))=some ⟨b',off',none⟩/\b'<y2.heap.size/\∀j,j<n->(((lvM R m p).take n)[j]!).at y2 b' (off'+j*6):=by
     rcases zT.out.2.2.2 with h|h
     ·omega
     ·exact h
    injection e' with e';injection e' with e1 e2;subst e1;exact hb') (Sq _)) (HA.out b off rfl)
   have bS:¬Ft S1 g fv1 dv w.heap.size:=HI.out.far gU.out yY.out;have HAf:=Ou (Sv xJ (Sv bS hfp));have K3:=HI.out.c3;by_cases h0q:0<q
   ·have hqd:decide (0<q)=true:=Sy h0q;have FK:=lO h0q
    have oC:Hid (Calls prog 95 #[ptA g,.agg (OC x),.int .i64 q] wr.drew λe w'=>e=.returned (.tuple #[])/\∃(gg cp:Nat) (S':Nat->Prop),Hid (MW w' base g bk X R v k S' (Qr (Qy R m) (lvM R m p) (fM R m p) m (i+1)) (.slice (some ⟨gg,0,none⟩) ((Qr (Qy R m) (lvM R m p) (fM R m p) m i).F.length+1) cp) dv lf st)/\Hid (Fr (λj=>S1 j∨j=g∨fv1.ownBlock=some j) wr.drew w')/\Hid (∀j,S' j->S1 j∨wr.drew.heap.size<=j)/\Hid (fv1.ownBlock=some gg∨wr.drew.heap.size<=gg)):=Ou (by
     have h:=qkb base g bk X R v k S1 (Qr (Qy R m) (lvM R m p) (fM R m p) m i) fv1 dv lf st x q wr.drew HI.out.tu.mw.drew hok (by have:=FK.fl;have:=HFl.out;omega) Oz (by have:=FK.q1;rw[eq]at this;exact this) FK.q2 (by have:=FK.p0;rw[ex]at this;exact this) (by have:=FK.pc;rw[ex,eq]at this;exact this) FK.cr;rw[FK.pay]at h;have e9:Qr (Qy R m) (lvM R m p) (fM R m p) m (i+1)=ZM (Qy R m) (Qr (Qy R m) (lvM R m p) (fM R m p) m i) x q:=by rw[<-ex,<-eq];rfl
     rw[e9];exact h)
    have HKp:Hid (∀W,Fr (Ft S1 g fv1 dv) wr.drew W->W.cell? ⟨w.heap.size,0,none⟩=some (ptA g)/\x.at W b (off+i*6)):=Ou (λW hW=>⟨Kl hW (Ww gU.out HI.out.tu.fr.size) bS K3,qbJ hW rW.out xJ HC.out⟩);have hx:=HC.out;clear gW rK hb hok hrg lO FK xJ bS hfp ex eq;go_upto_region 8 with fail
    refine wp_region_held_drew (S:=λW=>W.cell? ⟨w.heap.size,0,none⟩=some (ptA g)/\x.at W b (off+i*6)) Ow (by exact⟨K3,hx⟩) (λhHeld=>?_);refine tkH 0 ?_ ?_ Ov ?_;rotate_left
    ·(intro w hSw;have hs:=hSw.1;(try dsimp only at hSw);go_simp;try with_reducible rfl)
    (try simp only[zz]);refine tkA 1 ?_;refine tkA 2 ?_;refine tkA 3 ?_;refine tkH 4 ?_ ?_ Ov ?_;rotate_left
    ·(intro w hSw;obtain⟨_,q0,q1,q2,q3,q4,q5⟩:=hSw;(try dsimp only at hSw);go_simp;try with_reducible rfl)
    (try simp only[zz]);refine tkA 5 ?_;(try simp only[zz]);refine rdH 6 (λK hK=>?_);go_simp;((with_reducible refine oC.out.mono ?_);rintro e y1 ⟨rfl,gg,cp,S2,hM,hF,hS,hg⟩);have hT:=Ou (MTurn.fill hM.out hF.out hS.out hg.out);clear hM hF hS hg;refine hK.out _ _ (by exact HKp.out _ hT.out.fr) (λhHeld=>?_);clear hK K;(try simp only[zz]);refine wpAnyH_done Ow ?_ _;have eZ:Hid (TdIn w y2 y1 base g bk X R v k S S2 m (Qr (Qy R m) (lvM R m p) (fM R m p) m (i+1)) fv dv (.slice (some ⟨gg,0,none⟩) ((Qr (Qy R m) (lvM R m p) (fM R m p) m i).F.length+1) cp) lf st p (some ⟨b,off,none⟩) (some ⟨bp,0,none⟩) n mm):=Ou (HI.out.next (MTurn.after ((Below.refl _ wr).drew) hT.out) (Ww gU.out HI.out.tu.fr.size) HAf.out.2.1 (λb' off' e=>by injection e with e;injection e with e1 _;subst e1;exact HAf.out.1))
    clear HI hT hHeld HKp oC HC K3 x0 x1 x2 x3 x4 x5 hx;obtain⟨bq,offq,gD,-,iF⟩:∃b' off',(some ⟨b,off,none⟩:Option Addr)=some ⟨b',off',none⟩/\b'<y1.heap.size/\∀j,j<n->(((lvM R m p).take n)[j]!).at y1 b' (off'+j*6):=by
     rcases eZ.out.run.2.2.2 with h|h
     ·omega
     ·exact h
    injection gD with gD;injection gD with e1 e2;subst e1 e2;have vY:=iF i hin;rw[Vd hin,HE.out.1]at vY;obtain⟨x0,x1,x2,x3,x4,x5⟩:=vY;clear iF;have hi0:(0:Int)<=(i:Int):=by omega
    have hinI:(i:Int)<(n:Int):=by omega
    cases b1 with
    | false =>
     have aG:Hid (false=eB (fM R m p) (lvM R m p) b0 (i+1)):=Ou (by rw[eB,<-HB.out];rfl);clear HB;go_wp2_with fail
     go_roundg (mm-(i+1))
     case measure=>omega
     case rel=>exact⟨i+1,_,_,false,by go_num,rfl,by omega,by omega,Ou ⟨aG.out,eZ.out⟩⟩
    | true =>
     obtain⟨b9,gI⟩:∃b,(q==x.qty)=b:=⟨_,rfl⟩
     have aG:Hid (b9=eB (fM R m p) (lvM R m p) b0 (i+1)):=Ou (by rw[eB,<-HB.out,HE.out.1,HE.out.2,<-gI];rfl);clear HB;go_wp2_with fail
     go_roundg (mm-(i+1))
     case measure=>omega
     case rel=>exact⟨i+1,_,_,b9,by go_num,rfl,by omega,by omega,Ou ⟨aG.out,eZ.out⟩⟩
   ·have hqd:decide (0<q)=false:=Sz h0q;have e0:Qr (Qy R m) (lvM R m p) (fM R m p) m (i+1)=Qr (Qy R m) (lvM R m p) (fM R m p) m i:=Sw (by rw[eq];exact h0q);have eZ:Hid (TdIn w y2 wr base g bk X R v k S S1 m (Qr (Qy R m) (lvM R m p) (fM R m p) m (i+1)) fv dv fv1 lf st p (some ⟨b,off,none⟩) (some ⟨bp,0,none⟩) n mm):=Ou (by rw[e0];exact HI.out);clear gW rK hb hok hrg lO xJ bS hfp ex eq e0 HI HC K3 x0 x1 x2 x3 x4 x5;obtain⟨bq,offq,gD,-,iF⟩:∃b' off',(some ⟨b,off,none⟩:Option Addr)=some ⟨b',off',none⟩/\b'<wr.heap.size/\∀j,j<n->(((lvM R m p).take n)[j]!).at wr b' (off'+j*6):=by
     rcases eZ.out.run.2.2.2 with h|h
     ·omega
     ·exact h
    injection gD with gD;injection gD with e1 e2;subst e1 e2;have vY:=iF i hin;rw[Vd hin,HE.out.1]at vY;obtain⟨x0,x1,x2,x3,x4,x5⟩:=vY;clear iF;have hi0:(0:Int)<=(i:Int):=by omega
    have hinI:(i:Int)<(n:Int):=by omega
    cases b1 with
    | false =>
     have aG:Hid (false=eB (fM R m p) (lvM R m p) b0 (i+1)):=Ou (by rw[eB,<-HB.out];rfl);clear HB;go_wp2_with fail
     go_roundg (mm-(i+1))
     case measure=>omega
     case rel=>exact⟨i+1,_,_,false,by go_num,rfl,by omega,by omega,Ou ⟨aG.out,eZ.out⟩⟩
    | true =>
     obtain⟨b9,gI⟩:∃b,(q==x.qty)=b:=⟨_,rfl⟩
     have aG:Hid (b9=eB (fM R m p) (lvM R m p) b0 (i+1)):=Ou (by rw[eB,<-HB.out,HE.out.1,HE.out.2,<-gI];rfl);clear HB;go_wp2_with fail
     go_roundg (mm-(i+1))
     case measure=>omega
     case rel=>exact⟨i+1,_,_,b9,by go_num,rfl,by omega,by omega,Ou ⟨aG.out,eZ.out⟩⟩
  ·have aF:¬(i:Int)<(mm:Int):=by omega
   obtain rfl:i=mm:=by omega
   have HR:Hid ((b1=true↔Zi R m p)/\MTurn w wr base g bk X R v k S S1 (Qq R m p) fv dv fv1 dv lf st):=Ou (by
    refine⟨?_,?_⟩
    ·rw[HB.out,<-bN.out,HN.out.1];exact qkd HM.out
    ·rw[<-qke HM.out];exact MTurn.after mQ.out HI.out.tu)
   clear HI HB;go_wp2_with fail
   go_ret;exact⟨b1,fv1,S1,rfl,HR⟩
def Yg (id:Int)(m:Mt):Nat->Mt
 | 0=>m
 | _+1=>Zb id m
structure MOk (m:Mt):Prop where
 gm:GM m
 l0:0<=m.left
 l1:m.left<=1099511627776
 cr:InR m.cash
 fn:m.F.length+m.L.length<=64
 dn:m.D.length+m.L.length<=64
structure ROk (R:Rl):Prop where
 s:R.side=1∨R.side=2
 p:QV R.self=true
 m:R.mode=1∨R.mode=2
 l1:1<=R.lot
 l2:R.lot<=1099511627776
theorem qbL {R:Rl}{m:Mt}{p:Int}:(Qq R m p).F.length<=m.F.length+nM R m p:=by
 unfold Qq
 split
 ·omega
 ·exact XO _
theorem qki {R:Rl}{m:Mt}{p:Int}(hg:GM m)(hp:1<=p)(hl:1<=R.lot)(h0:0<=m.left)(hc:InR m.cash):InR (Qq R m p).cash:=by
 have A:=Kj hg hp hl h0
 cases aX:Qy R m with
 | true=>have:=A.c0 aX;unfold InR at hc ⊢;omega
 | false=>rw[A.c1 aX];exact hc
theorem MOk.aft {R:Rl}{m:Mt}{p:Int}(h:MOk m)(hr:ROk R)(aH:prM R m.L=some p)(he:Zi R m p):MOk (Qq R m p):=by
 have hp:=(Ki h.gm aH).1
 have A:=Kj h.gm hp hr.l1 h.l0
 have hn:=A.emp he
 have hf:=qbL (R:=R) (m:=m) (p:=p)
 refine⟨A.gm,A.l0,Int.le_trans A.l1 h.l1,qki h.gm hp hr.l1 h.l0 h.cr,?_,?_⟩
 ·have:=h.fn;omega
 ·rw[A.D];have:=h.dn;have:=A.len;omega
theorem MOk.gone {m:Mt}{x:Od}(h:MOk m)(hx:x∈m.L):MOk (Zb x.id m):=by
 have D:=Vx h.gm hx
 have hd:=D.len
 refine⟨D.gm,by rw[D.left];exact h.l0,by rw[D.left];exact h.l1,by rw[D.cash];exact h.cr,?_,?_⟩
 ·have:=h.fn;show m.F.length+_<=64;omega
 ·have:=h.dn;show (m.D++[oZ (Zg x.id m.L)]).length+_<=64;rw[Su,Pq];omega
structure MeetP (R:Rl) (m:Mt) (go:Bool) (m1:Mt) (st1:Bool):Prop where
 no:go=false->crF R m=(m1,st1)
 yes:go=true->st1=false/\crF R m=crF R m1/\m1.L.length<m.L.length/\MOk m1
theorem qkj {R:Rl}{m:Mt}{p:Int}(aH:prM R m.L=some p)(h:¬Zi R m p∨(Qq R m p).left=0):MeetP R m false (Qq R m p) false :=
 ⟨λ_=>XN aH h,λh=>by cases h⟩
def dId (R:Rl)(m:Mt)(p:Int):Int:=((lvM R m p)[frO R.self R.acc (lvM R m p)]!).id
def JA (R:Rl)(m:Mt)(p:Int):Nat:=mtM R.self R.acc (lvM R m p)
def KE (R:Rl)(m:Mt)(p:Int):Bool:=mtS R.self R.acc (lvM R m p)
theorem qkk {R:Rl}{m:Mt}{p:Int}(h:MOk m)(hr:ROk R)(aH:prM R m.L=some p)(he:Zi R m p)(hl:¬(Qq R m p).left=0) :
  JA R m p<=1/\MeetP R m (!KE R m p) (Yg (dId R m p) (Qq R m p) (JA R m p)) (KE R m p)/\(JA R m p=1->∃x∈(Qq R m p).L,x.id=dId R m p):=by
 have A:=Kj h.gm (Ki h.gm aH).1 hr.l1 h.l0
 have hM:=h.aft hr aH he
 have en:nM R m p=frO R.self R.acc (lvM R m p):=by unfold nM Zd;rw[Sx hr.p]
 by_cases h1:nM R m p=(lvM R m p).length
 ·have e1:JA R m p=0:=by unfold JA mtM;rw[Sw (by rw[<-en];omega)]
  have e2:KE R m p=false:=by unfold KE mtS;rw[hr.p,Sx rfl,Sw (by rw[<-en];omega)]
  rw[e1,e2];obtain⟨c1,c2⟩:=GF hr.p hr.l1 h.gm h.l0 aH he hl h1;exact⟨by omega,⟨λh=>(by cases h),λ_=>⟨rfl,c1,c2,hM⟩⟩,λh=>by cases h⟩
 ·have hlt:nM R m p<(lvM R m p).length:=by have:=ZU (R:=R) (m:=m) (p:=p);omega
  have hx:=A.there _ (Sq _) hlt;have e2:KE R m p=stN R.self:=by unfold KE mtS;rw[hr.p,Sx rfl,Sx (by rw[<-en];exact hlt)]
  have ei:dId R m p=((lvM R m p)[nM R m p]!).id:=by unfold dId;rw[en]
  have ed:Yg (dId R m p) (Qq R m p) (JA R m p)=Z3 R ((lvM R m p)[nM R m p]!).id (Qq R m p):=by
   rw[ei];unfold JA mtM Z3;by_cases hd:drN R.self=true
   ·rw[Sx ⟨hr.p,by rw[<-en];exact hlt,hd⟩,Sx hd];rfl
   ·rw[Sw (λh=>hd h.2.2),Sw hd];rfl
  have e1:JA R m p<=1:=by unfold JA mtM;split<;>omega
  refine⟨e1,?_,λ_=>⟨_,hx,ei.symm⟩⟩;rw[ed,e2]
  cases hs:stN R.self with
  | true=>exact⟨λ_=>qby aH he hl hlt hs,λh=>by cases h⟩
  | false =>
   obtain⟨c1,c2,c3⟩:=qbz hr.p hr.l1 h.gm h.l0 aH he hl hlt hs;have e:Z3 R ((lvM R m p)[nM R m p]!).id (Qq R m p)=Zb ((lvM R m p)[nM R m p]!).id (Qq R m p):=Sx c1;rw[e];exact⟨λh=>(by cases h),λ_=>⟨rfl,c2,c3,hM.gone hx⟩⟩
theorem qkl (T:TypeId)(w:World)(x:Od):∀(j:Nat) (u:Value),(Qn x)[j]? = some u->(w.alloc (Obj.cells (Qn x).toArray T)).cell? ((⟨w.heap.size,0,none⟩:Addr).add j)=some u:=by
 intro j u hu
 rw[QP,Ij,cell_of_row _ _ _ _ _ _ (heap_alloc_new w _)]
 simpa using hu
theorem MW.cellG {w:World}{base g bk:Nat}{X:Ruls}{R:Rl}{v:Value}{k:Int}{S:Nat->Prop}{m:Mt}{fv dv:Value}{lf lf':Int}{st st':Bool}(H:MW w base g bk X R v k S m fv dv lf st){j:Nat}{u:Value}
  (hm:Cl 109 (w.setCell ⟨g,j,none⟩ u) g (mC bk X R m.left m.cash fv dv lf' st')):MW (w.setCell ⟨g,j,none⟩ u) base g bk X R v k S m fv dv lf' st':=by
 have f:Fr (λi=>i=g) w (w.setCell ⟨g,j,none⟩ u):=(Fr.refl (λi=>i=g) w).set (p:=⟨g,j,none⟩) (.inl rfl) _
 have hmb:Cl 109 w g _:=H.mb
 refine⟨hm,?_,?_,?_,H.ds,Sk H.lo f.size,H.fn⟩
 ·refine H.ly.fr f (λh=>?_) (λi hi h=>?_)
  ·subst h;exact absurd (H.ly.cl.symm.trans hmb) Oy
  ·subst h;exact K6 H.ly.hd hmb hi
 ·exact Qi H.fo f (λi hi h=>by subst h;exact Qo H.fo hmb Ox hi)
 ·exact Qi H.dr f (λi hi h=>by subst h;exact Qo H.dr hmb Ox hi)
theorem MTurn.setG {w w':World}{base g bk:Nat}{X:Ruls}{R:Rl}{v:Value}{k:Int}{S S1:Nat->Prop}{m1:Mt}{fv dv fv1 dv1:Value}{lf lf':Int}{st st':Bool}(h:MTurn w w' base g bk X R v k S S1 m1 fv dv fv1 dv1 lf st){j:Nat}{u:Value}
  (hm:Cl 109 (w'.setCell ⟨g,j,none⟩ u) g (mC bk X R m1.left m1.cash fv1 dv1 lf' st')):MTurn w (w'.setCell ⟨g,j,none⟩ u) base g bk X R v k S S1 m1 fv dv fv1 dv1 lf' st' :=
 ⟨h.mw.cellG hm,h.fr.set (p:=⟨g,j,none⟩) (.inl (.inr (.inl rfl))) _,h.ft,h.ff,h.fd⟩
theorem qkm {w y1 y2 w3:World}{base g bk gg cp:Nat}{X:Ruls}{R:Rl}{v:Value}{k:Int}{S S':Nat->Prop}{m:Mt}{L':List Od}{fv dv:Value}{lf:Int}{st:Bool}{z:Od}{o:Obj}
  (H:MW w base g bk X R v k S m fv dv lf st) (h3:HTurn w y1 v k S L' S') (hb:Ok y1 y2)
  (hown:w3.ownsRow base 38 6 (.slice (some ⟨gg,0,none⟩) (m.D.length+1) cp) (m.D.length+1) (ol m.D++Qn z)) (hgr:(y2.drew.alloc o).grownBy w3 dv.ownBlock) (hat:dv.ownBlock=some gg∨gg=y2.heap.size+1) :
  MTurn w (w3.setCell ⟨g,16,none⟩ (.slice (some ⟨gg,0,none⟩) (m.D.length+1) cp)) base g bk X R v k S S' ⟨L',m.left,m.cash,m.F,m.D++[z]⟩ fv dv fv (.slice (some ⟨gg,0,none⟩) (m.D.length+1) cp) lf st:=by
 have hmb:Cl 109 w g _:=H.mb
 have hg1:Cl 109 y1 g _:=h3.fr.blk hmb (K6 H.ly.hd hmb)
 have hg2:Cl 109 y2 g _:=Cl.bel hg1 hb
 have gJ:=Qi H.dr h3.fr H.ds
 have hdr2:=Qi gJ (Fr.of_below hb:Fr (λ_=>False) y1 y2) (λ_ _ h=>h)
 have fJ:=Qi H.fo h3.fr (GJ H.ly.hd H.fo)
 have ndg:dv.ownBlock≠some g:=Qo hdr2 hg2 Ox
 have hg3:Cl 109 w3 g _:=(World.grownBy.block hgr g (Ww (Qc hg2) Oy) (Ne.symm ndg)).trans ((Below.heap_alloc y2.drew _ g (Qc hg2)).trans hg2)
 have lw:=J2 H.dr
 have s1:=h3.fr.size
 have s2:=hb.size
 have f3:Fr (λj=>j=g∨dv.ownBlock=some j) y1 (w3.setCell ⟨g,16,none⟩ (.slice (some ⟨gg,0,none⟩) (m.D.length+1) cp)) :=
  ((((Fr.of_below hb:Fr (λj=>j=g∨dv.ownBlock=some j) y1 y2).drew).alloc o).grown hgr (λj hj=>.inl (.inr hj))).set (p:=⟨g,16,none⟩) (.inl (.inl rfl)) _
 have dN:=H.ly.turn h3
 have nS:∀j,dv.ownBlock=some j->¬S' j:=λj hj hs=>by
  rcases h3.ft j hs with h|h
  ·exact H.ds j hj h
  ·have:=lw j hj;omega
 refine⟨⟨QK hg3,?_,?_,?_,λj hj hs=>?_,Sk H.lo (Sk s1 f3.size),H.fn⟩,?_,h3.ft,λj hj=>.inl hj,λj hj=>?_⟩
 ·refine dN.fr f3 (λh=>?_) (λj hj h=>?_)
  ·rcases h with h|h
   ·subst h;exact absurd (dN.cl.symm.trans hg1) Oy
   ·exact Qo gJ dN.cl Ox h
  ·rcases h with h|h
   ·subst h;exact K6 dN.hd hg1 hj
   ·exact nS j h hj
 ·refine Qi fJ f3 (λj hj h=>?_);rcases h with h|h
  ·subst h;exact Qo fJ hg1 Ox hj
  ·exact Yf fJ gJ Ox j hj h
 ·have:(w3.setCell ⟨g,16,none⟩ (.slice (some ⟨gg,0,none⟩) (m.D.length+1) cp)).ownsRow base 38 6 (.slice (some ⟨gg,0,none⟩) (m.D.length+1) cp) (m.D.length+1) (ol m.D++Qn z):=Qi hown ((Fr.refl (λj=>j=g) w3).set (p:=⟨g,16,none⟩) (.inl rfl) _) (λj hj h=>by subst h;exact Qo hown hg3 Ox hj);simpa [ol] using this
 ·simp only[Value.ownBlock,Option.some.injEq]at hj;subst hj;rcases hat with h|h
  ·exact nS _ h hs
  ·have:=h3.hd.lt _ hs;omega
 ·refine(h3.fr.mono (λj hj=>.inl (.inl hj))).trans f3 (λj hj=>.inl ?_);rcases hj with h|h
  ·exact .inr (.inl h)
  ·exact .inr (.inr (.inr h))
 ·simp only[Value.ownBlock,Option.some.injEq]at hj;subst hj;rcases hat with h|h
  ·exact .inl h
  ·right;omega
end
section
open Go.RowKit Go.Shelf Go.Sort Go.Maps Go.Lib
def RBt (w w':World)(wb:Nat)(M:List Od):Prop :=
 (∃A c,Cl 46 w' wb #[.slice A M.length c]/\w'.ownsRow 0 49 6 (.slice A M.length c) M.length (ol M)/\((∀k,(Value.slice A M.length c).ownBlock=some k->w.heap.size<=k)∨Cl 46 w wb #[.slice A M.length c]))/\Fr (λk=>k=wb) w w'
theorem GN {w w':World}{wb:Nat}{M:List Od}(h:RB w wb M)(hb:Ok w w'):RBt w w' wb M:=by
 obtain⟨A,c,h1,h2⟩:=KC h hb
 obtain⟨A',c',g1,g2⟩:=h
 have e:some (Obj.cells #[.slice A M.length c] 46 (0,0))=some (.cells #[.slice A' M.length c'] 46 (0,0)):=h1.symm.trans ((hb.block _ (Qc g1)).trans g1)
 refine⟨⟨A,c,h1,h2,.inr ?_⟩,Fr.of_below hb⟩
 show w.heap[wb]? = _
 rw[e];exact g1
theorem RBt.after {w w1 w':World}{wb:Nat}{M M0:List Od}(h:RBt w1 w' wb M)(h0:RB w wb M0)(hb:Ok w w1):RBt w w' wb M:=by
 obtain⟨⟨A,c,h1,h2,h3⟩,hf⟩:=h
 obtain⟨A',c',g1,g2⟩:=h0
 refine⟨⟨A,c,h1,h2,?_⟩,(Fr.of_below hb:Fr (λk=>k=wb) w w1).trans hf (λk hk=>.inl hk)⟩
 rcases h3 with h3|h3
 ·exact .inl (λk hk=>Sk hb.size (h3 k hk))
 ·exact .inr ((hb.block _ (Qc g1)).symm.trans h3)
theorem qbM (wb:Nat)(id:Int)(M:List Od)(w:World)(H:RB w wb M)(hn:M.length<=1000) :
  Calls prog 19 #[.pointer (some ⟨wb,0,none⟩),.int .u64 id] w λe w'=>e=.returned (.tuple #[QG (Zg id M),.bool (Zg id M).isSome])/\Hid (RBt w w' wb (M.eraseIdx (QB id M))):=by
 have gT:=Ou H
 obtain⟨A,c,hwb,HR⟩:=Xp H
 have B0:Ok w (w.alloc (.cells (OC ⟨0,0,0,0,0,0⟩) 49)):=(Oq _ _).alloc (Sq _) _
 have iK:Hid (Calls prog 52 #[.pointer (some ⟨wb,0,none⟩),.int .u64 id] (w.alloc (.cells (OC ⟨0,0,0,0,0,0⟩) 49)) λe w'=>e=.returned (.int .i64 (atI id M))/\w'=(w.alloc (.cells (OC ⟨0,0,0,0,0,0⟩) 49))):=Ou (qaf wb id M _ (KC H B0) hn)
 have hC:Cl 49 (w.alloc (.cells (OC ⟨0,0,0,0,0,0⟩) 49)) w.heap.size (OC ⟨0,0,0,0,0,0⟩):=Qe rfl
 have bN:=Ou B0
 have HC:=Ou hC
 rcases qah (id:=id) (M:=M) with ⟨i,nG,hi,ha,hg⟩ | ⟨ha,hg⟩
 ·rw[ha]at iK;rw[hg];rw[nG];obtain⟨_,c0,hx⟩:=HR.out _ B0;obtain⟨g,rfl,x0,x1,x2,x3,x4,x5⟩:=hx i hi;obtain⟨x,ex⟩:∃x,M[i]! = x:=⟨_,rfl⟩
  rw[ex]at x0 x1 x2 x3 x4 x5 ⊢;obtain⟨n,hl⟩:∃n,M.length=n:=⟨_,rfl⟩
  have HM:=Ou hl;have HI:=Ou (Sv nG hi);rw[hl]at c0 hi hn HR;have jL:(i:Int)<(n:Int):=by omega
  have hi0:(0:Int)<=(i:Int):=by omega
  have hi1:decide ((i:Int)<0)=false:=Sz Oz;have hw1:IntKind.i64.wrap ((i:Int)+1)=((i+1:Nat):Int):=by rw[Wz];omega
  have hcn:n<=c:=by
   obtain⟨A',c',h1,h2⟩:=H;have e0:=(HR.out w (Oq _ _)).1;have e1:some (Obj.cells #[.slice A' M.length c'] 46 (0,0))=some (.cells #[.slice (some ⟨g,0,none⟩) n c] 46 (0,0)):=h1.symm.trans e0;injection e1 with e1;injection e1 with e1;injection e1 with e1;injection e1 with e1 _;injection e1 with e2 e3 e4;subst e2 e4;obtain⟨_,h3,_,h4,_⟩:=Xq (c:=c') (n:=M.length) h2 Oz;omega
  have HRW:Hid (∀W,Ok w W->∀j u,(ol M)[j]? = some u->W.cell? ⟨g,j,none⟩=some u):=Ou (λW hW=>by
   obtain⟨A',c',h1,h2⟩:=KC gT.out hW;have e0:=(HR.out W hW).1;have e1:some (Obj.cells #[.slice A' M.length c'] 46 (0,0))=some (.cells #[.slice (some ⟨g,0,none⟩) n c] 46 (0,0)):=h1.symm.trans e0;injection e1 with e1;injection e1 with e1;injection e1 with e1;injection e1 with e1 _;injection e1 with e2 e3 e4;subst e2 e4;obtain⟨g',e5,_,_,_,h5⟩:=Xq h2 Oz;injection e5 with e5;injection e5 with e5 _ _;subst e5
   exact h5)
  have hd1:decide ((i:Int)<=(c:Int))=true:=Sy Oz;obtain⟨ad,had,hNw⟩:∃ad:Addr,(if c=i+1 then some (⟨g,0,none⟩:Addr) else some ⟨g,(i+1)*6,none⟩)=some ad/\∀W,Ok w W->∀j u,(ol (M.drop (i+1)))[j]? = some u->W.cell? (ad.add j)=some u:=by
   by_cases hc:c=i+1
   ·refine⟨_,Sx hc,λW hW j u hj=>?_⟩;rw[List.drop_of_length_le (by omega)]at hj
    cases hj
   ·exact⟨_,Sw hc,λW hW=>qhN (HRW.out W hW)⟩
  have HNw:=Ou hNw;have hin:(i:Int)+1<=(n:Int):=by omega
  clear hx ha hg nG hl ex H B0 hC hNw;obtain⟨W3,hW3⟩:∃W3,((w.alloc (.cells (OC ⟨0,0,0,0,0,0⟩) 49)).alloc (.cells (OC x) 49)).alloc (.cells #[] 49)=W3:=⟨_,rfl⟩
  have B3:Ok w W3:=by rw[<-hW3];exact(((Oq _ _).alloc (Sq _) _).alloc Oy _).alloc (by simp;omega) _
  have hE:W3.ownsRow w.heap.size 49 6 (.slice (some ⟨w.heap.size+1+1,0,none⟩) 0 0) 0 (ol []):=by
   rw[<-hW3];exact⟨rfl,.inr ⟨_,0,#[],rfl,by omega,Qe Oy,Sq _,As _,rfl,rfl⟩⟩
  have pC:Cl 49 W3 (w.heap.size+1) (OC x):=by rw[<-hW3];exact Qp Oy (Qe Oy)
  have hX0:Cl 49 W3 w.heap.size (OC ⟨0,0,0,0,0,0⟩):=by rw[<-hW3];exact Qp (by simp;omega) (Qp Oy (Qe rfl))
  have c3:=(HR.out _ B3).2.1
  have rT:Hid (∃v' w',(Builtin.append_ #[29,29] 29 #[.slice (some ⟨w.heap.size+1+1,0,none⟩) 0 0,.slice (some ⟨g,0,none⟩) i c]).run prog W3=.ok v' w'/\w'.ownsRow w.heap.size 49 6 v' i (ol (M.take i))/\Ok w w'/\Cl 49 w' (w.heap.size+1) (OC x)/\Cl 49 w' w.heap.size (OC ⟨0,0,0,0,0,0⟩)/\(∀k,v'.ownBlock=some k->w.heap.size+1<k)):=Ou (by
   obtain⟨v',w',h1,h2,h3,h4⟩:=qak W3 w.heap.size 29 _ 0 _ hE ⟨g,0,none⟩ i c (M.take i) (by rw[Wy];have:=HM.out;omega) (qhM (by have:=HM.out;omega) (HRW.out _ B3)) Oz B3.size;rw[Ij,show ol []=[] from rfl,Mu]at h2;have hz:W3.heap.size=w.heap.size+3:=by rw[<-hW3];simp
   refine⟨v',w',h1,h2,U7 B3 hE h3,(h3.block _ (Qc pC) (by simp[Value.ownBlock])).trans pC,(h3.block _ (Qc hX0) (by simp[Value.ownBlock];omega)).trans hX0,λk hk=>?_⟩;rcases h4 with h4|h4
   ·rw[h4]at hk;simp[Value.ownBlock]at hk;omega
   ·rw[h4]at hk;injection hk with hk;omega)
  have mQ:=Ou (show W3.heap.size=w.heap.size+3 by rw[<-hW3];simp)
  have jT:Hid (∀A1 k1 y1,(y1.ownsRow w.heap.size 49 6 (.slice A1 i k1) i (ol (M.take i))/\Ok w y1/\Cl 49 y1 (w.heap.size+1) (OC x)/\Cl 49 y1 w.heap.size (OC ⟨0,0,0,0,0,0⟩)/\(∀k,(Value.slice A1 i k1).ownBlock=some k->w.heap.size+1<k)) ->
    ∃v' w',(Builtin.append_ #[29,29] 29 #[.slice A1 i k1,.slice (some ad) (n-(i+1)) (c-(i+1))]).run prog y1=.ok v' w'/\w'.ownsRow w.heap.size 49 6 v' (M.eraseIdx i).length (ol (M.eraseIdx i))/\Ok w w'/\Cl 49 w' (w.heap.size+1) (OC x)/\Cl 49 w' w.heap.size (OC ⟨0,0,0,0,0,0⟩)/\(∀k,v'.ownBlock=some k->w.heap.size+1<k)):=Ou (by
   rintro A1 k1 y1 ⟨q1,q2,q3,q4,q5⟩;obtain⟨v',w',h1,h2,h3,h4⟩:=qak y1 w.heap.size 29 _ i _ q1 ad (n-(i+1)) (c-(i+1)) (M.drop (i+1)) (by rw[Az,HM.out]) (HNw.out _ q2) Oz q2.size;have e1:M.eraseIdx i=M.take i++M.drop (i+1):=Rz ..;have e2:(M.eraseIdx i).length=i+(n-(i+1)):=by rw[Ry,Sx (by rw[HM.out];exact hi),HM.out];omega
   rw[<-Ky,<-e1,<-e2]at h2;refine⟨v',w',h1,h2,U7 q2 q1 h3,(h3.block _ (Qc q3) (λe=>by have:=q5 _ e.symm;omega)).trans q3,(h3.block _ (Qc q4) (λe=>by have:=q5 _ e.symm;omega)).trans q4,λk hk=>?_⟩;rcases h4 with h4|h4
   ·rw[h4]at hk;exact q5 k hk
   ·rw[h4]at hk;injection hk with hk;have:=Qc q3;omega)
  clear hE pC hX0 B3;go_enter func19,ntmps19;go_wp2_with (first|((with_reducible refine iK.out.mono ?_);rintro e w1 ⟨rfl,rfl⟩)|(at_builtin;obtain⟨v1,y1,hr1,h1⟩:=rT.out;refine Ga rfl _ _ 29 rfl _ _ rfl rfl hr1 ?_;obtain⟨A1,k1,rfl,_⟩:=ZQ h1.1;have cy:=(HR.out _ h1.2.1).2.1;have HY:=Ou h1;clear rT h1 hr1 hW3 c3)|(at_builtin;obtain⟨v2,y2,hr2,h2⟩:=jT.out _ _ _ HY.out;(try rw[had]);refine Ga rfl _ _ 29 rfl _ _ rfl rfl hr2 ?_;obtain⟨A2,k2,rfl,_⟩:=ZQ h2.1;clear jT HY cy;have b0:=(HR.out _ h2.2.1).1;have d0:=(HR.out _ h2.2.1).2.1;have df:=Cl.f (k:=0) b0;have p7:Cl 49 (y2.setCell ⟨wb,0,none⟩ (.slice A2 (M.eraseIdx i).length k2)) (w.heap.size+1) (OC x):=(QL (by show w.heap.size+1≠wb;omega)).trans h2.2.2.1;have p0:Cl 49 (y2.setCell ⟨wb,0,none⟩ (.slice A2 (M.eraseIdx i).length k2)) w.heap.size (OC ⟨0,0,0,0,0,0⟩):=(QL (by show w.heap.size≠wb;omega)).trans h2.2.2.2.1;have HY2:=Ou h2;have mN:=Ou p0;obtain⟨t0,t1,t2,t3,t4,t5⟩:=Qm p7;obtain⟨s0,s1,s2,s3,s4,s5⟩:=Qm p0;have f0:=p0.f (k:=0);have f1:=p0.f (k:=1);have f2:=p0.f (k:=2);have f3:=p0.f (k:=3);have f4:=p0.f (k:=4);have f5:=p0.f (k:=5);clear h2 hr2 b0 p7 p0))
  have hf:=JW x mN.out;refine bodyPost_ret (Xo rfl _ _ _ rfl x _ hf _ rfl) rfl ?_;refine⟨rfl,Ou ?_⟩;obtain⟨q1,q2,q3,q4,q5⟩:=HY2.out;have cK:Fr (λk=>k=wb) w (Zn (y2.setCell ⟨wb,0,none⟩ (.slice A2 (M.eraseIdx i).length k2)) w.heap.size x):=qal _ _ (Fr.set (S:=λk=>k=wb) (Fr.of_below q2) (p:=⟨wb,0,none⟩) (.inl rfl) _) (.inr (Sq _));refine⟨⟨A2,k2,?_,?_,.inl (λk hk=>by have:=q5 k hk;omega)⟩,cK⟩
  ·show (Zn _ _ _).heap[wb]? = _;rw[YZ _ x (by omega)];exact(QK (HR.out _ q2).1).trans rfl
  ·have h0:(y2.setCell ⟨wb,0,none⟩ (.slice A2 (M.eraseIdx i).length k2)).ownsRow w.heap.size 49 6 (.slice A2 (M.eraseIdx i).length k2) (M.eraseIdx i).length (ol (M.eraseIdx i)) :=
    Qi q1 (S:=λk=>k=wb) ((Fr.refl (λk=>k=wb) y2).set (p:=⟨wb,0,none⟩) (.inl rfl) _) (λk hk e=>by have:=q5 k hk;omega)
   refine Ju (Qi h0 (S:=λk=>k=w.heap.size) (qal _ _ (Fr.refl (λk=>k=w.heap.size) _) (.inl rfl)) (λk hk e=>by have:=q5 k hk;omega)) (As _)
 ·rw[ha]at iK;rw[hg];have lQ:QB id M=M.length:=by
   have h1:=qhO id M;unfold atI at ha
   split at ha
   ·omega
   ·omega
  have HE:Hid (M.eraseIdx (QB id M)=M):=Ou (by rw[lQ];exact List.eraseIdx_of_length_le (Sq _));have HZ:Hid (∀w',Ok w w'->RBt w w' wb (M.eraseIdx (QB id M))):=Ou (λw' hb=>by rw[HE.out];exact GN gT.out hb);clear ha hg lQ HE B0 hC H;go_enter func19,ntmps19;go_wp2_with ((with_reducible refine iK.out.mono ?_);rintro e w1 ⟨rfl,rfl⟩)
  refine bodyPost_ret (Xo rfl _ _ _ rfl ⟨0,0,0,0,0,0⟩ _ (Qe rfl) _ rfl) rfl ?_;exact⟨rfl,Ou (HZ.out _ ((Oq _ _).alloc (Sq _) _))⟩
theorem qkn (wb:Nat)(id qty:Int)(M:List Od)(w:World)(H:RB w wb M)(hn:M.length<=1000)(hq:∀x∈M,x.qty<=1099511627776) :
  Calls prog 21 #[.pointer (some ⟨wb,0,none⟩),.int .u64 id,.int .i64 qty] w λe w'=>e=.returned (.int .i64 (QU id qty M).1)/\Hid (RBt w w' wb (QU id qty M).2):=by
 have gT:=Ou H
 obtain⟨A,c,hwb,HR⟩:=Xp H
 have iK:Hid (Calls prog 52 #[.pointer (some ⟨wb,0,none⟩),.int .u64 id] w λe w'=>e=.returned (.int .i64 (atI id M))/\w=w'):=Ou ((qaf wb id M _ H hn).mono λ_ _ h=>⟨h.1,h.2.symm⟩)
 rcases qah (id:=id) (M:=M) with ⟨i,nG,hi,ha,hg⟩ | ⟨ha,hg⟩
 ·rw[ha]at iK;rw[Xr nG hi];obtain⟨_,c0,hx⟩:=HR.out w (Oq _ _);obtain⟨g,rfl,x0,x1,x2,x3,x4,x5⟩:=hx i hi;have hqx:=hq M[i]! (by rw[Sj M i hi];exact Wt hi);obtain⟨x,ex⟩:∃x,M[i]! = x:=⟨_,rfl⟩
  rw[ex]at x0 x1 x2 x3 x4 x5 hqx ⊢;obtain⟨n,hl⟩:∃n,M.length=n:=⟨_,rfl⟩
  have HM:=Ou hl;have HI:=Ou (Sv nG hi);rw[hl]at c0 hi hn HR;have jL:(i:Int)<(n:Int):=by omega
  have hi0:(0:Int)<=(i:Int):=by omega
  have hi1:decide ((i:Int)<0)=false:=Sz Oz;have xA:Hid (∀y:Od,Ok w (w.alloc (.cells (OC y) 49))):=Ou (λy=>(Oq _ _).alloc (Sq _) _);have HSM:Hid (∀w',Ok w w'->RBt w w' wb M):=Ou (λw' hb=>GN gT.out hb);clear hx ha hg nG hl H hq;by_cases q1:qty<1
  ·rw[Sx (.inl q1)];have q2:decide (qty<1)=true:=Sy q1;clear ex;go_enter func21,ntmps21;go_wp2_with ((with_reducible refine iK.out.mono ?_);rintro e w1 ⟨rfl,rfl⟩)
   go_ret;exact⟨rfl,Ou (HSM.out _ (xA.out x))⟩
  have q2:decide (qty<1)=false:=Sz q1;by_cases q3:x.qty<qty
  ·rw[Sx (.inr q3)];have q4:decide (x.qty<qty)=true:=Sy q3;clear ex;go_enter func21,ntmps21;go_wp2_with ((with_reducible refine iK.out.mono ?_);rintro e w1 ⟨rfl,rfl⟩)
   go_ret;exact⟨rfl,Ou (HSM.out _ (xA.out x))⟩
  have q4:decide (x.qty<qty)=false:=Sz q3;rw[Sw (by omega)];by_cases q5:qty=x.qty
  ·rw[Sx q5];have q6:(qty==x.qty)=true:=by simp[q5]
   have HT:=Ou (qbM wb id M (w.alloc (.cells (OC x) 49)) (KC gT.out (xA.out x)) (by rw[HM.out];exact hn));clear ex q5 q3;go_enter func21,ntmps21;go_wp2_with (first|((with_reducible refine iK.out.mono ?_);rintro e w1 ⟨rfl,rfl⟩)|((with_reducible refine HT.out.mono ?_);rintro e w2 ⟨rfl,ht⟩))
   go_ret;refine⟨rfl,Ou ?_⟩;have h:=ht.out;rw[HI.out.1]at h;exact h.after gT.out (xA.out x)
  ·rw[Sw q5];have q6:(qty==x.qty)=false:=by simp[q5]
   have q7:IntKind.i64.wrap (x.qty-qty)=x.qty-qty:=by rw[Wz];omega
   have HX:=Ou ex;obtain⟨W3,hW3⟩:∃W3,(w.alloc (.cells #[.int .u64 x.id,.int .i64 x.acc,.int .i64 x.side,.int .i64 x.price,.int .i64 (x.qty-qty),.int .u64 x.seq] 49)).alloc (.cells #[] 49)=W3:=⟨_,rfl⟩
   have B3:Ok w W3:=by rw[<-hW3];exact((Oq _ _).alloc (Sq _) _).alloc Oy _
   have hE:W3.ownsRow w.heap.size 49 6 (.slice (some ⟨w.heap.size+1,0,none⟩) 0 0) 0 (ol []):=by
    rw[<-hW3];exact⟨rfl,.inr ⟨_,0,#[],rfl,by omega,Qe Oy,Sq _,As _,rfl,rfl⟩⟩
   have pC:Cl 49 W3 w.heap.size (OC (Qz x qty)):=by rw[<-hW3];exact Qp Oy (Qe rfl)
   have c3:=(HR.out _ B3).2.1
   have rT:Hid (∃k c' w',(Builtin.append_ #[29,29] 29 #[.slice (some ⟨w.heap.size+1,0,none⟩) 0 0,.slice (some ⟨g,0,none⟩) n c]).run prog W3=.ok (.slice (some ⟨k,0,none⟩) n c') w'/\w'.ownsRow w.heap.size 49 6 (.slice (some ⟨k,0,none⟩) n c') n (ol M)/\Ok w w'/\Cl 49 w' w.heap.size (OC (Qz x qty))/\w.heap.size<k):=Ou (by
    obtain⟨A',c',h1,h2⟩:=KC gT.out B3;have e0:=(HR.out W3 B3).1;have e1:some (Obj.cells #[.slice A' M.length c'] 46 (0,0))=some (.cells #[.slice (some ⟨g,0,none⟩) n c] 46 (0,0)):=h1.symm.trans e0;injection e1 with e1;injection e1 with e1;injection e1 with e1;injection e1 with e1 _;injection e1 with e2 e3 e4;subst e2 e4;rw[HM.out]at h2;obtain⟨v',w',h3,h4,h5,h6⟩:=qhH W3 w.heap.size 29 _ 0 _ hE _ n c' M h2 Oz B3.size;rw[Ij,show ol []=[] from rfl,Mu]at h4;obtain⟨A2,k2,rfl,_⟩:=ZQ h4;obtain⟨k,rfl,hk1,_⟩:=Xq h4 Oz;have hz:W3.heap.size=w.heap.size+2:=by rw[<-hW3];simp
    refine⟨k,k2,w',h3,h4,U7 B3 hE h5,(h5.block _ (Qc pC) (by simp[Value.ownBlock])).trans pC,?_⟩
    rcases h6 with h6|h6<;>(simp[Value.ownBlock]at h6;omega))
   clear hE pC B3 q3 q5 ex;go_enter func21,ntmps21;go_wp2_with (first|((with_reducible refine iK.out.mono ?_);rintro e w1 ⟨rfl,rfl⟩)|(at_builtin;obtain⟨k,c',y1,hr1,h1⟩:=rT.out;refine Ga rfl _ _ 29 rfl _ _ rfl rfl hr1 ?_;have cy:=(HR.out _ h1.2.1).2.1;obtain⟨t0,t1,t2,t3,t4,t5⟩:=Qm h1.2.2.1;have HY:=Ou h1;clear rT h1 hr1 hW3 c3)|((with_reducible apply qhT (z:=Qz x qty) (i:=i) (M:=M));rfl;rfl;rfl;rfl;exact HY.out.1;exact hi;exact HM.out;rfl;skip))
   intro w5 o5 q5 b5;obtain⟨h1,h2,h3,h4⟩:=HY.out;have B5:Ok w w5:=h2.trans (b5 _ Oz);have z0:Cl 46 w5 wb #[.slice (some ⟨g,0,none⟩) n c]:=(HR.out _ B5).1;have z1:=(HR.out _ B5).2.1;have z2:=z0.f (k:=0)
   have HF:Hid (RBt w (w5.setCell ⟨wb,0,none⟩ (.slice (some ⟨k,0,none⟩) n c')) wb (M.set i (Qz x qty))):=Ou (by
    have hl:(M.set i (Qz x qty)).length=n:=by rw[Wk];exact HM.out
    refine⟨⟨some ⟨k,0,none⟩,c',?_,?_,.inl (λk2 hk=>by injection hk with hk;have hk':k=k2:=hk;omega)⟩,Fr.set (S:=λk=>k=wb) (Fr.of_below B5) (p:=⟨wb,0,none⟩) (.inl rfl) _⟩
    ·rw[hl];exact(QK z0).trans rfl
    ·rw[hl];refine Ju (Qi o5 (S:=λk=>k=wb) ((Fr.refl (λk=>k=wb) w5).set (p:=⟨wb,0,none⟩) (.inl rfl) _) (λk2 hk e=>?_)) (As _);injection hk with hk;have hk':k=k2:=hk
     omega)
   clear o5 q5 b5 h1 h2 h3 HY B5 z0;go_wp2_with fail
   go_ret;exact⟨rfl,HF⟩
 ·rw[ha]at iK;have hc:QU id qty M=(51,M):=by
   unfold QU;rw[Sw];intro h;unfold Zg at hg;rw[Sx h]at hg
   cases hg
  rw[hc];clear ha hg hc HR hq H;go_enter func21,ntmps21;go_wp2_with ((with_reducible refine iK.out.mono ?_);rintro e w1 ⟨rfl,rfl⟩)
  go_ret;exact⟨rfl,Ou (GN gT.out (Oq _ _))⟩
end
section
open Go.RowKit Go.Lib Go.Maps Go.Deep
structure RW (w:World) (base c4 c5 c8 wb:Nat) (R:Rl) (q0:Int) (m:Mt) (ca:Int) (fv dv:Value) (st:Bool):Prop where
 t:Cl 80 w c4 #[.int .i64 R.acc,.int .i64 R.side,.int .i64 R.price,.int .i64 q0,.int .i64 ca]
 md:Cl 82 w c5 #[.int .i64 R.lot,.int .i64 R.mode,.int .i64 R.self]
 r:Cl 77 w c8 #[fv,dv,.int .i64 m.left,.bool st]
 rb:∃A c,Cl 46 w wb #[.slice A m.L.length c]/\w.ownsRow 0 49 6 (.slice A m.L.length c) m.L.length (ol m.L)/\(∀j,(Value.slice A m.L.length c).ownBlock=some j->¬dv.ownBlock=some j)
 fo:w.ownsRow base 114 7 fv m.F.length (flF m.F)
 dr:w.ownsRow base 49 6 dv m.D.length (ol m.D)
 lo:base<=w.heap.size
 cs:R.side=1->ca=m.cash
 cr:InR ca
theorem RW.RB {w:World}{base c4 c5 c8 wb:Nat}{R:Rl}{q0:Int}{m:Mt}{ca:Int}{fv dv:Value}{st:Bool}(h:RW w base c4 c5 c8 wb R q0 m ca fv dv st):RB w wb m.L:=by
 obtain⟨A,c,h1,h2,_⟩:=h.rb
 exact⟨A,c,h1,h2⟩
def RFt (c4 c8 wb:Nat)(fv dv:Value)(j:Nat):Prop:=j=c4∨j=c8∨j=wb∨fv.ownBlock=some j∨dv.ownBlock=some j
structure RTurn (w w':World) (base c4 c5 c8 wb:Nat) (R:Rl) (q0:Int) (m1:Mt) (ca:Int) (fv dv fv1 dv1:Value) (st:Bool):Prop where
 rw_:RW w' base c4 c5 c8 wb R q0 m1 ca fv1 dv1 st
 fr:Fr (RFt c4 c8 wb fv dv) w w'
 ff:∀j,fv1.ownBlock=some j->fv.ownBlock=some j∨w.heap.size<=j
 fd:∀j,dv1.ownBlock=some j->dv.ownBlock=some j∨w.heap.size<=j
section
variable {w w' w'':World}{base c4 c5 c8 wb:Nat}{R:Rl}{q0:Int}{m m1 m2:Mt}{ca ca1 ca2:Int}{fv dv fv1 dv1 fv2 dv2:Value}{st st1:Bool}
theorem RW.below (H:RW w base c4 c5 c8 wb R q0 m ca fv dv st)(hb:Ok w w'):RW w' base c4 c5 c8 wb R q0 m ca fv dv st:=by
 have f:Fr (λ_=>False) w w':=Fr.of_below hb
 obtain⟨A,c,h1,h2,h3⟩:=H.rb
 exact⟨Cl.bel H.t hb,Cl.bel H.md hb,Cl.bel H.r hb,⟨A,c,Cl.bel h1 hb,Qi h2 f (λ_ _ h=>h),h3⟩,Qi H.fo f (λ_ _ h=>h),Qi H.dr f (λ_ _ h=>h),Sk H.lo hb.size,H.cs,H.cr⟩
theorem RTurn.same (H:RW w base c4 c5 c8 wb R q0 m ca fv dv st):RTurn w w base c4 c5 c8 wb R q0 m ca fv dv fv dv st:=⟨H,Fr.refl _ _,λ_ h=>.inl h,λ_ h=>.inl h⟩
theorem RTurn.bel (H:RW w base c4 c5 c8 wb R q0 m ca fv dv st)(hb:Ok w w'):RTurn w w' base c4 c5 c8 wb R q0 m ca fv dv fv dv st:=⟨H.below hb,Fr.of_below hb,λ_ h=>.inl h,λ_ h=>.inl h⟩
theorem RTurn.trans (h:RTurn w w' base c4 c5 c8 wb R q0 m1 ca1 fv dv fv1 dv1 st1)(h2:RTurn w' w'' base c4 c5 c8 wb R q0 m2 ca2 fv1 dv1 fv2 dv2 st):RTurn w w'' base c4 c5 c8 wb R q0 m2 ca2 fv dv fv2 dv2 st:=by
 have hs:=h.fr.size
 refine⟨h2.rw_,h.fr.trans h2.fr (λj hj=>?_),λj hj=>?_,λj hj=>?_⟩
 ·rcases hj with hj|hj|hj|hj|hj
  ·exact .inl (.inl hj)
  ·exact .inl (.inr (.inl hj))
  ·exact .inl (.inr (.inr (.inl hj)))
  ·exact(h.ff j hj).imp (λh=>.inr (.inr (.inr (.inl h)))) id
  ·exact(h.fd j hj).imp (λh=>.inr (.inr (.inr (.inr h)))) id
 ·rcases h2.ff j hj with hj|hj
  ·exact h.ff j hj
  ·right;omega
 ·rcases h2.fd j hj with hj|hj
  ·exact h.fd j hj
  ·right;omega
theorem RTurn.grow (h:RTurn w w' base c4 c5 c8 wb R q0 m1 ca1 fv dv fv1 dv1 st)(hb:Ok w' w''):RTurn w w'' base c4 c5 c8 wb R q0 m1 ca1 fv dv fv1 dv1 st:=h.trans (RTurn.bel h.rw_ hb)
theorem RW.lt (H:RW w base c4 c5 c8 wb R q0 m ca fv dv st):∀j,RFt c4 c8 wb fv dv j->j<w.heap.size:=λj hj=>by
 obtain⟨A,c,h1,_⟩:=H.rb
 rcases hj with hj|hj|hj|hj|hj
 ·subst hj;exact Qc H.t
 ·subst hj;exact Qc H.r
 ·subst hj;exact Qc h1
 ·exact J2 H.fo j hj
 ·exact J2 H.dr j hj
theorem RW.far (H:RW w base c4 c5 c8 wb R q0 m ca fv dv st){j:Nat}(hj:w.heap.size<=j):¬RFt c4 c8 wb fv dv j:=λh=>by have:=H.lt j h;omega
theorem XP {A:Option Addr}{n c:Nat}{L:List Od}(H:RW w base c4 c5 c8 wb R q0 m ca fv dv st)(h:w.ownsRow 0 49 6 (.slice A n c) n (ol L)){j:Nat}(hj:(Value.slice A n c).ownBlock=some j):¬j=c4/\¬j=c8/\¬j=wb/\¬fv.ownBlock=some j:=by
 obtain⟨A',c',h1,_⟩:=H.rb
 exact⟨λe=>by subst e;exact Qo h H.t Ox hj,λe=>by subst e;exact Qo h H.r Ox hj,λe=>by subst e;exact Qo h h1 Ox hj,λe=>Yf h H.fo Ox j hj e⟩
theorem RTurn.book (H:RW w base c4 c5 c8 wb R q0 m ca fv dv st){M:List Od}(h:RBt w w' wb M):RTurn w w' base c4 c5 c8 wb R q0 ⟨M,m.left,m.cash,m.F,m.D⟩ ca fv dv fv dv st:=by
 obtain⟨⟨A,c,h1,h2,h3⟩,hf⟩:=h
 obtain⟨A',c',g1,g2,g3⟩:=H.rb
 refine⟨⟨hf.blk H.t (Zu H.t g1 Ox),hf.blk H.md (Zu H.md g1 Ox),hf.blk H.r (Zu H.r g1 Ox),⟨A,c,h1,h2,λj hj hd=>?_⟩,Qi H.fo hf (λj hj e=>by subst e;exact Qo H.fo g1 Ox hj),Qi H.dr hf (λj hj e=>by subst e;exact Qo H.dr g1 Ox hj),Sk H.lo hf.size,H.cs,H.cr⟩,hf.mono (λj hj=>.inl (.inr (.inr (.inl hj)))),λj hj=>.inl hj,λj hj=>.inl hj⟩
 rcases h3 with h3|h3
 ·have:=h3 j hj;have:=J2 H.dr j hd;omega
 ·have e:some (Obj.cells #[.slice A' m.L.length c'] 46 (0,0))=some (.cells #[.slice A M.length c] 46 (0,0)):=g1.symm.trans h3;injection e with e;injection e with e;injection e with e;injection e with e _;injection e with e1 e2 e3;subst e1 e3;rw[<-e2]at hj;exact g3 j hj hd
theorem RTurn.fill {w3:World}{gg cp:Nat}{o:Obj}{x:Od}{q:Int}(H:RW w base c4 c5 c8 wb R q0 m ca fv dv st)
  (hown:w3.ownsRow base 114 7 (.slice (some ⟨gg,0,none⟩) (m.F.length+1) cp) (m.F.length+1) (flF m.F++Z4 (x,q))) (hgr:(w.drew.alloc o).grownBy w3 fv.ownBlock) (hat:fv.ownBlock=some gg∨gg=w.heap.size+1) :
  RTurn w (w3.setCell ⟨c8,0,none⟩ (.slice (some ⟨gg,0,none⟩) (m.F.length+1) cp)) base c4 c5 c8 wb R q0 ⟨m.L,m.left,m.cash,m.F++[(x,q)],m.D⟩ ca fv dv (.slice (some ⟨gg,0,none⟩) (m.F.length+1) cp) dv st:=by
 obtain⟨A,c,h1,h2,h3⟩:=H.rb
 have fr0:Fr (λj=>fv.ownBlock=some j) w w3:=(((Fr.refl _ w).drew).alloc o).grown hgr (λj hj=>.inl hj)
 have f3:Fr (λj=>j=c8∨fv.ownBlock=some j) w (w3.setCell ⟨c8,0,none⟩ (.slice (some ⟨gg,0,none⟩) (m.F.length+1) cp)):=(fr0.mono (λj hj=>.inl (.inr hj))).set (p:=⟨c8,0,none⟩) (.inl (.inl rfl)) _
 have n4:¬(c4=c8∨fv.ownBlock=some c4):=λh=>h.elim (λe=>Zu H.t H.r Ox e) (λe=>Qo H.fo H.t Ox e)
 have n5:¬(c5=c8∨fv.ownBlock=some c5):=λh=>h.elim (λe=>Zu H.md H.r Ox e) (λe=>Qo H.fo H.md Ox e)
 have nb:¬(wb=c8∨fv.ownBlock=some wb):=λh=>h.elim (λe=>Zu h1 H.r Ox e) (λe=>Qo H.fo h1 Ox e)
 have n8:¬fv.ownBlock=some c8:=Qo H.fo H.r Ox
 refine⟨⟨f3.blk H.t n4,f3.blk H.md n5,QK (fr0.blk H.r n8),⟨A,c,f3.blk h1 nb,Qi h2 f3 (λj hj h=>?_),h3⟩,?_,Qi H.dr f3 (λj hj h=>?_),Sk H.lo f3.size,H.cs,H.cr⟩,f3.mono (λj hj=>.inl ?_),λj hj=>?_,λj hj=>.inl hj⟩
 ·have:=XP H h2 hj;rcases h with h|h
  ·exact this.2.1 h
  ·exact this.2.2.2 h
 ·have:(w3.setCell ⟨c8,0,none⟩ (.slice (some ⟨gg,0,none⟩) (m.F.length+1) cp)).ownsRow base 114 7 (.slice (some ⟨gg,0,none⟩) (m.F.length+1) cp) (m.F.length+1) (flF m.F++Z4 (x,q)):=Qi hown ((Fr.refl (λj=>j=c8) w3).set (p:=⟨c8,0,none⟩) (.inl rfl) _) (λj hj h=>by subst h;exact Qo hown (fr0.blk H.r n8) Ox hj);simpa [flF] using this
 ·rcases h with h|h
  ·subst h;exact Qo H.dr H.r Ox hj
  ·exact Yf H.dr H.fo Ox j hj h
 ·rcases hj with h|h
  ·exact .inr (.inl h)
  ·exact .inr (.inr (.inr (.inl h)))
 ·simp only[Value.ownBlock,Option.some.injEq]at hj;subst hj;rcases hat with h|h
  ·exact .inl h
  ·right;omega
theorem RTurn.drop {w3:World}{gg cp:Nat}{z:Od}(H:RW w base c4 c5 c8 wb R q0 m ca fv dv st)
  (hown:w3.ownsRow base 49 6 (.slice (some ⟨gg,0,none⟩) (m.D.length+1) cp) (m.D.length+1) (ol m.D++Qn z)) (fr0:Fr (λj=>dv.ownBlock=some j) w w3) (hat:dv.ownBlock=some gg∨w.heap.size<=gg) :
  RTurn w (w3.setCell ⟨c8,1,none⟩ (.slice (some ⟨gg,0,none⟩) (m.D.length+1) cp)) base c4 c5 c8 wb R q0 ⟨m.L,m.left,m.cash,m.F,m.D++[z]⟩ ca fv dv fv (.slice (some ⟨gg,0,none⟩) (m.D.length+1) cp) st:=by
 obtain⟨A,c,h1,h2,h3⟩:=H.rb
 have f3:Fr (λj=>j=c8∨dv.ownBlock=some j) w (w3.setCell ⟨c8,1,none⟩ (.slice (some ⟨gg,0,none⟩) (m.D.length+1) cp)):=(fr0.mono (λj hj=>.inl (.inr hj))).set (p:=⟨c8,1,none⟩) (.inl (.inl rfl)) _
 have n4:¬(c4=c8∨dv.ownBlock=some c4):=λh=>h.elim (λe=>Zu H.t H.r Ox e) (λe=>Qo H.dr H.t Ox e)
 have n5:¬(c5=c8∨dv.ownBlock=some c5):=λh=>h.elim (λe=>Zu H.md H.r Ox e) (λe=>Qo H.dr H.md Ox e)
 have nb:¬(wb=c8∨dv.ownBlock=some wb):=λh=>h.elim (λe=>Zu h1 H.r Ox e) (λe=>Qo H.dr h1 Ox e)
 have n8:¬dv.ownBlock=some c8:=Qo H.dr H.r Ox
 refine⟨⟨f3.blk H.t n4,f3.blk H.md n5,QK (fr0.blk H.r n8),⟨A,c,f3.blk h1 nb,Qi h2 f3 (λj hj h=>?_),λj hj h=>?_⟩,Qi H.fo f3 (λj hj h=>?_),?_,Sk H.lo f3.size,H.cs,H.cr⟩,f3.mono (λj hj=>.inl ?_),λj hj=>.inl hj,λj hj=>?_⟩
 ·rcases h with h|h
  ·exact(XP H h2 hj).2.1 h
  ·exact h3 j hj h
 ·simp only[Value.ownBlock,Option.some.injEq]at h;subst h;rcases hat with h|h
  ·exact h3 _ hj h
  ·have:=J2 h2 _ hj;omega
 ·rcases h with h|h
  ·subst h;exact Qo H.fo H.r Ox hj
  ·exact Yf H.fo H.dr Ox j hj h
 ·have:(w3.setCell ⟨c8,1,none⟩ (.slice (some ⟨gg,0,none⟩) (m.D.length+1) cp)).ownsRow base 49 6 (.slice (some ⟨gg,0,none⟩) (m.D.length+1) cp) (m.D.length+1) (ol m.D++Qn z):=Qi hown ((Fr.refl (λj=>j=c8) w3).set (p:=⟨c8,1,none⟩) (.inl rfl) _) (λj hj h=>by subst h;exact Qo hown (fr0.blk H.r n8) Ox hj);simpa [ol] using this
 ·rcases hj with h|h
  ·exact .inr (.inl h)
  ·exact .inr (.inr (.inr (.inr h)))
 ·simp only[Value.ownBlock,Option.some.injEq]at hj;subst hj;rcases hat with h|h
  ·exact .inl h
  ·right;omega
theorem RTurn.setR {st':Bool}{j:Nat}{u:Value}{m':Mt}(H:RW w base c4 c5 c8 wb R q0 m ca fv dv st)(hr:Cl 77 (w.setCell ⟨c8,j,none⟩ u) c8 #[fv,dv,.int .i64 m'.left,.bool st'])(hL:m'.L=m.L)(hc:m'.cash=m.cash)(hF:m'.F=m.F)(hD:m'.D=m.D) :
  RTurn w (w.setCell ⟨c8,j,none⟩ u) base c4 c5 c8 wb R q0 m' ca fv dv fv dv st':=by
 have f:Fr (λi=>i=c8) w (w.setCell ⟨c8,j,none⟩ u):=(Fr.refl (λi=>i=c8) w).set (p:=⟨c8,j,none⟩) (.inl rfl) _
 obtain⟨A,c,h1,h2,h3⟩:=H.rb
 refine⟨⟨f.blk H.t (Zu H.t H.r Ox),f.blk H.md (Zu H.md H.r Ox),hr,by rw[hL];exact⟨A,c,f.blk h1 (Zu h1 H.r Ox),Qi h2 f (λi hi h=>(XP H h2 hi).2.1 h),h3⟩,by rw[hF];exact Qi H.fo f (λi hi h=>by subst h;exact Qo H.fo H.r Ox hi),by rw[hD];exact Qi H.dr f (λi hi h=>by subst h;exact Qo H.dr H.r Ox hi),Sk H.lo f.size,by rw[hc];exact H.cs,H.cr⟩,f.mono (λi hi=>.inl (.inr (.inl hi))),λi hi=>.inl hi,λi hi=>.inl hi⟩
theorem RTurn.setT {j:Nat}{u:Value}{ca':Int}{m':Mt}(H:RW w base c4 c5 c8 wb R q0 m ca fv dv st)(ht:Cl 80 (w.setCell ⟨c4,j,none⟩ u) c4 #[.int .i64 R.acc,.int .i64 R.side,.int .i64 R.price,.int .i64 q0,.int .i64 ca'])(hL:m'.L=m.L)(hl:m'.left=m.left)(hF:m'.F=m.F)(hD:m'.D=m.D)(hc:R.side=1->ca'=m'.cash)(hi:InR ca') :
  RTurn w (w.setCell ⟨c4,j,none⟩ u) base c4 c5 c8 wb R q0 m' ca' fv dv fv dv st:=by
 have f:Fr (λi=>i=c4) w (w.setCell ⟨c4,j,none⟩ u):=(Fr.refl (λi=>i=c4) w).set (p:=⟨c4,j,none⟩) (.inl rfl) _
 obtain⟨A,c,h1,h2,h3⟩:=H.rb
 refine⟨⟨ht,f.blk H.md (Zu H.md H.t Ox),by rw[hl];exact f.blk H.r (Zu H.r H.t Ox),by rw[hL];exact⟨A,c,f.blk h1 (Zu h1 H.t Ox),Qi h2 f (λi hi h=>(XP H h2 hi).1 h),h3⟩,by rw[hF];exact Qi H.fo f (λi hi h=>by subst h;exact Qo H.fo H.t Ox hi),by rw[hD];exact Qi H.dr f (λi hi h=>by subst h;exact Qo H.dr H.t Ox hi),Sk H.lo f.size,hc,hi⟩,f.mono (λi hi=>.inl (.inl hi)),λi hi=>.inl hi,λi hi=>.inl hi⟩
end
def XQ (w:World)(base g bk:Nat)(X:Ruls)(R:Rl)(v:Value)(k:Int)(S:Nat->Prop)(m:Mt)(fv dv:Value)(lf:Int)(e:Ending)(w':World):Prop :=
 ∃(go:Bool) (m1:Mt) (fv' dv':Value) (S':Nat->Prop) (st1:Bool),e=.returned (.bool go)/\Hid (MTurn w w' base g bk X R v k S S' m1 fv dv fv' dv' lf st1/\MeetP R m go m1 st1)
theorem qbN {w w':World}{base g bk:Nat}{X:Ruls}{R:Rl}{v:Value}{k:Int}{S S1:Nat->Prop}{m mA:Mt}{p:Int}{fv dv fv1:Value}{lf:Int}(hm:Qq R m p=mA)(aH:prM R m.L=some p)(h:¬Zi R m p∨mA.left=0)(t:MTurn w w' base g bk X R v k S S1 mA fv dv fv1 dv lf false) :
  XQ w base g bk X R v k S m fv dv lf (.returned (.bool false)) w' :=
 ⟨false,mA,fv1,dv,S1,false,rfl,Ou ⟨t,by rw[<-hm]at h ⊢;exact qkj aH h⟩⟩
theorem qko (base g bk:Nat)(X:Ruls)(R:Rl)(v:Value)(k:Int)(S:Nat->Prop)(m:Mt)(fv dv:Value)(lf:Int)(p:Int)(w:World)(H:MW w base g bk X R v k S m fv dv lf false)(hm:MOk m)(hr:ROk R)(aH:prM R m.L=some p) :
  Calls prog 55 #[ptA g,.int .i64 p] w (XQ w base g bk X R v k S m fv dv lf):=by
 have hp:=Ki hm.gm aH
 have hw:(Lit.int .i64 (3-R.side)).wf=true:=by rcases hr.s with h|h<;>rw[h]<;>rfl
 have HO:=Ou (λW=>Ye R.side W)
 rw[qbB hr.s]at HO
 have iB:Hid (∀W,Ok w W->Calls prog 28 #[ptA bk,.int .i64 (3-R.side),.int .i64 p] W (Jy W (lvM R m p))):=Ou (λW hW=>qjz bk v k m.L S (3-R.side) p hw W (H.ly.below hW))
 have pV:(lvM R m p).length<=64:=Sk (by unfold lvM;exact V4 _ _ _) H.ly.hd.len
 have qR:Hid ((lvM R m p).length<=1000):=Ou Oz
 have kV:Hid (∀(W:World),∀x∈lvM R m p,Od.ok W x):=Ou (λW x hx=>(H.ly.hd.ok x (Jn hx).1).1)
 have kT:Hid (∀W A n c,Ods W A n (lvM R m p)->Calls prog 73 #[.int .i64 R.self,.int .i64 R.acc,.slice A n c] W (Z8 R.self R.acc (lvM R m p) W)):=Ou (λW A n c hO=>qfQ R.self R.acc A n c (lvM R m p) W hO (by rw[<-hO.1];omega))
 have N0:Hid (∀W,Ok w W->W.cell? ⟨g,0,none⟩=some (ptA bk)):=Ou (λW hW=>((Cl.bel H.mb hW).c 0).trans rfl)
 have N8:Hid (∀W,Ok w W->W.cell? ⟨g,8,none⟩=some (.int .i64 R.self)):=Ou (λW hW=>((Cl.bel H.mb hW).c 8).trans rfl)
 have N10:Hid (∀W,Ok w W->W.cell? ⟨g,10,none⟩=some (.int .i64 R.acc)):=Ou (λW hW=>((Cl.bel H.mb hW).c 10).trans rfl)
 have N11:Hid (∀W,Ok w W->W.cell? ⟨g,11,none⟩=some (.int .i64 R.side)):=Ou (λW hW=>((Cl.bel H.mb hW).c 11).trans rfl)
 have HW:=Ou H
 have HP:=Ou (Sv hm (Sv hr (Sv aH hp)))
 have x7:Hid (nM R m p=Zd R.self R.acc (lvM R m p)):=Ou rfl
 unfold Jy at iB
 unfold Z8 at kT
 rw[<-x7.out]at kT
 clear H hm hr aH hp hw pV
 go_enter func55,ntmps55
 go_upto_region 1 with fail
 refine wp_region_held_drew (S:=λW=>Ok w W) Ow (by exact(Oq _ _).drew) (λhHeld=>?_)
 refine tkA 0 ?_
 refine tkA 1 ?_
 refine tkA 2 ?_
 refine tkA 3 ?_
 refine tkH 4 ?_ ?_ Ov ?_
 rotate_left
 ·(intro w hSw;have hs:=N8.out _ hSw;(try dsimp only at hSw);go_simp;try with_reducible rfl)
 (try simp only[zz])
 refine tkA 5 ?_
 refine tkA 6 ?_
 refine tkA 7 ?_
 refine tkA 8 ?_
 refine tkH 9 ?_ ?_ Ov ?_
 rotate_left
 ·(intro w hSw;have hs:=N10.out _ hSw;(try dsimp only at hSw);go_simp;try with_reducible rfl)
 (try simp only[zz])
 refine tkA 10 ?_
 refine tkA 11 ?_
 refine tkA 12 ?_
 refine tkH 13 ?_ ?_ Ov ?_
 rotate_left
 ·(intro w hSw;have hs:=N0.out _ hSw;(try dsimp only at hSw);go_simp;try with_reducible rfl)
 (try simp only[zz])
 refine tkA 14 ?_
 refine tkA 15 ?_
 refine tkA 16 ?_
 refine tkA 17 ?_
 refine tkH 18 ?_ ?_ Ov ?_
 rotate_left
 ·(intro w hSw;have hs:=N11.out _ hSw;(try dsimp only at hSw);go_simp;try with_reducible rfl)
 (try simp only[zz])
 refine tkA 20 ?_
 (try simp only[zz])
 refine rdH 19 (λK hK=>?_)
 go_simp
 ((with_reducible refine(HO.out _).mono ?_);rintro e y0 ⟨rfl,rfl⟩)
 refine hK.out _ _ (by exact hHeld) (λhHeld=>?_)
 clear hK K
 (try simp only[zz])
 refine rdH 21 (λK hK=>?_)
 go_simp
 ((with_reducible refine(iB.out _ hHeld).mono ?_);rintro e y1 ⟨vL,rfl,hL⟩)
 obtain⟨LA,lc,rfl,-,hO⟩:=VJ hL.out.1 qR.out (kV.out _)
 have hO:=Ou hO
 have hS1:=Ou hHeld.size
 refine hK.out _ _ (by exact hHeld.trans (hL.out.2.mono hHeld.size)) (λhHeld=>?_)
 clear hK K
 (try simp only[zz])
 refine rdH 22 (λK hK=>?_)
 go_simp
 ((with_reducible refine(kT.out _ _ _ _ hO.out).mono ?_);rintro e y2 ⟨RA,rc,DA,dc,rfl,hM⟩)
 have fF:=Ou hHeld.size
 refine hK.out _ _ (by exact hHeld.trans (hM.out.1.mono hHeld.size)) (λhHeld=>?_)
 clear hK K
 (try simp only[zz])
 refine tkA 23 ?_
 refine tkA 24 ?_
 refine tkA 25 ?_
 refine tkA 26 ?_
 refine tkA 27 ?_
 refine tkA 28 ?_
 refine tkA 29 ?_
 (try simp only[zz])
 refine wpAnyH_done Ow ?_ _
 have zG:=Ou (HW.out.below hHeld)
 have aG:=Ou hHeld
 obtain⟨hb12,hrun,hdr,hnew⟩:=hM.out
 have qN:Hid (JA R m p=1->∃b,DA=some ⟨b,0,none⟩/\b<y2.heap.size/\y2.cell? ⟨b,0,none⟩=some (.int .u64 (dId R m p))/\w.heap.size<=b):=Ou (λh=>by
  obtain⟨b,h1,h2,h3,h4⟩:=hdr h
  exact⟨b,h1,h2,h3,Sk fF.out h4⟩)
 have cM:Hid (Calls prog 74 #[ptA g,.int .i64 p,.slice RA (nM R m p) rc] y2 (GL y2 base g bk X R v k S m fv dv lf false p)):=Ou (by
  obtain⟨hm,hr,aH,hp⟩:=HP.out;refine qkh base g bk X R v k S m fv dv lf false p RA (nM R m p) rc y2 zG.out hrun rfl (λb off e=>?_) hm.gm hp ⟨hr.l1,hr.l2⟩ hm.l1 hm.cr (by have:=hm.fn;omega) (HW.out.ly.hd.len);intro hf;have h1:=hnew b off e;have h2:=HW.out.lt b (by exact hf);have h3:=fF.out
  omega)
 unfold GL at cM
 have zK:Hid (mtM R.self R.acc (lvM R m p)=JA R m p/\mtS R.self R.acc (lvM R m p)=KE R m p):=Ou ⟨rfl,rfl⟩
 rw[zK.out.1,zK.out.2]
 clear hHeld hb12 hrun hdr hnew hM hO hL hS1 fF kT iB HO qR kV N0 N8 N10 N11 x7
 obtain⟨nD,pZ⟩:∃n,JA R m p=n:=⟨_,rfl⟩
 obtain⟨sS,hsS⟩:∃s,KE R m p=s:=⟨_,rfl⟩
 rw[pZ,hsS]
 have HNS:=Ou (Sv pZ hsS)
 rw[pZ]at qN
 clear pZ hsS zK
 go_wp2_with fail
 ((with_reducible refine cM.out.mono ?_);rintro e y3 ⟨em,fv1,S1,rfl,hT⟩)
 obtain⟨mA,hmA⟩:∃x,Qq R m p=x:=⟨_,rfl⟩
 rw[hmA]at hT
 have HT:=Ou (MTurn.after aG.out hT.out.2)
 have HE:=Ou hT.out.1
 have HA:=Ou hmA
 obtain⟨lA,hlA⟩:∃x,mA.left=x:=⟨_,rfl⟩
 have g13:y3.cell? ⟨g,13,none⟩=some (.int .i64 lA):=by rw[<-hlA];exact(hT.out.2.mw.mb.c 13).trans rfl
 have HLA:=Ou hlA
 have sG:Hid (nD=1->∃b,DA=some ⟨b,0,none⟩/\y3.cell? ⟨b,0,none⟩=some (.int .u64 (dId R m p))):=Ou (λh=>by
  obtain⟨b,h1,h2,h3,h4⟩:=qN.out h
  exact⟨b,h1,Kl hT.out.2.fr h2 (HW.out.far h4) h3⟩)
 clear hT cM hmA hlA qN
 cases em with
 | false =>
  go_wp2_with fail
  go_ret;exact qbN HA.out HP.out.2.2.1 (.inl (λh=>by have:=HE.out.2 h;cases this)) HT.out
 | true =>
  by_cases hl0:lA=0
  ·have g1:(lA==0)=true:=by simp[hl0]
   have HL0:Hid (mA.left=0):=Ou (by rw[HLA.out,hl0]);clear hl0;go_wp2_with fail
   go_ret;exact qbN HA.out HP.out.2.2.1 (.inr HL0.out) HT.out
  ·have g1:(lA==0)=false:=by simp[hl0]
   have sZ:=Ou (qkk HP.out.1 HP.out.2.1 HP.out.2.2.1 (HE.out.1 rfl) (by rw[HA.out,HLA.out];exact hl0));rw[HA.out,HNS.out.1,HNS.out.2]at sZ;have lU:=sZ.out.1
   have HDn:Hid (mA.D.length<100000):=Ou (by
    have h:=HP.out.1.aft HP.out.2.1 HP.out.2.2.1 (HE.out.1 rfl)
    rw[HA.out]at h;have:=h.dn;omega)
   clear hl0;go_wp2_with fail
   go_loopg [54] nD (λkx s54 wr=>∃(i:Nat) (dv1:Value) (S2:Nat->Prop),s54=.int .i64 (i:Int)/\i<=nD/\nD-i<=kx/\Hid (MTurn w wr base g bk X R v k S S2 (Yg (dId R m p) mA i) fv dv fv1 dv1 lf false/\(i=0->nD=1->∃b,DA=some ⟨b,0,none⟩/\wr.cell? ⟨b,0,none⟩=some (.int .u64 (dId R m p)))))
   case atStart=>exact⟨0,dv,S1,rfl,by omega,by omega,Ou ⟨HT.out,λ_=>sG.out⟩⟩
   case round =>
    clear HT sG g13 g1;obtain⟨i,dv1,S2,rfl,hi,aP,hI⟩:=hrel;by_cases hlt:i<nD
    ·obtain rfl:i=0:=by omega
     obtain rfl:nD=1:=by omega
     obtain⟨bD,rfl,cD⟩:=hI.out.2 rfl rfl;obtain⟨id,hid⟩:∃x,dId R m p=x:=⟨_,rfl⟩
     rw[hid]at cD;have fT:Hid (MTurn w wr base g bk X R v k S S2 mA fv dv fv1 dv1 lf false):=Ou hI.out.1;have HId:=Ou hid;have hwf:(Lit.int .u64 id).wf=true:=by
      obtain⟨x,hx,he⟩:=sZ.out.2.2 rfl;rw[<-hid,<-he];exact Jw (fT.out.mw.ly.hd.ok x hx).1.1
     have oO:=Ou (qjr bk v k mA.L S2 id hwf wr fT.out.mw.ly);unfold Vv at oO;have g0:wr.cell? ⟨g,0,none⟩=some (ptA bk):=(fT.out.mw.mb.c 0).trans rfl;obtain⟨⟨z0,z1,z2,z3,z4,z5⟩,hz⟩:∃z,oZ (Zg id mA.L)=z:=⟨_,rfl⟩
     obtain⟨th,aS⟩:∃t,(Zg id mA.L).isSome=t:=⟨_,rfl⟩
     rw[hz,aS]at oO;have HZ:=Ou hz;clear hI hid hwf hz aS;go_wp2_with fail
     ((with_reducible refine oO.out.mono ?_);rintro e y4 ⟨S3,rfl,hK⟩);have HK:=Ou hK.out;clear hK oO g0 cD;go_upto_region 8 with fail
     obtain⟨y5,yD⟩:∃y,y4.alloc (.cells #[.int .u64 z0,.int .i64 z1,.int .i64 z2,.int .i64 z3,.int .i64 z4,.int .u64 z5] 38)=y:=⟨_,rfl⟩
     rw[yD];have dH:Ok y4 y5:=by rw[<-yD];exact Zp _ _
     have eP:Cl 38 y5 y4.heap.size (OC ⟨z0,z1,z2,z3,z4,z5⟩):=by rw[<-yD];exact Qe rfl
     have lT:Cl 109 y5 g (mC bk X R mA.left mA.cash fv1 dv1 lf false):=Cl.bel (HK.out.fr.blk fT.out.mw.mb (K6 fT.out.mw.ly.hd fT.out.mw.mb)) dH;have sA:=Ou (Qi (Qi fT.out.mw.dr HK.out.fr fT.out.mw.ds) (Fr.of_below dH:Fr (λ_=>False) y4 y5) (λ_ _ h=>h));have gQ:=Ou dH;have g16:y5.cell? ⟨g,16,none⟩=some dv1:=(lT.c 16).trans rfl;obtain⟨x0,x1,x2,x3,x4,x5⟩:=Qm eP;have lg:=Qc lT;have HG5:=Ou lT;have rA:Hid (base<=y5.heap.size):=Ou (Sk fT.out.mw.lo (Sk HK.out.fr.size dH.size));have r9:Hid (dv1.ownBlock≠some g):=Ou (Qo sA.out HG5.out Ox)
     obtain⟨i0,hi0,hz0,hz1,hz2⟩:=info_parts CO;clear eP lT dH yD;go_region_law
      ((refine step_append_lies _ (by rfl) _ _ 22 (by rfl) base 38 i0 (.agg (OC ⟨0,0,0,0,0,0⟩)) 6 48 underlying22 hi0 hz0 hz1 hz2 rfl Ox dv1 mA.D.length (ol mA.D) (by rfl) (GK sA.out _) ⟨y5.heap.size,0,none⟩ 1 1 (Qn ⟨z0,z1,z2,z3,z4,z5⟩) (by rfl) (by rfl) (qkl _ _ ⟨z0,z1,z2,z3,z4,z5⟩) (Jr ⟨z0,z1,z2,z3,z4,z5⟩) Ox (by unfold maxLen;have:=HDn.out;omega) (by have:=HDn.out;omega) (by have:=rA.out;simp;omega) (y5.heap.size+1) Oy ?_;intro gg cp w3 aV hgrow hat hlt;have hg3:Cl 109 w3 g (mC bk X R mA.left mA.cash fv1 dv1 lf false):=(hgrow.block g (Ww lg Oy) (Ne.symm r9.out)).trans ((Below.heap_alloc y5.drew _ g lg).trans HG5.out);have mQ:=Ou aV;have sI:=Ou hgrow;have rU:=Ou hat;have cg16:w3.frozen? ⟨g,16,none⟩=false:=frozen_of_row _ _ _ _ _ hg3;have cv16:w3.cell? ⟨g,16,none⟩=some dv1:=(hg3.c 16).trans rfl;clear aV hgrow hat))
     all_goals
      have eZ:Hid (MTurn w (w3.setCell ⟨g,16,none⟩ (.slice (some ⟨gg,0,none⟩) (mA.D.length+1) cp)) base g bk X R v k S S3 (Yg (dId R m p) mA 1) fv dv fv1 (.slice (some ⟨gg,0,none⟩) (mA.D.length+1) cp) lf false):=Ou (by
       have h:=fT.out.trans (qkm fT.out.mw HK.out gQ.out mQ.out sI.out rU.out);rw[HId.out];show MTurn _ _ _ _ _ _ _ _ _ _ _ (Zb id mA) _ _ _ _ _ _;unfold Zb
       rw[HZ.out];exact h)
      go_wp2_with fail
      go_roundg 0
      case measure=>omega
      case rel=>exact⟨1,_,S3,by go_num,by omega,by omega,Ou ⟨eZ.out,λh=>by cases h⟩⟩
    ·obtain rfl:i=nD:=by omega
     have zX:=Ou hI.out.1;have hmb:=zX.out.mw.mb;have c18:wr.cell? ⟨g,18,none⟩=some (.bool false):=(hmb.c 18).trans rfl;have f18:wr.frozen? ⟨g,18,none⟩=false:=frozen_of_row _ _ _ _ _ hmb;have x7:Hid (MTurn w (wr.setCell ⟨g,18,none⟩ (.bool sS)) base g bk X R v k S S2 (Yg (dId R m p) mA i) fv dv fv1 dv1 lf sS):=Ou (zX.out.setG (QK hmb));clear hI zX hmb;go_wp2_with fail
     go_ret;exact⟨!sS,_,fv1,dv1,S2,sS,rfl,Ou ⟨x7.out,sZ.out.2.1⟩⟩
theorem ZO {T:TypeId}{W:World}{c:Nat}{a0 a1 a2 a3 a4:Value}(h:Cl T W c #[a0,a1,a2,a3,a4]):W.cell? ⟨c,0,none⟩=some a0/\W.cell? ⟨c,1,none⟩=some a1/\W.cell? ⟨c,2,none⟩=some a2/\W.cell? ⟨c,3,none⟩=some a3/\W.cell? ⟨c,4,none⟩=some a4 :=
 ⟨(h.c 0).trans rfl,(h.c 1).trans rfl,(h.c 2).trans rfl,(h.c 3).trans rfl,(h.c 4).trans rfl⟩
theorem KF {T:TypeId}{W:World}{c:Nat}{a0 a1 a2 a3 a4 a5 a6 a7 a8:Value}(h:Cl T W c #[a0,a1,a2,a3,a4,a5,a6,a7,a8]):W.cell? ⟨c,0,none⟩=some a0/\W.cell? ⟨c,1,none⟩=some a1/\W.cell? ⟨c,2,none⟩=some a2/\W.cell? ⟨c,3,none⟩=some a3/\W.cell? ⟨c,4,none⟩=some a4/\W.cell? ⟨c,5,none⟩=some a5/\W.cell? ⟨c,6,none⟩=some a6/\W.cell? ⟨c,7,none⟩=some a7/\W.cell? ⟨c,8,none⟩=some a8 :=
 ⟨(h.c 0).trans rfl,(h.c 1).trans rfl,(h.c 2).trans rfl,(h.c 3).trans rfl,(h.c 4).trans rfl,(h.c 5).trans rfl,(h.c 6).trans rfl,(h.c 7).trans rfl,(h.c 8).trans rfl⟩
section
variable {ops:Array Oper}{rest:List Oper}{o:Oper}{a:Act}{w:World}{Q:Exit → Act → World → Prop}
theorem qkp:(prog.info? 109).map (·.size)=some 19:=by kernel_rfl
theorem GO:(prog.info? 71).map (·.size)=some 4:=by kernel_rfl
theorem qkq (hgd:o.guard=none)(x y:Operand)(ho:o.op=.store 109 x y)(g:Nat)(cs:Array Value)(hx:a.eval x=.pointer (some ⟨g,0,none⟩))(hy:a.eval y=.agg cs)(old:Array Value)(t:TypeId)
  (hg:Cl t w g old) (hs:old.size=19) (hc:cs.size=19) (h1:cs.all (·.oneCell')=true) (h:wpList prog ops Q rest (a.put o.dst undef) (w.setRow g cs)):wpList prog ops Q (o :: rest) a w :=
 wpList_plain hgd λK hK=>wp_store_row _ x y ho g _ hx hy _ _ hg (by rw[hc];exact qkp) (by rw[hs,hc]) h1 (hK _ _ h)
theorem Yh (hgd:o.guard=none)(x y:Operand)(ho:o.op=.store 71 x y)(g:Nat)(cs:Array Value)(hx:a.eval x=.pointer (some ⟨g,0,none⟩))(hy:a.eval y=.agg cs)(old:Array Value)(t:TypeId)
  (hg:Cl t w g old) (hs:old.size=4) (hc:cs.size=4) (h1:cs.all (·.oneCell')=true) (h:wpList prog ops Q rest (a.put o.dst undef) (w.setRow g cs)):wpList prog ops Q (o :: rest) a w :=
 wpList_plain hgd λK hK=>wp_store_row _ x y ho g _ hx hy _ _ hg (by rw[hc];exact GO) (by rw[hs,hc]) h1 (hK _ _ h)
end
def Ruls.One (X:Ruls):Prop:=X.ver.oneCell'=true/\X.ticks.oneCell'=true/\X.band.oneCell'=true/\X.fees.oneCell'=true/\X.round.oneCell'=true/\X.lay.oneCell'=true
theorem qkr {bk:Nat}{X:Ruls}{R:Rl}{l c:Int}(h:X.One):(mC bk X R l c (.slice none 0 0) (.slice none 0 0) 0 false).all (·.oneCell')=true:=by
 obtain⟨h1,h2,h3,h4,h5,h6⟩:=h
 refine all_oneCell_toArray (cs:=[ptA bk,X.ver,X.ticks,.int .i64 R.lot,X.band,X.fees,X.round,.int .i64 R.mode,.int .i64 R.self,X.lay,.int .i64 R.acc,.int .i64 R.side,.int .i64 R.price,.int .i64 l,.int .i64 c,.slice none 0 0,.slice none 0 0,.int .i64 0,.bool false]) (λu hu=>?_)
 simp only[Iz,Iy,or_false]at hu
 rcases hu with rfl|rfl|rfl|rfl|rfl|rfl|rfl|rfl|rfl|rfl|rfl|rfl|rfl|rfl|rfl|rfl|rfl|rfl|rfl<;>first|rfl|assumption
theorem XR {fn:Func}{p q:Tmp}(h:fn.results=#[.cell p 71,.tmp q])(tmps:Array Value)(w:World)(g:Nat)(hp:tmps.getD p undef=.pointer (some ⟨g,0,none⟩))(cs:Array Value)(t:TypeId)
  (hg:Cl t w g cs) (hc:cs.size=4) (v:Value) (hq:tmps.getD q undef=v):(results fn tmps).run prog w=.ok (.tuple #[.agg cs,v]) w:=by
 have hp':tmps[p]?.getD undef=.pointer (some ⟨g,0,none⟩):=by simpa using hp
 have hq':tmps[q]?.getD undef=v:=by simpa using hq
 simp[results,h,hp',hq',asAddr,run_loadVar_row w g _ _ _ (0,0) _ hg underlying71 rfl (by rw[hc];exact GO)]
theorem Zj {w:World}{base n size:Nat}{T:TypeId}{v:Value}{xs:List Value}(h:w.ownsRow base T size v n xs):∃A c,v=.slice A n c:=by
 rcases h.2 with ⟨rfl,h0⟩ | ⟨k,cap,cur,rfl,_⟩
 ·subst h0;exact⟨_,_,rfl⟩
 ·exact⟨_,_,rfl⟩
abbrev Vy (fv dv:Value)(lf:Int)(st:Bool):Value:=.agg #[fv,dv,.int .i64 lf,.bool st]
structure MatchIs (w w':World) (bk:Nat) (v:Value) (k:Int) (S S':Nat->Prop) (r:Mt×Bool) (fv dv:Value):Prop where
 ly:LyB w' bk v k r.1.L S'
 fo:w'.ownsRow w.heap.size 90 7 fv r.1.F.length (flF r.1.F)
 dr:w'.ownsRow w.heap.size 38 6 dv r.1.D.length (ol r.1.D)
 fr:Fr S w w'
 ft:∀j,S' j->S j∨w.heap.size<=j
 fn:r.1.F.length<=100000
def qbO (w:World)(bk:Nat)(v:Value)(k:Int)(S:Nat->Prop)(r:Mt×Bool)(e:Ending)(w':World):Prop :=
 ∃(fv dv:Value) (S':Nat->Prop),e=.returned (.tuple #[Vy fv dv r.1.left r.2,.int .i64 0])/\Hid (MatchIs w w' bk v k S S' r fv dv)
theorem qbP {w w5 w6 w7:World}{g bk c6:Nat}{X:Ruls}{R:Rl}{v:Value}{k:Int}{S S1:Nat->Prop}{m:Mt}{fv dv:Value}{lf:Int}{st:Bool}{T:TypeId}{cs:Array Value}{r:Mt×Bool}(hr:r=(m,st))(HB:LyB w bk v k m.L S∨bk<w.heap.size)(hS:∀j,S j->j<w.heap.size)
  (hb:Ok w w5) (t:MTurn w5 w6 w.heap.size g bk X R v k S S1 m (.slice none 0 0) (.slice none 0 0) fv dv lf st) (hg:w.heap.size<=g) (hc:w.heap.size<=c6) (hlt:c6<w5.heap.size) (hcl:Cl T w6 c6 cs) (h1:90≠T) (h2:38≠T) (hf:Fr (λj=>j=c6) w6 w7) :
  MatchIs w w7 bk v k S S1 r fv dv:=by
 subst hr
 have hbk:bk<w.heap.size:=by rcases HB with h|h;exact Qc h.cl;exact h
 have s5:=hb.size
 have n1:¬S1 c6:=λh=>by
  rcases t.ft _ h with h|h
  ·have:=hS _ h;omega
  ·omega
 refine⟨t.mw.ly.fr hf Oz (λj hj h=>by subst h;exact n1 hj),Qi t.mw.fo hf (λj hj h=>by subst h;exact Qo t.mw.fo hcl h1 hj),Qi t.mw.dr hf (λj hj h=>by subst h;exact Qo t.mw.dr hcl h2 hj),?_,λj hj=>?_,t.mw.fn⟩
 ·refine((Fr.of_below hb:Fr S w w5).trans t.fr (λj hj=>?_)).trans hf (λj hj=>.inr Oz);rcases hj with h|h|h|h
  ·exact .inl h
  ·right;omega
  ·simp[Value.ownBlock]at h
  ·simp[Value.ownBlock]at h
 ·rcases t.ft j hj with h|h
  ·exact .inl h
  ·right;omega
structure MaS (w w5 w':World) (g bk:Nat) (X:Ruls) (R:Rl) (v:Value) (k:Int) (S S1:Nat->Prop) (m0 m:Mt) (fv dv:Value):Prop where
 tu:MTurn w5 w' w.heap.size g bk X R v k S S1 m (.slice none 0 0) (.slice none 0 0) fv dv 0 false
 cr:crF R m0=crF R m
 ok:MOk m
 be:Ok w w5
 lg:w.heap.size+3<=g
 c6:Cl 71 w5 (w.heap.size+1+1) #[.slice none 0 0,.slice none 0 0,.int .i64 0,.bool false]
def MaJ (w:World)(bk:Nat)(X:Ruls)(R:Rl)(v:Value)(k:Int)(S:Nat->Prop)(m0:Mt)(q cash:Int)(n:Nat)(a:Act)(w':World):Prop :=
 ∃(g:Nat) (w5:World) (m:Mt) (fv dv:Value) (S1:Nat->Prop),m.L.length=n/\Hid (MaS w w5 w' g bk X R v k S S1 m0 m fv dv)/\∃u9 u10 u11 u12 u13 u14 u15 u16 u17 u18 u19 u20 u21 u22 u23 u24 u25 u26 u27 u28 u29 u30 u31 u32 u33 u34 u35 u36 u37 u38 u39,a=⟨#[ptA bk,.agg #[.int .i64 R.acc,.int .i64 R.side,.int .i64 R.price,.int .i64 q,.int .i64 cash],.agg #[X.ver,X.ticks,.int .i64 R.lot,X.band,X.fees,X.round,.int .i64 R.mode,.int .i64 R.self,X.lay],undef,ptA w.heap.size,ptA (w.heap.size+1),ptA (w.heap.size+1+1),.int .i64 0,ptA g,u9,u10,u11,u12,u13,u14,u15,u16,u17,u18,u19,u20,u21,u22,u23,u24,u25,u26,u27,u28,u29,u30,u31,u32,u33,u34,u35,u36,u37,u38,u39],[]⟩
theorem MaS.out6 {w w5 w':World}{g bk:Nat}{X:Ruls}{R:Rl}{v:Value}{k:Int}{S S1:Nat->Prop}{m0 m:Mt}{fv dv:Value}(h:MaS w w5 w' g bk X R v k S S1 m0 m fv dv)(hS:∀j,S j->j<w.heap.size){w6:World}(hf:Fr (Ft S g (.slice none 0 0) (.slice none 0 0)) w5 w6):Cl 71 w6 (w.heap.size+1+1) #[.slice none 0 0,.slice none 0 0,.int .i64 0,.bool false]:=by
 refine hf.blk h.c6 (λhj=>?_)
 rcases hj with hj|hj|hj|hj
 ·have:=hS _ hj;omega
 ·have:=h.lg;omega
 ·simp[Value.ownBlock]at hj
 ·simp[Value.ownBlock]at hj
theorem qks {w w3 w4:World}{bk:Nat}{X:Ruls}{R:Rl}{v:Value}{k:Int}{L:List Od}{S:Nat->Prop}{q cash:Int}{old:Array Value}(b3:Ok w w3)(s3:w3.heap.size=w.heap.size+3)(c6:Cl 71 w3 (w.heap.size+1+1) #[.slice none 0 0,.slice none 0 0,.int .i64 0,.bool false])(b4:Ok w3 w4)(HB:LyB w bk v k L S)(hm:MOk ⟨L,q,cash,[],[]⟩) :
  MaS w ((w4.alloc (.cells old 109)).setRow w4.heap.size (mC bk X R q cash (.slice none 0 0) (.slice none 0 0) 0 false)) ((w4.alloc (.cells old 109)).setRow w4.heap.size (mC bk X R q cash (.slice none 0 0) (.slice none 0 0) 0 false)) w4.heap.size bk X R v k S S ⟨L,q,cash,[],[]⟩ ⟨L,q,cash,[],[]⟩ (.slice none 0 0) (.slice none 0 0):=by
 have s4:=b4.size
 have b5:Ok w4 ((w4.alloc (.cells old 109)).setRow w4.heap.size (mC bk X R q cash (.slice none 0 0) (.slice none 0 0) 0 false)):=Zy (Zp _ _) (Sq _)
 have b35:=b4.trans (b5.mono b4.size)
 have b05:=b3.trans (b35.mono b3.size)
 exact⟨MTurn.same ⟨setRow_heap _ _ _ _ _ _ (Qe rfl),HB.below b05,World.ownsRow_nil _ _ _ _,World.ownsRow_nil _ _ _ _,λj hj=>(by simp[Value.ownBlock]at hj),b05.size,As _⟩,rfl,hm,b05,by omega,Cl.bel c6 b35⟩
theorem qbQ {w5 w1:World}{base g bk:Nat}{X:Ruls}{R:Rl}{v:Value}{k:Int}{S S1:Nat->Prop}{m1:Mt}{fv dv fv1 dv1:Value}{st:Bool}(t:MTurn w5 w1 base g bk X R v k S S1 m1 fv dv fv1 dv1 0 st) :
  w1.cell? ⟨g,13,none⟩=some (.int .i64 m1.left)/\w1.cell? ⟨g,17,none⟩=some (.int .i64 0)/\w1.frozen? ⟨g,17,none⟩=false/\MTurn w5 (w1.setCell ⟨g,17,none⟩ (.int .i64 m1.left)) base g bk X R v k S S1 m1 fv dv fv1 dv1 m1.left st:=by
 have hm:=t.mw.mb
 exact⟨(hm.c 13).trans rfl,(hm.c 17).trans rfl,frozen_of_row _ _ _ _ _ hm,t.setG (QK hm)⟩
theorem ZH {A B:Option Addr}{n c n' c':Nat}{lf:Int}{st:Bool}:(#[Value.slice A n c,.slice B n' c',.int .i64 lf,.bool st]:Array Value).all (·.oneCell')=true:=by
 refine all_oneCell_toArray (cs:=[.slice A n c,.slice B n' c',.int .i64 lf,.bool st]) (λu hu=>?_)
 simp only[Iz,Iy,or_false]at hu
 rcases hu with rfl|rfl|rfl|rfl<;>rfl
theorem qbR (bk:Nat)(X:Ruls)(R:Rl)(v:Value)(k:Int)(L:List Od)(S:Nat->Prop)(q cash:Int)(w:World)(HB:LyB w bk v k L S)(hf:FitP R q)(hc:InR cash)(hX:X.One) :
  Calls prog 33 #[ptA bk,.agg #[.int .i64 R.acc,.int .i64 R.side,.int .i64 R.price,.int .i64 q,.int .i64 cash],.agg #[X.ver,X.ticks,.int .i64 R.lot,X.band,X.fees,X.round,.int .i64 R.mode,.int .i64 R.self,X.lay]] w (qbO w bk v k S (crF R ⟨L,q,cash,[],[]⟩)):=by
 have hk:(k==0)=false:=by rcases HB.hd.k12 with h|h<;>rw[h]<;>rfl
 have sM:=Ou (λW (hW:Ok w W)=>Gu bk v k L S W (HB.below hW))
 have oC:=Ou (λW=>qbC X R q cash W true ⟨λ_=>hf,λ_=>rfl⟩)
 have HLy:=Ou HB
 have hr:ROk R:=⟨hf.side,GH hf,by have:=hf.m0;have:=hf.m1;omega,hf.l0,hf.l1⟩
 have HR:=Ou hr
 have hm0:MOk ⟨L,q,cash,[],[]⟩:=⟨⟨HB.hd.ids,λx hx=>(HB.hd.ok x hx).2⟩,by have:=hf.q0;show 0<=q;omega,hf.q1,hc,by show 0+L.length<=64;have:=HB.hd.len;omega,by show 0+L.length<=64;have:=HB.hd.len;omega⟩
 have wX:=Ou hm0
 have HS:=Ou HB.hd.lt
 have jU:=Ou (Qc HB.cl)
 obtain⟨w3,hw3⟩:∃w3,((w.alloc (.cells #[.int .i64 R.acc,.int .i64 R.side,.int .i64 R.price,.int .i64 q,.int .i64 cash] 64)).alloc (.cells #[X.ver,X.ticks,.int .i64 R.lot,X.band,X.fees,X.round,.int .i64 R.mode,.int .i64 R.self,X.lay] 68)).alloc (.cells #[.slice none 0 0,.slice none 0 0,.int .i64 0,.bool false] 71)=w3:=⟨_,rfl⟩
 have b3:Ok w w3:=by rw[<-hw3];exact(((Oq _ _).alloc (Sq _) _).alloc Oy _).alloc (by simp;omega) _
 have s3:w3.heap.size=w.heap.size+3:=by rw[<-hw3];simp
 have c4:Cl 64 w3 w.heap.size #[.int .i64 R.acc,.int .i64 R.side,.int .i64 R.price,.int .i64 q,.int .i64 cash]:=by rw[<-hw3];exact Qp (by simp;omega) (Qp Oy (Qe rfl))
 have c5:Cl 68 w3 (w.heap.size+1) #[X.ver,X.ticks,.int .i64 R.lot,X.band,X.fees,X.round,.int .i64 R.mode,.int .i64 R.self,X.lay]:=by rw[<-hw3];exact Qp Oy (Qe Oy)
 have c6:Cl 71 w3 (w.heap.size+1+1) #[.slice none 0 0,.slice none 0 0,.int .i64 0,.bool false]:=by rw[<-hw3];exact Qe Oy
 have bT:=Ou b3
 have HC:=Ou (Sv c4 (Sv c5 (Sv c6 s3)))
 have wV:=Ou (sM.out w3 b3)
 obtain⟨t0,t1,t2,t3,t4⟩:=ZO c4
 obtain⟨r0,r1,r2,r3,r4,r5,r6,r7,r8⟩:=KF c5
 clear HB hf hc hr hm0 sM b3 s3 c4 c5 c6
 go_enter func33,ntmps33
 go_wp2_with fail
 refine KZ 0 (MaJ w bk X R v k S ⟨L,q,cash,[],[]⟩ q cash) rfl ?_ ?_
 ·intro hp;have HX:=Ou (qkr (bk:=bk) (R:=R) (l:=q) (c:=cash) hX);go_wp2_with (first|((with_reducible refine wV.out.mono ?_);rintro e w' ⟨rfl,rfl⟩)|((with_reducible refine(oC.out _).mono ?_);rintro e w4 ⟨rfl,hb4⟩;obtain⟨p0,p1,p2,p3,p4⟩:=ZO (Cl.bel HC.out.1 hb4);obtain⟨s0,s1,s2,s3,s4,s5,s6,s7,s8⟩:=KF (Cl.bel HC.out.2.1 hb4);have i9:=Ou hb4;clear hb4)|((with_reducible apply qkq);rfl;rfl;rfl;rfl;exact(show Cl 109 _ w4.heap.size _ from Qe rfl);rfl;rfl;exact HX.out;skip))
  go_step3
  rename_i K hK
  refine hK _ _ (hp L.length _ _ ⟨w4.heap.size,_,⟨L,q,cash,[],[]⟩,.slice none 0 0,.slice none 0 0,S,rfl,Ou (qks bT.out HC.out.2.2.2 HC.out.2.2.1 i9.out HLy.out wX.out),?_⟩);exact⟨_,_,_,_,_,_,_,_,_,_,_,_,_,_,_,_,_,_,_,_,_,_,_,_,_,_,_,_,_,_,_,rfl⟩
 ·clear t0 t1 t2 t3 t4 r0 r1 r2 r3 r4 r5 r6 r7 r8 wV oC HC bT hw3;rintro n a w' ⟨g,w5,m,fv,dv,S1,rfl,HI,u9,u10,u11,u12,u13,u14,u15,u16,u17,u18,u19,u20,u21,u22,u23,u24,u25,u26,u27,u28,u29,u30,u31,u32,u33,u34,u35,u36,u37,u38,u39,rfl⟩;obtain⟨FA,fc,rfl⟩:=Zj HI.out.tu.mw.fo;obtain⟨DA,dc,rfl⟩:=Zj HI.out.tu.mw.dr;have aW:Hid (Calls prog 54 #[ptA g] w' λe w1=>e=.returned (.tuple #[.int .i64 ((prM R m.L).getD 0),.bool (prM R m.L).isSome])/\Ok w' w1):=Ou (qj5 g bk v k m.L S1 X R m.left m.cash _ _ 0 false w' HI.out.tu.mw.mb HI.out.tu.mw.ly HR.out.s)
  cases aH:prM R m.L with
  | none =>
   rw[aH]at aW;simp only[Option.getD_none,Option.isSome_none]at aW;go_wp2_with fail
   ((with_reducible refine aW.out.mono ?_);rintro e w1 ⟨rfl,hb1⟩);have HE:=Ou (HI.out.tu.grow hb1);have fW:Hid (crF R ⟨L,q,cash,[],[]⟩=(m,false)):=Ou (HI.out.cr.trans (qbx aH));clear hb1;have o6:=Ou (qbQ HE.out);obtain⟨e13,e17,f17,-⟩:=o6.out;have gA:=Ou o6.out.2.2.2;have gY:=gA.out.mw.mb;have yF:(w1.setCell ⟨g,17,none⟩ (.int .i64 m.left)).cell? ⟨g,15,none⟩=some _:=(gY.c 15).trans rfl;have yG:(w1.setCell ⟨g,17,none⟩ (.int .i64 m.left)).cell? ⟨g,16,none⟩=some _:=(gY.c 16).trans rfl;have yH:(w1.setCell ⟨g,17,none⟩ (.int .i64 m.left)).cell? ⟨g,17,none⟩=some _:=(gY.c 17).trans rfl
   have q18:(w1.setCell ⟨g,17,none⟩ (.int .i64 m.left)).cell? ⟨g,18,none⟩=some _:=(gY.c 18).trans rfl;have dQ:=Ou (HI.out.out6 HS.out gA.out.fr);clear gY o6 aW aH;go_wp2_with ((with_reducible apply Yh);rfl;rfl;rfl;rfl;exact dQ.out;rfl;rfl;exact ZH;skip)
   refine bodyPost_ret (XR rfl _ _ _ rfl _ _ (setRow_heap _ _ _ _ _ _ dQ.out) rfl _ rfl) rfl ?_;rw[fW.out];refine⟨_,_,_,rfl,Ou (qbP rfl (.inr jU.out) HS.out HI.out.be gA.out (by have:=HI.out.lg;omega) Oz (Qc HI.out.c6) dQ.out Ox Ox ?_)⟩;exact⟨rfl,rfl,rfl,by simp[World.setRow],λj hj hne=>setRow_other _ _ _ _ hne⟩
  | some p =>
   rw[aH]at aW;simp only[Option.getD_some,Option.isSome_some]at aW;go_wp2_with fail
   ((with_reducible refine aW.out.mono ?_);rintro e w1 ⟨rfl,hb1⟩);have dV:=Ou (HI.out.tu.grow hb1);have iC:Hid (Calls prog 55 #[ptA g,.int .i64 p] w1 (XQ w1 w.heap.size g bk X R v k S1 m (.slice FA m.F.length fc) (.slice DA m.D.length dc) 0)):=Ou (qko w.heap.size g bk X R v k S1 m _ _ 0 p w1 dV.out.mw HI.out.ok HR.out aH);unfold XQ at iC;clear hb1 aW aH;go_wp2_with fail
   ((with_reducible refine iC.out.mono ?_);rintro e w2 ⟨go,m1,fv1,dv1,S2,st1,rfl,hM⟩);obtain⟨FB,fc1,rfl⟩:=Zj hM.out.1.mw.fo;obtain⟨DB,dc1,rfl⟩:=Zj hM.out.1.mw.dr;have HE:=Ou (dV.out.trans hM.out.1);have zI:=Ou hM.out.2;clear hM dV iC
   cases go with
   | false =>
    have fW:Hid (crF R ⟨L,q,cash,[],[]⟩=(m1,st1)):=Ou (HI.out.cr.trans (zI.out.no rfl));have o6:=Ou (qbQ HE.out);obtain⟨e13,e17,f17,-⟩:=o6.out;have gA:=Ou o6.out.2.2.2;have gY:=gA.out.mw.mb;have yF:(w2.setCell ⟨g,17,none⟩ (.int .i64 m1.left)).cell? ⟨g,15,none⟩=some _:=(gY.c 15).trans rfl;have yG:(w2.setCell ⟨g,17,none⟩ (.int .i64 m1.left)).cell? ⟨g,16,none⟩=some _:=(gY.c 16).trans rfl;have yH:(w2.setCell ⟨g,17,none⟩ (.int .i64 m1.left)).cell? ⟨g,17,none⟩=some _:=(gY.c 17).trans rfl;have q18:(w2.setCell ⟨g,17,none⟩ (.int .i64 m1.left)).cell? ⟨g,18,none⟩=some _:=(gY.c 18).trans rfl
    have dQ:=Ou (HI.out.out6 HS.out gA.out.fr);clear gY o6;go_wp2_with ((with_reducible apply Yh);rfl;rfl;rfl;rfl;exact dQ.out;rfl;rfl;exact ZH;skip)
    refine bodyPost_ret (XR rfl _ _ _ rfl _ _ (setRow_heap _ _ _ _ _ _ dQ.out) rfl _ rfl) rfl ?_;rw[fW.out];refine⟨_,_,_,rfl,Ou (qbP rfl (.inr jU.out) HS.out HI.out.be gA.out (by have:=HI.out.lg;omega) Oz (Qc HI.out.c6) dQ.out Ox Ox ?_)⟩;exact⟨rfl,rfl,rfl,by simp[World.setRow],λj hj hne=>setRow_other _ _ _ _ hne⟩
   | true =>
    obtain⟨hst,h1,h2,h3⟩:=zI.out.yes rfl;subst hst;have iL:Hid (MaS w w5 w2 g bk X R v k S S2 ⟨L,q,cash,[],[]⟩ m1 (.slice FB m1.F.length fc1) (.slice DB m1.D.length dc1)):=Ou ⟨HE.out,HI.out.cr.trans h1,h3,HI.out.be,HI.out.lg,HI.out.c6⟩;have H2:=Ou h2;clear h1 h2 h3 HE HI zI;go_wp2_with fail
    go_step3;exact⟨rfl,m1.L.length,H2.out,g,w5,m1,_,_,S2,rfl,iL,_,_,_,_,_,_,_,_,_,_,_,_,_,_,_,_,_,_,_,_,_,_,_,_,_,_,_,_,_,_,_,rfl⟩
theorem GP (w:World):Calls prog 47 #[.pointer none] w λe w'=>e=.returned (.bool false)/\w=w':=by
 go_enter func47,ntmps47
 go_wp2_with fail
 go_ret
 exact⟨rfl,rfl⟩
theorem qbS (w:World):Calls prog 13 #[.pointer none] w λe w'=>e=.returned (.int .i64 0)/\w=w':=by
 have HM:=Ou (λw=>GP w)
 go_enter func13,ntmps13
 go_wp2_with ((with_reducible refine(HM.out _).mono ?_);rintro e w' ⟨rfl,rfl⟩)
 go_ret
 exact⟨rfl,rfl⟩
def qbT (w:World)(er:Int)(e:Ending)(w':World):Prop:=e=.returned (.tuple #[Vy (.slice none 0 0) (.slice none 0 0) 0 false,.int .i64 er])/\Hid (Ok w w')
theorem qkt (X:Ruls)(R:Rl)(q cash:Int)(w:World):Calls prog 33 #[.pointer none,.agg #[.int .i64 R.acc,.int .i64 R.side,.int .i64 R.price,.int .i64 q,.int .i64 cash],.agg #[X.ver,X.ticks,.int .i64 R.lot,X.band,X.fees,X.round,.int .i64 R.mode,.int .i64 R.self,X.lay]] w (qbT w 1):=by
 have HK:=Ou (λw=>qbS w)
 obtain⟨w3,hw3⟩:∃w3,((w.alloc (.cells #[.int .i64 R.acc,.int .i64 R.side,.int .i64 R.price,.int .i64 q,.int .i64 cash] 64)).alloc (.cells #[X.ver,X.ticks,.int .i64 R.lot,X.band,X.fees,X.round,.int .i64 R.mode,.int .i64 R.self,X.lay] 68)).alloc (.cells #[.slice none 0 0,.slice none 0 0,.int .i64 0,.bool false] 71)=w3:=⟨_,rfl⟩
 have b3:Ok w w3:=by rw[<-hw3];exact(((Oq _ _).alloc (Sq _) _).alloc Oy _).alloc (by simp;omega) _
 have c4:Cl 64 w3 w.heap.size #[.int .i64 R.acc,.int .i64 R.side,.int .i64 R.price,.int .i64 q,.int .i64 cash]:=by rw[<-hw3];exact Qp (by simp;omega) (Qp Oy (Qe rfl))
 have c5:Cl 68 w3 (w.heap.size+1) #[X.ver,X.ticks,.int .i64 R.lot,X.band,X.fees,X.round,.int .i64 R.mode,.int .i64 R.self,X.lay]:=by rw[<-hw3];exact Qp Oy (Qe Oy)
 have c6:Cl 71 w3 (w.heap.size+1+1) #[.slice none 0 0,.slice none 0 0,.int .i64 0,.bool false]:=by rw[<-hw3];exact Qe Oy
 have bT:=Ou b3
 have dQ:=Ou c6
 clear b3 c4 c5 c6
 go_enter func33,ntmps33
 go_wp2_with fail
 refine KZ 0 (λ_ _ _=>False) rfl (λhp=>?_) (λ_ _ _ h=>h.elim)
 go_wp2_with (first|((with_reducible refine(HK.out _).mono ?_);rintro e w' ⟨rfl,rfl⟩)|((with_reducible apply Yh);rfl;rfl;rfl;rfl;exact dQ.out;rfl;rfl;exact ZH;skip))
 refine bodyPost_ret (XR rfl _ _ _ rfl _ _ (setRow_heap _ _ _ _ _ _ dQ.out) rfl _ rfl) rfl ?_
 exact⟨rfl,Ou (Zy bT.out Oz)⟩
theorem qku (bk:Nat)(X:Ruls)(R:Rl)(v:Value)(k:Int)(L:List Od)(S:Nat->Prop)(q cash:Int)(w:World)(HB:LyB w bk v k L S)(hf:¬FitP R q) :
  Calls prog 33 #[ptA bk,.agg #[.int .i64 R.acc,.int .i64 R.side,.int .i64 R.price,.int .i64 q,.int .i64 cash],.agg #[X.ver,X.ticks,.int .i64 R.lot,X.band,X.fees,X.round,.int .i64 R.mode,.int .i64 R.self,X.lay]] w (qbT w 2):=by
 have hk:(k==0)=false:=by rcases HB.hd.k12 with h|h<;>rw[h]<;>rfl
 have sM:=Ou (λW (hW:Ok w W)=>Gu bk v k L S W (HB.below hW))
 have oC:=Ou (λW=>qbC X R q cash W false ⟨λh=>(by cases h),λh=>absurd h hf⟩)
 obtain⟨w3,hw3⟩:∃w3,((w.alloc (.cells #[.int .i64 R.acc,.int .i64 R.side,.int .i64 R.price,.int .i64 q,.int .i64 cash] 64)).alloc (.cells #[X.ver,X.ticks,.int .i64 R.lot,X.band,X.fees,X.round,.int .i64 R.mode,.int .i64 R.self,X.lay] 68)).alloc (.cells #[.slice none 0 0,.slice none 0 0,.int .i64 0,.bool false] 71)=w3:=⟨_,rfl⟩
 have b3:Ok w w3:=by rw[<-hw3];exact(((Oq _ _).alloc (Sq _) _).alloc Oy _).alloc (by simp;omega) _
 have c4:Cl 64 w3 w.heap.size #[.int .i64 R.acc,.int .i64 R.side,.int .i64 R.price,.int .i64 q,.int .i64 cash]:=by rw[<-hw3];exact Qp (by simp;omega) (Qp Oy (Qe rfl))
 have c5:Cl 68 w3 (w.heap.size+1) #[X.ver,X.ticks,.int .i64 R.lot,X.band,X.fees,X.round,.int .i64 R.mode,.int .i64 R.self,X.lay]:=by rw[<-hw3];exact Qp Oy (Qe Oy)
 have c6:Cl 71 w3 (w.heap.size+1+1) #[.slice none 0 0,.slice none 0 0,.int .i64 0,.bool false]:=by rw[<-hw3];exact Qe Oy
 have bT:=Ou b3
 have dQ:=Ou c6
 have wV:=Ou (sM.out w3 b3)
 obtain⟨t0,t1,t2,t3,t4⟩:=ZO c4
 obtain⟨r0,r1,r2,r3,r4,r5,r6,r7,r8⟩:=KF c5
 clear HB hf sM b3 c4 c5 c6
 go_enter func33,ntmps33
 go_wp2_with fail
 refine KZ 0 (λ_ _ _=>False) rfl (λhp=>?_) (λ_ _ _ h=>h.elim)
 go_wp2_with (first|((with_reducible refine wV.out.mono ?_);rintro e w' ⟨rfl,rfl⟩)|((with_reducible refine(oC.out _).mono ?_);rintro e w4 ⟨rfl,hb4⟩;have rX:=Ou (Cl.bel dQ.out hb4);have i9:=Ou hb4;clear hb4)|((with_reducible apply Yh);rfl;rfl;rfl;rfl;exact rX.out;rfl;rfl;exact ZH;skip))
 refine bodyPost_ret (XR rfl _ _ _ rfl _ _ (setRow_heap _ _ _ _ _ _ rX.out) rfl _ rfl) rfl ?_
 exact⟨rfl,Ou (Zy (bT.out.trans (i9.out.mono bT.out.size)) Oz)⟩
abbrev exR:Rl:=⟨1,1,11,1,1,2⟩
abbrev exA:Od:=⟨1,0,2,10,5,1⟩
abbrev exB:Od:=⟨2,0,2,11,5,2⟩
abbrev exM0:Mt:=⟨[exA,exB],8,-1,[],[]⟩
abbrev exM1:Mt:=⟨[exB],3,-1,[(exA,5)],[]⟩
abbrev GQ:Mt:=⟨[⟨2,0,2,11,2,2⟩],0,-1,[(exA,5),(exB,3)],[]⟩
theorem qbU:¬NoM exR exM0 10:=by unfold NoM Jf;decide +kernel
theorem qkv:¬NoM exR exM1 11:=by unfold NoM Jf;decide +kernel
theorem qbV:fM exR exM0 10 0=5:=by decide +kernel
theorem qkw:fM exR exM1 11 0=3:=by decide +kernel
theorem GR:nM exR exM0 10=1:=by decide +kernel
theorem qkx:nM exR exM1 11=1:=by decide +kernel
theorem qbW:Qq exR exM0 10=exM1:=by
 unfold Qq
 rw[Sw qbU,GR]
 show ZM (Qy exR exM0) exM0 _ (fM exR exM0 10 0)=_
 rw[qbV]
 rfl
theorem qbX:Qq exR exM1 11=GQ:=by
 unfold Qq
 rw[Sw qkv,qkx]
 show ZM (Qy exR exM1) exM1 _ (fM exR exM1 11 0)=_
 rw[qkw]
 rfl
theorem xm_ok:ROk exR:=⟨.inl rfl,rfl,.inl rfl,by decide,by decide⟩
theorem xm_gm:GM exM0:=⟨by unfold Ids;decide,λx hx=>by
 simp only[Iz,Iy,or_false]at hx
 rcases hx with rfl|rfl<;>decide +kernel⟩
theorem qky:crF exR exM0=(GQ,false):=by
 have hp0:prM exR exM0.L=some 10:=by decide +kernel
 have hp1:prM exR exM1.L=some 11:=by decide +kernel
 have he:Zi exR exM0 10:=.inr ⟨qbU,λi hi=>by
  rw[GR]at hi;obtain rfl:i=0:=by omega
  rw[qbV];decide +kernel⟩
 have h:=(GF xm_ok.p xm_ok.l1 xm_gm Ox hp0 he (by rw[qbW];decide) (by rw[GR];decide +kernel)).1
 rw[h,qbW,XN hp1 (.inr (by rw[qbX])),qbX]
theorem qkz:FitP exR 8:=⟨.inl rfl,by decide,by decide,by decide,by decide,by decide,by decide,by decide,by decide,by decide,by decide⟩
abbrev exX:Ruls:=⟨.int .i64 0,.slice none 0 0,.int .i64 0,.slice none 0 0,.int .i64 0,.int .i64 0⟩
theorem qkA:exX.One:=⟨rfl,rfl,rfl,rfl,rfl,rfl⟩
theorem qbY {w:World}{base n size:Nat}{T:TypeId}{v:Value}{xs:List Value}(h:w.ownsRow base T size v n xs)(hn:0<n):∃k cap,v=.slice (some ⟨k,0,none⟩) n cap/\k<w.heap.size/\∀j u,xs[j]? = some u->w.cell? ⟨k,j,none⟩=some u:=by
 rcases h.2 with ⟨_,h0⟩ | ⟨k,cap,cur,rfl,hb,hk,hc,hm,hs,ht⟩
 ·omega
 ·refine⟨k,cap,rfl,Qc hk,λj u hu=>?_⟩;rw[cell_of_row _ _ _ _ _ _ hk];rw[<-ht,List.getElem?_take]at hu
  split at hu
  ·rw[Array.getElem?_toList]at hu;exact hu
  ·cases hu
theorem GS (w:World):Calls prog 32 #[] w λe w'=>e=.returned (.bool true)/\Ok w w':=by
 obtain⟨w1,hw1⟩:∃w1,w.alloc (.cells #[.int .u64 1,.int .i64 0,.int .i64 2,.int .i64 10,.int .i64 5,.int .u64 1,.int .u64 2,.int .i64 0,.int .i64 2,.int .i64 11,.int .i64 5,.int .u64 2] 38)=w1:=⟨_,rfl⟩
 have b1:Ok w w1:=by rw[<-hw1];exact Zp _ _
 have ho:Ods w1 (some ⟨w.heap.size,0,none⟩) 2 [exA,exB]:=CN rfl Oz (λx hx=>by
  simp only[Iz,Iy,or_false]at hx
  rcases hx with rfl|rfl<;>(unfold Od.ok;decide)) (by rw[<-hw1];exact Qe rfl)
 have hbk:QW [exA,exB]=true:=qbl Ox xm_gm.gd xm_gm.ids (by decide +kernel)
 have iV:=Ou (Gx 1 (.inl rfl) (some ⟨w.heap.size,0,none⟩) 2 2 [exA,exB] w1 ho hbk)
 have B1:=Ou b1
 clear b1 ho hbk
 go_enter func32,ntmps32
 go_wp2_with fail
 ((with_reducible refine iV.out.mono ?_);rintro e w2 ⟨b,v,S,rfl,hN⟩)
 have kT:=Ou (qbR b exX exR v 1 [exA,exB] S 8 (-1) w2 hN.out.ly qkz ⟨by decide,by decide⟩ qkA)
 rw[show crF exR ⟨[exA,exB],8,-1,[],[]⟩=(GQ,false) from qky]at kT
 unfold qbO at kT
 clear iV
 go_wp2_with fail
 ((with_reducible refine kT.out.mono ?_);rintro e w3 ⟨fv,dv,S2,rfl,hM⟩)
 obtain⟨DA,dc,rfl⟩:=Zj hM.out.dr
 obtain⟨gF,cF,rfl,hgF,xP⟩:=qbY hM.out.fo Ox
 obtain⟨w4,hw4⟩:∃w4,(w3.alloc (.cells #[.slice none 0 0,.slice none 0 0,.int .i64 0,.bool false] 71)).setRow w3.heap.size #[.slice (some ⟨gF,0,none⟩) 2 cF,.slice DA 0 dc,.int .i64 0,.bool false]=w4:=⟨_,rfl⟩
 have b4:Ok w3 w4:=by rw[<-hw4];exact Zy (Zp _ _) (Sq _)
 have c4:Cl 71 w4 w3.heap.size #[.slice (some ⟨gF,0,none⟩) 2 cF,.slice DA 0 dc,.int .i64 0,.bool false]:=by rw[<-hw4];exact setRow_heap _ _ _ _ _ _ (Qe rfl)
 have e0:w4.cell? ⟨w3.heap.size,0,none⟩=some (.slice (some ⟨gF,0,none⟩) 2 cF):=(c4.c 0).trans rfl
 have e2:w4.cell? ⟨w3.heap.size,2,none⟩=some (.int .i64 0):=(c4.c 2).trans rfl
 have f6:w4.cell? ⟨gF,6,none⟩=some (.int .i64 5):=(b4.cell (p:=⟨gF,6,none⟩) hgF).trans (xP 6 _ rfl)
 have f7:w4.cell? ⟨gF,7,none⟩=some (.int .u64 2):=(b4.cell (p:=⟨gF,7,none⟩) hgF).trans (xP 7 _ rfl)
 have f13:w4.cell? ⟨gF,13,none⟩=some (.int .i64 3):=(b4.cell (p:=⟨gF,13,none⟩) hgF).trans (xP 13 _ rfl)
 have aJ:=Ou (qjE b v 1 _ S2 w4 (hM.out.ly.below b4))
 unfold Vw at aJ
 have BE:=Ou ((B1.out.trans (hN.out.be.mono B1.out.size)).trans ((hM.out.fr.below (B:=w.heap.size) (λj hj=>Sk B1.out.size (hN.out.lo j hj)) (Sk B1.out.size hN.out.be.size)).trans (b4.mono (Sk B1.out.size (Sk hN.out.be.size hM.out.fr.size)))))
 clear kT hM hN b4 c4 xP
 go_wp2_with (first|((with_reducible apply Yh);rfl;rfl;rfl;rfl;exact(show Cl 71 _ w3.heap.size _ from Qe rfl);rfl;rfl;exact ZH;rw[hw4];skip)|((with_reducible refine aJ.out.mono ?_);rintro e w5 ⟨rfl,dH⟩))
 go_ret
 exact⟨rfl,BE.out.trans (dH.out.mono BE.out.size)⟩
end
section
open Go.RowKit Go.ChangeShapes Go.WideShapes Go.Deep
structure Tkr where
 acc:Int
 side:Int
 price:Int
 qty:Int
 cash:Int
instance : Inhabited Tkr := ⟨⟨0, 0, 0, 0, 0⟩⟩
def Tkr.ok (w:World)(x:Tkr):Prop:=(-9223372036854775808<=x.acc/\x.acc<=9223372036854775807)/\(-9223372036854775808<=x.side/\x.side<=9223372036854775807)/\(-9223372036854775808<=x.price/\x.price<=9223372036854775807)/\(-9223372036854775808<=x.qty/\x.qty<=9223372036854775807)/\(-9223372036854775808<=x.cash/\x.cash<=9223372036854775807)
def Tkr.val (x:Tkr):Value:=.agg #[(.int .i64 x.acc),(.int .i64 x.side),(.int .i64 x.price),(.int .i64 x.qty),(.int .i64 x.cash)]
theorem qkB:oneCellFields prog (match prog.underlying 64 with|some (.struct fs)=>fs|_=>#[])=true:=by kernel_rfl
theorem qkC:prog.cellsOf 64=5:=by kernel_rfl
theorem qkD {H:Type}{enc:TypeId×Value->H}{w:World}{fuel:Nat}{cs:List Value}{y:DataW H×List MemPlace}(hl:cs.length=5)(h:DataW.trod enc prog w 0 (λ_=>true) true fuel 64 cs=some y) :
  ∃x:Tkr,x.ok w/\cs[0]? = some (.int .i64 x.acc)/\cs[1]? = some (.int .i64 x.side)/\cs[2]? = some (.int .i64 x.price)/\cs[3]? = some (.int .i64 x.qty)/\cs[4]? = some (.int .i64 x.cash):=by
 obtain⟨xs,n',_,_,_,hxl,hg⟩:=DataW.trod_struct underlying64 h
 have fone:=qkB
 rw[underlying64]at fone
 have at_:∀(j:Nat) (f:Field),j<5->f.offset=j/\prog.cellsOf f.type=1->DataW.trod enc prog w 0 (λ_=>true) true n' f.type ((cs.drop f.offset).take (prog.cellsOf f.type))=xs[j]? ->
   ∃v y,cs[j]? = some v/\DataW.trod enc prog w 0 (λ_=>true) true n' f.type [v]=some y:=by
  intro j f hj ⟨ho,hk⟩ htr;rw[ho,hk]at htr;have hjl:j<cs.length:=by omega
  have e1:(cs.drop j).take 1=[cs[j]]:=by
   rw[Au hjl];rfl
  rw[e1]at htr;have wB:j<xs.length:=by rw[hxl];exact hj
  rw[List.getElem?_eq_getElem wB]at htr;exact⟨_,_,List.getElem?_eq_getElem hjl,htr⟩
 obtain⟨v0,y0,p0,q0⟩:=at_ 0 _ Oz (hone_of fone 0 _ rfl) (hg 0 _ rfl)
 obtain⟨v1,y1,p1,q1⟩:=at_ 1 _ Oz (hone_of fone 1 _ rfl) (hg 1 _ rfl)
 obtain⟨v2,y2,p2,q2⟩:=at_ 2 _ Oz (hone_of fone 2 _ rfl) (hg 2 _ rfl)
 obtain⟨v3,y3,p3,q3⟩:=at_ 3 _ Oz (hone_of fone 3 _ rfl) (hg 3 _ rfl)
 obtain⟨v4,y4,p4,q4⟩:=at_ 4 _ Oz (hone_of fone 4 _ rfl) (hg 4 _ rfl)
 obtain⟨k0,e0,_,w0⟩:=DataW.trod_int underlying3 q0
 obtain⟨k1,e1,_,w1⟩:=DataW.trod_int underlying3 q1
 obtain⟨k2,e2,_,w2⟩:=DataW.trod_int underlying2 q2
 obtain⟨k3,e3,_,w3⟩:=DataW.trod_int underlying2 q3
 obtain⟨k4,e4,_,w4⟩:=DataW.trod_int underlying2 q4
 injection e0 with e0;injection e1 with e1;injection e2 with e2;injection e3 with e3;injection e4 with e4
 subst e0;subst e1;subst e2;subst e3;subst e4
 exact⟨⟨k0,k1,k2,k3,k4⟩,⟨bounds_i64 w0,bounds_i64 w1,bounds_i64 w2,bounds_i64 w3,bounds_i64 w4⟩,p0,p1,p2,p3,p4⟩
theorem qkE {H:Type}{enc:TypeId×Value->H}{w:World}{r:Reach}{b0:Nat}{v:Value}{d:DataW H}{p:List MemPlace}(hv:Value.okWide prog w r b0 64 v)(h:DataW.Trod enc prog w 0 (λ_=>true) true 64 v d p):∃x:Tkr,x.ok w/\v=x.val:=by
 obtain⟨cs,rfl,hsz⟩:=okWide_struct underlying64 hv
 obtain⟨fuel,hf⟩:=h
 have hl:cs.toList.length=5:=by rw[Pt,hsz,qkC]
 obtain⟨x,hx,p0,p1,p2,p3,p4⟩:=qkD hl hf
 refine⟨x,hx,?_⟩
 unfold Tkr.val
 congr 1
 apply Array.ext'
 match cs.toList,hl,p0,p1,p2,p3,p4 with
 | [v0,v1,v2,v3,v4],_,p0,p1,p2,p3,p4=>simp at p0 p1 p2 p3 p4;simp[p0,p1,p2,p3,p4]
structure Rus where
 ver:Int
 tkA:Option Addr
 tkL:Nat
 tkC:Nat
 lot:Int
 band:Int
 feA:Option Addr
 feL:Nat
 feC:Nat
 rnd:Int
 pri:Int
 self:Int
 lay:Int
instance : Inhabited Rus := ⟨⟨0, none, 0, 0, 0, 0, none, 0, 0, 0, 0, 0, 0⟩⟩
def Rus.ok (w:World)(x:Rus):Prop:=(-9223372036854775808<=x.ver/\x.ver<=9223372036854775807)/\True/\(-9223372036854775808<=x.lot/\x.lot<=9223372036854775807)/\(-9223372036854775808<=x.band/\x.band<=9223372036854775807)/\True/\(-9223372036854775808<=x.rnd/\x.rnd<=9223372036854775807)/\(-9223372036854775808<=x.pri/\x.pri<=9223372036854775807)/\(-9223372036854775808<=x.self/\x.self<=9223372036854775807)/\(-9223372036854775808<=x.lay/\x.lay<=9223372036854775807)
def Rus.val (x:Rus):Value:=.agg #[(.int .i64 x.ver),(.slice x.tkA x.tkL x.tkC),(.int .i64 x.lot),(.int .i64 x.band),(.slice x.feA x.feL x.feC),(.int .i64 x.rnd),(.int .i64 x.pri),(.int .i64 x.self),(.int .i64 x.lay)]
theorem qkF:oneCellFields prog (match prog.underlying 68 with|some (.struct fs)=>fs|_=>#[])=true:=by kernel_rfl
theorem qkG:prog.cellsOf 68=9:=by kernel_rfl
theorem qbZ {H:Type}{enc:TypeId×Value->H}{w:World}{fuel:Nat}{v:Value}{y:DataW H×List MemPlace}{T E:TypeId}(hu:prog.underlying T=some (.slice E))(q:DataW.trod enc prog w 0 (λ_=>true) true fuel T [v]=some y) :
  ∃A L C,[v]=[.slice A L C]:=by
 rcases open_slice hu q with ⟨hcs,_⟩ | ⟨x,l,c,m,n,D,Pl,hcs,_⟩
 ·exact⟨none,0,0,hcs⟩
 ·exact⟨some x,l,c,hcs⟩
theorem qkH {H:Type}{enc:TypeId×Value->H}{w:World}{fuel:Nat}{cs:List Value}{y:DataW H×List MemPlace}(hl:cs.length=9)(h:DataW.trod enc prog w 0 (λ_=>true) true fuel 68 cs=some y) :
  ∃x:Rus,x.ok w/\cs[0]? = some (.int .i64 x.ver)/\cs[1]? = some (.slice x.tkA x.tkL x.tkC)/\cs[2]? = some (.int .i64 x.lot)/\cs[3]? = some (.int .i64 x.band)/\cs[4]? = some (.slice x.feA x.feL x.feC)/\cs[5]? = some (.int .i64 x.rnd)/\cs[6]? = some (.int .i64 x.pri)/\cs[7]? = some (.int .i64 x.self)/\cs[8]? = some (.int .i64 x.lay):=by
 obtain⟨xs,n',_,_,_,hxl,hg⟩:=DataW.trod_struct underlying68 h
 have fone:=qkF
 rw[underlying68]at fone
 have at_:∀(j:Nat) (f:Field),j<9->f.offset=j/\prog.cellsOf f.type=1->DataW.trod enc prog w 0 (λ_=>true) true n' f.type ((cs.drop f.offset).take (prog.cellsOf f.type))=xs[j]? ->
   ∃v y,cs[j]? = some v/\DataW.trod enc prog w 0 (λ_=>true) true n' f.type [v]=some y:=by
  intro j f hj ⟨ho,hk⟩ htr;rw[ho,hk]at htr;have hjl:j<cs.length:=by omega
  have e1:(cs.drop j).take 1=[cs[j]]:=by
   rw[Au hjl];rfl
  rw[e1]at htr;have wB:j<xs.length:=by rw[hxl];exact hj
  rw[List.getElem?_eq_getElem wB]at htr;exact⟨_,_,List.getElem?_eq_getElem hjl,htr⟩
 obtain⟨v0,y0,p0,q0⟩:=at_ 0 _ Oz (hone_of fone 0 _ rfl) (hg 0 _ rfl)
 obtain⟨v1,y1,p1,q1⟩:=at_ 1 _ Oz (hone_of fone 1 _ rfl) (hg 1 _ rfl)
 obtain⟨v2,y2,p2,q2⟩:=at_ 2 _ Oz (hone_of fone 2 _ rfl) (hg 2 _ rfl)
 obtain⟨v3,y3,p3,q3⟩:=at_ 3 _ Oz (hone_of fone 3 _ rfl) (hg 3 _ rfl)
 obtain⟨v4,y4,p4,q4⟩:=at_ 4 _ Oz (hone_of fone 4 _ rfl) (hg 4 _ rfl)
 obtain⟨v5,y5,p5,q5⟩:=at_ 5 _ Oz (hone_of fone 5 _ rfl) (hg 5 _ rfl)
 obtain⟨v6,y6,p6,q6⟩:=at_ 6 _ Oz (hone_of fone 6 _ rfl) (hg 6 _ rfl)
 obtain⟨v7,y7,p7,q7⟩:=at_ 7 _ Oz (hone_of fone 7 _ rfl) (hg 7 _ rfl)
 obtain⟨v8,y8,p8,q8⟩:=at_ 8 _ Oz (hone_of fone 8 _ rfl) (hg 8 _ rfl)
 obtain⟨k0,e0,_,w0⟩:=DataW.trod_int underlying3 q0
 obtain⟨A1,L1,C1,e1⟩:∃A L C,[v1]=[.slice A L C]:=qbZ underlying65 q1
 obtain⟨k2,e2,_,w2⟩:=DataW.trod_int underlying2 q2
 obtain⟨k3,e3,_,w3⟩:=DataW.trod_int underlying2 q3
 obtain⟨A4,L4,C4,e4⟩:∃A L C,[v4]=[.slice A L C]:=qbZ underlying66 q4
 obtain⟨k5,e5,_,w5⟩:=DataW.trod_int underlying3 q5
 obtain⟨k6,e6,_,w6⟩:=DataW.trod_int underlying3 q6
 obtain⟨k7,e7,_,w7⟩:=DataW.trod_int underlying3 q7
 obtain⟨k8,e8,_,w8⟩:=DataW.trod_int underlying3 q8
 injection e0 with e0;injection e1 with e1;injection e2 with e2;injection e3 with e3;injection e4 with e4;injection e5 with e5;injection e6 with e6;injection e7 with e7;injection e8 with e8
 subst e0;subst e1;subst e2;subst e3;subst e4;subst e5;subst e6;subst e7;subst e8
 exact⟨⟨k0,A1,L1,C1,k2,k3,A4,L4,C4,k5,k6,k7,k8⟩,⟨bounds_i64 w0,trivial,bounds_i64 w2,bounds_i64 w3,trivial,bounds_i64 w5,bounds_i64 w6,bounds_i64 w7,bounds_i64 w8⟩,p0,p1,p2,p3,p4,p5,p6,p7,p8⟩
theorem qkI {H:Type}{enc:TypeId×Value->H}{w:World}{r:Reach}{b0:Nat}{v:Value}{d:DataW H}{p:List MemPlace}(hv:Value.okWide prog w r b0 68 v)(h:DataW.Trod enc prog w 0 (λ_=>true) true 68 v d p):∃x:Rus,x.ok w/\v=x.val:=by
 obtain⟨cs,rfl,hsz⟩:=okWide_struct underlying68 hv
 obtain⟨fuel,hf⟩:=h
 have hl:cs.toList.length=9:=by rw[Pt,hsz,qkG]
 obtain⟨x,hx,p0,p1,p2,p3,p4,p5,p6,p7,p8⟩:=qkH hl hf
 refine⟨x,hx,?_⟩
 unfold Rus.val
 congr 1
 apply Array.ext'
 match cs.toList,hl,p0,p1,p2,p3,p4,p5,p6,p7,p8 with
 | [v0,v1,v2,v3,v4,v5,v6,v7,v8],_,p0,p1,p2,p3,p4,p5,p6,p7,p8=>simp at p0 p1 p2 p3 p4 p5 p6 p7 p8;simp[p0,p1,p2,p3,p4,p5,p6,p7,p8]
end
end Go.Proofs.YtikapeaodobkjaaGreat
