/- What the laws lean on, in a few texts (by shake.py): number 13 of 16. -/
import Derived.Test.YtikapeaodobkjaaGreatZr1
import Derived.Test.YtikapeaodobkjaaGreatZr2
import Derived.Test.YtikapeaodobkjaaGreatZr5
import Derived.Test.YtikapeaodobkjaaGreatZr10
import Derived.Test.YtikapeaodobkjaaGreatZr9
import Derived.Test.YtikapeaodobkjaaGreatZr11
import Derived.Test.YtikapeaodobkjaaGreatZr3
import Derived.Maps.OwnSet
import Derived.Maps.Views
import Derived.Shelf.SlSortCmp.QuietGrown
import Derived.Laws.OwnMore
import Derived.Laws.AppendOwnNone
import Derived.Shelf.SlGeneric
import Derived.Shelf.SlicesE.DeleteFunc
import Derived.Ground.SlgfProg
import Derived.Test.YtikapeaodobkjaaGreatProg
import Derived.Deep.WholeRow
import Derived.Maps.AppendAt
import Derived.LoopNIn

set_option maxHeartbeats 16000000
set_option maxRecDepth 1000000
set_option linter.unusedVariables false
set_option linter.unusedSimpArgs false
namespace Go.Proofs.YtikapeaodobkjaaGreat
open _root_.Go.Proofs.Tryz
section
open Go.RowKit Go.Sort Go.Lib Go.Maps
def zO:Od:=⟨0,0,0,0,0,0⟩
def Ids (L:List Od):Prop:=L.Pairwise (λx y=>¬x.id=y.id)
def omL (L:List Od)(id:Int):Option Od:=L.find? (λx=>x.id==id)
theorem Vs:∀{L:List Od},Ids L->∀{x y:Od},x∈L->y∈L->x.id=y.id->x=y
 | [],_,x,y,hx,_,_=>(by cases hx)
 | z :: L,h,x,y,hx,hy,e=>by
  obtain⟨h1,h2⟩:=List.pairwise_cons.1 h;rcases List.mem_cons.1 hx with ex|hx
  ·rcases List.mem_cons.1 hy with ey|hy
   ·rw[ex,ey]
   ·rw[ex]at e;exact absurd e (h1 y hy)
  ·rcases List.mem_cons.1 hy with ey|hy
   ·rw[ey]at e;exact absurd e.symm (h1 x hx)
   ·exact Vs h2 hx hy e
theorem Z2 {L:List Od}(h:Ids L){id:Int}{x:Od}:omL L id=some x↔x∈L/\x.id=id:=by
 unfold omL
 constructor
 ·intro hf;exact⟨List.mem_of_find?_eq_some hf,by have:=List.find?_some hf;simpa using this⟩
 ·rintro ⟨hx,rfl⟩
  cases hf:L.find? (λy=>y.id==x.id) with
  | none =>
   have:=List.find?_eq_none.1 hf x hx;simp at this
  | some y =>
   have e1:=List.mem_of_find?_eq_some hf;have e2:=List.find?_some hf;simp at e2;rw[Vs h e1 hx e2]
theorem omL_none {L:List Od}{id:Int}:omL L id=none↔∀x∈L,¬x.id=id:=by
 unfold omL
 rw[List.find?_eq_none]
 simp
theorem Xs {L M:List Od}(h:Ids L)(hp:L.Perm M):Ids M:=hp.pairwise h (λh e=>h e.symm)
theorem qhY {L M:List Od}(h:Ids L)(hp:L.Perm M)(id:Int):omL L id=omL M id:=by
 apply Option.ext
 intro x
 rw[Z2 h,Z2 (Xs h hp),hp.mem_iff]
theorem qhZ (x:Od)(L:List Od)(id:Int):omL (x :: L) id=if id=x.id then some x else omL L id:=by
 unfold omL
 rw[List.find?_cons]
 by_cases e:id=x.id
 ·subst e;simp
 ·rw[Sw e];have:(x.id==id)=false:=by simp;exact λh=>e h.symm
  rw[this]
theorem qh0 (L:List Od)(k id:Int):omL (L.filter (λx=>!(x.id==k))) id=if id=k then none else omL L id:=by
 by_cases e:id=k
 ·subst e;rw[Sx rfl,omL_none];intro x hx;have:=(List.mem_filter.1 hx).2;simpa using this
 ·rw[Sw e];unfold omL;rw[List.find?_filter]
  congr 1
  funext x
  by_cases h:x.id=id
  ·have:¬x.id=k:=λh2=>e (h.symm.trans h2);simp[h,e]
  ·simp[h]
structure OmT (D:DataW Value) (L:List Od):Prop where
 tidy:Tidy D
 at_:∀id,D.atKey (.int .u64 id) (.held zO.val)=.held ((omL L id).getD zO).val
 has:∀id,Maps.has D (.int .u64 id)=(omL L id).isSome
 size:Maps.size D=L.length
theorem qh1:OmT (.map []) []:=⟨tidy_empty,λ_=>rfl,λ_=>rfl,rfl⟩
theorem OmT.of {D:DataW Value}{L M:List Od}(h:OmT D L)(hf:∀id,omL M id=omL L id)(hl:M.length=L.length):OmT D M :=
 ⟨h.tidy,λid=>by rw[hf,h.at_],λid=>by rw[hf,h.has],by rw[hl,h.size]⟩
theorem OmT.perm {D:DataW Value}{L M:List Od}(h:OmT D L)(hd:Ids L)(hp:L.Perm M):OmT D M :=
 h.of (λid=>(qhY hd hp id).symm) hp.length_eq.symm
theorem Xt {a b:Int}(h:¬a=b):(Lit.int .u64 a)≠(Lit.int .u64 b):=λe=>by injection e with _ e;exact h e
theorem OmT.put {D:DataW Value}{L M:List Od}(h:OmT D L)(x:Od)(hk:WideAt.IsKeyLit (.int .u64 x.id))(hf:∀id,omL M id=if id=x.id then some x else omL L id)(hl:M.length=if (omL L x.id).isSome=true then L.length else L.length+1) :
  OmT (D.put (.int .u64 x.id) (.held x.val)) M:=by
 refine⟨h.tidy.put hk _,λid=>?_,λid=>?_,?_⟩
 ·rw[hf];by_cases e:id=x.id
  ·subst e;rw[Sx rfl,atKey_put_same h.tidy.isMap hk];rfl
  ·rw[Sw e,atKey_put_other (Xt e),h.at_]
 ·rw[hf];by_cases e:id=x.id
  ·subst e;rw[Sx rfl,has_put_same h.tidy.isMap hk];rfl
  ·rw[Sw e,has_put_other (Xt e),h.has]
 ·rw[size_put h.tidy,h.has,h.size,hl]
theorem OmT.del {D:DataW Value}{L M:List Od}(h:OmT D L)(k:Int)(hf:∀id,omL M id=if id=k then none else omL L id)(hl:M.length+(if (omL L k).isSome=true then 1 else 0)=L.length) :
  OmT (D.del (.int .u64 k)) M:=by
 refine⟨h.tidy.del _,λid=>?_,λid=>?_,?_⟩
 ·rw[hf];by_cases e:id=k
  ·subst e;rw[Sx rfl,atKey_del_same];rfl
  ·rw[Sw e,atKey_del_other (Xt e),h.at_]
 ·rw[hf];by_cases e:id=k
  ·subst e;rw[Sx rfl,has_del_same];rfl
  ·rw[Sw e,has_del_other (Xt e),h.has]
 ·have:=size_del (k:=.int .u64 k) h.tidy;rw[h.has,h.size]at this;omega
def QH (r:Rw):Rq:=(r.pr,r.q.map (·.id))
def VD (l:List Value):Prop:=l.Pairwise (λu v=>∀j,u.ownBlock=some j->v.ownBlock≠some j)
theorem VD.perm {l m:List Value}(h:VD l)(hp:l.Perm m):VD m:=hp.pairwise h (λh j hj hi=>h j hi hj)
theorem qh2 {s p:Int}{A B P Q:List Rw}{M R:List Rw}(h:A++M++B=P++R++Q)(hA:∀a∈A,Qf s a.pr p=true)(hM:∀a∈M,a.pr=p)(hB:∀b∈B,Qf s p b.pr=true)
  (hP:∀a∈P,Qf s a.pr p=true) (hR:∀a∈R,a.pr=p) (hQ:∀b∈Q,Qf s p b.pr=true):A=P/\M=R/\B=Q:=by
 have irr:∀x:Int,Qf s x x=false:=λx=>by
  cases hx:Qf s x x with
  | false=>rfl
  | true=>rw[JS]at hx;omega
 have asy:∀x y:Int,Qf s x y=true->Qf s y x=false:=λx y hx=>by
  cases hy:Qf s y x with
  | false=>rfl
  | true=>have:=U0 hx hy;rw[irr]at this;cases this
 have key:∀(X Y Z:List Rw),(∀a∈X,Qf s a.pr p=true)->(∀a∈Y,a.pr=p)->(∀a∈Z,Qf s p a.pr=true) ->
   X=(X++Y++Z).filter (λa=>Qf s a.pr p)/\Y=(X++Y++Z).filter (λa=>a.pr==p)/\Z=(X++Y++Z).filter (λa=>Qf s p a.pr):=by
  intro X Y Z hX hY hZ;refine⟨?_,?_,?_⟩
  ·rw[Pj,Pj,List.filter_eq_self.2 hX,List.filter_eq_nil_iff.2 (λa ha=>by rw[hY a ha,irr];decide),List.filter_eq_nil_iff.2 (λa ha=>by rw[asy _ _ (hZ a ha)];decide)];simp
  ·rw[Pj,Pj,List.filter_eq_nil_iff.2 (λa ha=>by
    intro e;have:=hX a ha
    rw[beq_iff_eq.1 e,irr]at this;cases this),List.filter_eq_self.2 (λa ha=>by rw[hY a ha];simp),List.filter_eq_nil_iff.2 (λa ha=>by
    intro e;have:=hZ a ha
    rw[beq_iff_eq.1 e,irr]at this;cases this)]
   simp
  ·rw[Pj,Pj,List.filter_eq_nil_iff.2 (λa ha=>by rw[asy _ _ (hX a ha)];decide),List.filter_eq_nil_iff.2 (λa ha=>by rw[hY a ha,irr];decide),List.filter_eq_self.2 hZ];simp
 have k1:=key A M B hA hM hB
 have k2:=key P R Q hP hR hQ
 rw[h]at k1
 exact⟨k1.1.trans k2.1.symm,k1.2.1.trans k2.2.1.symm,k1.2.2.trans k2.2.2.symm⟩
theorem Gf {s p:Int}{Rs:List Rw}{A B:List Rw}{M:List Rw}(hs:Rs=A++M++B)(hA:∀a∈A,Qf s a.pr p=true)(hM:∀a∈M,a.pr=p)(hB:∀b∈B,Qf s p b.pr=true)
  {P R Q:List Rq} (h:Rs.map QH=P++R++Q) (hP:∀a∈P,Qf s a.1 p=true) (hR:∀a∈R,a.1=p) (hQ:∀b∈Q,Qf s p b.1=true):A.map QH=P/\M.map QH=R/\B.map QH=Q:=by
 obtain⟨X,Z,rfl,hXP,hZ⟩:=List.map_eq_append_iff.1 h
 obtain⟨X,Y,rfl,hX,hY⟩:=List.map_eq_append_iff.1 hXP
 have mem:∀{l:List Rw} {m:List Rq} {f:Int->Prop},l.map QH=m->(∀a∈m,f a.1)->∀a∈l,f a.pr:=λhl hm a ha=>hm (QH a) (by rw[<-hl];exact List.mem_map_of_mem ha)
 obtain⟨rfl,rfl,rfl⟩:=qh2 hs.symm hA hM hB (mem (f:=λx=>Qf s x p=true) hX hP) (mem (f:=λx=>x=p) hY hR) (mem (f:=λx=>Qf s p x=true) hZ hQ)
 exact⟨hX,hY,hZ⟩
end
section
open Go.RowKit Go.Sort Go.Lib Go.Shelf
theorem qh3 (w:World)(base n g:Nat)(xs:List Value)(ys:List Value)(ad:Addr)(cc:Nat)(ty:TypeId)(i0:TypeInfo)(hi0:prog.info? 35=some i0)(hz0:i0.zero=some (.int .u64 0))(hz1:i0.size=1)(hz2:i0.bytes=8)
  (hown:w.ownsRow base 35 1 (.slice (some ⟨g,0,none⟩) n n) n xs) (hl:ys.length=1) (hnews:∀j u,ys[j]? = some u->w.cell? (ad.add j)=some u) (hn:n<=1000) (hb:base<=w.heap.size) :
  ∃v' w',(Builtin.append_ #[124,124] ty #[.slice (some ⟨g,0,none⟩) n n,.slice (some ad) 1 cc]).run prog w=.ok v' w'/\w'.ownsRow base 35 1 v' (n+1) (xs++ys)/\w.grownBy w' none/\v'.ownBlock=some w.heap.size:=by
 have holds:∀j u,xs[j]? = some u->w.cell? ((⟨g,0,none⟩:Addr).add j)=some u:=hown.cells (g:=g) rfl
 have hr:=run_append_grow (P:=prog) w 124 ty 35 i0 (.int .u64 0) underlying124 hi0 hz0 ⟨g,0,none⟩ n n xs (by rw[hz1];exact hown.1) holds ad 1 cc ys (by rw[hz1];exact hl) hnews Oz Oz (growslice_fits Oz (by rw[hz2];omega))
 have hge:=grownCap_ge w (n+1) n 35
 have hcm:grownCap w (n+1) n 35<=maxLen:=grownCap_le_maxLen w (n+1) n 35 (by unfold maxLen;omega)
 have hlen:(xs++ys).length=(n+1)*1:=by rw[Su,hown.1,hl];omega
 refine⟨_,_,hr,⟨hlen,.inr ⟨w.heap.size,_,_,rfl,hb,heap_alloc_new w.drew _,hge,hcm,?_,?_⟩⟩,⟨rfl,rfl,rfl,by simp,λk hk _=>heap_alloc_old w.drew _ hk⟩,rfl⟩
 ·have:=hown.1;simp only[Pv,Wu,size_zeroCells,hl,Value.cells];simp;omega
 ·simp only[Pu,St];rw[<-St,<-hlen];exact List.take_left
theorem qh4 (w:World)(base n:Nat)(v:Value)(xs ys:List Value)(vb:Nat)(hown:w.ownsRow base 35 1 v n xs)(hb:base<=w.heap.size)(hn:n<=1000)(hv:w.heap[vb]? = some (.cells ys.toArray 35 (0,0)))(hy:ys.length=1)(h2:∀v∈ys,v.oneCell'=true) :
  Calls prog 220 #[v,.int .i64 n,.slice (some ⟨vb,0,none⟩) 1 1] w λe w'=>∃v',e=.returned v'/\Hid (w'.ownsRow base 35 1 v' (n+1) (xs++ys)/\w.grownBy w' v.ownBlock/\((v'.ownBlock=some w.heap.size/\w.grownBy w' none)∨∃g c,v=.slice (some ⟨g,0,none⟩) n c/\v'=.slice (some ⟨g,0,none⟩) (n+1) c)):=by
 obtain⟨i0,hi0,hz0,hz1,hz2⟩:=info_parts qad
 have HO:=Ou hown
 have jR:Hid (∀(j:Nat) (u:Value),ys[j]? = some u->w.cell? ((⟨vb,0,none⟩:Addr).add j)=some u):=Ou (λj u hj=>by
  rw[QP,Ij,cell_of_row _ _ _ _ _ _ hv,List.getElem?_toArray];exact hj)
 have q1:IntKind.i64.wrap ((n:Int)+1)=(n:Int)+1:=by rw[Wz];omega
 rcases hown.2 with ⟨rfl,rfl⟩ | ⟨g,c,cur,rfl,_,_,hc,hm,_,_⟩
 ·clear hown hv;go_enter func220,ntmps220;go_wp2_with (at_builtin;refine wpList_append_own_at _ rfl _ _ 124 rfl base 35 i0 (.int .u64 0) 1 8 underlying124 hi0 hz0 hz1 hz2 rfl Ox _ _ _ rfl HO.out ⟨vb,0,none⟩ 1 1 ys rfl Oz jR.out h2 (by unfold maxLen;omega) Oz hb ?_)
  intro v1 w1 k1 k2 k4 k3;have HR:Hid (w1.ownsRow base 35 1 v1 (0+1) (xs++ys)/\w.grownBy w1 none/\v1.ownBlock=some w.heap.size):=by
   refine⟨k1,k2,?_⟩;rcases k3 with h|h
   ·rcases k1.2 with ⟨_,h0⟩ | ⟨g,c,cur,rfl,_⟩
    ·omega
    ·cases h
   ·exact h
  clear k1 k2 k3 k4;go_wp2_with fail
  go_ret;exact⟨_,rfl,HR.out.1,HR.out.2.1,.inl ⟨HR.out.2.2,HR.out.2.1⟩⟩
 ·have hcm:c<=9223372036854775807:=by unfold maxLen at hm;omega
  have q2:(n:Int)<=(c:Int):=by omega
  have q3:(c:Int)<=9223372036854775807:=by omega
  clear hown hv hm;by_cases hcn:c=n
  ·subst hcn;have HA:=Ou (λty=>qh3 w base c g xs ys ⟨vb,0,none⟩ 1 ty i0 hi0 hz0 hz1 hz2 HO.out hy jR.out hn hb);go_enter func220,ntmps220;obtain⟨v1,w1,hr,k1,k2,k3⟩:=HA.out 124;have HR:Hid (w1.ownsRow base 35 1 v1 (c+1) (xs++ys)/\w.grownBy w1 none/\v1.ownBlock=some w.heap.size):=⟨k1,k2,k3⟩
   have HX:=Ou hr;clear k1 k2 k3 HA hr;go_wp2_with (at_builtin;refine wpList_append_run _ rfl _ _ _ _ rfl _ _ rfl rfl _ _ HX.out ?_)
   go_wp2_with fail
   go_ret;have h:=HR.out.2.1;exact⟨_,rfl,HR.out.1,⟨h.os,h.tape,h.output,h.size,λk hk _=>h.block k hk Oy⟩,.inl ⟨HR.out.2.2,h⟩⟩
  ·go_enter func220,ntmps220;go_wp2_with (at_builtin;refine wpList_append_fits _ rfl _ _ 124 rfl base 35 i0 1 underlying124 hi0 hz1 g n c xs rfl HO.out ⟨vb,0,none⟩ 1 1 ys rfl Oz jR.out h2 Oz ?_)
   intro w1 k1 k2;have HR:Hid (w1.ownsRow base 35 1 (.slice (some ⟨g,0,none⟩) (n+1) c) (n+1) (xs++ys)/\w.grownBy w1 (some g)):=⟨k1,k2⟩
   clear k1 k2;go_wp2_with fail
   go_ret;exact⟨_,rfl,HR.out.1,HR.out.2,.inr ⟨g,c,rfl,rfl⟩⟩
theorem qh5 (w:World)(base n i:Nat)(v:Value)(xs ys:List Value)(vb:Nat)(hown:w.ownsRow base 35 1 v n xs)(hb:base<=w.heap.size)(hn:n<=1000)(hi:i<=n)(hvb:v.ownBlock≠some vb)(hv:w.heap[vb]? = some (.cells ys.toArray 35 (0,0)))(hy:ys.length=1)(h1:∀u∈xs,u.oneCell'=true)(h2:∀u∈ys,u.oneCell'=true) :
  Calls prog 220 #[v,.int .i64 i,.slice (some ⟨vb,0,none⟩) 1 1] w λe w'=>∃v',e=.returned v'/\Hid (w'.ownsRow base 35 1 v' (n+1) (xs.take (i*1)++ys++xs.drop (i*1))/\w.grownBy w' v.ownBlock/\((v'.ownBlock=some w.heap.size/\w.grownBy w' none)∨∃g c,v=.slice (some ⟨g,0,none⟩) n c/\v'=.slice (some ⟨g,0,none⟩) (n+1) c)):=by
 have hl:=hown.1
 by_cases hin:i=n
 ·subst hin;refine(qh4 w base i v xs ys vb hown hb hn hv hy h2).mono λe w' ⟨v',he,h⟩=>⟨v',he,?_⟩
  rw[Fs Oz,Ms Oz,Mq];exact h
 rcases hown.2 with ⟨_,h0⟩ | ⟨g,c,cur,rfl,hbg,hg,hc,hm,hs,ht⟩
 ·omega
 have vU:vb≠g:=λe=>hvb (by rw[e];rfl)
 have hll:cur.toList.length=c*1:=by rw[Pt];exact hs
 by_cases hcn:n+1<=c
 ·refine(qhz w g n c i vb cur.toList ys (by rw[Pw];exact hg) hll hcn Oz hm vU hv hy (by rw[ht];exact h1) h2).mono λe w' ⟨he,h⟩=>⟨_,he,?_⟩
  obtain⟨k1,k2⟩:=UM (xs:=xs) (i:=i) Oz hcn hll hy ht;refine⟨⟨?_,.inr ⟨g,c,_,rfl,hbg,h.out.2,hcn,hm,by rw[Wu];exact k1,k2⟩⟩,h.out.1,.inr ⟨g,c,rfl,rfl⟩⟩;simp only[Su,Wy,Az,hy];omega
 ·obtain rfl:c=n:=by omega
  have ex:cur=xs.toArray:=by rw[<-ht,Fs Oz,Pw]
  rw[ex]at hg;refine(qhA w g c i vb xs ys hg hl hn Oz hv hy h1 h2).mono λe w' ⟨v',he,h⟩=>⟨v',he,Ju h.out.1 hb,?_,.inl ⟨h.out.2.2,⟨h.out.2.1.os,h.out.2.1.tape,h.out.2.1.output,h.out.2.1.size,λj hj _=>h.out.2.1.block j hj⟩⟩⟩
  exact⟨h.out.2.1.os,h.out.2.1.tape,h.out.2.1.output,h.out.2.1.size,λj hj _=>h.out.2.1.block j hj⟩
end
end Go.Proofs.YtikapeaodobkjaaGreat
namespace Go.Proofs
open _root_.Go.Proofs.YtikapeaodobkjaaGreat
open Go.Shelf
def Tryz.delL_ren:Go.Shelf.Ren:=⟨fun|10=>215|6=>224|n=>n,fun|22=>124|23=>35|25=>213|3=>3|4=>4|0=>0|n=>n,fun|n=>n⟩
theorem Tryz.delL:Go.Proofs.SlLaysH.n10 prog Tryz.delL_ren:={
 mixed:=by kernel_rfl
 f6:=⟨Tryz.f224.name,by decide,func224.trans (congrArg some Ow)⟩
 f10:=⟨Tryz.f215.name,by decide,func215.trans (congrArg some Ow)⟩
 t0:=underlying0
 a0:=Tryz.isAgg0
 z0:=Tryz.sizeOf0
 v0:=Tryz.zeroValue0
 t3:=underlying3
 a3:=Tryz.isAgg3
 z3:=Tryz.sizeOf3
 v3:=Tryz.zeroValue3
 t4:=underlying4
 a4:=Tryz.isAgg4
 z4:=Tryz.sizeOf4
 v4:=Tryz.zeroValue4
 t22:=underlying124
 a22:=Tryz.isAgg124
 z22:=Tryz.sizeOf124
 v22:=Tryz.zeroValue124
 a23:=Tryz.isAgg35
 z23:=Tryz.sizeOf35
 t25:=underlying213
 a25:=Tryz.isAgg213
 z25:=Tryz.sizeOf213
 v25:=Tryz.zeroValue213 }
end Go.Proofs
namespace Go.Proofs.YtikapeaodobkjaaGreat
open _root_.Go.Proofs.Tryz
section
open Go.RowKit Go.Sort Go.Lib Go.Shelf
abbrev Jk:Int->Value:=Value.int .u64
theorem qas (q:List Int):idV q=q.map Jk:=rfl
theorem qat (id x:Int)(B:Nat)(W:World)(hc:W.cell? ⟨B,0,none⟩=some (.int .u64 id)) :
  FnGives prog 216 #[.pointer (some ⟨B,0,none⟩)] #[.int .u64 x] (.bool (x==id)) W:=by
 show Calls prog 216 #[.int .u64 x,.pointer (some ⟨B,0,none⟩)] W _
 generalize hr:(x==id)=r
 go_enter func216,ntmps216
 go_wp2
 all_goals (go_ret;exact⟨by simp_all,0,rfl⟩)
theorem qh6 {w:World}{g:Nat}{cur:Array Value}{e:TypeId}{ss:List Int}(hb:w.heap[g]? = some (.cells cur e (0,0)))(ht:cur.toList.take ss.length=ss.map Jk):Holds Jk w g 0 ss.toArray:=by
 intro j hj
 have hj':j<ss.length:=by simpa using hj
 refine⟨?_,by simp[World.frozen?,hb]⟩
 have h1:(cur.toList.take ss.length)[j]? = (ss.map Jk)[j]?:=by rw[ht]
 rw[List.getElem?_take_of_lt hj']at h1
 simp only[World.cell?,hb,Ij]
 simp only[Option.isSome_none,Ny,if_false]
 rw[<-Array.getElem?_toList,h1]
 simp[hj']
theorem qau {w:World}{g n:Nat}{cur:Array Value}{e:TypeId}{fr:Nat×Nat}(d:Array Int)(hb:w.heap[g]? = some (.cells cur e fr)) :
  (putRow Jk (Sort.ahead w n) g 0 d).heap[g]? = some (.cells (putCells Jk 0 d cur) e fr):=by
 simp[putRow,mapBlock,Sort.ahead,Array.getElem?_modify,hb,onCells]
theorem qh7 {w:World}{g n:Nat}(d:Array Int):w.grownBy (putRow Jk (Sort.ahead w n) g 0 d) (some g):=by
 refine⟨rfl,rfl,rfl,by simp,λk hk hne=>?_⟩
 have:g≠k:=λe=>hne (by rw[e])
 simp[putRow,mapBlock,Sort.ahead,Array.getElem?_modify,this]
theorem qh8 (cur:Array Value)(ts:List Int)(h:ts.length<=cur.size):(putCells Jk 0 ts.toArray cur).toList.take ts.length=ts.map Jk:=by
 apply List.ext_getElem?
 intro j
 by_cases hj:j<ts.length
 ·rw[List.getElem?_take_of_lt hj,Array.getElem?_toList];simp[putCells,hj,show j<cur.size by omega]
 ·rw[List.getElem?_take_eq_none Oz,List.getElem?_eq_none (by simp;omega)]
def JF (id:Int)(q:List Int):List Int:=q.filter λx=>!(x==id)
def JG (id:Int)(q:List Int):List Int:=JF id q++List.replicate (q.length-(JF id q).length) 0
theorem Gg (id:Int)(q:List Int):(JF id q).length<=q.length:=Rj _ _
theorem qav (id:Int)(q:List Int):(JG id q).length=q.length:=by
 have:=Gg id q
 unfold JG
 rw[Su,List.length_replicate]
 omega
theorem qh9 (w:World):(zeroValue 35).run prog w=.ok (.int .u64 0) w:=by kernel_rfl
theorem qia (w:World)(base g c B:Nat)(id:Int)(q:List Int)(hown:w.ownsRow base 35 1 (.slice (some ⟨g,0,none⟩) q.length c) q.length (idV q))(hn:q.length<=1000)(hB:Cl 35 w B #[.int .u64 id])(hne:B≠g) :
  Calls prog 215 #[.slice (some ⟨g,0,none⟩) q.length c,.func (.func 216) #[] #[.pointer (some ⟨B,0,none⟩)]] w λe w' =>
   e=.returned (.slice (some ⟨g,0,none⟩) (JF id q).length c)/\Hid (w'.ownsRow base 35 1 (.slice (some ⟨g,0,none⟩) (JF id q).length c) (JF id q).length (idV (JF id q)) /\
    w'.ownsRow base 35 1 (.slice (some ⟨g,0,none⟩) q.length c) q.length (idV (JG id q))/\w.grownBy w' (some g)):=by
 rcases hown.2 with ⟨hv,_⟩ | ⟨k,cap,cur,hv,hbk,hk,hnc,hcm,hcs,ht⟩
 ·cases hv
 injection hv with e1 _ e3
 injection e1 with e1
 injection e1 with e1
 subst e1 e3
 have hcell:w.cell? ⟨B,0,none⟩=some (.int .u64 id):=(hB.c 0).trans rfl
 have hBl:B<w.heap.size:=Qc hB
 have eg:∀args w,(callFunc 216 args).run prog w=.ok (.enter 216 args) w:=enters_of func216 Ow rfl
 have hcon:=AnyE.slices_DeleteFunc Tryz.delL Jk (λ_=>rfl) (λx=>x==id) 216 #[.pointer (some ⟨B,0,none⟩)] eg 0 qh9 g 0 c q.toArray w
  (λW x hb=>qat id x B W ((hb.cell (p:=⟨B,0,none⟩) hBl).trans hcell))
  (λn os dk x _=>qat id x B _ (by
   unfold sortWorld;rw[cell?_grow _ _ _ (by show B<(putRow _ _ _ _ _).heap.size;rw[size_putRow];exact hBl),cell?_putRow_other _ _ g 0 _ _ (Or.inl hne)]
   exact hcell))
  (qh6 hk (by rw[Mx]at ht;exact ht)) (by simp;omega) (by simpa using hnc)
 change Calls prog 215 _ _ _ at hcon
 have es:q.toArray.size=q.length:=by simp
 rw[es]at hcon
 refine hcon.mono λe w' ⟨he,n,hw⟩=>⟨he,?_⟩
 have hw2:w'=putRow Jk (Sort.ahead w n) g 0 (JG id q).toArray:=hw
 subst hw2
 have hl:=qav id q
 have hT:=qh8 cur (JG id q) (by rw[hl,hcs];omega)
 refine⟨⟨by simp[idV],.inr ⟨g,c,_,rfl,hbk,qau _ hk,Sk (Gg id q) hnc,hcm,by simp[putCells,hcs],?_⟩⟩,⟨by simp[idV,hl],.inr ⟨g,c,_,rfl,hbk,qau _ hk,hnc,hcm,by simp[putCells,hcs],?_⟩⟩,qh7 _⟩
 ·rw[Mx];have h2:((putCells Jk 0 (JG id q).toArray cur).toList.take (JG id q).length).take (JF id q).length=((JG id q).map Jk).take (JF id q).length:=by rw[hT]
  rw[Nj,Pz (by rw[hl];exact Gg id q)]at h2;rw[h2,qas];unfold JG;rw[Mw,List.take_left' (by simp)]
 ·rw[Mx,qas,<-hl];exact hT
end
section
open Go.RowKit Go.Sort Go.Lib Go.Maps
theorem Xv:Keyed prog 35:=int_keyed underlying35
theorem qaw {w:World}{P:Program}{K:TypeId}{m n k:Nat}{D:DataW Value}(h:w.ownsMap P K RV m n D)(hz:Maps.size D<=k):w.ownsMap P K RV m k D:=by
 obtain⟨es,clock,hb,F,_,hD⟩:=h
 refine⟨es,clock,hb,F,?_,hD⟩
 rw[hD]at hz
 simpa [Maps.size,length_sorted] using hz
theorem qax (w:World):(zeroValue 38).run prog w=.ok zO.val w:=by kernel_rfl
theorem qay {v u:Value}{ps:List MemPlace}(h:RV v=some (.held u,ps)):v=u:=DataW.held.inj (congrArg Prod.fst (Option.some.inj h))
theorem Xw {w:World}{m n:Nat}{D:DataW Value}{L:List Od}(h:w.ownsMap prog 35 RV m n D)(hO:OmT D L)(id:Int)(hs:(Lit.int .u64 id).wf=true) :
  (Instr.lookup 133 (.map (some m)) (.int .u64 id) false).run prog w=.ok ((omL L id).getD zO).val w:=by
 obtain⟨v,ps,hr,hv⟩:=h.lookup Xv underlying133 (qax w) (R:=RV) rfl (keyOf_int_mk underlying35 hs)
 rw[hO.at_]at hv
 rw[hr,qay hv]
theorem look_ok {w:World}{m n:Nat}{D:DataW Value}{L:List Od}(h:w.ownsMap prog 35 RV m n D)(hO:OmT D L)(id:Int)(hs:(Lit.int .u64 id).wf=true) :
  (Instr.lookup 133 (.map (some m)) (.int .u64 id) true).run prog w=.ok (.tuple #[((omL L id).getD zO).val,.bool (omL L id).isSome]) w:=by
 obtain⟨v,ps,hr,hv⟩:=h.look_ok Xv underlying133 (qax w) (R:=RV) rfl (keyOf_int_mk underlying35 hs)
 rw[hO.at_]at hv
 rw[hr,qay hv,hO.has]
theorem qaz {w:World}{m n:Nat}{D:DataW Value}{L:List Od}(h:w.ownsMap prog 35 RV m n D)(hO:OmT D L)(ty:TypeId) :
  (Builtin.len_ #[133] ty #[.map (some m)]).run prog w=.ok (.int .i64 (L.length:Nat)) w:=by
 rw[h.len underlying133 ty,hO.size]
theorem qaA {w:World}{m n:Nat}{D:DataW Value}{L M:List Od}(h:w.ownsMap prog 35 RV m n D)(hn:n<=1000)(hO:OmT D L)(x:Od)(hs:(Lit.int .u64 x.id).wf=true)
  (hf:∀id,omL M id=if id=x.id then some x else omL L id) (hl:M.length=if (omL L x.id).isSome=true then L.length else L.length+1) (hk:M.length<=64) :
  ∃w',(Instr.mapUpdate 133 (.map (some m)) (.int .u64 x.id) x.val).run prog w=.ok () w'/\∃D',w'.ownsMap prog 35 RV m 64 D'/\OmT D' M/\w.grownBy w' (some m):=by
 obtain⟨w',hr,h1,h2⟩:=h.store Xv underlying133 (by unfold maxLen;omega) (keyOf_int_mk underlying35 hs) (show RV x.val=some (.held x.val,[]) from rfl)
 have mW:=hO.put x (by trivial) hf hl
 exact⟨w',hr,_,qaw h1 (by rw[mW.size];exact hk),mW,h2.grown⟩
theorem qib {w:World}{m n:Nat}{D:DataW Value}{L M:List Od}(h:w.ownsMap prog 35 RV m n D)(hO:OmT D L)(k:Int)(hs:(Lit.int .u64 k).wf=true)
  (hf:∀id,omL M id=if id=k then none else omL L id) (hl:M.length+(if (omL L k).isSome=true then 1 else 0)=L.length) (hk:M.length<=64) (ty:TypeId) :
  ∃w',(Builtin.delete_ #[133,35] ty #[.map (some m),.int .u64 k]).run prog w=.ok (.tuple #[]) w'/\∃D',w'.ownsMap prog 35 RV m 64 D'/\OmT D' M/\w.grownBy w' (some m):=by
 obtain⟨w',hr,h1,h2⟩:=h.drop Xv underlying133 (keyOf_int_mk underlying35 hs) ty
 have mW:=hO.del k hf hl
 exact⟨w',hr,_,qaw h1 (by rw[mW.size];exact hk),mW,h2.grown⟩
structure GW (w:World) (p m ms:Nat) (D:DataW Value) (g1 g2:Sg) (Q1 Q2:List Rw):Prop where
 gk:Gk w (some ⟨p,0,none⟩) (some (m,ms)) D g1 g2
 om:OmT D (Qa Q1 Q2)
 e1:g1.t.rows=Q1.map QH
 e2:g2.t.rows=Q2.map QH
 ok1:SideOk 1 Q1
 ok2:SideOk 2 Q2
 ids:Ids (Qa Q1 Q2)
 len:(Qa Q1 Q2).length<=64
 ok:∀x∈Qa Q1 Q2,Od.ok w x/\Qk x=true
 vd:VD (g1.t.vals++g2.t.vals)
 bd:∀b∈g1.t.blks,b ∉ g2.t.blks
 tb:g1.tb≠g2.tb
 mm:m≠ms
 sb:g1.sb≠g2.sb
def QF (g:Sg)(k:Nat):Prop:=k=g.sb∨k=g.tb∨k∈g.t.blks∨∃v∈g.t.vals,v.ownBlock=some k
def Kf (p m ms:Nat)(g1 g2:Sg)(k:Nat):Prop:=k=p∨k=m∨k=ms∨QF g1 k∨QF g2 k
theorem Gk.fr {S:Nat->Prop}{w w':World}{p m ms:Nat}{D:DataW Value}{g1 g2:Sg}(h:Gk w (some ⟨p,0,none⟩) (some (m,ms)) D g1 g2)(hf:Fr S w w')(hn:∀k,Kf p m ms g1 g2 k->¬S k):Gk w' (some ⟨p,0,none⟩) (some (m,ms)) D g1 g2:=by
 refine⟨?_,λa b e=>?_,λa b e=>?_,λe=>?_,λe=>?_⟩
 ·rcases h.shape with ⟨h0,_⟩ | ⟨q,hq,hc⟩
  ·cases h0
  ·refine .inr ⟨q,hq,hf.blk hc ?_⟩;injection hq with hq;injection hq with hq;exact hn q (.inl hq.symm)
 ·have:=h.om a b e;injection e with e;injection e with e1 e2;exact QS this hf (hn a (.inr (.inl e1.symm)))
 ·have:=h.sm a b e;injection e with e;injection e with e1 e2;exact QS this hf (hn b (.inr (.inr (.inl e2.symm))))
 ·exact(h.s1 e).fr hf (hn _ (.inr (.inr (.inr (.inl (.inl rfl)))))) (hn _ (.inr (.inr (.inr (.inl (.inr (.inl rfl))))))) (λb hb=>hn _ (.inr (.inr (.inr (.inl (.inr (.inr (.inl hb)))))))) (λv hv k hk=>hn _ (.inr (.inr (.inr (.inl (.inr (.inr (.inr ⟨v,hv,hk⟩))))))))
 ·exact(h.s2 e).fr hf (hn _ (.inr (.inr (.inr (.inr (.inl rfl)))))) (hn _ (.inr (.inr (.inr (.inr (.inr (.inl rfl))))))) (λb hb=>hn _ (.inr (.inr (.inr (.inr (.inr (.inr (.inl hb)))))))) (λv hv k hk=>hn _ (.inr (.inr (.inr (.inr (.inr (.inr (.inr ⟨v,hv,hk⟩))))))))
theorem GW.fr {S:Nat->Prop}{w w':World}{p m ms:Nat}{D:DataW Value}{g1 g2:Sg}{Q1 Q2:List Rw}(h:GW w p m ms D g1 g2 Q1 Q2)(hf:Fr S w w')(hn:∀k,Kf p m ms g1 g2 k->¬S k):GW w' p m ms D g1 g2 Q1 Q2 :=
 ⟨h.gk.fr hf hn,h.om,h.e1,h.e2,h.ok1,h.ok2,h.ids,h.len,h.ok,h.vd,h.bd,h.tb,h.mm,h.sb⟩
theorem GW.below {w w':World}{p m ms:Nat}{D:DataW Value}{g1 g2:Sg}{Q1 Q2:List Rw}(h:GW w p m ms D g1 g2 Q1 Q2)(hf:Ok w w'):GW w' p m ms D g1 g2 Q1 Q2 :=
 h.fr (S:=λ_=>False) (Fr.of_below hf) (λ_ _ h=>h)
theorem TrIn.vlt {W:World}:∀{t:Tr},TrIn W t->∀v∈t.vals,∀k,v.ownBlock=some k->k<W.heap.size
 | .nil,_,v,h=>(by cases h)
 | .node a k v q l r,h,u,hu=>by
  unfold Tr.vals at hu;rcases List.mem_append.1 hu with hu|hu
  ·exact TrIn.vlt h.2.2.1 u hu
  ·rcases List.mem_cons.1 hu with rfl|hu
   ·exact λk hk=>(h.2.1.lt k hk).2
   ·exact TrIn.vlt h.2.2.2 u hu
theorem SgIn.lt {w:World}{s:Int}{g:Sg}(h:SgIn w s g):∀k,QF g k->k<w.heap.size:=by
 rintro k (rfl|rfl|hk | ⟨v,hv,hk⟩)
 ·exact Qc h.box
 ·exact Qc h.cx
 ·exact h.tr.lt k hk
 ·exact h.tr.vlt v hv k hk
theorem GW.lt {w:World}{p m ms:Nat}{D:DataW Value}{g1 g2:Sg}{Q1 Q2:List Rw}(h:GW w p m ms D g1 g2 Q1 Q2):∀k,Kf p m ms g1 g2 k->k<w.heap.size:=by
 rintro k (rfl|rfl|rfl|hk|hk)
 ·rcases h.gk.shape with ⟨h0,_⟩ | ⟨q,hq,hc⟩
  ·cases h0
  ·injection hq with hq;injection hq with hq;rw[hq];exact Qc hc
 ·exact(h.gk.om _ _ rfl).lt
 ·exact(h.gk.sm _ _ rfl).lt
 ·exact(h.gk.s1 rfl).lt k hk
 ·exact(h.gk.s2 rfl).lt k hk
theorem GW.bookp {w:World}{p m ms:Nat}{D:DataW Value}{g1 g2:Sg}{Q1 Q2:List Rw}(h:GW w p m ms D g1 g2 Q1 Q2):Cl 138 w p #[.map (some m),.map (some ms)]:=by
 rcases h.gk.shape with ⟨h0,_⟩ | ⟨q,hq,hc⟩
 ·cases h0
 ·injection hq with hq;injection hq with hq;rw[hq];exact hc
theorem qic (p m ms:Nat)(D:DataW Value)(g1 g2:Sg)(Q1 Q2:List Rw)(w:World)(H:GW w p m ms D g1 g2 Q1 Q2) :
  Calls prog 204 #[.pointer (some ⟨p,0,none⟩)] w λe w'=>e=.returned (.int .i64 (Qa Q1 Q2).length)/\w=w':=by
 have HM:=Ou (Ke (some ⟨p,0,none⟩) (some (m,ms)) D g1 g2 w H.gk)
 have k0:w.cell? ⟨p,0,none⟩=some (.map (some m)):=(H.bookp.c 0).trans rfl
 have hl:=λty=>qaz (H.gk.om _ _ rfl) H.om ty
 generalize (Qa Q1 Q2).length=n at hl
 clear H
 go_enter func204,ntmps204
 go_wp2_with ((with_reducible refine HM.out.mono ?_);rintro e w1 ⟨rfl,rfl⟩;clear HM)
 go_ret
 exact⟨rfl,rfl⟩
theorem qaB (p m ms:Nat)(D:DataW Value)(g1 g2:Sg)(Q1 Q2:List Rw)(id:Int)(hs:(Lit.int .u64 id).wf=true)(w:World)(H:GW w p m ms D g1 g2 Q1 Q2) :
  Calls prog 203 #[.pointer (some ⟨p,0,none⟩),.int .u64 id] w λe w'=>e=.returned (.tuple #[.agg (OC ((omL (Qa Q1 Q2) id).getD zO)),.bool (omL (Qa Q1 Q2) id).isSome])/\Hid (Ok w w'):=by
 have hb:Ok w (w.alloc (.cells (OC ⟨0,0,0,0,0,0⟩) 38)):=(Oq _ _).alloc (Sq _) _
 have HM:=Ou (Ke (some ⟨p,0,none⟩) (some (m,ms)) D g1 g2 _ (H.below hb).gk)
 have k0:(w.alloc (.cells (OC ⟨0,0,0,0,0,0⟩) 38)).cell? ⟨p,0,none⟩=some (.map (some m)):=((H.below hb).bookp.c 0).trans rfl
 have hl:=look_ok ((H.below hb).gk.om _ _ rfl) H.om id hs
 generalize (omL (Qa Q1 Q2) id).isSome=there at hl ⊢
 generalize (omL (Qa Q1 Q2) id).getD zO=z at hl ⊢
 have hl':(Instr.lookup 133 (.map (some m)) (.int .u64 id) true).run prog (w.alloc (.cells (OC ⟨0,0,0,0,0,0⟩) 38))=.ok (.tuple #[.agg (OC z),.bool there]) (w.alloc (.cells (OC ⟨0,0,0,0,0,0⟩) 38)):=hl
 have HB:=Ou hb
 clear H hb hl
 go_enter func203,ntmps203
 go_wp2_with ((with_reducible refine HM.out.mono ?_);rintro e w1 ⟨rfl,rfl⟩;clear HM)
 refine bodyPost_ret (ZK rfl _ _ _ rfl z _ (Qp Oy (Qe rfl)) _ rfl) rfl ?_
 exact⟨rfl,Ou (((Oq _ _).alloc (Sq _) _).alloc Oy _)⟩
theorem qaC {B:Nat}{w w':World}(h:Below B w w'):Fr (λk=>B<=k) w w':=⟨h.os,h.tape,h.output,h.size,λk hk hn=>h.block k Oz⟩
theorem Jw {a:Int}(h:0<=a/\a<=18446744073709551615):(Lit.int .u64 a).wf=true:=WalkArith.wf_u64 h
theorem qaD (w:World)(x:Od)(T:TypeId):∀(j:Nat) (u:Value),(Qn x)[j]? = some u->(w.alloc (Obj.cells (OC x) T)).cell? ((⟨w.heap.size,0,none⟩:Addr).add j)=some u:=by
 intro j u hu
 rw[QP,cell_of_row _ _ _ _ _ _ (heap_alloc_new w _)]
 match j,hu with
 | 0,hu=>simpa [Qn] using hu
 | 1,hu=>simpa [Qn] using hu
 | 2,hu=>simpa [Qn] using hu
 | 3,hu=>simpa [Qn] using hu
 | 4,hu=>simpa [Qn] using hu
 | 5,hu=>simpa [Qn] using hu
theorem qaE:(prog.info? 38).map (λi=>(i.zero,i.size,i.bytes))=some (some (.agg (OC ⟨0,0,0,0,0,0⟩)),6,48):=by kernel_rfl
def QIn (w:World)(B:Nat)(A:Option Addr)(Y:List Od):Prop:=∀k,k<Y.length->∃g,A=some ⟨g,0,none⟩/\g<B/\w.cell? ⟨g,k,none⟩=some (.int .u64 (Y[k]!).id)
theorem QIn.below {w w':World}{B:Nat}{A:Option Addr}{Y:List Od}(h:QIn w B A Y)(hb:Below B w w'):QIn w' B A Y:=λk hk=>by
 obtain⟨g,h1,h2,h3⟩:=h k hk
 exact⟨g,h1,h2,(hb.cell (p:=⟨g,k,none⟩) h2).trans h3⟩
theorem qid (p m ms:Nat)(D:DataW Value)(g1 g2:Sg)(Q1 Q2:List Rw)(w:World)(H:GW w p m ms D g1 g2 Q1 Q2)(B:Nat)(hB:∀k,Kf p m ms g1 g2 k->k<B)(hBw:B<=w.heap.size)
  (v:Value) (n:Nat) (X:List Od) (hown:w.ownsRow B 38 6 v n (ol X)) (hn:n<=1000) (A:Option Addr) (c:Nat) (Y:List Od) (hY:∀x∈Y,x∈Qa Q1 Q2) (hQ:QIn w B A Y) (hm:Y.length<=1000) :
  Calls prog 212 #[.pointer (some ⟨p,0,none⟩),v,.slice A Y.length c] w λe w'=>∃v',e=.returned v'/\Hid (w'.ownsRow B 38 6 v' (n+Y.length) (ol (X++Y))/\Below B w w'):=by
 obtain⟨i0,hi0,hz0,hz1,hz2⟩:=info_parts qaE
 have HH:=Ou H
 have HB:=Ou hB
 have HQ:=Ou hQ
 have HY:=Ou hY
 clear H hB hQ hY
 have xV:(Y.length:Int)<=1000:=by omega
 go_enter func212,ntmps212
 go_wp2_with fail
 obtain⟨N,hN⟩:∃N,N=Y.length:=⟨_,rfl⟩
 rw[<-hN]at hm xV ⊢
 have HN:=Ou hN
 clear hN
 go_loopg [1,11] N (λkx s1 iI wr=>∃k:Nat,iI=.int .i64 (k:Int)/\k<=N/\N-k<=kx/\wr.ownsRow B 38 6 s1 (n+k) (ol (X++Y.take k))/\Hid (Below B w wr))
 case atStart=>exact⟨0,rfl,by omega,by omega,by simpa using hown,Below.refl _ _⟩
 case round =>
  obtain⟨k,rfl,hk,aP,hown',hd⟩:=hrel;by_cases hlt:k<N
  ·have aF:(k:Int)<(N:Int):=by omega
   have d8:(0:Int)<=(k:Int):=by omega
   have lS:k<Y.length:=by rw[<-HN.out];exact hlt
   obtain⟨g,rfl,hgB,hc⟩:=(HQ.out.below hd.out) k lS;obtain⟨x,ex⟩:∃x,Y[k]! = x:=⟨_,rfl⟩
   rw[ex]at hc;have vZ:x∈Y:=by rw[<-ex,Sj Y k lS];exact Wt _
   have qH:=HY.out x vZ;have G:=HH.out.fr (qaC hd.out) (λj hj hbad=>by have:=HB.out j hj;omega);have hsome:omL (Qa Q1 Q2) x.id=some x:=(Z2 G.ids).2 ⟨qH,rfl⟩;have hl:=Xw (G.gk.om _ _ rfl) G.om x.id (Jw (G.ok x qH).1.1);rw[hsome]at hl;have hl':(Instr.lookup 133 (.map (some m)) (.int .u64 x.id) false).run prog wr=.ok (.agg (OC x)) wr:=hl;have k0:wr.cell? ⟨p,0,none⟩=some (.map (some m)):=(G.bookp.c 0).trans rfl
   have HS:Hid (ol (X++Y.take (k+1))=ol (X++Y.take k)++Qn x):=Ou (by
    rw[Ek lS,<-St,Cs,<-Sj Y k lS,ex])
   have hsz:=hd.out.size;have qA:n+k<=2000:=by omega
   clear ex vZ qH G hsome hl;generalize x.id=xi at *;go_wp2_with (at_builtin;refine wpList_append_own _ rfl _ _ 22 rfl B 38 i0 (.agg (OC ⟨0,0,0,0,0,0⟩)) 6 48 underlying22 hi0 hz0 hz1 hz2 rfl Ox _ _ _ rfl (hown'.alloc _) ⟨wr.heap.size,0,none⟩ 1 1 (Qn x) rfl rfl ?c1 ?c2 ?c3 ?c4 ?c5 ?_)
   case c1=>exact qaD wr x _
   case c2=>exact Jr x
   case c3=>unfold maxLen;omega
   case c4=>omega
   case c5=>simp;omega
   intro v1 w1 hown1 hg1 _;have cY:Hid (Below B w w1):=Below.grown (hd.out.alloc (Sk hBw hsz) _) hg1 (by simp;omega) (λk hk=>(hown'.lt k hk).1);rw[<-HS.out]at hown1;clear hg1 hown' hd;go_wp2_with fail
   go_roundg (N-(k+1))
   case measure=>omega
   case rel=>exact⟨k+1,by go_num,by omega,by omega,hown1,cY⟩
  ·have aF:¬(k:Int)<(N:Int):=by omega
   obtain rfl:k=N:=by omega
   rw[Fs (by rw[<-HN.out];exact Sq _)]at hown';have HF:=Ou (Sv hown' hd.out);clear hown' hd;go_wp2_with fail
   go_ret;have eN:=HN.out;subst eN;refine⟨?v,?e,?h⟩
   case h=>exact HF
   case e=>rfl
theorem V5 {w:World}{A:Option Addr}{n c:Nat}{Y:List Od}{B:Nat}(h:w.ownsRow 0 35 1 (.slice A n c) n (idV (Y.map (·.id))))(hB:∀k,(Value.slice A n c).ownBlock=some k->k<B):n=Y.length/\QIn w B A Y:=by
 have hl:=h.1
 simp only[idV,Fv]at hl
 refine⟨by omega,λk hk=>?_⟩
 rcases h.2 with ⟨hv,h0⟩ | ⟨g,cap,cur,hv,_,hg,_,_,_,ht⟩
 ·omega
 ·injection hv with e1 _ _;subst e1;refine⟨g,rfl,hB g rfl,?_⟩;rw[cell_of_row _ _ _ _ _ _ hg,<-Array.getElem?_toList];have h2:(cur.toList.take (n*1))[k]? = (idV (Y.map (·.id)))[k]?:=by rw[ht]
  rw[List.getElem?_take,Sx (by omega)]at h2;rw[h2,idV,List.map_map,List.getElem?_map,List.getElem?_eq_getElem hk,Sj Y k hk];rfl
theorem Gh {w:World}{g:Sg}{s pr:Int}{Q:List Rw}{c:Cx}{t:Tr}(hI:SpI w g.tb g.sb s pr g.t c t)(hh:Vo pr t)(e:g.t.rows=Q.map QH)(hQ:SideOk s Q) :
  ∃A M B,Q=A++M++B/\(∀a∈A,Qf s a.pr pr=true)/\(∀b∈B,Qf s pr b.pr=true) /\
   ((t=.nil/\M=[])∨∃a v q l r m,t=.node a pr v q l r/\M=[m]/\m.pr=pr/\q=m.q.map (·.id)/\A.map QH=c.pre++l.rows/\B.map QH=r.rows++c.post):=by
 have h:=e.symm
 rw[<-hI.eq,Zs]at h
 have mem:∀{l:List Rw} {m:List Rq} {f:Int->Prop},l.map QH=m->(∀a∈m,f a.1)->∀a∈l,f a.pr:=λhl hm a ha=>hm (QH a) (by rw[<-hl];exact List.mem_map_of_mem ha)
 cases t with
 | nil =>
  rw[show Tr.rows .nil=[] from rfl,Mq]at h;obtain⟨X,Z,rfl,hX,hZ⟩:=List.map_eq_append_iff.1 h;exact⟨X,[],Z,by simp,mem (f:=λx=>Qf s x pr=true) hX hI.at_.pre,mem (f:=λx=>Qf s pr x=true) hZ hI.at_.post,.inl ⟨rfl,rfl⟩⟩
 | node a k v q l r =>
  have hk:k=pr:=hh;subst hk;have hs:=hI.at_.srt;rw[Zs]at hs;unfold Srt at hs;rw[show Tr.rows (.node a k v q l r)=l.rows++(k,q) :: r.rows from rfl]at hs h;have e1:c.pre++(l.rows++(k,q) :: r.rows)++c.post=(c.pre++l.rows)++[(k,q)]++(r.rows++c.post):=by simp
  rw[e1]at hs h;obtain⟨XY,Z,rfl,hXY,hZ⟩:=List.map_eq_append_iff.1 h;obtain⟨X,Y,rfl,hX,hY⟩:=List.map_eq_append_iff.1 hXY;have hs1:=(List.pairwise_append.1 hs).1;have hs2:=(List.pairwise_append.1 hs).2.2;have hs3:=(List.pairwise_append.1 hs1).2.2
  match Y,hY with
  | [m],hY =>
   injection hY with hm _;have pW:m.pr=k:=congrArg Prod.fst hm;have hm2:m.q.map (·.id)=q:=congrArg Prod.snd hm;exact⟨X,[m],Z,rfl,mem (f:=λx=>Qf s x k=true) hX (λx hx=>hs3 x hx (k,q) Oy),mem (f:=λx=>Qf s k x=true) hZ (λx hx=>hs2 (k,q) Oy x hx),.inr ⟨a,v,q,l,r,m,rfl,rfl,pW,hm2.symm,hX,hZ⟩⟩
def atP (pr:Int)(Q:List Rw):List Od:=(Qb Q).filter (λx=>x.price==pr)
theorem Vt (s x:Int):Qf s x x=false:=by
 cases hx:Qf s x x with
 | false=>rfl
 | true=>rw[JS]at hx;omega
theorem Gi {s pr:Int}{A M B:List Rw}(h:SideOk s (A++M++B))(hA:∀a∈A,Qf s a.pr pr=true)(hB:∀b∈B,Qf s pr b.pr=true)(hM:∀r∈M,r.pr=pr):atP pr (A++M++B)=Qb M:=by
 unfold atP Qb
 rw[Wv,Wv,Pj,Pj]
 have fA:∀(X:List Rw),(∀r∈X,r∈A++M++B)->(∀r∈X,¬r.pr=pr)->(X.flatMap (·.q)).filter (λx=>x.price==pr)=[]:=λX hX hp=>by
  rw[Pk];intro x hx;obtain⟨r,hr,kJ⟩:=List.mem_flatMap.1 hx;have:=(h.mem r (hX r hr) x kJ).2;intro e;rw[beq_iff_eq]at e;exact hp r hr (this.symm.trans e)
 have fM:((M.flatMap (·.q)).filter (λx=>x.price==pr))=M.flatMap (·.q):=by
  rw[List.filter_eq_self];intro x hx;obtain⟨r,hr,kJ⟩:=List.mem_flatMap.1 hx;rw[(h.mem r (by simp[hr]) x kJ).2,hM r hr];simp
 rw[fA A (λr hr=>by simp[hr]) (λr hr e=>by have:=hA r hr;rw[e,Vt]at this;cases this),fA B (λr hr=>by simp[hr]) (λr hr e=>by have:=hB r hr;rw[e,Vt]at this;cases this),fM]
 simp
theorem qie {w:World}{g:Sg}{s pr:Int}{Q:List Rw}{c:Cx}{t:Tr}(hI:SpI w g.tb g.sb s pr g.t c t)(hh:Vo pr t)(e:g.t.rows=Q.map QH)(hQ:SideOk s Q)(hS:SgIn w s g){B:Nat}(hB:∀k,QF g k->k<B) :
  ∃A cc,t.val=.slice A (atP pr Q).length cc/\QIn w B A (atP pr Q):=by
 obtain⟨X,M,Z,rfl,hX,hZ,hM⟩:=Gh hI hh e hQ
 rcases hM with ⟨rfl,rfl⟩ | ⟨a,v,q,l,r,m,rfl,rfl,hm,rfl,_,_⟩
 ·rw[Gi hQ hX hZ (λr hr=>by cases hr)];exact⟨none,0,rfl,λk hk=>absurd hk (by simp[Qb])⟩
 ·rw[Gi hQ hX hZ (λr hr=>by rw[List.mem_singleton.1 hr];exact hm)];have e1:Qb [m]=m.q:=by simp[Qb]
  rw[e1];have ho:=hI.tr.2.1;have hv:v∈g.t.vals:=by
   obtain⟨A,C,hp⟩:=JZ c;rw[<-hI.eq,hp];simp[Tr.vals]
  rw[Fv]at ho;rcases ho.2 with ⟨rfl,h0⟩ | ⟨gg,cap,cur,rfl,_⟩
  ·rw[h0]at ho ⊢;have:=V5 (Y:=m.q) (B:=B) ho (λk hk=>by cases hk);exact⟨none,0,by rw[Tr.val],this.2⟩
  ·have:=V5 (Y:=m.q) (B:=B) ho (λk hk=>hB k (.inr (.inr (.inr ⟨_,hv,hk⟩))));exact⟨_,_,rfl,this.2⟩
structure OwnS (w:World) (p m ms:Nat) (D:DataW Value) (g1 g2:Sg) (Q1 Q2:List Rw) (sd:Int) (g:Sg) (Q:List Rw):Prop where
 s12:sd=1∨sd=2
 sg:SgIn w sd g
 eq:g.t.rows=Q.map QH
 ok:SideOk sd Q
 ft:∀k,QF g k->Kf p m ms g1 g2 k
 mem:∀x∈Qb Q,x∈Qa Q1 Q2
 len:(Qb Q).length<=64
 ids:Ids (Qa Q1 Q2)->Ids (Qb Q)
 call:∀W,GW W p m ms D g1 g2 Q1 Q2->Calls prog 210 #[.pointer (some ⟨p,0,none⟩),.int .i64 sd] W λe w'=>e=.returned (.pointer (some ⟨g.tb,0,none⟩))/\W=w'
theorem GW.own1 {w:World}{p m ms:Nat}{D:DataW Value}{g1 g2:Sg}{Q1 Q2:List Rw}(h:GW w p m ms D g1 g2 Q1 Q2):OwnS w p m ms D g1 g2 Q1 Q2 1 g1 Q1:=by
 refine⟨.inl rfl,h.gk.s1 rfl,h.e1,h.ok1,λk hk=>.inr (.inr (.inr (.inl hk))),λx hx=>Ws _ hx,(by have:=h.len;unfold Qa at this;rw[Su]at this;omega),λhi=>(List.pairwise_append.1 hi).1,λW hW=>(V3 _ _ D g1 g2 1 W Ox hW.gk).mono ?_⟩
 rintro e w' ⟨g,rfl,hg⟩
 cases hg.out with
 | own1 _ _ hw=>exact⟨rfl,hw⟩
 | own2 _ h2 _=>exact absurd h2 Ox
 | new h1 _ _=>rcases h1 with h1|h1;cases h1;exact absurd rfl h1.1
theorem GW.own2 {w:World}{p m ms:Nat}{D:DataW Value}{g1 g2:Sg}{Q1 Q2:List Rw}(h:GW w p m ms D g1 g2 Q1 Q2):OwnS w p m ms D g1 g2 Q1 Q2 2 g2 Q2:=by
 refine⟨.inr rfl,h.gk.s2 rfl,h.e2,h.ok2,λk hk=>.inr (.inr (.inr (.inr hk))),λx hx=>Wx _ hx,(by have:=h.len;unfold Qa at this;rw[Su]at this;omega),λhi=>(List.pairwise_append.1 hi).2.1,λW hW=>(V3 _ _ D g1 g2 2 W Ox hW.gk).mono ?_⟩
 rintro e w' ⟨g,rfl,hg⟩
 cases hg.out with
 | own1 _ h1 _=>exact absurd h1 Ox
 | own2 _ _ hw=>exact⟨rfl,hw⟩
 | new h1 _ _=>rcases h1 with h1|h1;cases h1;exact absurd rfl h1.2
def rsq (Q1 Q2:List Rw)(sd:Int):List Rw:=if sd=1 then Q1 else if sd=2 then Q2 else []
theorem GW.drewN {w:World}{p m ms:Nat}{D:DataW Value}{g1 g2:Sg}{Q1 Q2:List Rw}(h:GW w p m ms D g1 g2 Q1 Q2)(n:Nat):GW (w.drewN n) p m ms D g1 g2 Q1 Q2:=h.below (QJ (Oq _ _) n)
theorem qaF (p m ms:Nat)(D:DataW Value)(g1 g2:Sg)(Q1 Q2:List Rw)(sd pr:Int)(g:Sg)(Q:List Rw)(w:World)(H:GW w p m ms D g1 g2 Q1 Q2)(S:OwnS w p m ms D g1 g2 Q1 Q2 sd g Q) :
  Calls prog 205 #[.pointer (some ⟨p,0,none⟩),.int .i64 sd,.int .i64 pr] w λe w'=>∃v,e=.returned v/\Hid (w'.ownsRow w.heap.size 38 6 v (atP pr Q).length (ol (atP pr Q))/\Ok w w'):=by
 have HS:=Ou (S.call w H)
 have HG:=Ou (Xj g.tb g.sb sd pr g.t w (λ_=>S.s12) S.sg.box S.sg.cx S.sg.tr S.sg.srt)
 have HT:=Ou (show ∀n A c,QIn (w.drewN n) w.heap.size A (atP pr Q)->Calls prog 212 #[.pointer (some ⟨p,0,none⟩),.slice none 0 0,.slice A (atP pr Q).length c] (w.drewN n) λe w'=>∃v',e=.returned v'/\Hid (w'.ownsRow w.heap.size 38 6 v' (0+(atP pr Q).length) (ol ([]++atP pr Q))/\Below w.heap.size (w.drewN n) w') from λn A c hq =>
  qid p m ms D g1 g2 Q1 Q2 (w.drewN n) (H.drewN n) w.heap.size (λk hk=>H.lt k hk) (Sq _) _ 0 [] (World.ownsRow_nil _ _ _ _) Oz A c (atP pr Q) (λx hx=>S.mem x (List.mem_filter.1 hx).1) hq (by
   have h1:(atP pr Q).length<=(Qb Q).length:=Rj _ _;have h2:=S.len
   omega))
 have HI:=Ou (show ∀W c t n,W=w.drewN n->SpI w g.tb g.sb sd pr g.t c t->Vo pr t->∃A cc,t.val=.slice A (atP pr Q).length cc/\QIn (w.drewN n) w.heap.size A (atP pr Q) from λW c t n hW hI hh=>by
  obtain⟨A,cc,h1,h2⟩:=qie hI hh S.eq S.ok S.sg (B:=w.heap.size) (λk hk=>S.sg.lt k hk)
  exact⟨A,cc,h1,h2.below (QJ (Oq _ _) n)⟩)
 clear H S
 go_enter func205,ntmps205
 go_wp2_with fail
 ((with_reducible refine HS.out.mono ?_);rintro e w1 ⟨rfl,rfl⟩)
 go_wp2_with fail
 ((with_reducible refine HG.out.mono ?_);rintro e w2 ⟨c,t,rfl,hh,n,rfl⟩)
 obtain⟨A,cc,ev,hq⟩:=HI.out _ c t n rfl hh.out.1 hh.out.2
 rw[ev]
 have f9:=Ou (HT.out n A cc hq)
 clear HS HG HT HI hh ev hq
 go_wp2_with fail
 ((with_reducible refine f9.out.mono ?_);rintro e w3 ⟨v,rfl,h3⟩)
 clear f9
 go_wp2_with fail
 go_ret
 refine⟨_,rfl,?_⟩
 rw[Ij,Mu]at h3
 exact Ou ⟨h3.out.1,(QJ (Oq _ _) n).trans h3.out.2⟩
end
section
open Go.RowKit Go.Sort Go.Lib Go.Maps Go.Shelf
theorem qaG {w w':World}{mm:Option (Nat×Nat)}{side:Int}{g g1 g2:Sg}(h:SideIs w w' mm g1 g2 side g)(hn:¬side=1/\¬side=2):g.t=.nil/\SgIn w' side g/\Ok w w':=by
 cases h with
 | own1 _ h=>exact absurd h hn.1
 | own2 _ h=>exact absurd h hn.2
 | new _ hb hs=>exact⟨rfl,hs,hb⟩
theorem qif (b:Option Addr)(mm:Option (Nat×Nat))(D:DataW Value)(g1 g2:Sg)(sd pr:Int)(hn:¬sd=1/\¬sd=2)(hs:(Lit.int .i64 sd).wf=true)(w:World)(H:Gk w b mm D g1 g2) :
  Calls prog 205 #[.pointer b,.int .i64 sd,.int .i64 pr] w λe w'=>∃v,e=.returned v/\Hid (w'.ownsRow w.heap.size 38 6 v 0 (ol [])/\Ok w w'):=by
 have HS:=Ou (V3 b mm D g1 g2 sd w hs H)
 have HT:Hid (∀W,Calls prog 212 #[.pointer b,.slice none 0 0,.slice none 0 0] W λe w'=>e=.returned (.slice none 0 0)/\W=w'):=Ou (λW=>qhv b W)
 clear H
 go_enter func205,ntmps205
 go_wp2_with (first|((with_reducible refine HS.out.mono ?_);rintro e w1 ⟨⟨tb,sb,t⟩,rfl,hg⟩;obtain⟨h1,h2,h3⟩:=qaG hg.out hn;dsimp only at h1 h2;subst h1;have HF:=Ou (Xj tb sb sd pr .nil w1 (λh=>absurd rfl h) h2.box h2.cx h2.tr h2.srt);have B1:=Ou h3;clear HS hg h2 h3)|((with_reducible refine HF.out.mono ?_);rintro e w2 ⟨c,t,rfl,ht,n,rfl⟩;obtain rfl:=qhw ht.out.1;dsimp only[Tr.val])|((with_reducible refine(HT.out _).mono ?_);rintro e w3 ⟨rfl,rfl⟩))
 go_ret
 exact⟨.slice none 0 0,rfl,Ou ⟨World.ownsRow_nil _ _ _ _,((Fr.of_below (S:=λ_=>False) B1.out).drewN _).below (λ_ h=>False.elim h) (Sq _)⟩⟩
theorem qig {w w':World}{b:Option Addr}{mm:Option (Nat×Nat)}{D:DataW Value}{g1 g2:Sg}(h:Gk w b mm D g1 g2)(hf:Ok w w'):Gk w' b mm D g1 g2:=by
 refine⟨?_,λa b e=>QS (h.om a b e) (Fr.of_below (S:=λ_=>False) hf) (λh=>h),λa b e=>QS (h.sm a b e) (Fr.of_below (S:=λ_=>False) hf) (λh=>h),λe=>(h.s1 e).below hf,λe=>(h.s2 e).below hf⟩
 rcases h.shape with h0 | ⟨q,hq,hc⟩
 ·exact .inl h0
 ·exact .inr ⟨q,hq,(Fr.of_below (S:=λ_=>False) hf).blk hc (λh=>h)⟩
theorem qih (b:Option Addr)(mm:Option (Nat×Nat))(D:DataW Value)(g1 g2:Sg)(sd:Int)(hn:¬sd=1/\¬sd=2)(hs:(Lit.int .i64 sd).wf=true)(w:World)(H:Gk w b mm D g1 g2) :
  Calls prog 201 #[.pointer b,.int .i64 sd] w λe w'=>e=.returned (.tuple #[QG none,.bool false])/\Hid (Ok w w'):=by
 have hb:Ok w (w.alloc (.cells (OC ⟨0,0,0,0,0,0⟩) 38)):=(Oq _ _).alloc (Sq _) _
 have HS:=Ou (V3 b mm D g1 g2 sd (w.alloc (.cells (OC ⟨0,0,0,0,0,0⟩) 38)) hs (qig H hb))
 have HB:=Ou hb
 clear H hb
 go_enter func201,ntmps201
 go_wp2_with (first|((with_reducible refine HS.out.mono ?_);rintro e w1 ⟨⟨tb,sb,t⟩,rfl,hg⟩;obtain⟨h1,h2,h3⟩:=qaG hg.out hn;dsimp only at h1 h2;subst h1;have HF:=Ou (T9 tb sb .nil w1 h2.cx h2.tr);have B1:Hid (Ok w w1):=HB.out.trans (h3.mono HB.out.size);have C1:Cl 38 w1 w.heap.size (OC ⟨0,0,0,0,0,0⟩):=(h3.block _ (by rw[World.size_alloc];exact Ns _)).trans (Qe rfl);have C0:=Ou C1;obtain⟨x0,x1,x2,x3,x4,x5⟩:=Qm C1;have f0:=C1.f (k:=0);have f1:=C1.f (k:=1);have f2:=C1.f (k:=2);have f3:=C1.f (k:=3);have f4:=C1.f (k:=4);have f5:=C1.f (k:=5);clear HS hg h2 h3 C1)|((with_reducible refine HF.out.mono ?_);rintro e w2 ⟨rfl,rfl⟩;dsimp only[Vq,Tr.fst]))
 have hf:=JW ⟨0,0,0,0,0,0⟩ C0.out
 have hb:=VR ⟨0,0,0,0,0,0⟩ (Sq _) B1.out
 refine bodyPost_ret (ZK rfl _ _ _ rfl ⟨0,0,0,0,0,0⟩ _ hf _ rfl) rfl ?_
 exact⟨rfl,Ou hb⟩
theorem qaH (x:Od):(prog.info? 38).map (·.size)=some (OC x).size:=YA
section
variable {ops:Array Oper}{o:Oper}{a:Act}{w:World}{Q:Exit → Act → World → Prop}
theorem V6 {K:Act->World->Prop}{E:Prop}(hgd:Region.wanted o (yielded ops a.tmps)=true)(x y:Operand)(ho:o.op=.store 38 x y)(g:Nat)(z:Od)(hx:a.eval x=.pointer (some ⟨g,0,none⟩))(hy:a.eval y=.agg (OC z))(z':Od)(t:TypeId)
  (hg:w.heap[g]? = some (.cells (OC z') t (0,0))) (h:K (a.put o.dst undef) (w.setRow g (OC z))):if Region.wanted o (yielded ops a.tmps)=true then Oper.wp prog o a w K Q else E:=by
 rw[Sx hgd]
 exact wp_store_row _ x y ho g _ hx hy _ _ hg (qaH z) rfl (all_oneCell_toArray (cs:=Qn z) (Jr z)) h
end
theorem XA {w X:World}{c:Nat}{cs:Array Value}(h:Fr (·=c) w X):Fr (·=c) w (X.setRow c cs) :=
 ⟨h.os,h.tape,h.output,by simpa [World.setRow] using h.size,λk hk hn=>(setRow_other X c k cs hn).trans (h.block k hk hn)⟩
theorem qaI {w X:World}{c:Nat}(o:Od)(h:Fr (·=c) w X):Fr (·=c) w (Zn X c o):=by
 unfold Zn
 exact(((((h.set (.inl rfl) _).set (.inl rfl) _).set (.inl rfl) _).set (.inl rfl) _).set (.inl rfl) _).set (.inl rfl) _
def Vu (Q:List Rw):Option Od:=(Qb Q).head?
theorem qaJ (p m ms:Nat)(D:DataW Value)(g1 g2:Sg)(Q1 Q2:List Rw)(sd:Int)(g:Sg)(Q:List Rw)(w:World)(H:GW w p m ms D g1 g2 Q1 Q2)(S:OwnS w p m ms D g1 g2 Q1 Q2 sd g Q) :
  Calls prog 201 #[.pointer (some ⟨p,0,none⟩),.int .i64 sd] w λe w'=>e=.returned (.tuple #[QG (Vu Q),.bool (Vu Q).isSome])/\Hid (Ok w w'):=by
 have hb:Ok w (w.alloc (.cells (OC ⟨0,0,0,0,0,0⟩) 38)):=(Oq _ _).alloc (Sq _) _
 obtain⟨w1,hw1⟩:∃w1,w.alloc (.cells (OC ⟨0,0,0,0,0,0⟩) 38)=w1:=⟨_,rfl⟩
 rw[hw1]at hb
 have HS:=Ou (S.call w1 (H.below hb))
 have vQ:=S.sg.below hb
 have HF:=Ou (T9 g.tb g.sb g.t w1 vQ.cx vQ.tr)
 have gS:Hid (Cl 38 w1 w.heap.size (OC ⟨0,0,0,0,0,0⟩)):=Ou (by rw[<-hw1];exact Qe rfl)
 have HB:=Ou hb
 have hr:=T5 g.t
 rw[S.eq]at hr
 cases hf:g.t.fst with
 | none =>
  rw[hf]at hr HF;have hQ:Q=[]:=by cases Q with|nil=>rfl|cons r Q=>simp at hr
  subst hQ;obtain⟨x0,x1,x2,x3,x4,x5⟩:=Qm gS.out;have f0:=Cl.f gS.out (k:=0);have f1:=Cl.f gS.out (k:=1);have f2:=Cl.f gS.out (k:=2);have f3:=Cl.f gS.out (k:=3);have f4:=Cl.f gS.out (k:=4);have f5:=Cl.f gS.out (k:=5);clear H S vQ hr hf hb;go_enter func201,ntmps201;go_wp2_with fail
  ((with_reducible refine HS.out.mono ?_);rintro e w2 ⟨rfl,rfl⟩);go_wp2_with fail
  ((with_reducible refine HF.out.mono ?_);rintro e w2 ⟨rfl,rfl⟩;dsimp only[Vq]);go_wp2_with fail
  have hf:=JW ⟨0,0,0,0,0,0⟩ gS.out;have hb:=VR ⟨0,0,0,0,0,0⟩ (Sq _) HB.out;refine bodyPost_ret (ZK rfl _ _ _ rfl ⟨0,0,0,0,0,0⟩ _ hf _ rfl) rfl ?_;exact⟨rfl,Ou hb⟩
 | some f =>
  obtain⟨k,v,q⟩:=f;rw[hf]at hr HF;obtain⟨r,Q',rfl⟩:∃r Q',Q=r :: Q':=by cases Q with|nil=>simp at hr|cons r Q'=>exact⟨r,Q',rfl⟩
  have hr2:QH r=(k,q):=by simpa using hr
  have hq:q=r.q.map (·.id):=(congrArg Prod.snd hr2).symm;obtain⟨x,rq,hx⟩:∃x rq,r.q=x :: rq:=by
   cases hh:r.q with
   | nil=>exact absurd hh (S.ok.some r Eu)
   | cons x rq=>exact⟨x,rq,rfl⟩
  have hfo:Vu (r :: Q')=some x:=by unfold Vu Qb;rw[Ik,hx];rfl
  have iH:x∈Qa Q1 Q2:=S.mem x (by unfold Qb;rw[Ik,hx];simp);rw[hfo];have ho:=T7 vQ.tr _ hf;dsimp only at ho;have hv:v∈g.t.vals:=by
   have:=T6 g.t;rw[hf]at this
   cases hvl:g.t.vals with
   | nil=>rw[hvl]at this;simp at this
   | cons u vs=>rw[hvl]at this;simp at this;rw[this];exact Eu
  rw[hq,hx]at ho;rcases ho.2 with ⟨_,h0⟩ | ⟨gg,cap,cur,rfl,_,hg,_,_,hcs,ht⟩
  ·simp at h0
  have hc0:w1.cell? ⟨gg,0,none⟩=some (.int .u64 x.id):=by
   rw[cell_of_row _ _ _ _ _ _ hg,<-Array.getElem?_toList];have h2:(cur.toList.take (((x :: rq).map (·.id)).length*1))[0]? = (idV ((x :: rq).map (·.id)))[0]?:=by rw[ht]
   rw[List.getElem?_take,Sx (by simp)]at h2;rw[h2];rfl
  have hft:=S.ft gg (.inr (.inr (.inr ⟨_,hv,rfl⟩)));have hgl:gg<w.heap.size:=H.lt gg hft;have hne:∀j,Kf p m ms g1 g2 j->¬j=w.heap.size:=λj hj e=>by have:=H.lt j hj;omega
  have kW:Hid (∀W,(Fr (·=w.heap.size) w1 W/\∃z0,Cl 38 W w.heap.size (OC z0))->W.cell? ⟨p,0,none⟩=some (.map (some m))):=Ou λW hW=>(((H.below hb).fr hW.1 hne).bookp.c 0).trans rfl;have kZ:Hid (∀W,(Fr (·=w.heap.size) w1 W/\∃z0,Cl 38 W w.heap.size (OC z0))->W.cell? ⟨gg,0,none⟩=some (.int .u64 x.id)):=Ou λW hW=>by
   have e:=hW.1.block gg (Qc hg) Oz;have:W.heap[gg]? = some (.cells cur 35 (0,0)):=e.trans hg;rw[cell_of_row _ _ _ _ _ _ this,<-cell_of_row _ _ _ _ _ _ hg];exact hc0
  have oG:Hid (∀W,(Fr (·=w.heap.size) w1 W/\∃z0,Cl 38 W w.heap.size (OC z0))->(Instr.lookup 133 (.map (some m)) (.int .u64 x.id) false).run prog W=.ok (.agg (OC x)) W):=Ou λW hW=>by
   have G:=(H.below hb).fr hW.1 hne;have:=Xw (G.gk.om _ _ rfl) G.om x.id (Jw (G.ok x iH).1.1);rw[(Z2 G.ids).2 ⟨iH,rfl⟩]at this;exact this
  have nJ:((x :: rq).map (·.id)).length=rq.length+1:=by simp
  rw[hq,hx,nJ]at HF;have hl0:(0:Int)<=(rq.length:Int):=by omega
  generalize rq.length=n at HF hl0;generalize x.id=xi at kZ oG;clear H S vQ hr hf hb hr2 hq hx hfo iH ho hv hg hcs ht hc0 hft hgl hne nJ;go_enter func201,ntmps201;go_wp2_with fail
  ((with_reducible refine HS.out.mono ?_);rintro e w2 ⟨rfl,rfl⟩);go_wp2_with fail
  ((with_reducible refine HF.out.mono ?_);rintro e w2 ⟨rfl,rfl⟩;dsimp only[Vq]);go_wp2_with fail
  refine wp_region_held_drew (S:=λW=>Fr (·=w.heap.size) w1 W/\∃z0,Cl 38 W w.heap.size (OC z0)) Ow (by exact⟨Fr.drew (Fr.refl _ _),_,Qh gS.out⟩) (λhHeld=>?_);refine tkA 0 ?_;refine tkA 1 ?_;refine tkA 2 ?_;refine tkH 3 ?_ ?_ Ov ?_;rotate_left
  ·(intro w hSw;have hs:=kW.out _ hSw;(try dsimp only at hSw);go_simp;try with_reducible rfl)
  (try simp only[zz]);refine tkA 4 ?_;refine tkA 5 ?_;refine tkH 6 ?_ ?_ Ov ?_;rotate_left
  ·(intro w hSw;have hs:=kZ.out _ hSw;(try dsimp only at hSw);go_simp;try with_reducible rfl)
  (try simp only[zz]);refine tkH 7 ?_ ?_ Ov ?_;rotate_left
  ·(intro w hSw;have hs:=oG.out _ hSw;(try dsimp only at hSw);go_simp;try with_reducible rfl)
  (try simp only[zz]);refine rdH 8 (λK hK=>?_);((with_reducible apply V6);rfl;rfl;rfl;rfl;exact Qh gS.out;skip);refine hK.out _ _ (by exact⟨XA (Fr.drew (Fr.refl _ _)),_,setRow_heap _ _ _ _ _ _ (Qh gS.out)⟩) (λhHeld=>?_);clear hK K;(try simp only[zz]);refine tkA 9 ?_;(try simp only[zz]);refine wpAnyH_done Ow ?_ _;go_wp2_with fail
  have hX:Cl 38 (w1.drew.setRow w.heap.size (OC x)) w.heap.size (OC x):=setRow_heap _ _ _ _ _ _ (Qh gS.out);refine bodyPost_ret (ZK rfl _ _ _ rfl x _ hX _ rfl) rfl ?_;exact⟨rfl,Ou (HB.out.trans (hHeld.1.below (λk hk=>by rw[hk];exact Sq _) (by rw[<-hw1];simp)))⟩
def V7 (Q1 Q2:List Rw)(sd:Int):Option Od:=Vu (rsq Q1 Q2 sd)
theorem qii (p m ms:Nat)(D:DataW Value)(g1 g2:Sg)(Q1 Q2:List Rw)(sd:Int)(hs:(Lit.int .i64 sd).wf=true)(w:World)(H:GW w p m ms D g1 g2 Q1 Q2) :
  Calls prog 201 #[.pointer (some ⟨p,0,none⟩),.int .i64 sd] w λe w'=>e=.returned (.tuple #[QG (V7 Q1 Q2 sd),.bool (V7 Q1 Q2 sd).isSome])/\Hid (Ok w w'):=by
 unfold V7 rsq
 by_cases h1:sd=1
 ·subst h1;rw[Sx rfl];exact qaJ p m ms D g1 g2 Q1 Q2 1 g1 Q1 w H H.own1
 rw[Sw h1]
 by_cases h2:sd=2
 ·subst h2;rw[Sx rfl];exact qaJ p m ms D g1 g2 Q1 Q2 2 g2 Q2 w H H.own2
 rw[Sw h2]
 exact qih _ _ D g1 g2 sd ⟨h1,h2⟩ hs w H.gk
theorem qij (p m ms:Nat)(D:DataW Value)(g1 g2:Sg)(Q1 Q2:List Rw)(sd pr:Int)(hs:(Lit.int .i64 sd).wf=true)(w:World)(H:GW w p m ms D g1 g2 Q1 Q2) :
  Calls prog 205 #[.pointer (some ⟨p,0,none⟩),.int .i64 sd,.int .i64 pr] w λe w'=>∃v,e=.returned v/\Hid (w'.ownsRow w.heap.size 38 6 v (atP pr (rsq Q1 Q2 sd)).length (ol (atP pr (rsq Q1 Q2 sd)))/\Ok w w'):=by
 unfold rsq
 by_cases h1:sd=1
 ·subst h1;rw[Sx rfl];exact qaF p m ms D g1 g2 Q1 Q2 1 pr g1 Q1 w H H.own1
 rw[Sw h1]
 by_cases h2:sd=2
 ·subst h2;rw[Sx rfl];exact qaF p m ms D g1 g2 Q1 Q2 2 pr g2 Q2 w H H.own2
 rw[Sw h2]
 refine(qif _ _ D g1 g2 sd pr ⟨h1,h2⟩ hs w H.gk).mono ?_
 rintro e w' ⟨v,rfl,h⟩
 exact⟨v,rfl,h⟩
theorem qik (W:World)(ob bb qb p m g n c i:Nat)(o x:Od)(hi:i<n)(h1:Cl 38 W ob (OC o))(h2:Cl 104 W bb #[.pointer (some ⟨p,0,none⟩)])(h3:Cl 124 W qb #[.slice (some ⟨g,0,none⟩) n c])
  (hp:W.cell? ⟨p,0,none⟩=some (.map (some m))/\p<W.heap.size) (hx:W.cell? ⟨g,i,none⟩=some (.int .u64 x.id)/\g<W.heap.size)
  (hl:∀W',Gw W W'->(Instr.lookup 133 (.map (some m)) (.int .u64 x.id) false).run prog W'=.ok (.agg (OC x)) W') :
  Calls prog 219 #[.int .i64 i,.pointer (some ⟨ob,0,none⟩),.pointer (some ⟨bb,0,none⟩),.pointer (some ⟨qb,0,none⟩)] W λe w'=>e=.returned (.bool (Qt o x))/\Gw W w':=by
 have HO:Hid (∀W',Gw W W'->Cl 38 W' ob (OC o)):=Ou λW' h=>(h.b.block _ (Qc h1)).trans h1
 have HB:Hid (∀W',Gw W W'->W'.cell? ⟨bb,0,none⟩=some (.pointer (some ⟨p,0,none⟩))):=Ou λW' h=>(h.b.cell (p:=⟨bb,0,none⟩) (Qc h2)).trans ((h2.c 0).trans rfl)
 have HP:Hid (∀W',Gw W W'->W'.cell? ⟨p,0,none⟩=some (.map (some m))):=Ou λW' h=>(h.b.cell (p:=⟨p,0,none⟩) hp.2).trans hp.1
 have HQ:Hid (∀W',Gw W W'->W'.cell? ⟨qb,0,none⟩=some (.slice (some ⟨g,0,none⟩) n c)):=Ou λW' h=>(h.b.cell (p:=⟨qb,0,none⟩) (Qc h3)).trans ((h3.c 0).trans rfl)
 have HX:Hid (∀W',Gw W W'->W'.cell? ⟨g,i,none⟩=some (.int .u64 x.id)):=Ou λW' h=>(h.b.cell (p:=⟨g,i,none⟩) hx.2).trans hx.1
 have HL:=Ou hl
 have HA:=Ou (λW'=>DO o.id o.acc o.side o.price o.qty o.seq x.id x.acc x.side x.price x.qty x.seq W')
 have hr:VF o.id o.side o.price o.seq x.id x.side x.price x.seq=Qt o x:=rfl
 rw[hr]at HA
 generalize Qt o x=r at HA ⊢
 have q1:(i:Int)<(n:Int):=by omega
 have q2:(0:Int)<=(i:Int):=by omega
 clear h1 h2 h3 hp hx hl hr hi
 go_enter func219,ntmps219
 go_wp2_with fail
 refine wp_region_held_drew (S:=λW'=>Gw W W') Ow (by exact⟨(Oq _ _).drew,Fq _⟩) (λhHeld=>?_)
 refine tkH 0 ?_ ?_ Ov ?_
 rotate_left
 ·(intro w hSw;obtain⟨x0,x1,x2,x3,x4,x5⟩:=Qm (HO.out _ hSw);(try dsimp only at hSw);go_simp;try with_reducible rfl)
 (try simp only[zz])
 refine tkH 1 ?_ ?_ Ov ?_
 rotate_left
 ·(intro w hSw;have hs:=HB.out _ hSw;(try dsimp only at hSw);go_simp;try with_reducible rfl)
 (try simp only[zz])
 refine tkA 2 ?_
 refine tkA 3 ?_
 refine tkH 4 ?_ ?_ Ov ?_
 rotate_left
 ·(intro w hSw;have hs:=HP.out _ hSw;(try dsimp only at hSw);go_simp;try with_reducible rfl)
 (try simp only[zz])
 refine tkH 5 ?_ ?_ Ov ?_
 rotate_left
 ·(intro w hSw;have hs:=HQ.out _ hSw;(try dsimp only at hSw);go_simp;try with_reducible rfl)
 (try simp only[zz])
 refine tkA 6 ?_
 refine tkA 7 ?_
 refine tkH 8 ?_ ?_ Ov ?_
 rotate_left
 ·(intro w hSw;have hs:=HX.out _ hSw;(try dsimp only at hSw);go_simp;try with_reducible rfl)
 (try simp only[zz])
 refine tkH 9 ?_ ?_ Ov ?_
 rotate_left
 ·(intro w hSw;have hs:=HL.out _ hSw;(try dsimp only at hSw);go_simp;try with_reducible rfl)
 (try simp only[zz])
 refine rdH 10 (λK hK=>?_)
 go_simp
 ((with_reducible refine(HA.out _).mono ?_);rintro e y1 ⟨rfl,hg'⟩;have hg:=Ou hg';clear hg')
 refine hK.out _ _ (by exact hHeld.trans hg.out) (λhHeld=>?_)
 clear hK K
 (try simp only[zz])
 refine tkA 11 ?_
 (try simp only[zz])
 refine wpAnyH_done Ow ?_ _
 go_wp2_with fail
 go_ret
 exact⟨rfl,hHeld⟩
theorem ZS {T:TypeId}{w:World}{c m n:Nat}{cs:Array Value}{P:Program}{K:TypeId}{R:Value->Option (DataW Value×List MemPlace)}{D:DataW Value}(h:Cl T w c cs)(hm:w.ownsMap P K R m n D):c≠m:=by
 rintro rfl
 obtain⟨es,clock,hb,_⟩:=hm
 rw[h]at hb
 cases hb
theorem TrIn.vcl {W:World}:∀{t:Tr},TrIn W t->∀v∈t.vals,∀k,v.ownBlock=some k->∃cur,Cl 35 W k cur
 | .nil,_,v,h=>(by cases h)
 | .node a k v q l r,h,u,hu=>by
  unfold Tr.vals at hu;rcases List.mem_append.1 hu with hu|hu
  ·exact TrIn.vcl h.2.2.1 u hu
  ·rcases List.mem_cons.1 hu with rfl|hu
   ·intro j hj;rcases h.2.1.2 with ⟨rfl,_⟩ | ⟨g,cap,cur,rfl,_,hg,_⟩
    ·cases hj
    ·injection hj with hj;subst hj;exact⟨cur,hg⟩
   ·exact TrIn.vcl h.2.2.2 u hu
theorem SgIn.cl {w:World}{s:Int}{g:Sg}(h:SgIn w s g):∀k,QF g k->∃T cs,Cl T w k cs:=by
 rintro k (rfl|rfl|hk | ⟨v,hv,hk⟩)
 ·exact⟨_,_,h.box⟩
 ·exact⟨_,_,h.cx⟩
 ·obtain⟨cs,hc⟩:=h.tr.at_ k hk;exact⟨_,cs,hc⟩
 ·obtain⟨cs,hc⟩:=h.tr.vcl v hv k hk;exact⟨_,cs,hc⟩
theorem SgIn.no_map {w:World}{s:Int}{g:Sg}(h:SgIn w s g){m n:Nat}{P:Program}{K:TypeId}{R:Value->Option (DataW Value×List MemPlace)}{D:DataW Value}(hm:w.ownsMap P K R m n D):∀k,QF g k->k≠m:=by
 intro k hk
 obtain⟨T,cs,hc⟩:=h.cl k hk
 exact ZS hc hm
theorem SgIn.keep {S:Nat->Prop}{w w':World}{s:Int}{g:Sg}(h:SgIn w s g)(hf:Fr S w w')(hn:∀k,QF g k->¬S k):SgIn w' s g :=
 h.fr hf (hn _ (.inl rfl)) (hn _ (.inr (.inl rfl))) (λb hb=>hn b (.inr (.inr (.inl hb)))) (λv hv k hk=>hn k (.inr (.inr (.inr ⟨v,hv,hk⟩))))
theorem Zx {row:Nat}{w w':World}(h:w.grownBy w' (some row)):Fr (·=row) w w':=⟨h.os,h.tape,h.output,h.size,λk hk hn=>h.block k hk (λe=>hn (by injection e))⟩
theorem qil {S:Nat->Prop}{w w':World}(h:w.grownBy w' none):Fr S w w':=⟨h.os,h.tape,h.output,h.size,λk hk _=>h.block k hk Oy⟩
theorem Gk.setom {w w':World}{p m ms:Nat}{D D':DataW Value}{g1 g2:Sg}(h:Gk w (some ⟨p,0,none⟩) (some (m,ms)) D g1 g2)(hg:w.grownBy w' (some m))(ho:w'.ownsMap prog 35 RV m 64 D')(hm:m≠ms):Gk w' (some ⟨p,0,none⟩) (some (m,ms)) D' g1 g2:=by
 have hf:=Zx hg
 refine⟨?_,λa b e=>?_,λa b e=>?_,λe=>?_,λe=>?_⟩
 ·rcases h.shape with ⟨h0,_⟩ | ⟨q,hq,hc⟩
  ·cases h0
  ·exact .inr ⟨q,hq,hf.blk hc (ZS hc (h.om _ _ rfl))⟩
 ·injection e with e;injection e with e1 e2;subst e1;exact ho
 ·have:=h.sm a b e;injection e with e;injection e with e1 e2;subst e2;exact QS this hf (λe=>hm e.symm)
 ·exact(h.s1 e).keep hf (λk hk=>(h.s1 e).no_map (h.om _ _ rfl) k hk)
 ·exact(h.s2 e).keep hf (λk hk=>(h.s2 e).no_map (h.om _ _ rfl) k hk)
theorem Gj:∀(c:Cx) (t:Tr),(c.plug t).vals.Perm (t.vals++c.vals)
 | .top,t=>by simp[Cx.plug,Cx.vals]
 | .left a key v q r c,t=>by
  refine(Gj c _).trans ?_;simp only[Tr.vals,Cx.vals,St,Ew];exact List.Perm.refl _
 | .right a key v q l c,t=>by
  refine(Gj c _).trans ?_;simp only[Tr.vals,Cx.vals,St,Ew];exact List.perm_middle.trans ((List.Perm.cons v (List.perm_append_comm_assoc l.vals t.vals c.vals)).trans List.perm_middle.symm)
theorem Gl:∀(c:Cx) (t t':Tr),t.blks=t'.blks->(c.plug t).blks=(c.plug t').blks
 | .top,t,t',h=>h
 | .left a key v q r c,t,t',h=>Gl c _ _ (by simp only[Tr.blks,h])
 | .right a key v q l c,t,t',h=>Gl c _ _ (by simp only[Tr.blks,h])
theorem qim {W W':World}{g:Sg}{s key:Int}{c:Cx}{a b0:Nat}{v:Value}{q q':List Int}{l r:Tr}(hS:SgIn W s g)(hI:SpI W g.tb g.sb s key g.t c (.node a key v q l r))(hv:v.ownBlock=some b0)(cU:VD g.t.vals)(hf:Fr (·=b0) W W')(hq:W'.ownsRow 0 35 1 v q'.length (idV q')) :
  SgIn W' s ⟨g.tb,g.sb,c.plug (.node a key v q' l r)⟩/\(c.plug (.node a key v q' l r)).vals=g.t.vals/\(c.plug (.node a key v q' l r)).blks=g.t.blks/\(c.plug (.node a key v q' l r)).items=g.t.items:=by
 have hvv:=hI.tr.2.1
 obtain⟨cur,hcur⟩:∃cur,Cl 35 W b0 cur:=by
  rcases hvv.2 with ⟨rfl,_⟩ | ⟨gg,cap,cur,rfl,_,hg,_⟩
  ·cases hv
  ·injection hv with hv;subst hv;exact⟨cur,hg⟩
 have hp0:g.t.vals.Perm ((Tr.node a key v q l r).vals++c.vals):=by rw[<-hI.eq];exact Gj c _
 have hVP:=cU.perm hp0
 simp only[Tr.vals,St,Ew]at hVP
 have hVQ:VD (v :: (l.vals++(r.vals++c.vals))):=hVP.perm Ps
 have hno:∀u∈l.vals++(r.vals++c.vals),∀k,u.ownBlock=some k->¬k=b0:=λu hu k hk e=>by
  subst e;exact(List.pairwise_cons.1 hVQ).1 u hu k hv hk
 have cne:∀{T:TypeId} {k:Nat} {cs:Array Value},35≠T->Cl T W k cs->¬k=b0:=λhT hc e=>by
  subst e;have e2:some _=some _:=Eq.trans (Eq.symm hc) hcur;injection e2 with e2;injection e2 with _ e2 _;exact hT e2.symm
 have hblk:∀b∈g.t.blks,¬b=b0:=λb hb=>by
  obtain⟨cs,hc⟩:=hS.tr.at_ b hb;exact cne Ox hc
 have hB:=Jj c (.node a key v q l r)
 rw[hI.eq]at hB
 have tS:∀b∈(Tr.node a key v q l r).blks++c.blks,¬b=b0:=λb hb=>hblk b (hB.mem_iff.2 hb)
 simp only[Tr.blks,St,Ew]at tS
 have i6:¬g.tb=b0:=cne Ox hS.cx
 have cx':CxIn W' g.tb g.sb c (.pointer (some ⟨a,0,none⟩)):=CxIn.fr hf i6 hI.cx (λb hb=>tS b (by simp[hb])) (λu hu k hk=>hno u (by simp[hu]) k hk)
 have tr':TrIn W' (.node a key v q' l r):=⟨hf.blk hI.tr.1 (tS a Oy),hq,TrIn.fr hf hI.tr.2.2.1 (λb hb=>tS b (by simp[hb])) (λu hu k hk=>hno u (by simp[hu]) k hk),TrIn.fr hf hI.tr.2.2.2 (λb hb=>tS b (by simp[hb])) (λu hu k hk=>hno u (by simp[hu]) k hk)⟩
 have hp:=Kc (t:=.node a key v q' l r) cx' tr'
 obtain⟨A,C,hpv⟩:=JZ c
 obtain⟨A2,C2,hpi⟩:=Vp c
 have ev:(c.plug (.node a key v q' l r)).vals=g.t.vals:=by rw[<-hI.eq,hpv,hpv];rfl
 have eb:(c.plug (.node a key v q' l r)).blks=g.t.blks:=by rw[<-hI.eq];exact Gl c _ _ rfl
 have ei:(c.plug (.node a key v q' l r)).items=g.t.items:=by rw[<-hI.eq,hpi,hpi];rfl
 have hbox:Cl 3 W' g.sb #[.int .i64 s]:=hf.blk hS.box (cne Ox hS.box)
 have hsrt:Srt s (c.plug (.node a key v q' l r)).rows:=by
  have h:=hS.srt;rw[<-hI.eq,Zs]at h;rw[Zs];unfold Srt at h ⊢;simp only[Tr.rows,St,Ew]at h ⊢;have h2:=(Mj (f:=λx:Rq=>x.1) (R:=λx y=>Qf s x y=true)).2 h;refine(Mj (f:=λx:Rq=>x.1) (R:=λx y=>Qf s x y=true)).1 ?_;simpa using h2
 exact⟨⟨hbox,hp.1,hp.2,hsrt,by rw[eb];exact hS.nd⟩,ev,eb,ei⟩
theorem qin {w:World}{g n k c:Nat}{xs:List Int}(h:w.ownsRow 0 35 1 (.slice (some ⟨g,0,none⟩) n c) n (idV xs))(hk:k<=n):w.ownsRow 0 35 1 (.slice (some ⟨g,0,none⟩) k c) k (idV (xs.take k)):=by
 have hl:=h.1
 simp only[idV,Fv]at hl
 rcases h.2 with ⟨hv,_⟩ | ⟨g',cap,cur,hv,hb,hg,hnc,hcm,hcs,ht⟩
 ·cases hv
 ·injection hv with e1 _ e3;injection e1 with e1;injection e1 with e1;subst e1 e3;refine⟨by simp[idV];omega,.inr ⟨g,c,cur,rfl,hb,hg,by omega,hcm,hcs,?_⟩⟩;have h2:(cur.toList.take (n*1)).take k=(idV xs).take k:=by rw[ht]
  rw[Nj,Pz (by omega)]at h2;rw[Mx,h2];simp[idV,List.map_take]
def Gm (pr:Int)(q:List Int):Rw:=⟨pr,.slice none 0 0,q.map λi=>⟨i,0,0,0,0,0⟩⟩
theorem qio (pr:Int)(q:List Int):QH (Gm pr q)=(pr,q):=by
 unfold QH Gm
 simp[List.map_map,Function.comp_def]
structure Rew (Wj:World) (s pr:Int) (g:Sg) (A M B:List Rw) (T:Tr):Prop where
 sg:SgIn Wj s ⟨g.tb,g.sb,T⟩
 vals:T.vals=g.t.vals
 blks:T.blks=g.t.blks
 items:T.items=g.t.items
 rows:∃M',T.rows=(A++M'++B).map QH/\∀a∈M',a.pr=pr
theorem qip {Wj W:World}{s pr:Int}{g:Sg}{A M B:List Rw}(hS:SgIn W s g)(hf:Fr (λ_=>False) W Wj)(e:g.t.rows=(A++M++B).map QH)(hM:∀a∈M,a.pr=pr):Rew Wj s pr g A M B g.t :=
 ⟨hS.keep hf (λ_ _ h=>h),rfl,rfl,rfl,M,e,hM⟩
theorem qaK {Wj W:World}{s pr:Int}{g:Sg}{A B:List Rw}{m:Rw}{c:Cx}{a b0:Nat}{v:Value}{q q':List Int}{l r:Tr}(hS:SgIn W s g)(hI:SpI W g.tb g.sb s pr g.t c (.node a pr v q l r))(hv:v.ownBlock=some b0)(cU:VD g.t.vals)(hf:Fr (·=b0) W Wj)(hq:Wj.ownsRow 0 35 1 v q'.length (idV q'))
  (hA:A.map QH=c.pre++l.rows) (hB:B.map QH=r.rows++c.post):Rew Wj s pr g A [m] B (c.plug (.node a pr v q' l r)):=by
 obtain⟨h1,h2,h3,h4⟩:=qim hS hI hv cU hf hq
 refine⟨h1,h2,h3,h4,[Gm pr q'],?_,λa ha=>by rw[List.mem_singleton.1 ha];rfl⟩
 rw[Zs,Mw,Mw,hA,hB]
 simp[Tr.rows,qio]
theorem qiq (o:Od)(q:List Od):(idV (q.map (·.id))).take (plN o q*1)++[.int .u64 o.id]++(idV (q.map (·.id))).drop (plN o q*1)=idV ((QQ o q).map (·.id)):=by
 unfold QQ idV
 simp[List.map_take,List.map_drop]
theorem qir {W w':World}{sd:Int}{tb sb:Nat}{g:Sg}{A M B:List Rw}{o:Od}{Tw T':Tr}{v':Value}{ids:List Int}(hQ:SideOk sd (A++M++B))(hA:∀a∈A,Qf sd a.pr o.price=true)(hB:∀b∈B,Qf sd o.price b.pr=true)
  (hM:M=[]∨∃m,M=[m]/\m.pr=o.price) (hR:Rew W sd o.price g A M B Tw) (hP:TPut W w' tb sb sd o.price Tw T' v' ids) (cA:ids=(QQ o (Qb M)).map (·.id)) :
  ∃Q',T'.rows=Q'.map QH/\KW sd o (A++M++B) Q':=by
 obtain⟨M',e,tW⟩:=hR.rows
 obtain⟨P,R,Z,h1,h2,h3,uA,iE⟩:=hP.rows
 rw[e]at h1
 obtain⟨e1,e2,e3⟩:=Gf rfl hA tW hB h1 uA (λa ha=>by rcases h3 with h3 | ⟨q0,h3⟩<;>(rw[h3]at ha;simp at ha);rw[ha]) iE
 refine⟨A++⟨o.price,.slice none 0 0,QQ o (Qb M)⟩ :: B,?_,A,B,_,M,rfl,rfl,rfl,hA,hB,?_⟩
 ·rw[h2,<-e1,<-e3,cA];simp[QH]
 ·rcases hM with rfl | ⟨m,rfl,hm⟩
  ·refine .inl ⟨rfl,?_⟩;show QQ o []=[o];simp[QQ]
  ·refine .inr ⟨m,rfl,hm,?_⟩;show QQ o (Qb [m])=QQ o m.q;simp[Qb]
theorem V8:∀t:Tr,t.items.map Prod.fst=t.rows.map Prod.fst
 | .nil=>rfl
 | .node a k v q l r=>by simp[Tr.items,Tr.rows,V8 l,V8 r]
theorem qaL {s:Int}{t:Tr}(h:Srt s t.rows){k:Int}{u v:Value}(h1:(k,u)∈t.items)(h2:(k,v)∈t.items):u=v:=by
 have irr:¬Qf s k k=true:=by rw[JS];omega
 have hp:(t.items.map Prod.fst).Pairwise (λx y=>Qf s x y=true):=by
  rw[V8];exact List.pairwise_map.2 h
 rw[Mj]at hp
 revert h1 h2 hp
 generalize t.items=R
 intro h1 h2 hp
 induction R with
 | nil=>cases h1
 | cons x R ih =>
  obtain⟨hx,hR⟩:=List.pairwise_cons.1 hp;rcases List.mem_cons.1 h1 with e1|h1
  ·rcases List.mem_cons.1 h2 with e2|h2
   ·rw[<-e1]at e2;exact(Prod.mk.inj e2).2.symm
   ·have:=hx _ h2;rw[<-e1]at this;exact absurd this irr
  ·rcases List.mem_cons.1 h2 with e2|h2
   ·have:=hx _ h1;rw[<-e2]at this;exact absurd this irr
   ·exact ih h1 h2 hR
section
variable {ops:Array Oper}{o:Oper}{a:Act}{w:World}{Q:Exit → Act → World → Prop}
theorem qaM {K:Act->World->Prop}{E:Prop}(hgd:Region.wanted o (yielded ops a.tmps)=true)(t:TypeId)(x y z:Operand)(ho:o.op=.mapUpdate t x y z)(mv kv vv:Value)(hx:a.eval x=mv)(hy:a.eval y=kv)(hz:a.eval z=vv){w':World}
  (hr:(Instr.mapUpdate t mv kv vv).run prog w=.ok () w') (h:K (a.put o.dst undef) w'):if Region.wanted o (yielded ops a.tmps)=true then Oper.wp prog o a w K Q else E:=by
 rw[Sx hgd]
 unfold Oper.wp
 simp[execOp,ho,hx,hy,hz,hr,Result.andThen]
 exact h
end
theorem qaN {p m ms:Nat}{D:DataW Value}{g1 g2:Sg}{sd:Int}{g:Sg}(h12:(sd=1/\g=g1)∨(sd=2/\g=g2))(W:World)(hG:Gk W (some ⟨p,0,none⟩) (some (m,ms)) D g1 g2) :
  Calls prog 210 #[.pointer (some ⟨p,0,none⟩),.int .i64 sd] W λe w'=>e=.returned (.pointer (some ⟨g.tb,0,none⟩))/\W=w':=by
 have hwf:(Lit.int .i64 sd).wf=true:=by rcases h12 with ⟨rfl,_⟩ | ⟨rfl,_⟩<;>decide
 refine(V3 _ _ D g1 g2 sd W hwf hG).mono ?_
 rintro e w' ⟨g',rfl,hg⟩
 cases hg.out with
 | own1 _ h1 hw=>rcases h12 with ⟨_,rfl⟩ | ⟨h2,_⟩;exact⟨rfl,hw⟩;omega
 | own2 _ h1 hw=>rcases h12 with ⟨h2,_⟩ | ⟨_,rfl⟩;omega;exact⟨rfl,hw⟩
 | new h1 _ _=>rcases h1 with h1|h1;cases h1;rcases h12 with ⟨h2,_⟩ | ⟨h2,_⟩;exact absurd h2 h1.1;exact absurd h2 h1.2
def XB (w4 w5:World)(qv v':Value)(n:Nat)(ids:List Int):Prop :=
 Hid (w5.ownsRow 0 35 1 v' (n+1) (idV ids)/\w4.grownBy w5 qv.ownBlock/\((v'.ownBlock=some w4.heap.size/\w4.grownBy w5 none)∨∃g c,qv=.slice (some ⟨g,0,none⟩) n c/\v'=.slice (some ⟨g,0,none⟩) (n+1) c))
theorem qis {w1 w4 w5:World}{s pr:Int}{g:Sg}{A M B:List Rw}{c:Cx}{t:Tr}{n:Nat}{v':Value}{ids:List Int}(hS:SgIn w1 s g)(hI:SpI w1 g.tb g.sb s pr g.t c t)(cU:VD g.t.vals)(e:g.t.rows=(A++M++B).map QH)
  (hM:(t=.nil/\M=[])∨∃a v q l r m,t=.node a pr v q l r/\M=[m]/\m.pr=pr/\q=m.q.map (·.id)/\A.map QH=c.pre++l.rows/\B.map QH=r.rows++c.post)
  (hf:Fr (λ_=>False) w1 w4) (h:XB w4 w5 t.val v' n ids) :
  ∃Tw,Rew w5 s pr g A M B Tw/\((∃j,w1.heap.size<=j/\v'.ownBlock=some j)∨∃u,(pr,u)∈g.t.items/\v'.ownBlock=u.ownBlock)/\Fr (QF g) w1 w5:=by
 obtain⟨k1,k2,k3⟩:=h.out
 rcases k3 with ⟨k3,k4⟩ | ⟨b0,cc,k3,k4⟩
 ·have uQ:Fr (λ_=>False) w1 w5:=hf.trans (qil (S:=λ_=>False) k4) (λ_ h=>.inl h);exact⟨g.t,qip hS uQ e (λa ha=>by rcases hM with ⟨_,rfl⟩ | ⟨_,_,_,_,_,m,_,rfl,hm,_⟩;cases ha;rw[List.mem_singleton.1 ha];exact hm),.inl ⟨_,hf.size,k3⟩,uQ.mono (λ_ h=>h.elim)⟩
 ·rcases hM with ⟨rfl,_⟩ | ⟨a,v,q,l,r,m,rfl,rfl,hm,hq,hA,hB⟩
  ·cases k3
  ·have hv:v=.slice (some ⟨b0,0,none⟩) n cc:=k3;have hvb:v.ownBlock=some b0:=by rw[hv];rfl
   have hval:(Tr.node a pr v q l r).val=v:=rfl;rw[hval,hvb]at k2;rw[k4]at k1;have hl:=k1.1;simp only[idV,Fv]at hl;have hq':=qin k1 (k:=n) Oz;rw[<-hv]at hq';have gX:(ids.take n).length=n:=by rw[Wy];omega
   have uQ:Fr (·=b0) w1 w5:=(hf.mono (λ_ h=>h.elim)).trans (Zx k2) (λ_ h=>.inl h);obtain⟨A2,C2,hpi⟩:=Vp c;have hmem:(pr,v)∈g.t.items:=by rw[<-hI.eq,hpi];simp[Tr.items]
   obtain⟨A3,C3,hpv⟩:=JZ c;have hvm:v∈g.t.vals:=by rw[<-hI.eq,hpv];simp[Tr.vals]
   exact⟨_,qaK hS hI hvb cU uQ (by rw[gX];exact hq') hA hB,.inr ⟨v,hmem,by rw[k4,hvb];rfl⟩,uQ.mono (λk h=>.inl (.inr (.inr (.inr ⟨v,hvm,by rw[hvb,h]⟩))))⟩
theorem K1 {T T':TypeId}{w:World}{k k':Nat}{cs cs':Array Value}(h:Cl T w k cs)(h':Cl T' w k' cs')(hT:T≠T'):¬k=k':=by
 rintro rfl
 have e2:some _=some _:=Eq.trans (Eq.symm h) h'
 injection e2 with e2
 injection e2 with _ e2 _
 exact hT e2
theorem KD {w:World}{s:Int}{g:Sg}{T:TypeId}{k:Nat}{cs:Array Value}(h:SgIn w s g)(hc:Cl T w k cs)(h1:T≠156)(h2:T≠278):¬(k=g.tb∨k∈g.t.blks):=by
 rintro (rfl|hk)
 ·exact K1 hc h.cx h1 rfl
 ·obtain⟨cs',hc'⟩:=h.tr.at_ k hk;exact K1 hc hc' h2 rfl
def XC (w w':World)(m:Nat)(sd:Int)(g:Sg)(Q:List Rw)(L:List Od)(o:Od):Prop:=∃D' T' Q' v',
 w'.ownsMap prog 35 RV m 64 D'/\OmT D' (o :: L)/\SgIn w' sd ⟨g.tb,g.sb,T'⟩/\T'.rows=Q'.map QH/\KW sd o Q Q'/\(∀b∈T'.blks,b∈g.t.blks∨w.heap.size<=b) /\
 (∃A B C,g.t.vals=A++B++C/\T'.vals=A++v' :: C/\((∃j,w.heap.size<=j/\v'.ownBlock=some j)∨∃u,B=[u]/\v'.ownBlock=u.ownBlock))/\Fr (λk=>k=m∨QF g k) w w'
theorem qit {w w0 w1 w5 w6:World}{m ms p:Nat}{D D':DataW Value}{g1 g2:Sg}{Q1 Q2:List Rw}{g:Sg}{Q A M B:List Rw}{o:Od}{Tw T':Tr}{v':Value}
  (S:OwnS w p m ms D g1 g2 Q1 Q2 o.side g Q) (b0:Ok w w0) (fK:w0.grownBy w1 (some m)) (fP:SgIn w1 o.side g) (dS:w1.ownsMap prog 35 RV m 64 D') (aT:OmT D' (o :: Qa Q1 Q2)) (bR:Q=A++M++B) (hA:∀a∈A,Qf o.side a.pr o.price=true) (hB:∀b∈B,Qf o.side o.price b.pr=true)
  (hM:M=[]∨∃m,M=[m]/\m.pr=o.price) (hR:Rew w5 o.side o.price g A M B Tw) (hN:((∃j,w1.heap.size<=j/\v'.ownBlock=some j)∨∃u,(o.price,u)∈g.t.items/\v'.ownBlock=u.ownBlock)/\Fr (QF g) w1 w5)
  (h6:TPut w5 w6 g.tb g.sb o.side o.price Tw T' v' ((QQ o (Qb M)).map (·.id))):XC w w6 m o.side g Q (Qa Q1 Q2) o:=by
 have pI:Fr (QF g) w5 w6:=h6.fr.mono (λk hk=>.inl (by
  rcases hk with rfl|hk
  ·exact .inr (.inl rfl)
  ·rw[hR.blks]at hk;exact .inr (.inr (.inl hk))))
 have iG:Fr (QF g) w1 w6:=hN.2.trans pI (λ_ h=>.inl h)
 have hz1:w.heap.size<=w1.heap.size:=Sk b0.size fK.size
 have n9:Cl 3 w6 g.sb #[.int .i64 o.side]:=h6.fr.blk hR.sg.box (KD hR.sg hR.sg.box Ox Ox)
 obtain⟨Q',e1,e2⟩:=qir (by rw[<-bR];exact S.ok) hA hB hM hR h6 rfl
 refine⟨D',T',Q',v',QS dS iG (λh=>fP.no_map dS m h rfl),aT,⟨n9,h6.cx,h6.tr,h6.srt,h6.nd⟩,e1,by rw[bR];exact e2,λb hb=>?_,?_,?_⟩
 ·rcases h6.bl b hb with h|h
  ·rw[hR.blks]at h;exact .inl h
  ·exact .inr (Sk hz1 (Sk hN.2.size h))
 ·obtain⟨A',B',C',k1,k2,k3⟩:=h6.vals;rw[hR.vals]at k1;refine⟨A',B',C',k1,k2,?_⟩;rcases hN.1 with ⟨j,hj,hv⟩ | ⟨u,hu,hv⟩
  ·exact .inl ⟨j,by omega,hv⟩
  ·rcases k3 with ⟨_,k3⟩ | ⟨u',rfl,k3⟩
   ·exact absurd (by rw[hR.items];exact hu) (k3 u)
   ·rw[hR.items]at k3;have:=qaL fP.srt hu k3;exact .inr ⟨u',rfl,by rw[<-this];exact hv⟩
 ·have f1:Fr (λk=>k=m∨QF g k) w w1:=(Fr.of_below (S:=λk=>k=m∨QF g k) b0).trans (Zx fK) (λk h=>.inl (.inl h));exact f1.trans iG (λk h=>.inl (.inr h))
theorem qiu {w:World}{tb sb:Nat}{s pr:Int}{T:Tr}{A M B:List Rw}{c:Cx}{t:Tr}(hI:SpI w tb sb s pr T c t)(hM:(t=.nil/\M=[])∨∃a v q l r m,t=.node a pr v q l r/\M=[m]/\m.pr=pr/\q=m.q.map (·.id)/\A.map QH=c.pre++l.rows/\B.map QH=r.rows++c.post) :
  ∃Aq cc,t.val=.slice Aq (Qb M).length cc/\w.ownsRow 0 35 1 (.slice Aq (Qb M).length cc) (Qb M).length (idV ((Qb M).map (·.id))):=by
 rcases hM with ⟨rfl,rfl⟩ | ⟨a,v,q,l,r,m,rfl,rfl,hm,rfl,_,_⟩
 ·exact⟨none,0,rfl,World.ownsRow_nil _ _ _ _⟩
 ·have e1:Qb [m]=m.q:=by simp[Qb]
  rw[e1];have ho:=hI.tr.2.1;rw[Fv]at ho;rcases ho.2 with ⟨rfl,h0⟩ | ⟨gg,cap,cur,rfl,_⟩
  ·rw[h0]at ho ⊢;exact⟨none,0,rfl,ho⟩
  ·exact⟨_,_,rfl,ho⟩
theorem qiv {sd:Int}(dJ:sd=1∨sd=2){o x:Od}(ho:o.side=sd)(hx:x.side=sd)(hp:x.price=o.price)(hi:¬x.id=o.id):Qt o x=!Qt x o:=by
 cases h:Qt x o with
 | true =>
  cases h2:Qt o x with
  | false=>rfl
  | true=>have h1:=VN h;have h2:=VN h2;rw[CT h1]at h2;cases h2
 | false=>exact CQ (hx.trans ho.symm) (by rw[hx];exact dJ) hp hi h
theorem qaO (p m ms:Nat)(D:DataW Value)(g1 g2:Sg)(Q1 Q2:List Rw)(sd:Int)(g:Sg)(Q:List Rw)(o:Od)(w:World)(H:GW w p m ms D g1 g2 Q1 Q2)(S:OwnS w p m ms D g1 g2 Q1 Q2 sd g Q)(h12:(sd=1/\g=g1)∨(sd=2/\g=g2))
  (cU:VD g.t.vals) (hs:o.side=sd) (hid:∀x∈Qa Q1 Q2,¬x.id=o.id) (hok:Od.ok w o) (hl:(Qa Q1 Q2).length<64) :
  Calls prog 209 #[.pointer (some ⟨p,0,none⟩),.agg #[.int .u64 o.id,.int .i64 o.acc,.int .i64 o.side,.int .i64 o.price,.int .i64 o.qty,.int .u64 o.seq]] w λe w'=>e=.returned (.tuple #[])/\Hid (XC w w' m sd g Q (Qa Q1 Q2) o):=by
 subst hs
 have uZ:=Vf
 have dJ:=S.s12
 obtain⟨w0,hw0⟩:∃w0,((w.alloc (.cells #[.pointer (some ⟨p,0,none⟩)] 104)).alloc (.cells (OC o) 38))=w0:=⟨_,rfl⟩
 have b0:Ok w w0:=by rw[<-hw0];exact((Oq _ _).alloc (Sq _) _).alloc Oy _
 have hz0:w0.heap.size=w.heap.size+2:=by rw[<-hw0];simp
 have cB:Cl 104 w0 w.heap.size #[.pointer (some ⟨p,0,none⟩)]:=by rw[<-hw0];exact Qp Oy (Qe rfl)
 have cO:Cl 38 w0 (w.heap.size+1) (OC o):=by rw[<-hw0];exact Qe Oy
 have H0:=H.below b0
 have wI:=H0.gk.om _ _ rfl
 have hnone:omL (Qa Q1 Q2) o.id=none:=omL_none.2 hid
 obtain⟨w1,hr,D',dS,aT,hg1⟩:=qaA (M:=o :: Qa Q1 Q2) (wI.drew) Oz H.om o (Jw hok.1) (λid=>qhZ o _ id) (by rw[hnone];simp) (by simp;omega)
 have fK:w0.grownBy w1 (some m):=⟨hg1.os,hg1.tape,hg1.output,hg1.size,hg1.block⟩
 have HR:Hid ((Instr.mapUpdate 133 (.map (some m)) (.int .u64 o.id) (.agg (OC o))).run prog w0.drew=.ok () w1):=Ou hr
 have nB:=ZS cB wI
 have nO:=ZS cO wI
 have nP:=ZS H0.bookp wI
 have HB:Hid (∀W,w0.grownBy W (some m)->W.cell? ⟨w.heap.size,0,none⟩=some (.pointer (some ⟨p,0,none⟩))):=Ou λW h=>(Cl.c ((Zx h).blk cB nB) 0).trans rfl
 have HO:Hid (∀W,w0.grownBy W (some m)->Cl 38 W (w.heap.size+1) (OC o)):=Ou λW h=>(Zx h).blk cO nO
 have HP:Hid (∀W,w0.grownBy W (some m)->W.cell? ⟨p,0,none⟩=some (.map (some m))):=Ou λW h=>(Cl.c ((Zx h).blk H0.bookp nP) 0).trans rfl
 have oF:=Ou fK
 have gk1:=H0.gk.setom fK dS H.mm
 have fP:SgIn w1 o.side g:=by
  rcases h12 with ⟨h,rfl⟩ | ⟨h,rfl⟩
  ·rw[h];exact gk1.s1 rfl
  ·rw[h];exact gk1.s2 rfl
 have cB1:=(Zx fK).blk cB nB
 have cO1:=(Zx fK).blk cO nO
 have iP:=Ou (qaN h12 w1 gk1)
 have sJ:=Ou (Xj g.tb g.sb o.side o.price g.t w1 (λ_=>dJ) fP.box fP.cx fP.tr fP.srt)
 obtain⟨x0,x1,x2,x3,x4,x5⟩:=Qm cO1
 have kB:w1.cell? ⟨w.heap.size,0,none⟩=some (.pointer (some ⟨p,0,none⟩)):=(Cl.c cB1 0).trans rfl
 have HH:=Ou (Sv H (Sv S (Sv b0 (Sv hz0 (Sv gk1 (Sv fP (Sv cB1 (Sv cO1 (Sv dS (Sv aT (Sv hid (Sv cU (Sv hok hl)))))))))))))
 clear wI H0 nB nO nP cB cO b0 hz0 gk1 fP cB1 cO1 dS aT hnone hr hg1 fK H S hid cU hok hl
 go_enter func209,ntmps209
 go_wp2_with fail
 refine wp_region_held_drew (S:=λW=>w0.grownBy W (some m)) Ow (by exact⟨rfl,rfl,rfl,Sq _,λ_ _ _=>rfl⟩) (λhHeld=>?_)
 refine tkH 0 ?_ ?_ Ov ?_
 rotate_left
 ·(intro w hSw;have hs:=HB.out _ hSw;(try dsimp only at hSw);go_simp;try with_reducible rfl)
 (try simp only[zz])
 refine tkA 1 ?_
 refine tkA 2 ?_
 refine tkH 3 ?_ ?_ Ov ?_
 rotate_left
 ·(intro w hSw;have hs:=HP.out _ hSw;(try dsimp only at hSw);go_simp;try with_reducible rfl)
 (try simp only[zz])
 refine tkA 4 ?_
 refine tkH 5 ?_ ?_ Ov ?_
 rotate_left
 ·(intro w hSw;obtain⟨x0,x1,x2,x3,x4,x5⟩:=Qm (HO.out _ hSw);(try dsimp only at hSw);go_simp;try with_reducible rfl)
 (try simp only[zz])
 refine tkH 6 ?_ ?_ Ov ?_
 rotate_left
 ·(intro w hSw;obtain⟨x0,x1,x2,x3,x4,x5⟩:=Qm (HO.out _ hSw);(try dsimp only at hSw);go_simp;try with_reducible rfl)
 (try simp only[zz])
 refine rdH 7 (λK hK=>?_)
 ((with_reducible apply qaM);rfl;rfl;rfl;rfl;rfl;exact HR.out;skip)
 refine hK.out _ _ (by exact oF.out) (λhHeld=>?_)
 clear hK K
 (try simp only[zz])
 refine wpAnyH_done Ow ?_ _
 clear hHeld HB HO HP HR
 go_wp2_with fail
 ((with_reducible refine iP.out.mono ?_);rintro e wS ⟨rfl,rfl⟩)
 clear iP
 go_wp2_with fail
 ((with_reducible refine sJ.out.mono ?_);rintro e wG ⟨c,t,rfl,hh,n,rfl⟩)
 clear sJ
 obtain⟨H,S,b0,hz0,gk1,fP,cB1,cO1,dS,aT,hid,cU,hok,hl⟩:=HH.out
 obtain⟨A,M,B,bR,hA,hB,hM⟩:=Gh hh.out.1 hh.out.2 S.eq S.ok
 obtain⟨Aq,cc,ev,hown⟩:=qiu hh.out.1 hM
 rw[ev]
 have bG:SideOk o.side (A++M++B):=by rw[<-bR];exact S.ok
 have hMp:∀r∈M,r.pr=o.price:=by rcases hM with ⟨_,rfl⟩ | ⟨_,_,_,_,_,m',_,rfl,hm,_⟩;intro r hr;cases hr;intro r hr;rw[List.mem_singleton.1 hr];exact hm
 have iH:∀x∈Qb M,x∈Qa Q1 Q2/\x.side=o.side/\x.price=o.price:=λx hx=>by
  obtain⟨r,hr,kJ⟩:=List.mem_flatMap.1 hx;have hr':r∈A++M++B:=by simp[hr]
  have h:=bG.mem r hr' x kJ;exact⟨S.mem x (by rw[bR];exact List.mem_flatMap.2 ⟨r,hr',kJ⟩),h.1,h.2.trans (hMp r hr)⟩
 have hpw:(Qb M).Pairwise (λx y=>Qt x y=true):=by
  rcases hM with ⟨_,rfl⟩ | ⟨_,_,_,_,_,m',_,rfl,hm,_⟩
  ·exact List.Pairwise.nil
  ·have:=bG.que m' Oy;simpa [Qb] using this
 have tX:(Qb M).length<=64:=by
  have h1:(Qb Q).length=(Qb A).length+(Qb M).length+(Qb B).length:=by rw[bR];simp[Qb];omega
  have:=S.len;omega
 obtain⟨w2,hw2⟩:∃w2,((w1.drewN n).alloc (.cells #[.slice none 0 0] 124)).setCell ⟨w1.heap.size,0,none⟩ (.slice Aq (Qb M).length cc)=w2:=⟨_,rfl⟩
 have cz:Cl 124 ((w1.drewN n).alloc (.cells #[.slice none 0 0] 124)) w1.heap.size #[.slice none 0 0]:=Qe rfl
 have z1:((w1.drewN n).alloc (.cells #[.slice none 0 0] 124)).cell? ⟨w1.heap.size,0,none⟩=some (.slice none 0 0):=(Cl.c cz 0).trans rfl
 have z2:((w1.drewN n).alloc (.cells #[.slice none 0 0] 124)).frozen? ⟨w1.heap.size,0,none⟩=false:=Cl.f cz
 have hn0:(w1.drewN n).heap.size=w1.heap.size:=rfl
 have b12:Ok w1 w2:=by rw[<-hw2];exact((QJ (Oq _ _) n).alloc (Sq _) _).setCell (p:=⟨w1.heap.size,0,none⟩) (Sq _) _
 have cQ2:Cl 124 w2 w1.heap.size #[.slice Aq (Qb M).length cc]:=by rw[<-hw2];exact QK cz
 have cO2:Cl 38 w2 (w.heap.size+1) (OC o):=(b12.block _ (Qc cO1)).trans cO1
 have cB2:Cl 104 w2 w.heap.size #[.pointer (some ⟨p,0,none⟩)]:=(b12.block _ (Qc cB1)).trans cB1
 have xO:Cl 138 w1 p #[.map (some m),.map (some ms)]:=by
  rcases gk1.shape with ⟨h0,_⟩ | ⟨q,hq,hc⟩
  ·cases h0
  ·injection hq with hq;injection hq with hq;rw[hq];exact hc
 have hq2:QIn w1 w1.heap.size Aq (Qb M):=(V5 hown (λk hk=>(hown.lt k hk).2)).2
 have nE:Ids (o :: Qa Q1 Q2):=List.pairwise_cons.2 ⟨λx hx e=>hid x hx e.symm,H.ids⟩
 have zV:=Any.sort_Search Tryz.searchL 219 #[.pointer (some ⟨w.heap.size+1,0,none⟩),.pointer (some ⟨w.heap.size,0,none⟩),.pointer (some ⟨w1.heap.size,0,none⟩)] (Qb M).length (λi=>!Qt (Qb M)[i]! o) w2 (enters_of func219 Ow rfl) Oz
  (λmm os i hi=>by
   have hG:=Gw.of_grow w2 mm os;have cY:Ok w1 (Go.Sort.grow (w2.drewN mm) os):=b12.trans (hG.b.mono b12.size);obtain⟨gq,rfl,hgq,iF⟩:=hq2 i hi;have dK:=iH (Qb M)[i]! (by rw[Sj (Qb M) i hi];exact Wt _);have hfl:=qiv dJ rfl dK.2.1 dK.2.2 (hid _ dK.1);have:=qik (Go.Sort.grow (w2.drewN mm) os) (w.heap.size+1) w.heap.size w1.heap.size p m gq (Qb M).length cc i o (Qb M)[i]! hi ((hG.b.block _ (Qc cO2)).trans cO2) ((hG.b.block _ (Qc cB2)).trans cB2) ((hG.b.block _ (Qc cQ2)).trans cQ2)
    ⟨(cY.cell (p:=⟨p,0,none⟩) (Qc xO)).trans ((Cl.c xO 0).trans rfl),Ww (Qc xO) cY.size⟩ ⟨(cY.cell (p:=⟨gq,i,none⟩) hgq).trans iF,Ww hgq cY.size⟩
    (λW' hW'=>by
     have hBW:Ok w1 W':=cY.trans (hW'.b.mono cY.size);have yE:=QS dS (Fr.of_below (S:=λ_=>False) hBW) (λh=>h);have hlk:=Xw yE aT (Qb M)[i]!.id (Jw (H.ok _ dK.1).1.1);rw[(Z2 nE).2 ⟨Ev _ dK.1,rfl⟩]at hlk
     exact hlk)
   rw[hfl]at this
   exact this.mono λe w' ⟨h1,h2⟩=>⟨h1,h2.grow⟩)
  (UE (YU hpw))
 rw[UF (Qb M) (λx=>Qt x o),show List.countP (λx=>Qt x o) (Qb M)=plN o (Qb M) from rfl]at zV
 have tG:=Ou zV
 have hpl:plN o (Qb M)<=(Qb M).length:=List.countP_le_length
 have kQ:w2.cell? ⟨w1.heap.size,0,none⟩=some (.slice Aq (Qb M).length cc):=(Cl.c cQ2 0).trans rfl
 have kB2:w2.cell? ⟨w.heap.size,0,none⟩=some (.pointer (some ⟨p,0,none⟩)):=(Cl.c cB2 0).trans rfl
 have qP:=Ou (Sv b12 (Sv cQ2 (Sv cO2 (Sv hown (Sv bG (Sv bR (Sv hA (Sv hB (Sv hM (Sv tX (Sv hh.out.1 ev)))))))))))
 clear cz H S b0 hz0 gk1 fP cB1 cO1 dS aT hid cU hok hl hh hA hB hM ev hown bG bR hMp iH hpw tX b12 cQ2 cO2 cB2 xO hq2 nE zV kB x0 x1 x2 x3 x4 x5
 generalize hNN:(Qb M).length=N at *
 go_wp2_with fail
 refine tG.out.mono ?_
 rintro e w3 ⟨rfl,hg3'⟩
 have g3:Gw w2 w3:=by obtain⟨nq,os,rfl⟩:=hg3';exact Gw.of_grow _ _ _
 clear hg3' tG z1 z2 hw2 kQ kB2
 obtain⟨H,S,b0,hz0,gk1,fP,cB1,cO1,dS,aT,hid,cU,hok,hl⟩:=HH.out
 obtain⟨b12,cQ2,cO2,hown,bG,bR,hA,hB,hM,tX,hI,ev⟩:=qP.out
 have b13:Ok w1 w3:=b12.trans (g3.b.mono b12.size)
 have cO3:Cl 38 w3 (w.heap.size+1) (OC o):=(g3.b.block _ (Qc cO2)).trans cO2
 have cQ3:Cl 124 w3 w1.heap.size #[.slice Aq N cc]:=(g3.b.block _ (Qc cQ2)).trans cQ2
 have C3:=Ou (Sv cO3 cQ3)
 obtain⟨w4,hw4⟩:∃w4,w3.drew.alloc (.cells #[.int .u64 o.id] 35)=w4:=⟨_,rfl⟩
 have b34:Ok w3 w4:=by rw[<-hw4];exact((Oq _ _).drew).alloc (Sq _) _
 have b14:Ok w1 w4:=b13.trans (b34.mono b13.size)
 have cO4:Cl 38 w4 (w.heap.size+1) (OC o):=(b34.block _ (Qc cO3)).trans cO3
 have cQ4:Cl 124 w4 w1.heap.size #[.slice Aq N cc]:=(b34.block _ (Qc cQ3)).trans cQ3
 have C4:=Ou (Sv cO4 cQ4)
 have hv4:w4.heap[w3.heap.size]? = some (.cells ([.int .u64 o.id]:List Value).toArray 35 (0,0)):=by rw[<-hw4];exact Qe rfl
 have gN:w4.ownsRow 0 35 1 (.slice Aq N cc) N (idV ((Qb M).map (·.id))):=Qi hown (Fr.of_below (S:=λ_=>False) b14) (λ_ _ h=>h)
 have hvb:(Value.slice Aq N cc).ownBlock≠some w3.heap.size:=λe=>by have:=(hown.lt _ e).2;have:=b13.size;omega
 have HI:Hid (Calls prog 220 #[.slice Aq N cc,.int .i64 (plN o (Qb M)),.slice (some ⟨w3.heap.size,0,none⟩) 1 1] w4 λe w'=>∃v',e=.returned v'/\XB w4 w' (.slice Aq N cc) v' N ((QQ o (Qb M)).map (·.id))) :=
  Ou ((qh5 w4 0 N (plN o (Qb M)) (.slice Aq N cc) (idV ((Qb M).map (·.id))) [.int .u64 o.id] w3.heap.size gN (As _) Oz hpl hvb hv4 rfl (λu hu=>by
   obtain⟨a,_,rfl⟩:=List.mem_map.1 hu;rfl) (λu hu=>by rw[List.mem_singleton.1 hu];rfl)).mono λe w' ⟨v',he,h⟩=>⟨v',he,by rw[qiq]at h;exact h⟩)
 have HX:=Ou (λw5 v' (h:XB w4 w5 (.slice Aq N cc) v' N ((QQ o (Qb M)).map (·.id)))=>qis fP hI cU (A:=A) (M:=M) (B:=B) (by rw[S.eq,bR]) hM (Fr.of_below b14) (by rw[ev];exact h))
 have mF:=Ou (λw5 v' (h:XB w4 w5 (.slice Aq N cc) v' N ((QQ o (Qb M)).map (·.id)))=>Sv ((h.out.2.1.block _ (Qc cO4) (λe=>Qo gN cO4 Ox e.symm)).trans cO4) ((h.out.2.1.block _ (Qc cQ4) (λe=>Qo gN cQ4 Ox e.symm)).trans cQ4))
 have HND:=Ou fP.nd
 have HLN:Hid (((QQ o (Qb M)).map (·.id)).length=N+1):=Ou (by rw[Fv,Y6,hNN])
 have hpI:(plN o (Qb M):Int)<=(N:Int):=by omega
 clear H S b0 hz0 gk1 fP cB1 cO1 dS aT hid cU hok hl b12 cQ2 cO2 hown bG bR hA hB hM tX hI ev b13 cO3 cQ3 b34 b14 cO4 cQ4 hv4 gN hvb g3
 go_wp2_with fail
 refine wp_region_held_drew (S:=λW=>Cl 38 W (w.heap.size+1) (OC o)/\Cl 124 W w1.heap.size #[.slice Aq N cc]) Ow (by exact⟨Qh C3.out.1,Qh C3.out.2⟩) (λhHeld=>?_)
 refine tkA 0 ?_
 refine tkA 1 ?_
 refine tkH 2 ?_ ?_ Ov ?_
 rotate_left
 ·(intro w hSw;obtain⟨x0,x1,x2,x3,x4,x5⟩:=Qm hSw.1;(try dsimp only at hSw);go_simp;try with_reducible rfl)
 (try simp only[zz])
 refine tkH 3 ?_ ?_ Ov ?_
 rotate_left
 ·(intro w hSw;have hs:w.cell? ⟨w1.heap.size,0,none⟩=some (.slice Aq N cc):=(hSw.2.c 0).trans rfl;(try dsimp only at hSw);go_simp;try with_reducible rfl)
 (try simp only[zz])
 refine tkA 4 ?_
 refine tkA 5 ?_
 refine tkH 6 ?_ ?_ Ov ?_
 rotate_left
 ·(intro w hSw;obtain⟨x0,x1,x2,x3,x4,x5⟩:=Qm hSw.1;(try dsimp only at hSw);go_simp;try with_reducible rfl)
 (try simp only[zz])
 refine rdH 7 (λK hK=>?_)
 go_simp
 refine hK.out _ _ (by exact⟨C4.out.1,C4.out.2⟩) (λhHeld=>?_)
 clear hK K
 (try simp only[zz])
 refine rdH 8 (λK hK=>?_)
 go_simp
 ((with_reducible refine HI.out.mono ?_);rintro e w5 ⟨v',rfl,h5⟩)
 obtain⟨Tw,hR,hN⟩:=HX.out _ _ h5
 have kY:=Ou (T4 g.tb g.sb o.side o.price Tw v' ((QQ o (Qb M)).map (·.id)) w5 dJ hR.sg.box hR.sg.cx hR.sg.tr hR.sg.srt (by have:=hR.blks;rw[this];exact HND.out) (by have:=h5.out.1;rw[HLN.out];exact this))
 have HK:=Ou (Sv hR hN)
 have C5:Hid (Cl 38 w5 (w.heap.size+1) (OC o)/\Cl 124 w5 w1.heap.size #[.slice Aq N cc]):=mF.out _ _ h5
 clear h5 hR hN HI
 refine hK.out _ _ (by exact⟨C5.out.1,C5.out.2⟩) (λhHeld=>?_)
 clear hK K
 (try simp only[zz])
 refine rdH 9 (λK hK=>?_)
 go_simp
 ((with_reducible refine kY.out.mono ?_);rintro e w6 ⟨rfl,T',h6⟩)
 have C6:Hid (Cl 38 w6 (w.heap.size+1) (OC o)/\Cl 124 w6 w1.heap.size #[.slice Aq N cc]):=Ou ⟨h6.out.fr.blk C5.out.1 (KD HK.out.1.sg C5.out.1 Ox Ox),h6.out.fr.blk C5.out.2 (KD HK.out.1.sg C5.out.2 Ox Ox)⟩
 refine hK.out _ _ (by exact⟨C6.out.1,C6.out.2⟩) (λhHeld=>?_)
 clear hK K
 (try simp only[zz])
 refine wpAnyH_done Ow ?_ _
 go_wp2_with fail
 go_end0
 obtain⟨H,S,b0,hz0,gk1,fP,cB1,cO1,dS,aT,hid,cU,hok,hl⟩:=HH.out
 obtain⟨b12,cQ2,cO2,hown,bG,bR,hA,hB,hM,tX,hI,ev⟩:=qP.out
 exact⟨rfl,Ou (qit S b0 oF.out fP dS aT bR hA hB (by rcases hM with ⟨_,h⟩ | ⟨_,_,_,_,_,m',_,h,hm,_⟩;exact .inl h;exact .inr ⟨m',h,hm⟩) HK.out.1 HK.out.2 h6.out)⟩
structure Gd where
 g:Sg
 rs:List Rw
def gWhole (w:World)(p:Nat)(m:Nat×Nat)(s1 s2:Gd):Prop:=∃D,GW w p m.1 m.2 D s1.g s2.g s1.rs s2.rs
def gft (p:Nat)(m:Nat×Nat)(s1 s2:Gd)(k:Nat):Prop:=Kf p m.1 m.2 s1.g s2.g k
structure gTurnIs (w w':World) (p:Nat) (m:Nat×Nat) (s1 s2 s1' s2':Gd):Prop where
 wh:gWhole w' p m s1' s2'
 fr:Fr (gft p m s1 s2) w w'
 ft:∀k,gft p m s1' s2' k->gft p m s1 s2 k∨w.heap.size<=k
structure gPutIs (w w':World) (p:Nat) (m:Nat×Nat) (s1 s2 s1' s2':Gd) (o:Od):Prop where
 tu:gTurnIs w w' p m s1 s2 s1' s2'
 perm:(Qa s1'.rs s2'.rs).Perm (o :: Qa s1.rs s2.rs)
 e2:o.side=1->s2'=s2
 e1:o.side=2->s1'=s1
theorem VD.sub {l m:List Value}(h:VD l)(hs:m.Sublist l):VD m:=List.Pairwise.sublist hs h
theorem Gn {A B C Y:List Value}{v':Value}{n:Nat}(h:VD (A++B++C++Y))(hlt:∀u∈A++B++C++Y,∀k,u.ownBlock=some k->k<n)(hv:(∃j,n<=j/\v'.ownBlock=some j)∨∃u,B=[u]/\v'.ownBlock=u.ownBlock):VD (A++v' :: C++Y):=by
 have hp:(A++v' :: C++Y).Perm (v' :: (A++C++Y)):=by
  simp only[St,Ew];exact Ps
 have hsub:(A++C++Y).Sublist (A++B++C++Y):=by
  refine List.Sublist.append ?_ (List.Sublist.refl _);refine List.Sublist.append ?_ (List.Sublist.refl _);exact Rt A B
 refine VD.perm ?_ hp.symm
 refine List.pairwise_cons.2 ⟨λu hu j hj hk=>?_,h.sub hsub⟩
 rcases hv with ⟨i,hi,hv⟩ | ⟨b,rfl,hv⟩
 ·have:=hlt u (hsub.subset hu) j hk;rw[hv]at hj;injection hj with hj;omega
 ·have hq:(A++[b]++C++Y).Perm (b :: (A++C++Y)):=by
   simp only[St,Ew,Mu];exact Ps
  have:=(List.pairwise_cons.1 (h.perm hq)).1 u hu j (by rw[<-hv];exact hj);exact this hk
theorem SgIn.cls {w:World}{s:Int}{g:Sg}(h:SgIn w s g){k:Nat}(hk:QF g k):(k=g.sb/\∃cs,Cl 3 w k cs)∨(k=g.tb/\∃cs,Cl 156 w k cs)∨(k∈g.t.blks/\∃cs,Cl 278 w k cs)∨((∃v∈g.t.vals,v.ownBlock=some k)/\∃cs,Cl 35 w k cs):=by
 rcases hk with rfl|rfl|hk | ⟨v,hv,hk⟩
 ·exact .inl ⟨rfl,_,h.box⟩
 ·exact .inr (.inl ⟨rfl,_,h.cx⟩)
 ·exact .inr (.inr (.inl ⟨hk,h.tr.at_ k hk⟩))
 ·exact .inr (.inr (.inr ⟨⟨v,hv,hk⟩,h.tr.vcl v hv k hk⟩))
theorem GW.apart {w:World}{p m ms:Nat}{D:DataW Value}{g1 g2:Sg}{Q1 Q2:List Rw}(H:GW w p m ms D g1 g2 Q1 Q2):∀k,QF g1 k->¬QF g2 k:=by
 intro k h1 h2
 have d:∀{T T':TypeId} {cs cs':Array Value},Cl T w k cs->Cl T' w k cs'->T≠T'->False:=λa b c=>K1 a b c rfl
 rcases(H.gk.s1 rfl).cls h1 with ⟨a,c,hc⟩ | ⟨a,c,hc⟩ | ⟨a,c,hc⟩ | ⟨⟨v,hv,hk⟩,c,hc⟩<;>rcases(H.gk.s2 rfl).cls h2 with ⟨b,c',hc'⟩ | ⟨b,c',hc'⟩ | ⟨b,c',hc'⟩ | ⟨⟨v',hv',hk'⟩,c',hc'⟩
 ·exact H.sb (a.symm.trans b)
 ·exact d hc hc' Ox
 ·exact d hc hc' Ox
 ·exact d hc hc' Ox
 ·exact d hc hc' Ox
 ·exact H.tb (a.symm.trans b)
 ·exact d hc hc' Ox
 ·exact d hc hc' Ox
 ·exact d hc hc' Ox
 ·exact d hc hc' Ox
 ·exact H.bd k a b
 ·exact d hc hc' Ox
 ·exact d hc hc' Ox
 ·exact d hc hc' Ox
 ·exact d hc hc' Ox
 ·exact(List.pairwise_append.1 H.vd).2.2 v hv v' hv' k hk hk'
theorem qaP {w:World}{p m ms:Nat}{D:DataW Value}{g1 g2:Sg}{Q1 Q2:List Rw}(H:GW w p m ms D g1 g2 Q1 Q2){s:Int}{g:Sg}(h:SgIn w s g):¬QF g p:=by
 intro hk
 have d:∀{T T':TypeId} {cs cs':Array Value},Cl T w p cs->Cl T' w p cs'->T≠T'->False:=λa b c=>K1 a b c rfl
 rcases h.cls hk with ⟨a,c,hc⟩ | ⟨a,c,hc⟩ | ⟨a,c,hc⟩ | ⟨_,c,hc⟩<;>exact d hc H.bookp Ox
structure SideTo (w w':World) (m:Nat) (sd:Int) (g g':Sg):Prop where
 sg:SgIn w' sd g'
 tb:g'.tb=g.tb
 sb:g'.sb=g.sb
 bl:∀b∈g'.t.blks,b∈g.t.blks∨w.heap.size<=b
 vl:∀v∈g'.t.vals,∀k,v.ownBlock=some k->QF g k∨w.heap.size<=k
 fr:Fr (λk=>k=m∨QF g k) w w'
theorem SideTo.ft {w w':World}{m:Nat}{sd:Int}{g g':Sg}(h:SideTo w w' m sd g g'):∀k,QF g' k->QF g k∨w.heap.size<=k:=by
 rintro k (rfl|rfl|hk | ⟨v,hv,hk⟩)
 ·exact .inl (.inl h.sb)
 ·exact .inl (.inr (.inl h.tb))
 ·exact(h.bl k hk).imp (λh=>.inr (.inr (.inl h))) id
 ·exact h.vl v hv k hk
theorem qaQ {w w':World}{p:Nat}{m:Nat×Nat}{D D':DataW Value}{s1 s2:Gd}{g':Sg}{Q':List Rw}(H:GW w p m.1 m.2 D s1.g s2.g s1.rs s2.rs)(h:SideTo w w' m.1 1 s1.g g')(om:w'.ownsMap prog 35 RV m.1 64 D')(hO:OmT D' (Qa Q' s2.rs))
  (er:g'.t.rows=Q'.map QH) (ok:SideOk 1 Q') (ids:Ids (Qa Q' s2.rs)) (hl:(Qa Q' s2.rs).length<=64) (hok:∀x∈Qa Q' s2.rs,Od.ok w' x/\Qk x=true) (vd:VD (g'.t.vals++s2.g.t.vals)) :
  gTurnIs w w' p m s1 s2 ⟨g',Q'⟩ s2:=by
 have hS1:=H.gk.s1 rfl
 have fF:=H.gk.s2 rfl
 have far2:∀k,QF s2.g k->¬(k=m.1∨QF s1.g k):=λk hk h=>by
  rcases h with rfl|h
  ·exact fF.no_map (H.gk.om _ _ rfl) _ hk rfl
  ·exact H.apart k h hk
 have farp:¬(p=m.1∨QF s1.g p):=λh=>by
  rcases h with h|h
  ·exact ZS H.bookp (H.gk.om _ _ rfl) h
  ·exact qaP H hS1 h
 have fars:¬(m.2=m.1∨QF s1.g m.2):=λh=>by
  rcases h with h|h
  ·exact H.mm h.symm
  ·exact hS1.no_map (H.gk.sm _ _ rfl) _ h rfl
 refine⟨⟨D',⟨⟨.inr ⟨p,rfl,h.fr.blk H.bookp farp⟩,λa b e=>?_,λa b e=>?_,λ_=>h.sg,λ_=>fF.keep h.fr far2⟩,hO,er,H.e2,ok,H.ok2,ids,hl,hok,vd,?_,?_,H.mm,?_⟩⟩,?_,?_⟩
 ·injection e with e;injection e with e1 e2;subst e1;exact om
 ·have:=H.gk.sm a b e;injection e with e;injection e with e1 e2;subst e2;have hD:Ja s1.g s2.g=Ja g' s2.g:=by unfold Ja;rw[h.tb]
  rw[<-hD];exact QS this h.fr fars
 ·intro b hb hb2;rcases h.bl b hb with h1|h1
  ·exact H.bd b h1 hb2
  ·have:=fF.tr.lt b hb2;omega
 ·rw[h.tb];exact H.tb
 ·rw[h.sb];exact H.sb
 ·exact h.fr.mono (λk hk=>.inl (by
   rcases hk with rfl|hk
   ·exact .inr (.inl rfl)
   ·exact .inr (.inr (.inr (.inl hk)))))
 ·rintro k (rfl|rfl|rfl|hk|hk)
  ·exact .inl (.inl rfl)
  ·exact .inl (.inr (.inl rfl))
  ·exact .inl (.inr (.inr (.inl rfl)))
  ·exact(h.ft k hk).imp (λh=>.inr (.inr (.inr (.inl h)))) id
  ·exact .inl (.inr (.inr (.inr (.inr hk))))
theorem qaR {w w':World}{p:Nat}{m:Nat×Nat}{D D':DataW Value}{s1 s2:Gd}{g':Sg}{Q':List Rw}(H:GW w p m.1 m.2 D s1.g s2.g s1.rs s2.rs)(h:SideTo w w' m.1 2 s2.g g')(om:w'.ownsMap prog 35 RV m.1 64 D')(hO:OmT D' (Qa s1.rs Q'))
  (er:g'.t.rows=Q'.map QH) (ok:SideOk 2 Q') (ids:Ids (Qa s1.rs Q')) (hl:(Qa s1.rs Q').length<=64) (hok:∀x∈Qa s1.rs Q',Od.ok w' x/\Qk x=true) (vd:VD (s1.g.t.vals++g'.t.vals)) :
  gTurnIs w w' p m s1 s2 s1 ⟨g',Q'⟩:=by
 have hS1:=H.gk.s1 rfl
 have fF:=H.gk.s2 rfl
 have far1:∀k,QF s1.g k->¬(k=m.1∨QF s2.g k):=λk hk h=>by
  rcases h with rfl|h
  ·exact hS1.no_map (H.gk.om _ _ rfl) _ hk rfl
  ·exact H.apart k hk h
 have farp:¬(p=m.1∨QF s2.g p):=λh=>by
  rcases h with h|h
  ·exact ZS H.bookp (H.gk.om _ _ rfl) h
  ·exact qaP H fF h
 have fars:¬(m.2=m.1∨QF s2.g m.2):=λh=>by
  rcases h with h|h
  ·exact H.mm h.symm
  ·exact fF.no_map (H.gk.sm _ _ rfl) _ h rfl
 refine⟨⟨D',⟨⟨.inr ⟨p,rfl,h.fr.blk H.bookp farp⟩,λa b e=>?_,λa b e=>?_,λ_=>hS1.keep h.fr far1,λ_=>h.sg⟩,hO,H.e1,er,H.ok1,ok,ids,hl,hok,vd,?_,?_,H.mm,?_⟩⟩,?_,?_⟩
 ·injection e with e;injection e with e1 e2;subst e1;exact om
 ·have:=H.gk.sm a b e;injection e with e;injection e with e1 e2;subst e2;have hD:Ja s1.g s2.g=Ja s1.g g':=by unfold Ja;rw[h.tb]
  rw[<-hD];exact QS this h.fr fars
 ·intro b hb hb2;rcases h.bl b hb2 with h1|h1
  ·exact H.bd b hb h1
  ·have:=hS1.tr.lt b hb;omega
 ·rw[h.tb];exact H.tb
 ·rw[h.sb];exact H.sb
 ·exact h.fr.mono (λk hk=>.inl (by
   rcases hk with rfl|hk
   ·exact .inr (.inl rfl)
   ·exact .inr (.inr (.inr (.inr hk)))))
 ·rintro k (rfl|rfl|rfl|hk|hk)
  ·exact .inl (.inl rfl)
  ·exact .inl (.inr (.inl rfl))
  ·exact .inl (.inr (.inr (.inl rfl)))
  ·exact .inl (.inr (.inr (.inr (.inl hk))))
  ·exact(h.ft k hk).imp (λh=>.inr (.inr (.inr (.inr h)))) id
theorem qiw {w w':World}{p:Nat}{m:Nat×Nat}{D:DataW Value}{s1 s2:Gd}{o:Od}(H:GW w p m.1 m.2 D s1.g s2.g s1.rs s2.rs)(h:XC w w' m.1 1 s1.g s1.rs (Qa s1.rs s2.rs) o)(hs:o.side=1)(hid:∀x∈Qa s1.rs s2.rs,¬x.id=o.id)(hok:Od.ok w o)(hg:Qk o=true)(hl:(Qa s1.rs s2.rs).length<64) :
  ∃s1',gPutIs w w' p m s1 s2 s1' s2 o:=by
 obtain⟨D',T',Q',v',om,hO,sg,er,hP,hbl,⟨A,B,C,v1,v2,v3⟩,hf⟩:=h
 have jM:∀x∈Qb s1.rs,¬x.id=o.id:=λx hx=>hid x (Ws _ hx)
 obtain⟨ok',perm'⟩:=Y8 (.inl rfl) hs H.ok1 jM hP
 have hperm:(Qa Q' s2.rs).Perm (o :: Qa s1.rs s2.rs):=perm'.append_right (Qb s2.rs)
 have cA:Ids (o :: Qa s1.rs s2.rs):=List.pairwise_cons.2 ⟨λx hx e=>hid x hx e.symm,H.ids⟩
 have hS1:=H.gk.s1 rfl
 have fF:=H.gk.s2 rfl
 have hlt:∀u∈A++B++C++s2.g.t.vals,∀k,u.ownBlock=some k->k<w.heap.size:=λu hu k hk=>by
  rcases List.mem_append.1 hu with hu|hu
  ·rw[<-v1]at hu;exact hS1.tr.vlt u hu k hk
  ·exact fF.tr.vlt u hu k hk
 have hvd:VD (A++B++C++s2.g.t.vals):=by rw[<-v1];exact H.vd
 have vd':=Gn hvd hlt v3
 refine⟨⟨⟨s1.g.tb,s1.g.sb,T'⟩,Q'⟩,qaQ H ⟨sg,rfl,rfl,hbl,λu hu k hk=>?_,hf⟩ om (hO.perm cA hperm.symm) er ok' (Xs cA hperm.symm) ?_ (λx hx=>?_) ?_,hperm,λ_=>rfl,λh=>by omega⟩
 ·dsimp only at hu;rw[v2]at hu;rcases List.mem_append.1 hu with hu|hu
  ·exact .inl (.inr (.inr (.inr ⟨u,by rw[v1];simp[hu],hk⟩)))
  ·rcases List.mem_cons.1 hu with rfl|hu
   ·rcases v3 with ⟨j,hj,hv⟩ | ⟨b,rfl,hv⟩
    ·rw[hv]at hk;injection hk with hk;subst hk;exact .inr hj
    ·exact .inl (.inr (.inr (.inr ⟨b,by rw[v1];simp,by rw[<-hv];exact hk⟩)))
   ·exact .inl (.inr (.inr (.inr ⟨u,by rw[v1];simp[hu],hk⟩)))
 ·rw[hperm.length_eq];simp;omega
 ·rcases List.mem_cons.1 (hperm.mem_iff.1 hx) with rfl|hx
  ·exact⟨hok,hg⟩
  ·exact H.ok x hx
 ·dsimp only;rw[v2];exact vd'
theorem qix {w w':World}{p:Nat}{m:Nat×Nat}{D:DataW Value}{s1 s2:Gd}{o:Od}(H:GW w p m.1 m.2 D s1.g s2.g s1.rs s2.rs)(h:XC w w' m.1 2 s2.g s2.rs (Qa s1.rs s2.rs) o)(hs:o.side=2)(hid:∀x∈Qa s1.rs s2.rs,¬x.id=o.id)(hok:Od.ok w o)(hg:Qk o=true)(hl:(Qa s1.rs s2.rs).length<64) :
  ∃s2',gPutIs w w' p m s1 s2 s1 s2' o:=by
 obtain⟨D',T',Q',v',om,hO,sg,er,hP,hbl,⟨A,B,C,v1,v2,v3⟩,hf⟩:=h
 have jM:∀x∈Qb s2.rs,¬x.id=o.id:=λx hx=>hid x (Wx _ hx)
 obtain⟨ok',perm'⟩:=Y8 (.inr rfl) hs H.ok2 jM hP
 have hperm:(Qa s1.rs Q').Perm (o :: Qa s1.rs s2.rs):=(perm'.append_left (Qb s1.rs)).trans Ps
 have cA:Ids (o :: Qa s1.rs s2.rs):=List.pairwise_cons.2 ⟨λx hx e=>hid x hx e.symm,H.ids⟩
 have hS1:=H.gk.s1 rfl
 have fF:=H.gk.s2 rfl
 have hlt:∀u∈A++B++C++s1.g.t.vals,∀k,u.ownBlock=some k->k<w.heap.size:=λu hu k hk=>by
  rcases List.mem_append.1 hu with hu|hu
  ·rw[<-v1]at hu;exact fF.tr.vlt u hu k hk
  ·exact hS1.tr.vlt u hu k hk
 have hvd:VD (A++B++C++s1.g.t.vals):=by rw[<-v1];exact H.vd.perm Rk
 have vd':=Gn hvd hlt v3
 refine⟨⟨⟨s2.g.tb,s2.g.sb,T'⟩,Q'⟩,qaR H ⟨sg,rfl,rfl,hbl,λu hu k hk=>?_,hf⟩ om (hO.perm cA hperm.symm) er ok' (Xs cA hperm.symm) ?_ (λx hx=>?_) ?_,hperm,λh=>by omega,λ_=>rfl⟩
 ·dsimp only at hu;rw[v2]at hu;rcases List.mem_append.1 hu with hu|hu
  ·exact .inl (.inr (.inr (.inr ⟨u,by rw[v1];simp[hu],hk⟩)))
  ·rcases List.mem_cons.1 hu with rfl|hu
   ·rcases v3 with ⟨j,hj,hv⟩ | ⟨b,rfl,hv⟩
    ·rw[hv]at hk;injection hk with hk;subst hk;exact .inr hj
    ·exact .inl (.inr (.inr (.inr ⟨b,by rw[v1];simp,by rw[<-hv];exact hk⟩)))
   ·exact .inl (.inr (.inr (.inr ⟨u,by rw[v1];simp[hu],hk⟩)))
 ·rw[hperm.length_eq];simp;omega
 ·rcases List.mem_cons.1 (hperm.mem_iff.1 hx) with rfl|hx
  ·exact⟨hok,hg⟩
  ·exact H.ok x hx
 ·dsimp only;rw[v2];exact vd'.perm Rk
theorem qiy (p:Nat)(m:Nat×Nat)(s1 s2:Gd)(o:Od)(w:World)(H:gWhole w p m s1 s2)(hid:∀x∈Qa s1.rs s2.rs,¬x.id=o.id)(hok:Od.ok w o)(hg:Qk o=true)(hl:(Qa s1.rs s2.rs).length<64) :
  Calls prog 209 #[.pointer (some ⟨p,0,none⟩),.agg #[.int .u64 o.id,.int .i64 o.acc,.int .i64 o.side,.int .i64 o.price,.int .i64 o.qty,.int .u64 o.seq]] w λe w'=>e=.returned (.tuple #[])/\∃s1' s2',Hid (gPutIs w w' p m s1 s2 s1' s2' o):=by
 obtain⟨D,H⟩:=H
 rcases Vj hg with hs|hs
 ·refine(qaO p m.1 m.2 D s1.g s2.g s1.rs s2.rs 1 s1.g s1.rs o w H H.own1 (.inl ⟨rfl,rfl⟩) (List.pairwise_append.1 H.vd).1 hs hid hok hl).mono λe w' h=>⟨h.1,?_⟩
  obtain⟨s1',h'⟩:=qiw H h.2.out hs hid hok hg hl;exact⟨s1',s2,Ou h'⟩
 ·refine(qaO p m.1 m.2 D s1.g s2.g s1.rs s2.rs 2 s2.g s2.rs o w H H.own2 (.inr ⟨rfl,rfl⟩) (List.pairwise_append.1 H.vd).2.1 hs hid hok hl).mono λe w' h=>⟨h.1,?_⟩
  obtain⟨s2',h'⟩:=qix H h.2.out hs hid hok hg hl;exact⟨s1,s2',Ou h'⟩
def Gp (w w':World)(p:Nat)(m:Nat×Nat)(s1 s2 s1' s2':Gd)(o:Od)(c:Int):Prop :=
 (c=2/\Qk o=false/\s1'=s1/\s2'=s2/\Ok w w') ∨
 (Qk o=true/\c=52/\(∃x∈Qa s1.rs s2.rs,x.id=o.id)/\s1'=s1/\s2'=s2/\Ok w w') ∨
 (Qk o=true/\(∀x∈Qa s1.rs s2.rs,¬x.id=o.id)/\((c=50/\(Qa s1.rs s2.rs).length=64/\s1'=s1/\s2'=s2/\Ok w w')∨(c=0/\(Qa s1.rs s2.rs).length<64/\gPutIs w w' p m s1 s2 s1' s2' o)))
theorem qiz {w W w':World}{p:Nat}{m:Nat×Nat}{s1 s2 s1' s2':Gd}{o:Od}(hb:Ok w W)(h:gPutIs W w' p m s1 s2 s1' s2' o):gPutIs w w' p m s1 s2 s1' s2' o :=
 ⟨⟨h.tu.wh,(Fr.of_below hb:Fr (gft p m s1 s2) w W).trans h.tu.fr (λ_ h=>.inl h),λk hk=>(h.tu.ft k hk).imp id (λh'=>Sk hb.size h')⟩,h.perm,h.e2,h.e1⟩
theorem gWhole.below {w w':World}{p:Nat}{m:Nat×Nat}{s1 s2:Gd}(h:gWhole w p m s1 s2)(hb:Ok w w'):gWhole w' p m s1 s2:=by
 obtain⟨D,h⟩:=h
 exact⟨D,h.below hb⟩
theorem Zy {B c:Nat}{w X:World}{cs:Array Value}(h:Below B w X)(hc:B<=c):Below B w (X.setRow c cs) :=
 h.trans ⟨rfl,rfl,rfl,by simp[World.setRow],λk hk=>setRow_other X c k cs Oz⟩
theorem qiA (p:Nat)(m:Nat×Nat)(s1 s2:Gd)(o:Od)(w:World)(H:gWhole w p m s1 s2)(hok:Od.ok w o)(hg:Qk o=true) :
  Calls prog 199 #[.pointer (some ⟨p,0,none⟩),.agg #[.int .u64 o.id,.int .i64 o.acc,.int .i64 o.side,.int .i64 o.price,.int .i64 o.qty,.int .u64 o.seq]] w λe w'=>∃c s1' s2',e=.returned (.int .i64 c)/\Hid (Gp w w' p m s1 s2 s1' s2' o c):=by
 obtain⟨w0,hw0⟩:∃w0,w.alloc (.cells (OC o) 38)=w0:=⟨_,rfl⟩
 have b0:Ok w w0:=by rw[<-hw0];exact(Oq _ _).alloc (Sq _) _
 have cO:Cl 38 w0 w.heap.size (OC o):=by rw[<-hw0];exact Qe rfl
 have H0:=H.below b0
 have HM:Hid (Calls prog 208 #[.pointer (some ⟨p,0,none⟩)] w0 λe w'=>e=.returned (.bool true)/\w0=w'):=Ou (by obtain⟨D,h⟩:=H0;exact Ke _ _ _ _ _ _ h.gk)
 have qO:Hid (Calls prog 65 #[.agg #[.int .u64 o.id,.int .i64 o.acc,.int .i64 o.side,.int .i64 o.price,.int .i64 o.qty,.int .u64 o.seq]] w0 λe w'=>e=.returned (.bool (Qk o))/\Gw w0 w'):=Ou (KM o w0)
 rw[hg]at qO
 obtain⟨x0,x1,x2,x3,x4,x5⟩:=Qm cO
 have HH:=Ou (Sv H0 (Sv b0 cO))
 clear b0 cO H0
 go_enter func199,ntmps199
 go_wp2_with fail
 ((with_reducible refine HM.out.mono ?_);rintro e w1 ⟨rfl,rfl⟩)
 go_wp2_with fail
 ((with_reducible refine qO.out.mono ?_);rintro e w1 ⟨rfl,hb⟩)
 clear qO HM x0 x1 x2 x3 x4 x5
 go_wp2_with fail
 obtain⟨⟨D,G0⟩,b0,cO⟩:=HH.out
 have b1:=hb.b
 have G1:=G0.below b1
 have cO1:Cl 38 w1 w.heap.size (OC o):=(b1.block _ (Qc cO)).trans cO
 have hlt1:∀k,Kf p m.1 m.2 s1.g s2.g k->k<w1.heap.size:=G1.lt
 have HP:Hid (∀W,Ok w1 W->W.cell? ⟨p,0,none⟩=some (.map (some m.1))):=Ou λW hW=>((G1.below hW).bookp.c 0).trans rfl
 have HI:Hid (∀W,Ok w1 W->W.cell? ⟨w.heap.size,0,none⟩=some (.int .u64 o.id)):=Ou λW hW=>(hW.cell (p:=⟨w.heap.size,0,none⟩) (Qc cO1)).trans ((Cl.c cO1 0).trans rfl)
 have HL:Hid (∀W,Ok w1 W->(Instr.lookup 133 (.map (some m.1)) (.int .u64 o.id) true).run prog W=.ok (.tuple #[.agg (OC ((omL (Qa s1.rs s2.rs) o.id).getD zO)),.bool (omL (Qa s1.rs s2.rs) o.id).isSome]) W):=Ou λW hW=>look_ok ((G1.below hW).gk.om _ _ rfl) G1.om o.id (Jw hok.1)
 have yZ:=Ou (Sv G1 (Sv (b0.trans (b1.mono b0.size)) cO1))
 clear G0 b0 cO b1 G1 cO1 hlt1 hb HH
 obtain⟨m1,m2⟩:=m
 dsimp only at HP HL yZ
 generalize hthere:(omL (Qa s1.rs s2.rs) o.id).isSome=there at HL
 generalize (omL (Qa s1.rs s2.rs) o.id).getD zO=z at HL
 have HT:=Ou hthere
 clear hthere
 refine wp_region_held_drew (S:=λW=>Ok w1 W) Ow (by exact(Oq _ _).drew) (λhHeld=>?_)
 refine tkA 0 ?_
 refine tkA 1 ?_
 refine tkA 2 ?_
 refine tkH 3 ?_ ?_ Ov ?_
 rotate_left
 ·(intro w hSw;have hs:=HP.out _ hSw;(try dsimp only at hSw);go_simp;try with_reducible rfl)
 (try simp only[zz])
 refine tkA 4 ?_
 refine tkH 5 ?_ ?_ Ov ?_
 rotate_left
 ·(intro w hSw;have hs:=HI.out _ hSw;(try dsimp only at hSw);go_simp;try with_reducible rfl)
 (try simp only[zz])
 refine tkH 6 ?_ ?_ Ov ?_
 rotate_left
 ·(intro w hSw;have hs:=HL.out _ hSw;(try dsimp only at hSw);go_simp;try with_reducible rfl)
 (try simp only[zz])
 refine tkA 7 ?_
 refine tkA 8 ?_
 refine tkA 9 ?_
 (try simp only[zz])
 refine rdH 10 (λK hK=>?_)
 go_simp
 refine hK.out _ _ (by exact(Oq _ _).drew.alloc (Sq _) _) (λhHeld=>?_)
 clear hK K
 (try simp only[zz])
 refine rdH 11 (λK hK=>?_)
 ((with_reducible apply V6);rfl;rfl;rfl;rfl;exact(show Cl 38 _ w1.heap.size (OC ⟨0,0,0,0,0,0⟩) from Qh (Qe rfl));skip)
 refine hK.out _ _ (by exact Zy ((Oq _ _).drew.alloc (Sq _) _) (Sq _)) (λhHeld=>?_)
 clear hK K
 (try simp only[zz])
 refine tkA 12 ?_
 (try simp only[zz])
 refine wpAnyH_done Ow ?_ _
 obtain⟨G1,bw,cO1⟩:=yZ.out
 have kP:=HP.out _ hHeld
 have GW2:=G1.below hHeld
 have cO2:=(hHeld.block _ (Qc cO1)).trans cO1
 have bw2:=bw.trans (hHeld.mono bw.size)
 have hlen:=λty=>qaz (GW2.gk.om _ _ rfl) G1.om ty
 have kY:=Ou (λh1 h2=>qiy p (m1,m2) s1 s2 o _ ⟨D,GW2⟩ h1 hok hg h2)
 obtain⟨x0,x1,x2,x3,x4,x5⟩:=Qm cO2
 have aG:=Ou bw2
 have sN:=Ou G1.len
 have HID:=Ou G1.ids
 clear HP HI HL yZ G1 GW2 cO1 cO2 bw bw2 hHeld hok
 cases there with
 | true =>
  have hex:∃x∈Qa s1.rs s2.rs,x.id=o.id:=by
   obtain⟨x,hx⟩:=Option.isSome_iff_exists.1 HT.out;exact⟨x,(Z2 HID.out).1 hx⟩
  clear hlen kY x0 x1 x2 x3 x4 x5;go_wp2_with fail
  go_ret;exact⟨52,s1,s2,rfl,Ou (.inr (.inl ⟨hg,rfl,hex,rfl,rfl,aG.out⟩))⟩
 | false =>
  have hno:∀x∈Qa s1.rs s2.rs,¬x.id=o.id:=by
   refine omL_none.1 ?_;have:=HT.out
   cases h:omL (Qa s1.rs s2.rs) o.id with
   | none=>rfl
   | some x=>rw[h]at this;cases this
  have zJ:=Ou hno;clear hno;obtain⟨N,hN⟩:∃N,N=(Qa s1.rs s2.rs).length:=⟨_,rfl⟩
  rw[<-hN]at hlen sN;have HN:=Ou hN;clear hN;by_cases h64:N=64
  ·have e64:((N:Int)==64)=true:=by simp[h64]
   have HE:=Ou h64;clear kY x0 x1 x2 x3 x4 x5 h64;go_wp2_with fail
   go_ret;exact⟨50,s1,s2,rfl,Ou (.inr (.inr ⟨hg,zJ.out,.inl ⟨rfl,by rw[<-HN.out,HE.out],rfl,rfl,aG.out⟩⟩))⟩
  ·have e64:((N:Int)==64)=false:=by simp;omega
   have hlt:(Qa s1.rs s2.rs).length<64:=by have:=sN.out;rw[<-HN.out];omega
   have kW:=Ou (kY.out zJ.out hlt);have HLT:=Ou hlt;clear kY h64 hlt;go_wp2_with fail
   ((with_reducible refine kW.out.mono ?_);rintro e w5 ⟨rfl,s1',s2',hp⟩);go_wp2_with fail
   go_ret;exact⟨0,s1',s2',rfl,Ou (.inr (.inr ⟨hg,zJ.out,.inr ⟨rfl,HLT.out,qiz aG.out hp.out⟩⟩))⟩
theorem qiB (p:Nat)(m:Nat×Nat)(s1 s2:Gd)(o:Od)(w:World)(H:gWhole w p m s1 s2)(hg:Qk o=false) :
  Calls prog 199 #[.pointer (some ⟨p,0,none⟩),.agg #[.int .u64 o.id,.int .i64 o.acc,.int .i64 o.side,.int .i64 o.price,.int .i64 o.qty,.int .u64 o.seq]] w λe w'=>∃c s1' s2',e=.returned (.int .i64 c)/\Hid (Gp w w' p m s1 s2 s1' s2' o c):=by
 obtain⟨w0,hw0⟩:∃w0,w.alloc (.cells (OC o) 38)=w0:=⟨_,rfl⟩
 have b0:Ok w w0:=by rw[<-hw0];exact(Oq _ _).alloc (Sq _) _
 have cO:Cl 38 w0 w.heap.size (OC o):=by rw[<-hw0];exact Qe rfl
 have H0:=H.below b0
 have HM:Hid (Calls prog 208 #[.pointer (some ⟨p,0,none⟩)] w0 λe w'=>e=.returned (.bool true)/\w0=w'):=Ou (by obtain⟨D,h⟩:=H0;exact Ke _ _ _ _ _ _ h.gk)
 have qO:Hid (Calls prog 65 #[.agg #[.int .u64 o.id,.int .i64 o.acc,.int .i64 o.side,.int .i64 o.price,.int .i64 o.qty,.int .u64 o.seq]] w0 λe w'=>e=.returned (.bool (Qk o))/\Gw w0 w'):=Ou (KM o w0)
 rw[hg]at qO
 obtain⟨x0,x1,x2,x3,x4,x5⟩:=Qm cO
 have HB:=Ou b0
 clear b0 cO H0
 go_enter func199,ntmps199
 go_wp2_with fail
 ((with_reducible refine HM.out.mono ?_);rintro e w1 ⟨rfl,rfl⟩)
 go_wp2_with fail
 ((with_reducible refine qO.out.mono ?_);rintro e w1 ⟨rfl,hb⟩)
 go_wp2_with fail
 go_ret
 exact⟨2,s1,s2,rfl,Ou (.inl ⟨rfl,hg,rfl,rfl,HB.out.trans (hb.b.mono HB.out.size)⟩)⟩
theorem qiC (p:Nat)(m:Nat×Nat)(s1 s2:Gd)(o:Od)(w:World)(H:gWhole w p m s1 s2)(hok:Od.ok w o) :
  Calls prog 199 #[.pointer (some ⟨p,0,none⟩),.agg #[.int .u64 o.id,.int .i64 o.acc,.int .i64 o.side,.int .i64 o.price,.int .i64 o.qty,.int .u64 o.seq]] w λe w'=>∃c s1' s2',e=.returned (.int .i64 c)/\Hid (Gp w w' p m s1 s2 s1' s2' o c):=by
 cases hg:Qk o with
 | false=>exact qiB p m s1 s2 o w H hg
 | true=>exact qiA p m s1 s2 o w H hok hg
def Za (id:Int)(q:List Od):List Od:=q.filter (λx=>!(x.id==id))
theorem qiD (id:Int)(q:List Od):JF id (q.map (·.id))=(Za id q).map (·.id):=by
 unfold JF Za
 rw[List.filter_map]
 rfl
theorem V9 {o:Od}:∀{q:List Od},Ids q->o∈q->q.Perm (o :: Za o.id q)
 | [],_,h=>(by cases h)
 | x :: q,hi,h=>by
  obtain⟨h1,h2⟩:=List.pairwise_cons.1 hi;rcases List.mem_cons.1 h with rfl|h
  ·unfold Za;rw[List.filter_cons_of_neg Oy,List.filter_eq_self.2 (λy hy=>by have:=h1 y hy;simp;exact λe=>this e.symm)]
  ·have hx:¬x.id=o.id:=h1 o h;unfold Za;rw[List.filter_cons_of_pos (by simp[hx])];exact((V9 h2 h).cons x).trans (List.Perm.swap o x _)
theorem qaS {A M B:List Rw}(h:Ids (Qb (A++M++B))):Ids (Qb M):=by
 unfold Qb at h ⊢
 rw[Wv,Wv]at h
 exact(List.pairwise_append.1 (List.pairwise_append.1 h).1).2.1
def K2 (w w':World)(m:Nat)(sd:Int)(g:Sg)(Q:List Rw)(L:List Od)(o:Od):Prop:=∃D' T' Q',
 w'.ownsMap prog 35 RV m 64 D'/\OmT D' (Za o.id L)/\SideTo w w' m sd g ⟨g.tb,g.sb,T'⟩/\T'.rows=Q'.map QH/\SideOk sd Q'/\(Qb Q).Perm (o :: Qb Q') /\
 (∀Y,VD (g.t.vals++Y)->(∀u∈g.t.vals++Y,∀k,u.ownBlock=some k->k<w.heap.size)->VD (T'.vals++Y))
theorem qaT {w w0 w3 w5 w6:World}{m:Nat}{sd pr:Int}{g:Sg}{A M B:List Rw}{Tw T':Tr}(b0:Ok w w0)(hg:w0.grownBy w3 (some m))(hR:Rew w5 sd pr g A M B Tw)(hf:Fr (QF g) w3 w5)(cK:Fr (λb=>b=g.tb∨b∈Tw.blks) w5 w6)
  (gW:CxIn w6 g.tb g.sb .top T'.ptr) (htr:TrIn w6 T') (hsrt:Srt sd T'.rows) (hnd:T'.blks.Nodup) (hbl:∀b∈T'.blks,b∈Tw.blks∨w5.heap.size<=b) (hvl:∀v∈T'.vals,∀k,v.ownBlock=some k->QF g k∨w.heap.size<=k):SideTo w w6 m sd g ⟨g.tb,g.sb,T'⟩:=by
 have n9:Cl 3 w6 g.sb #[.int .i64 sd]:=cK.blk hR.sg.box (KD hR.sg hR.sg.box Ox Ox)
 have pI:Fr (QF g) w5 w6:=cK.mono (λk hk=>.inl (by
  rcases hk with rfl|hk
  ·exact .inr (.inl rfl)
  ·rw[hR.blks]at hk;exact .inr (.inr (.inl hk))))
 have f1:Fr (λk=>k=m∨QF g k) w w3:=(Fr.of_below (S:=λk=>k=m∨QF g k) b0).trans (Zx hg) (λk h=>.inl (.inl h))
 refine⟨⟨n9,gW,htr,hsrt,hnd⟩,rfl,rfl,λb hb=>?_,hvl,(f1.trans hf (λk h=>.inl (.inr h))).trans pI (λk h=>.inl (.inr h))⟩
 rcases hbl b hb with h|h
 ·rw[hR.blks]at h;exact .inl h
 ·exact .inr (Sk b0.size (Sk hg.size (Sk hf.size h)))
theorem qiE {w w0 w3 w5 w6:World}{m p ms:Nat}{D D':DataW Value}{g1 g2:Sg}{Q1 Q2:List Rw}{sd:Int}{g:Sg}{Q A B:List Rw}{mr:Rw}{o:Od}{Tw T':Tr}{v v':Value}
  (S:OwnS w p m ms D g1 g2 Q1 Q2 sd g Q) (dJ:sd=1∨sd=2) (hI:Ids (Qa Q1 Q2)) (b0:Ok w w0) (pJ:w0.grownBy w3 (some m)) (dU:SgIn w3 sd g) (dF:w3.ownsMap prog 35 RV m 64 D') (bK:OmT D' (Za o.id (Qa Q1 Q2)))
  (bR:Q=A++[mr]++B) (hA:∀a∈A,Qf sd a.pr mr.pr=true) (hB:∀b∈B,Qf sd mr.pr b.pr=true) (ho:o∈mr.q) (hne:Za o.id mr.q≠[])
  (hR:Rew w5 sd mr.pr g A [mr] B Tw) (hf:Fr (QF g) w3 w5) (hv:(mr.pr,v)∈g.t.items) (hvv:v'.ownBlock=v.ownBlock) (h6:TPut w5 w6 g.tb g.sb sd mr.pr Tw T' v' ((Za o.id mr.q).map (·.id))):K2 w w6 m sd g Q (Qa Q1 Q2) o:=by
 obtain⟨M',e,tW⟩:=hR.rows
 obtain⟨P,R,Z,r1,r2,r3,uA,iE⟩:=h6.rows
 rw[e]at r1
 obtain⟨e1,e2,e3⟩:=Gf rfl hA tW hB r1 uA (λa ha=>by rcases r3 with h3 | ⟨q0,h3⟩<;>(rw[h3]at ha;simp at ha);rw[ha]) iE
 obtain⟨A',B',C',k1,k2,k3⟩:=h6.vals
 rw[hR.vals]at k1
 obtain⟨u,rfl,k4⟩:∃u,B'=[u]/\(mr.pr,u)∈Tw.items:=by
  rcases k3 with ⟨_,k3⟩|k3
  ·exact absurd (by rw[hR.items];exact hv) (k3 v)
  ·exact k3
 rw[hR.items]at k4
 have hu:=qaL dU.srt hv k4
 subst hu
 have bG:SideOk sd (A++[mr]++B):=by rw[<-bR];exact S.ok
 have hIdQ:Ids (Qb (A++[mr]++B)):=by
  rw[<-bR];have hsub:∀x∈Qb Q,x∈Qa Q1 Q2:=S.mem;exact S.ids hI
 have hIm:Ids mr.q:=by simpa [Qb] using qaS hIdQ
 have aX:=V9 hIm ho
 have iG:Fr (QF g) w3 w6:=hf.trans (h6.fr.mono (λk hk=>.inl (by
  rcases hk with rfl|hk
  ·exact .inr (.inl rfl)
  ·rw[hR.blks]at hk;exact .inr (.inr (.inl hk))))) (λ_ h=>.inl h)
 have hvl:∀x∈T'.vals,∀k,x.ownBlock=some k->QF g k∨w.heap.size<=k:=λx hx k hk=>by
  rw[k2]at hx;rcases List.mem_append.1 hx with hx|hx
  ·exact .inl (.inr (.inr (.inr ⟨x,by rw[k1];simp[hx],hk⟩)))
  ·rcases List.mem_cons.1 hx with rfl|hx
   ·exact .inl (.inr (.inr (.inr ⟨v,by rw[k1];simp,by rw[<-hvv];exact hk⟩)))
   ·exact .inl (.inr (.inr (.inr ⟨x,by rw[k1];simp[hx],hk⟩)))
 refine⟨D',T',A++⟨mr.pr,.slice none 0 0,Za o.id mr.q⟩ :: B,QS dF iG (λh=>dU.no_map dF m h rfl),bK,qaT b0 pJ hR hf h6.fr h6.cx h6.tr h6.srt h6.nd h6.bl hvl,?_,?_,?_,?_⟩
 ·rw[r2,<-e1,<-e3];simp[QH]
 ·exact KS hA hB bG rfl hne (λx hx=>(bG.mem mr Oy x (List.mem_filter.1 hx).1)) ((bG.que mr Oy).filter _)
 ·rw[bR];unfold Qb;rw[Wv,Wv,Wv,Ik];simp only[Ik,List.flatMap_nil,Mq,St];exact((aX.append_right _).append_left _).trans Ps
 ·intro Y hY hlt;rw[k2];exact Gn (A:=A') (B:=[v]) (C:=C') (Y:=Y) (by rw[<-k1];exact hY) (n:=w.heap.size) (by rw[<-k1];exact hlt) (.inr ⟨v,rfl,hvv⟩)
theorem qiF {w w0 w3 w5 w6:World}{m p ms:Nat}{D D':DataW Value}{g1 g2:Sg}{Q1 Q2:List Rw}{sd:Int}{g:Sg}{Q A B:List Rw}{mr:Rw}{o:Od}{Tw T':Tr}
  (S:OwnS w p m ms D g1 g2 Q1 Q2 sd g Q) (hI:Ids (Qa Q1 Q2)) (b0:Ok w w0) (pJ:w0.grownBy w3 (some m)) (dU:SgIn w3 sd g) (dF:w3.ownsMap prog 35 RV m 64 D') (bK:OmT D' (Za o.id (Qa Q1 Q2)))
  (bR:Q=A++[mr]++B) (hA:∀a∈A,Qf sd a.pr mr.pr=true) (hB:∀b∈B,Qf sd mr.pr b.pr=true) (ho:o∈mr.q) (hne:Za o.id mr.q=[])
  (hR:Rew w5 sd mr.pr g A [mr] B Tw) (hf:Fr (QF g) w3 w5) (h6:TDrop w5 w6 g.tb g.sb sd mr.pr Tw T'):K2 w w6 m sd g Q (Qa Q1 Q2) o:=by
 obtain⟨M',e,tW⟩:=hR.rows
 obtain⟨P,R,Z,r1,r2,r3,uA,iE⟩:=h6.rows
 rw[e]at r1
 obtain⟨e1,e2,e3⟩:=Gf rfl hA tW hB r1 uA (λa ha=>by rcases r3 with h3 | ⟨q0,h3⟩<;>(rw[h3]at ha;simp at ha);rw[ha]) iE
 obtain⟨A',B',C',k1,k2,k3⟩:=h6.vals
 rw[hR.vals]at k1
 have bG:SideOk sd (A++[mr]++B):=by rw[<-bR];exact S.ok
 have hIm:Ids mr.q:=by
  have:=qaS (by rw[<-bR];exact S.ids hI:Ids (Qb (A++[mr]++B)));simpa [Qb] using this
 have aX:=V9 hIm ho
 rw[hne]at aX
 have iG:Fr (QF g) w3 w6:=hf.trans (h6.fr.mono (λk hk=>.inl (by
  rcases hk with rfl|hk
  ·exact .inr (.inl rfl)
  ·rw[hR.blks]at hk;exact .inr (.inr (.inl hk))))) (λ_ h=>.inl h)
 refine⟨D',T',A++B,QS dF iG (λh=>dU.no_map dF m h rfl),bK,qaT b0 pJ hR hf h6.fr h6.cx h6.tr h6.srt h6.nd (λb hb=>.inl (h6.bl b hb)) (λx hx k hk=>.inl (.inr (.inr (.inr ⟨x,?_,hk⟩)))),?_,UD bG,?_,?_⟩
 ·rw[k2]at hx;rw[k1];rcases List.mem_append.1 hx with hx|hx<;>simp[hx]
 ·rw[r2,<-e1,<-e3,Mw]
 ·rw[bR];unfold Qb;rw[Wv,Wv,Wv];simp only[Ik,List.flatMap_nil,Mq,St];exact((aX.append_right _).append_left _).trans Ps
 ·intro Y hY _;rw[k2];rw[k1]at hY;refine hY.sub (List.Sublist.append (List.Sublist.append ?_ (List.Sublist.refl _)) (List.Sublist.refl _));exact Rt A' B'
section
variable {ops:Array Oper}{o:Oper}{a:Act}{w:World}{Q:Exit → Act → World → Prop}
theorem qiG {K:Act->World->Prop}{E:Prop}(hgd:Region.wanted o (yielded ops a.tmps)=true)(x y:Operand)(t k:TypeId)(ho:o.op=.call { callee:=.builtin .delete,args:=#[x,y],argTypes:=#[t,k] })(mv kv:Value)(hx:a.eval x=mv)(hy:a.eval y=kv){w':World}
  (hr:(Builtin.delete_ #[t,k] o.type #[mv,kv]).run prog w=.ok (.tuple #[]) w') (h:K (a.put o.dst (.tuple #[])) w'):if Region.wanted o (yielded ops a.tmps)=true then Oper.wp prog o a w K Q else E:=by
 rw[Sx hgd]
 unfold Oper.wp
 simp[execOp,ho,resolve,invoke,builtin,hx,hy,hr,Result.andThen]
 exact h
end
theorem qaU {w w6 w7:World}{m rb:Nat}{sd:Int}{g:Sg}{Q:List Rw}{L:List Od}{o:Od}{cs:Array Value}(h:K2 w w6 m sd g Q L o)(hf:Fr (·=rb) w6 w7)(hc:Cl 38 w6 rb cs)(hr:w.heap.size<=rb):K2 w w7 m sd g Q L o:=by
 obtain⟨D',T',Q',om,hO,sT,er,ok,pm,vd⟩:=h
 have hno:∀k,QF ⟨g.tb,g.sb,T'⟩ k->¬k=rb:=λk hk e=>by
  subst e;have d:∀{T T':TypeId} {cs cs':Array Value},Cl T w6 k cs->Cl T' w6 k cs'->T≠T'->False:=λa b c=>K1 a b c rfl;rcases sT.sg.cls hk with ⟨a,c,hc'⟩ | ⟨a,c,hc'⟩ | ⟨a,c,hc'⟩ | ⟨_,c,hc'⟩<;>exact d hc' hc Ox
 exact⟨D',T',Q',QS om hf (λe=>ZS hc om e.symm),hO,⟨sT.sg.keep hf hno,sT.tb,sT.sb,sT.bl,sT.vl,sT.fr.trans hf (λk hk=>by subst hk;exact .inr hr)⟩,er,ok,pm,vd⟩
theorem qiH {o:Od}{L:List Od}(hi:Ids L)(ho:o∈L):(Za o.id L).length+(if (omL L o.id).isSome=true then 1 else 0)=L.length:=by
 rw[(Z2 hi).2 ⟨ho,rfl⟩,(V9 hi ho).length_eq]
 simp
theorem qaV (p m ms:Nat)(D:DataW Value)(g1 g2:Sg)(Q1 Q2:List Rw)(sd:Int)(g:Sg)(Q:List Rw)(o:Od)(w:World)(H:GW w p m ms D g1 g2 Q1 Q2)(S:OwnS w p m ms D g1 g2 Q1 Q2 sd g Q)(h12:(sd=1/\g=g1)∨(sd=2/\g=g2))
  (cU:VD g.t.vals) (hs:o.side=sd) (ho:o∈Qb Q) :
  Calls prog 207 #[.pointer (some ⟨p,0,none⟩),.int .u64 o.id] w λe w'=>e=.returned (.tuple #[.agg (OC o),.bool true])/\Hid (K2 w w' m sd g Q (Qa Q1 Q2) o):=by
 subst hs
 have dJ:=S.s12
 have iR:=S.mem o ho
 have hwf:=Jw (H.ok o iR).1.1
 obtain⟨w0,hw0⟩:∃w0,((w.alloc (.cells #[.int .u64 o.id] 35)).alloc (.cells (OC ⟨0,0,0,0,0,0⟩) 38))=w0:=⟨_,rfl⟩
 have b0:Ok w w0:=by rw[<-hw0];exact((Oq _ _).alloc (Sq _) _).alloc Oy _
 have cI:Cl 35 w0 w.heap.size #[.int .u64 o.id]:=by rw[<-hw0];exact Qp Oy (Qe rfl)
 have cR:Cl 38 w0 (w.heap.size+1) (OC ⟨0,0,0,0,0,0⟩):=by rw[<-hw0];exact Qe Oy
 have H0:=H.below b0
 have aC:=Ou (qaB p m ms D g1 g2 Q1 Q2 o.id hwf w0 H0)
 rw[(Z2 H.ids).2 ⟨iR,rfl⟩]at aC
 have kI:w0.cell? ⟨w.heap.size,0,none⟩=some (.int .u64 o.id):=(Cl.c cI 0).trans rfl
 have HH:=Ou (Sv H (Sv S (Sv b0 (Sv cI (Sv cR (Sv cU (Sv ho iR)))))))
 clear H0 cI cR H S b0 cU ho iR
 go_enter func207,ntmps207
 go_wp2_with fail
 ((with_reducible refine aC.out.mono ?_);rintro e w1 ⟨rfl,hb1⟩)
 clear aC kI
 dsimp only[Option.getD,Option.isSome]
 obtain⟨w2,hw2⟩:∃w2,w1.alloc (.cells (OC o) 38)=w2:=⟨_,rfl⟩
 obtain⟨H,S,b0,cI,cR,cU,ho,iR⟩:=HH.out
 have b02:Ok w0 w2:=by rw[<-hw2];exact hb1.out.alloc hb1.out.size _
 have hz0:w0.heap.size=w.heap.size+2:=by rw[<-hw0];simp
 have b2:Ok w w2:=b0.trans (b02.mono b0.size)
 have hz1:w.heap.size+2<=w1.heap.size:=by rw[<-hz0];exact hb1.out.size
 have cO2:Cl 38 w2 w1.heap.size (OC o):=by rw[<-hw2];exact Qe rfl
 have cI2:Cl 35 w2 w.heap.size #[.int .u64 o.id]:=(b02.block _ (Qc cI)).trans cI
 have cR2:Cl 38 w2 (w.heap.size+1) (OC ⟨0,0,0,0,0,0⟩):=(b02.block _ (Qc cR)).trans cR
 have G2:=H.below b2
 have nZ:=G2.gk.om _ _ rfl
 obtain⟨w3,hr,D',dF,bK,hg3⟩:=qib (M:=Za o.id (Qa Q1 Q2)) (nZ.drew) H.om o.id hwf (λid=>qh0 _ _ _) (qiH H.ids iR) (by have:=Rj (λx:Od=>!(x.id==o.id)) (Qa Q1 Q2);have:=H.len;unfold Za;omega) 0
 have cL:w2.grownBy w3 (some m):=⟨hg3.os,hg3.tape,hg3.output,hg3.size,hg3.block⟩
 have HR:=Ou hr
 have nI:=ZS cI2 nZ
 have nO:=ZS cO2 nZ
 have nR:=ZS cR2 nZ
 have nP:=ZS G2.bookp nZ
 have HP:Hid (∀W,w2.grownBy W (some m)->W.cell? ⟨p,0,none⟩=some (.map (some m))):=Ou λW h=>(Cl.c ((Zx h).blk G2.bookp nP) 0).trans rfl
 have HI:Hid (∀W,w2.grownBy W (some m)->W.cell? ⟨w.heap.size,0,none⟩=some (.int .u64 o.id)):=Ou λW h=>(Cl.c ((Zx h).blk cI2 nI) 0).trans rfl
 have sH:=Ou cL
 have gk3:=G2.gk.setom cL dF H.mm
 have dU:SgIn w3 o.side g:=by
  rcases h12 with ⟨h,rfl⟩ | ⟨h,rfl⟩
  ·rw[h];exact gk3.s1 rfl
  ·rw[h];exact gk3.s2 rfl
 have cI3:=(Zx cL).blk cI2 nI
 have cO3:=(Zx cL).blk cO2 nO
 have cR3:=(Zx cL).blk cR2 nR
 have iP:=Ou (qaN h12 w3 gk3)
 have sJ:=Ou (Xj g.tb g.sb o.side o.price g.t w3 (λ_=>dJ) dU.box dU.cx dU.tr dU.srt)
 obtain⟨x0,x1,x2,x3,x4,x5⟩:=Qm cO3
 have HH3:=Ou (Sv b2 (Sv cL (Sv gk3 (Sv dU (Sv cI3 (Sv cO3 (Sv cR3 (Sv dF (Sv bK hz1)))))))))
 clear H S b0 cI cR cU ho iR b02 hz0 b2 cO2 cI2 cR2 G2 nZ dF bK hg3 cL hr nI nO nR nP gk3 dU cI3 cO3 cR3 hb1
 go_wp2_with fail
 refine wp_region_held_drew (S:=λW=>w2.grownBy W (some m)) Ow (by exact⟨rfl,rfl,rfl,Sq _,λ_ _ _=>rfl⟩) (λhHeld=>?_)
 refine tkA 0 ?_
 refine tkA 1 ?_
 refine tkA 2 ?_
 refine tkH 3 ?_ ?_ Ov ?_
 rotate_left
 ·(intro w hSw;have hs:=HP.out _ hSw;(try dsimp only at hSw);go_simp;try with_reducible rfl)
 (try simp only[zz])
 refine tkH 4 ?_ ?_ Ov ?_
 rotate_left
 ·(intro w hSw;have hs:=HI.out _ hSw;(try dsimp only at hSw);go_simp;try with_reducible rfl)
 (try simp only[zz])
 refine rdH 5 (λK hK=>?_)
 ((with_reducible apply qiG);rfl;rfl;rfl;rfl;exact HR.out;skip)
 refine hK.out _ _ (by exact sH.out) (λhHeld=>?_)
 clear hK K
 (try simp only[zz])
 refine wpAnyH_done Ow ?_ _
 clear HP HI HR
 go_wp2_with fail
 ((with_reducible refine iP.out.mono ?_);rintro e wS ⟨rfl,rfl⟩)
 clear iP
 go_wp2_with fail
 ((with_reducible refine sJ.out.mono ?_);rintro e wG ⟨c,t,rfl,hh,n,rfl⟩)
 clear sJ
 obtain⟨H,S,b0,cI,cR,cU,ho,iR⟩:=HH.out
 obtain⟨b2,cL,gk3,dU,cI3,cO3,cR3,dF,bK,hz1⟩:=HH3.out
 obtain⟨A,M,B,bR,hA,hB,hM⟩:=Gh hh.out.1 hh.out.2 S.eq S.ok
 have bG:SideOk o.side (A++M++B):=by rw[<-bR];exact S.ok
 obtain⟨a,v,q,l,r,mr,rfl,rfl,hmp,hqe,rB,hBr⟩:∃a v q l r mr,t=.node a o.price v q l r/\M=[mr]/\mr.pr=o.price/\q=mr.q.map (·.id)/\A.map QH=c.pre++l.rows/\B.map QH=r.rows++c.post:=by
  rcases hM with ⟨_,rfl⟩|h
  ·rw[bR,Mq]at ho;rw[Mq]at bG;obtain⟨x,hx,vF⟩:=List.mem_flatMap.1 ho;have hp:=(bG.mem x hx o vF).2;rcases List.mem_append.1 hx with hx|hx
   ·have:=hA x hx;rw[<-hp,Vt]at this;cases this
   ·have:=hB x hx;rw[<-hp,Vt]at this;cases this
  ·exact h
 have nT:o∈mr.q:=by
  rw[bR]at ho;obtain⟨x,hx,vF⟩:=List.mem_flatMap.1 ho;have hp:=(bG.mem x hx o vF).2;rcases List.mem_append.1 hx with hx|hx
  ·rcases List.mem_append.1 hx with hx|hx
   ·have:=hA x hx;rw[<-hp,Vt]at this;cases this
   ·rw[List.mem_singleton.1 hx]at vF;exact vF
  ·have:=hB x hx;rw[<-hp,Vt]at this;cases this
 have hown:=hh.out.1.tr.2.1
 subst hqe
 have nJ:mr.q.length<=64:=by
  have h1:(Qb Q).length=(Qb A).length+mr.q.length+(Qb B).length:=by rw[bR];simp[Qb];omega
  have:=S.len;omega
 obtain⟨b1,cc,hv⟩:∃b1 cc,v=.slice (some ⟨b1,0,none⟩) (mr.q.map (·.id)).length cc:=by
  rcases hown.2 with ⟨_,h0⟩ | ⟨gg,cap,cur,hv,_⟩
  ·rw[Fv]at h0;have:=List.length_pos_of_mem nT;omega
  ·exact⟨gg,cap,hv⟩
 subst hv
 dsimp only[Tr.val]
 have hbl:b1<w.heap.size:=H.lt b1 (S.ft b1 (.inr (.inr (.inr ⟨_,by
  obtain⟨A3,C3,hpv⟩:=JZ c;rw[<-hh.out.1.eq,hpv];simp only[Tr.vals]
  exact Ws _ (Wx _ (Wx _ Eu)),rfl⟩))))
 have gN:(w3.drewN n).ownsRow 0 35 1 (.slice (some ⟨b1,0,none⟩) (mr.q.map (·.id)).length cc) (mr.q.map (·.id)).length (idV (mr.q.map (·.id))):=Qi hown (Fr.drewN (Fr.refl (λ_=>False) _) n) (λ_ _ h=>h)
 have iX:=Ou (qia (w3.drewN n) 0 b1 cc w.heap.size o.id (mr.q.map (·.id)) gN (by rw[Fv];omega) cI3 Oz)
 rw[qiD]at iX
 have jO:((Za o.id mr.q).map (·.id)).length=(Za o.id mr.q).length:=Fv _
 have nH:(mr.q.map (·.id)).length=mr.q.length:=Fv _
 have HLe:=Ou (Sv jO nH)
 obtain⟨N,hN⟩:∃N,N=((Za o.id mr.q).map (·.id)).length:=⟨_,rfl⟩
 rw[<-hN]at iX
 obtain⟨N0,hN0⟩:∃N0,N0=(mr.q.map (·.id)).length:=⟨_,rfl⟩
 rw[<-hN0]at iX ⊢
 have HN:=Ou (Sv hN hN0)
 have zA:=Ou (Sv bR (Sv hA (Sv hB (Sv hmp (Sv rB (Sv hBr (Sv nT (Sv nJ hbl))))))))
 have hN64:N<=64:=by
  have:=Rj (λx:Od=>!(x.id==o.id)) mr.q;rw[hN,jO];unfold Za;omega
 clear H S b0 cI cR cU ho iR b2 cL gk3 dU cI3 cO3 cR3 dF bK hz1 bR hA hB bG rB hBr nT hown nJ hbl gN jO nH hN hN0 x0 x1 x2 x3 x4 x5
 have uZ:=Vf
 go_wp2_with fail
 ((with_reducible refine iX.out.mono ?_);rintro e w5 ⟨rfl,h5⟩)
 clear iX
 obtain⟨H,S,b0,cI,cR,cU,ho,iR⟩:=HH.out
 obtain⟨b2,cL,gk3,dU,cI3,cO3,cR3,dF,bK,hz1⟩:=HH3.out
 obtain⟨bR,hA,hB,eA,rB,hBr,nT,nJ,hbl⟩:=zA.out
 have f35:Fr (·=b1) w3 w5:=((Fr.drewN (Fr.refl (λ_=>False) w3) n).mono (λ_ h=>h.elim)).trans (Zx h5.out.2.2) (λ_ h=>.inl h)
 have jI:(Value.slice (some ⟨b1,0,none⟩) (mr.q.map (·.id)).length cc)∈g.t.vals/\(o.price,Value.slice (some ⟨b1,0,none⟩) (mr.q.map (·.id)).length cc)∈g.t.items:=by
  obtain⟨A3,C3,hpv⟩:=JZ c;obtain⟨A2,C2,hpi⟩:=Vp c;rw[<-hh.out.1.eq,hpv,hpi];simp only[Tr.vals,Tr.items];exact⟨Ws _ (Wx _ (Wx _ Eu)),Ws _ (Wx _ (Wx _ Eu))⟩
 have dX:Rew w5 o.side o.price g A [mr] B (c.plug (.node a o.price (.slice (some ⟨b1,0,none⟩) (mr.q.map (·.id)).length cc) (JG o.id (mr.q.map (·.id))) l r)) :=
  qaK dU hh.out.1 rfl cU f35 (by rw[qav];have:=h5.out.2.1;rw[HN.out.2]at this;exact this) rB hBr
 generalize hTw:c.plug (.node a o.price (.slice (some ⟨b1,0,none⟩) (mr.q.map (·.id)).length cc) (JG o.id (mr.q.map (·.id))) l r)=Tw at dX
 have f35s:Fr (QF g) w3 w5:=f35.mono (λk hk=>.inl (by subst hk;exact .inr (.inr (.inr ⟨_,jI.1,rfl⟩))))
 obtain⟨cu,xR⟩:=dU.tr.vcl _ jI.1 b1 rfl
 have cO5:Cl 38 w5 w1.heap.size (OC o):=f35.blk cO3 (K1 cO3 xR Ox)
 have cR5:Cl 38 w5 (w.heap.size+1) (OC ⟨0,0,0,0,0,0⟩):=f35.blk cR3 (K1 cR3 xR Ox)
 obtain⟨x0,x1,x2,x3,x4,x5⟩:=Qm cO5
 have hN0I:(0:Int)<=(N:Int):=by omega
 by_cases hz:N=0
 ·have ez:((N:Int)==0)=true:=by simp[hz]
  have hnil:Za o.id mr.q=[]:=by
   have h1:=HN.out.1;rw[HLe.out.1,hz]at h1;exact Mz h1.symm
  have qN:=Ou (qhp g.tb g.sb o.side o.price Tw w5 dJ dX.sg.box dX.sg.cx dX.sg.tr dX.sg.srt dX.sg.nd);have oN:=Ou (λw6 T' (h6:TDrop w5 w6 g.tb g.sb o.side o.price Tw T')=>qiF S H.ids b2 cL dU dF bK bR (by rw[eA];exact hA) (by rw[eA];exact hB) nT hnil (by rw[eA];exact dX) f35s (by rw[eA];exact h6));have CH5:=Ou (λw6 T' (h6:TDrop w5 w6 g.tb g.sb o.side o.price Tw T')=>Sv (h6.fr.blk cO5 (KD dX.sg cO5 Ox Ox)) (h6.fr.blk cR5 (KD dX.sg cR5 Ox Ox)));clear H S b0 cI cR cU ho iR b2 cL gk3 dU cI3 cO3 cR3 dF bK bR hA hB rB hBr nT nJ hbl f35 jI dX f35s xR cO5 cR5 h5 hnil hh hz
  go_wp2_with fail
  ((with_reducible refine qN.out.mono ?_);rintro e w6 ⟨rfl,T',h6⟩);have oN:=Ou (oN.out w6 T' h6.out);obtain⟨cO6,cR6⟩:=CH5.out w6 T' h6.out;clear qN h6 x0 x1 x2 x3 x4 x5;obtain⟨x0,x1,x2,x3,x4,x5⟩:=Qm cO6;obtain⟨z0,z1,z2,z3,z4,z5⟩:=Qm cR6;have f0:=Cl.f cR6 (k:=0);have f1:=Cl.f cR6 (k:=1);have f2:=Cl.f cR6 (k:=2);have f3:=Cl.f cR6 (k:=3);have f4:=Cl.f cR6 (k:=4);have f5:=Cl.f cR6 (k:=5);have t7:=Ou cR6;clear cO6 cR6 CH5;go_wp2_with fail
  have hf7:Fr (·=w.heap.size+1) w6 (Zn w6 (w.heap.size+1) o):=qaI o (Fr.refl _ _);have hX:=JW o t7.out;refine bodyPost_ret (ZK rfl _ _ _ rfl o _ hX _ rfl) rfl ?_;exact⟨rfl,Ou (qaU oN.out hf7 t7.out Oz)⟩
 ·have ez:((N:Int)==0)=false:=by simp;omega
  have hnn:Za o.id mr.q≠[]:=λe=>hz (by rw[HN.out.1,HLe.out.1,e];rfl);have kY:=Ou (T4 g.tb g.sb o.side o.price Tw (.slice (some ⟨b1,0,none⟩) N cc) ((Za o.id mr.q).map (·.id)) w5 dJ dX.sg.box dX.sg.cx dX.sg.tr dX.sg.srt dX.sg.nd (by have:=h5.out.1;rw[<-HN.out.1];exact this));have oN:=Ou (λw6 T' (h6:TPut w5 w6 g.tb g.sb o.side o.price Tw T' (.slice (some ⟨b1,0,none⟩) N cc) ((Za o.id mr.q).map (·.id)))=>qiE (v:=.slice (some ⟨b1,0,none⟩) (mr.q.map (·.id)).length cc) (v':=.slice (some ⟨b1,0,none⟩) N cc) S dJ H.ids b2 cL dU dF bK bR (by rw[eA];exact hA) (by rw[eA];exact hB) nT hnn (by rw[eA];exact dX) f35s (by rw[eA];exact jI.2) rfl (by rw[eA];exact h6))
  have CH5:=Ou (λw6 T' (h6:TPut w5 w6 g.tb g.sb o.side o.price Tw T' (.slice (some ⟨b1,0,none⟩) N cc) ((Za o.id mr.q).map (·.id)))=>Sv (h6.fr.blk cO5 (KD dX.sg cO5 Ox Ox)) (h6.fr.blk cR5 (KD dX.sg cR5 Ox Ox)));clear H S b0 cI cR cU ho iR b2 cL gk3 dU cI3 cO3 cR3 dF bK bR hA hB rB hBr nT nJ hbl f35 jI dX f35s xR cO5 cR5 h5 hnn hh hz;go_wp2_with fail
  ((with_reducible refine kY.out.mono ?_);rintro e w6 ⟨rfl,T',h6⟩);have oN:=Ou (oN.out w6 T' h6.out);obtain⟨cO6,cR6⟩:=CH5.out w6 T' h6.out;clear kY h6 x0 x1 x2 x3 x4 x5;obtain⟨x0,x1,x2,x3,x4,x5⟩:=Qm cO6;obtain⟨z0,z1,z2,z3,z4,z5⟩:=Qm cR6;have f0:=Cl.f cR6 (k:=0);have f1:=Cl.f cR6 (k:=1);have f2:=Cl.f cR6 (k:=2);have f3:=Cl.f cR6 (k:=3);have f4:=Cl.f cR6 (k:=4);have f5:=Cl.f cR6 (k:=5);have t7:=Ou cR6;clear cO6 cR6 CH5;go_wp2_with fail
  have hf7:Fr (·=w.heap.size+1) w6 (Zn w6 (w.heap.size+1) o):=qaI o (Fr.refl _ _);have hX:=JW o t7.out;refine bodyPost_ret (ZK rfl _ _ _ rfl o _ hX _ rfl) rfl ?_;exact⟨rfl,Ou (qaU oN.out hf7 t7.out Oz)⟩
structure gTakeIs (w w':World) (p:Nat) (m:Nat×Nat) (s1 s2 s1' s2':Gd) (o:Od):Prop where
 tu:gTurnIs w w' p m s1 s2 s1' s2'
 perm:(Qa s1.rs s2.rs).Perm (o :: Qa s1'.rs s2'.rs)
 e2:o.side=1->s2'=s2
 e1:o.side=2->s1'=s1
theorem qaW {L M:List Od}{o:Od}(hi:Ids L)(ho:o∈L)(h:L.Perm (o :: M)):(Za o.id L).Perm M:=((V9 hi ho).symm.trans h).cons_inv
theorem qaX {L M:List Od}{o:Od}{w w':World}(hi:Ids L)(h:L.Perm (o :: M))(hl:L.length<=64)(hok:∀x∈L,Od.ok w x/\Qk x=true):Ids M/\M.length<=64/\∀x∈M,Od.ok w' x/\Qk x=true:=by
 have hi':=Xs hi h
 refine⟨(List.pairwise_cons.1 hi').2,?_,λx hx=>hok x (h.mem_iff.2 (Ev _ hx))⟩
 have:=h.length_eq
 simp at this
 omega
theorem qiI {w w':World}{p:Nat}{m:Nat×Nat}{D:DataW Value}{s1 s2:Gd}{o:Od}(H:GW w p m.1 m.2 D s1.g s2.g s1.rs s2.rs)(h:K2 w w' m.1 1 s1.g s1.rs (Qa s1.rs s2.rs) o)(hs:o.side=1)(ho:o∈Qa s1.rs s2.rs) :
  ∃s1',gTakeIs w w' p m s1 s2 s1' s2 o:=by
 obtain⟨D',T',Q',om,hO,sT,er,ok,pm,vd⟩:=h
 have hperm:(Qa s1.rs s2.rs).Perm (o :: Qa Q' s2.rs):=pm.append_right (Qb s2.rs)
 obtain⟨i',l',k'⟩:=qaX (w':=w') H.ids hperm H.len H.ok
 have dI:Ids (Za o.id (Qa s1.rs s2.rs)):=H.ids.filter _
 have hlt:∀u∈s1.g.t.vals++s2.g.t.vals,∀k,u.ownBlock=some k->k<w.heap.size:=λu hu k hk=>by
  rcases List.mem_append.1 hu with hu|hu
  ·exact(H.gk.s1 rfl).tr.vlt u hu k hk
  ·exact(H.gk.s2 rfl).tr.vlt u hu k hk
 exact⟨⟨⟨s1.g.tb,s1.g.sb,T'⟩,Q'⟩,qaQ H sT om (hO.perm dI (qaW H.ids ho hperm)) er ok i' l' k' (vd _ H.vd hlt),hperm,λ_=>rfl,λh=>by omega⟩
theorem qiJ {w w':World}{p:Nat}{m:Nat×Nat}{D:DataW Value}{s1 s2:Gd}{o:Od}(H:GW w p m.1 m.2 D s1.g s2.g s1.rs s2.rs)(h:K2 w w' m.1 2 s2.g s2.rs (Qa s1.rs s2.rs) o)(hs:o.side=2)(ho:o∈Qa s1.rs s2.rs) :
  ∃s2',gTakeIs w w' p m s1 s2 s1 s2' o:=by
 obtain⟨D',T',Q',om,hO,sT,er,ok,pm,vd⟩:=h
 have hperm:(Qa s1.rs s2.rs).Perm (o :: Qa s1.rs Q'):=(pm.append_left (Qb s1.rs)).trans Ps
 obtain⟨i',l',k'⟩:=qaX (w':=w') H.ids hperm H.len H.ok
 have dI:Ids (Za o.id (Qa s1.rs s2.rs)):=H.ids.filter _
 have hlt:∀u∈s2.g.t.vals++s1.g.t.vals,∀k,u.ownBlock=some k->k<w.heap.size:=λu hu k hk=>by
  rcases List.mem_append.1 hu with hu|hu
  ·exact(H.gk.s2 rfl).tr.vlt u hu k hk
  ·exact(H.gk.s1 rfl).tr.vlt u hu k hk
 exact⟨⟨⟨s2.g.tb,s2.g.sb,T'⟩,Q'⟩,qaR H sT om (hO.perm dI (qaW H.ids ho hperm)) er ok i' l' k' ((vd _ (H.vd.perm Rk) hlt).perm Rk),hperm,λh=>by omega,λ_=>rfl⟩
theorem qaY (p:Nat)(m:Nat×Nat)(s1 s2:Gd)(o:Od)(id:Int)(w:World)(H:gWhole w p m s1 s2)(ho:o∈Qa s1.rs s2.rs)(hid:o.id=id) :
  Calls prog 207 #[.pointer (some ⟨p,0,none⟩),.int .u64 id] w λe w'=>e=.returned (.tuple #[QG (some o),.bool true])/\∃s1' s2',Hid (gTakeIs w w' p m s1 s2 s1' s2' o):=by
 subst hid
 obtain⟨D,H⟩:=H
 rcases List.mem_append.1 ho with vD|vD
 ·have hs:=Z9 H.ok1 o vD;refine(qaV p m.1 m.2 D s1.g s2.g s1.rs s2.rs 1 s1.g s1.rs o w H H.own1 (.inl ⟨rfl,rfl⟩) (List.pairwise_append.1 H.vd).1 hs vD).mono λe w' h=>⟨h.1,?_⟩
  obtain⟨s1',h'⟩:=qiI H h.2.out hs ho;exact⟨s1',s2,Ou h'⟩
 ·have hs:=Z9 H.ok2 o vD;refine(qaV p m.1 m.2 D s1.g s2.g s1.rs s2.rs 2 s2.g s2.rs o w H H.own2 (.inr ⟨rfl,rfl⟩) (List.pairwise_append.1 H.vd).2.1 hs vD).mono λe w' h=>⟨h.1,?_⟩
  obtain⟨s2',h'⟩:=qiJ H h.2.out hs ho;exact⟨s1,s2',Ou h'⟩
section
variable {ops:Array Oper}{rest:List Oper}{o:Oper}{a:Act}{w:World}{Q:Exit → Act → World → Prop}
theorem K5 (hgd:o.guard=none)(x y:Operand)(ho:o.op=.store 38 x y)(g:Nat)(z:Od)(hx:a.eval x=.pointer (some ⟨g,0,none⟩))(hy:a.eval y=.agg (OC z))(z':Od)(t:TypeId)
  (hg:Cl t w g (OC z')) (h:wpList prog ops Q rest (a.put o.dst undef) (w.setRow g (OC z))):wpList prog ops Q (o :: rest) a w :=
 wpList_plain hgd λK hK=>wp_store_row _ x y ho g _ hx hy _ _ hg (qaH z) rfl (all_oneCell_toArray (cs:=Qn z) (Jr z)) (hK _ _ h)
end
theorem qaZ {T:TypeId}{w:World}{k g:Nat}{cs cs':Array Value}(h:Cl T w k cs)(hne:k≠g):Cl T (w.setRow g cs') k cs:=(setRow_other w g k cs' hne).trans h
theorem qiK (p:Nat)(m:Nat×Nat)(s1 s2:Gd)(id:Int)(hwf:(Lit.int .u64 id).wf=true)(w:World)(H:gWhole w p m s1 s2)(hno:∀x∈Qa s1.rs s2.rs,¬x.id=id) :
  Calls prog 207 #[.pointer (some ⟨p,0,none⟩),.int .u64 id] w λe w'=>e=.returned (.tuple #[QG none,.bool false])/\Hid (Ok w w'):=by
 obtain⟨D,H⟩:=H
 obtain⟨w0,hw0⟩:∃w0,((w.alloc (.cells #[.int .u64 id] 35)).alloc (.cells (OC ⟨0,0,0,0,0,0⟩) 38))=w0:=⟨_,rfl⟩
 have b0:Ok w w0:=by rw[<-hw0];exact((Oq _ _).alloc (Sq _) _).alloc Oy _
 have cI:Cl 35 w0 w.heap.size #[.int .u64 id]:=by rw[<-hw0];exact Qp Oy (Qe rfl)
 have cR:Cl 38 w0 (w.heap.size+1) (OC ⟨0,0,0,0,0,0⟩):=by rw[<-hw0];exact Qe Oy
 have hz0:w0.heap.size=w.heap.size+2:=by rw[<-hw0];simp
 have aC:=Ou (qaB p m.1 m.2 D s1.g s2.g s1.rs s2.rs id hwf w0 (H.below b0))
 rw[omL_none.2 hno]at aC
 have kI:w0.cell? ⟨w.heap.size,0,none⟩=some (.int .u64 id):=(Cl.c cI 0).trans rfl
 have HH:=Ou (Sv b0 (Sv cR hz0))
 clear H b0 cI cR hz0
 go_enter func207,ntmps207
 go_wp2_with fail
 ((with_reducible refine aC.out.mono ?_);rintro e w1 ⟨rfl,hb1⟩)
 clear aC kI
 dsimp only[Option.getD,Option.isSome,zO]
 obtain⟨b0,cR,hz0⟩:=HH.out
 have b1:Ok w w1:=b0.trans (hb1.out.mono b0.size)
 have cR1:Cl 38 w1 (w.heap.size+1) (OC ⟨0,0,0,0,0,0⟩):=(hb1.out.block _ (Qc cR)).trans cR
 have hne:w.heap.size+1<w1.heap.size:=Qc cR1
 obtain⟨w2,hw2⟩:∃w2,w1.alloc (.cells (OC ⟨0,0,0,0,0,0⟩) 38)=w2:=⟨_,rfl⟩
 have b12:Ok w1 w2:=by rw[<-hw2];exact(Oq _ _).alloc (Sq _) _
 have cR2:Cl 38 w2 (w.heap.size+1) (OC ⟨0,0,0,0,0,0⟩):=(b12.block _ hne).trans cR1
 have cN2:Cl 38 w2 w1.heap.size (OC ⟨0,0,0,0,0,0⟩):=by rw[<-hw2];exact Qe rfl
 have HR:=Ou (Sv cR2 (Sv (b1.trans (b12.mono b1.size)) (Sv cN2 hne)))
 have fR:Hid (w.heap.size+1≠w1.heap.size):=Ou Oz
 clear b0 cR hz0 b1 cR1 b12 cR2 hb1 cN2 hne
 go_wp2_with (first|((with_reducible apply K5);rfl;rfl;rfl;rfl;exact HR.out.2.2.1;skip)|(refine K5 rfl _ _ rfl (w.heap.size+1) ⟨0,0,0,0,0,0⟩ rfl rfl _ _ (qaZ HR.out.1 fR.out) ?_))
 have hX:Cl 38 ((w2.setRow w1.heap.size (OC ⟨0,0,0,0,0,0⟩)).setRow (w.heap.size+1) (OC ⟨0,0,0,0,0,0⟩)) (w.heap.size+1) (OC ⟨0,0,0,0,0,0⟩):=setRow_heap _ _ _ _ _ _ (qaZ HR.out.1 fR.out)
 have hb:=Zy (cs:=OC ⟨0,0,0,0,0,0⟩) (Zy (cs:=OC ⟨0,0,0,0,0,0⟩) HR.out.2.1 (show w.heap.size<=w1.heap.size by have:=HR.out.2.2.2;omega)) (show w.heap.size<=w.heap.size+1 by omega)
 refine bodyPost_ret (ZK rfl _ _ _ rfl ⟨0,0,0,0,0,0⟩ _ hX _ rfl) rfl ?_
 exact⟨rfl,Ou hb⟩
structure gLessIs (w w':World) (p:Nat) (m:Nat×Nat) (s1 s2 s1' s2':Gd) (o:Od) (qty:Int):Prop where
 tu:gTurnIs w w' p m s1 s2 s1' s2'
 now:Qa s1'.rs s2'.rs=(Qa s1.rs s2.rs).map (QT o.id qty)
 e2:o.side=1->s2'=s2
 e1:o.side=2->s1'=s1
def qa0 (w w':World)(p:Nat)(m:Nat×Nat)(s1 s2 s1' s2':Gd)(id qty c:Int):Prop :=
 (c=51/\(∀x∈Qa s1.rs s2.rs,¬x.id=id)/\s1'=s1/\s2'=s2/\Ok w w') ∨
 ∃o∈Qa s1.rs s2.rs,o.id=id/\((c=2/\(qty<1∨o.qty<qty)/\s1'=s1/\s2'=s2/\Ok w w')∨(c=0/\¬qty<1/\qty=o.qty/\gTakeIs w w' p m s1 s2 s1' s2' o)∨(c=0/\¬qty<1/\qty<o.qty/\gLessIs w w' p m s1 s2 s1' s2' o qty))
def Jl (id qty:Int)(r:Rw):Rw:=⟨r.pr,r.v,r.q.map (QT id qty)⟩
theorem qa1 (id qty:Int)(Q:List Rw):(Q.map (Jl id qty)).map QH=Q.map QH:=by
 rw[List.map_map]
 apply Aj
 intro r _
 simp only[Function.comp,QH,Jl,List.map_map]
 congr 1
 apply Aj
 intro x _
 exact(ZL id qty x).1
theorem qa2 (id qty:Int)(Q:List Rw):Qb (Q.map (Jl id qty))=(Qb Q).map (QT id qty):=by
 unfold Qb
 rw[List.flatMap_map,List.map_flatMap]
 rfl
theorem qa3 {s id qty:Int}{Q:List Rw}(h:SideOk s Q):SideOk s (Q.map (Jl id qty)):=by
 refine⟨List.pairwise_map.2 h.rows,λr hr=>?_,λr hr x hx=>?_,λr hr=>?_⟩
 ·obtain⟨r0,h0,rfl⟩:=List.mem_map.1 hr;have:=h.some r0 h0;simpa [Jl] using this
 ·obtain⟨r0,h0,rfl⟩:=List.mem_map.1 hr;obtain⟨y,hy,rfl⟩:=List.mem_map.1 hx;have:=h.mem r0 h0 y hy;rw[(ZL id qty y).2.1,(ZL id qty y).2.2];exact this
 ·obtain⟨r0,h0,rfl⟩:=List.mem_map.1 hr;refine List.pairwise_map.2 ((h.que r0 h0).imp λ{x y} hxy=>?_);rw[UY];exact hxy
theorem qa4 {id qty:Int}{Q:List Rw}(h:∀x∈Qb Q,¬x.id=id):Q.map (Jl id qty)=Q:=by
 rw[Aj (g:=λr=>r)]
 ·exact List.map_id' Q
 ·intro r hr;obtain⟨p,v,q⟩:=r;have:q.map (QT id qty)=q.map (λx=>x):=Aj λx hx=>Sw (h x (List.mem_flatMap.2 ⟨_,hr,hx⟩));simp only[Jl];rw[this,List.map_id']
theorem qiL {L:List Od}{o:Od}{qty:Int}(hi:Ids L)(ho:o∈L)(id:Int):omL (L.map (QT o.id qty)) id=if id=(Qz o qty).id then some (Qz o qty) else omL L id:=by
 have hi':Ids (L.map (QT o.id qty)):=List.pairwise_map.2 (hi.imp λ{x y} h=>by rw[(ZL _ _ x).1,(ZL _ _ y).1];exact h)
 apply Option.ext
 intro x
 rw[Z2 hi']
 by_cases e:id=o.id
 ·rw[Sx (by exact e)];constructor
  ·rintro ⟨hx,dK⟩;obtain⟨y,hy,rfl⟩:=List.mem_map.1 hx;have wC:y=o:=Vs hi hy ho (by rw[(ZL _ _ y).1]at dK;rw[dK,e]);subst wC;unfold QT;rw[Sx rfl]
  ·intro h;injection h with h;subst h;refine⟨List.mem_map.2 ⟨o,ho,by unfold QT;rw[Sx rfl]⟩,e.symm⟩
 ·rw[Sw (by exact e),Z2 hi];constructor
  ·rintro ⟨hx,dK⟩;obtain⟨y,hy,rfl⟩:=List.mem_map.1 hx;have wC:¬y.id=o.id:=λh=>e (by rw[<-dK,(ZL _ _ y).1,h]);have e1:QT o.id qty y=y:=Sw wC;rw[e1]at dK ⊢;exact⟨hy,dK⟩
  ·rintro ⟨hx,dK⟩;exact⟨List.mem_map.2 ⟨x,hx,Sw (λh=>e (by rw[<-dK,h]))⟩,dK⟩
theorem qiM {w w0 w':World}{p m1 m2:Nat}{D D':DataW Value}{s1 s2:Gd}{o:Od}{qty:Int}(H:GW w0 p m1 m2 D s1.g s2.g s1.rs s2.rs)(b0:Ok w w0)(hg:w0.grownBy w' (some m1))(om:w'.ownsMap prog 35 RV m1 64 D')(hO:OmT D' ((Qa s1.rs s2.rs).map (QT o.id qty)))
  (ho:o∈Qa s1.rs s2.rs) (h1:¬qty<1) (h2:qty<o.qty):∃s1' s2',gLessIs w w' p (m1,m2) s1 s2 s1' s2' o qty:=by
 have hbk:Qa (s1.rs.map (Jl o.id qty)) (s2.rs.map (Jl o.id qty))=(Qa s1.rs s2.rs).map (QT o.id qty):=by
  unfold Qa;rw[qa2,qa2,Mw]
 have hft:∀k,gft p (m1,m2) ⟨s1.g,s1.rs.map (Jl o.id qty)⟩ ⟨s2.g,s2.rs.map (Jl o.id qty)⟩ k->gft p (m1,m2) s1 s2 k:=λk h=>h
 refine⟨⟨s1.g,s1.rs.map (Jl o.id qty)⟩,⟨s2.g,s2.rs.map (Jl o.id qty)⟩,⟨⟨D',H.gk.setom hg om H.mm,by rw[hbk];exact hO,?_,?_,qa3 H.ok1,qa3 H.ok2,?_,?_,?_,H.vd,H.bd,H.tb,H.mm,H.sb⟩,?_,λk hk=>.inl (hft k hk)⟩,hbk,λhs=>?_,λhs=>?_⟩
 ·dsimp only;rw[qa1];exact H.e1
 ·dsimp only;rw[qa1];exact H.e2
 ·dsimp only;rw[hbk];exact List.pairwise_map.2 (H.ids.imp λ{x y} h=>by rw[(ZL _ _ x).1,(ZL _ _ y).1];exact h)
 ·dsimp only;rw[hbk,Fv];exact H.len
 ·dsimp only;rw[hbk];intro x hx;obtain⟨y,hy,rfl⟩:=List.mem_map.1 hx;unfold QT
  split
  ·rename_i wC
   have:y=o:=Vs H.ids hy ho wC;subst this;exact UZ (H.ok y hy) h1 h2
  ·exact H.ok y hy
 ·exact((Fr.of_below (S:=gft p (m1,m2) s1 s2) b0).trans (Zx hg) (λk h=>.inl (by subst h;exact .inr (.inl rfl))))
 ·have hn:∀x∈Qb s2.rs,¬x.id=o.id:=λx hx e=>by
   have:=Vs H.ids (Wx _ hx) ho e;subst this;have:=Z9 H.ok2 x hx;omega
  obtain⟨gg,rr⟩:=s2;dsimp only at hn ⊢;rw[qa4 hn]
 ·have hn:∀x∈Qb s1.rs,¬x.id=o.id:=λx hx e=>by
   have:=Vs H.ids (Ws _ hx) ho e;subst this;have:=Z9 H.ok1 x hx;omega
  obtain⟨gg,rr⟩:=s1;dsimp only at hn ⊢;rw[qa4 hn]
theorem qiN {w W w':World}{p:Nat}{m:Nat×Nat}{s1 s2 s1' s2':Gd}{o:Od}(hb:Ok w W)(h:gTakeIs W w' p m s1 s2 s1' s2' o):gTakeIs w w' p m s1 s2 s1' s2' o :=
 ⟨⟨h.tu.wh,(Fr.of_below hb:Fr (gft p m s1 s2) w W).trans h.tu.fr (λ_ h=>.inl h),λk hk=>(h.tu.ft k hk).imp id (λh'=>Sk hb.size h')⟩,h.perm,h.e2,h.e1⟩
theorem qiO (p:Nat)(m:Nat×Nat)(s1 s2:Gd)(id qty:Int)(hwf:(Lit.int .u64 id).wf=true)(w:World)(H:gWhole w p m s1 s2)(hno:∀x∈Qa s1.rs s2.rs,¬x.id=id) :
  Calls prog 202 #[.pointer (some ⟨p,0,none⟩),.int .u64 id,.int .i64 qty] w λe w'=>e=.returned (.int .i64 51)/\Hid (Ok w w'):=by
 obtain⟨D,H⟩:=H
 have HM:=Ou (Ke (some ⟨p,0,none⟩) (some (m.1,m.2)) D s1.g s2.g w H.gk)
 have k0:w.cell? ⟨p,0,none⟩=some (.map (some m.1)):=(H.bookp.c 0).trans rfl
 have hl:=look_ok (H.gk.om _ _ rfl) H.om id hwf
 rw[omL_none.2 hno]at hl
 have hl':(Instr.lookup 133 (.map (some m.1)) (.int .u64 id) true).run prog w=.ok (.tuple #[.agg (OC ⟨0,0,0,0,0,0⟩),.bool false]) w:=hl
 clear H hl
 obtain⟨m1,m2⟩:=m
 dsimp only at HM k0 hl'
 go_enter func202,ntmps202
 go_wp2_with ((with_reducible refine HM.out.mono ?_);rintro e w1 ⟨rfl,rfl⟩;clear HM)
 go_ret
 exact⟨rfl,Ou ((Oq _ _).alloc (Sq _) _)⟩
theorem qa5 (p:Nat)(m:Nat×Nat)(s1 s2:Gd)(o:Od)(id qty:Int)(w:World)(H:gWhole w p m s1 s2)(ho:o∈Qa s1.rs s2.rs)(hid:o.id=id)(hq:qty<1∨o.qty<qty) :
  Calls prog 202 #[.pointer (some ⟨p,0,none⟩),.int .u64 id,.int .i64 qty] w λe w'=>e=.returned (.int .i64 2)/\Hid (Ok w w'):=by
 obtain⟨D,H⟩:=H
 obtain⟨m1,m2⟩:=m
 subst hid
 have hwf:=Jw (H.ok o ho).1.1
 have HM:=Ou (Ke (some ⟨p,0,none⟩) (some (m1,m2)) D s1.g s2.g w H.gk)
 have k0:w.cell? ⟨p,0,none⟩=some (.map (some m1)):=(H.bookp.c 0).trans rfl
 have hl:=look_ok (H.gk.om _ _ rfl) H.om o.id hwf
 rw[(Z2 H.ids).2 ⟨ho,rfl⟩]at hl
 have hl':(Instr.lookup 133 (.map (some m1)) (.int .u64 o.id) true).run prog w=.ok (.tuple #[.agg (OC o),.bool true]) w:=hl
 clear H hl ho
 have hB:Ok w (w.alloc (.cells (OC o) 38)):=(Oq _ _).alloc (Sq _) _
 by_cases q1:qty<1
 ·have g1:decide (qty<1)=true:=Sy q1;clear hq;go_enter func202,ntmps202;go_wp2_with ((with_reducible refine HM.out.mono ?_);rintro e w1 ⟨rfl,rfl⟩;clear HM)
  go_ret;exact⟨rfl,Ou hB⟩
 ·have g1:decide (qty<1)=false:=Sz q1;have q2:o.qty<qty:=by omega
  have g2:decide (o.qty<qty)=true:=Sy q2;clear hq;go_enter func202,ntmps202;go_wp2_with ((with_reducible refine HM.out.mono ?_);rintro e w1 ⟨rfl,rfl⟩;clear HM)
  go_ret;exact⟨rfl,Ou hB⟩
theorem qiP (p:Nat)(m:Nat×Nat)(s1 s2:Gd)(o:Od)(id qty:Int)(w:World)(H:gWhole w p m s1 s2)(ho:o∈Qa s1.rs s2.rs)(hid:o.id=id)(q1:¬qty<1)(hq:qty=o.qty) :
  Calls prog 202 #[.pointer (some ⟨p,0,none⟩),.int .u64 id,.int .i64 qty] w λe w'=>e=.returned (.int .i64 0)/\∃s1' s2',Hid (gTakeIs w w' p m s1 s2 s1' s2' o):=by
 obtain⟨D,H⟩:=H
 obtain⟨m1,m2⟩:=m
 subst hid
 have hwf:=Jw (H.ok o ho).1.1
 have HM:=Ou (Ke (some ⟨p,0,none⟩) (some (m1,m2)) D s1.g s2.g w H.gk)
 have k0:w.cell? ⟨p,0,none⟩=some (.map (some m1)):=(H.bookp.c 0).trans rfl
 have hl:=look_ok (H.gk.om _ _ rfl) H.om o.id hwf
 rw[(Z2 H.ids).2 ⟨ho,rfl⟩]at hl
 have hl':(Instr.lookup 133 (.map (some m1)) (.int .u64 o.id) true).run prog w=.ok (.tuple #[.agg (OC o),.bool true]) w:=hl
 have hB:Ok w (w.alloc (.cells (OC o) 38)):=(Oq _ _).alloc (Sq _) _
 have HT:=Ou (qaY p (m1,m2) s1 s2 o o.id _ ⟨D,H.below hB⟩ ho rfl)
 have g1:decide (o.qty<1)=false:=Sz Oz
 have g2:decide (o.qty<o.qty)=false:=Sz Oz
 have g3:¬o.qty<1:=by omega
 have g4:¬o.qty<o.qty:=by omega
 have g5:(o.qty==o.qty)=true:=by simp
 have HB:=Ou hB
 subst hq
 clear H hl ho q1 hB
 go_enter func202,ntmps202
 go_wp2_with (first|((with_reducible refine HM.out.mono ?_);rintro e w1 ⟨rfl,rfl⟩;clear HM)|((with_reducible refine HT.out.mono ?_);rintro e w5 ⟨rfl,s1',s2',h5⟩;clear HT))
 go_ret
 exact⟨rfl,s1',s2',Ou (qiN HB.out h5.out)⟩
theorem qiQ (p:Nat)(m:Nat×Nat)(s1 s2:Gd)(o:Od)(id qty:Int)(w:World)(H:gWhole w p m s1 s2)(ho:o∈Qa s1.rs s2.rs)(hid:o.id=id)(q1:¬qty<1)(hq:qty<o.qty) :
  Calls prog 202 #[.pointer (some ⟨p,0,none⟩),.int .u64 id,.int .i64 qty] w λe w'=>e=.returned (.int .i64 0)/\∃s1' s2',Hid (gLessIs w w' p m s1 s2 s1' s2' o qty):=by
 obtain⟨D,H⟩:=H
 obtain⟨m1,m2⟩:=m
 subst hid
 have hwf:=Jw (H.ok o ho).1.1
 have HM:=Ou (Ke (some ⟨p,0,none⟩) (some (m1,m2)) D s1.g s2.g w H.gk)
 have k0:w.cell? ⟨p,0,none⟩=some (.map (some m1)):=(H.bookp.c 0).trans rfl
 have hl:=look_ok (H.gk.om _ _ rfl) H.om o.id hwf
 rw[(Z2 H.ids).2 ⟨ho,rfl⟩]at hl
 have hl':(Instr.lookup 133 (.map (some m1)) (.int .u64 o.id) true).run prog w=.ok (.tuple #[.agg (OC o),.bool true]) w:=hl
 have hB:Ok w (w.alloc (.cells (OC o) 38)):=(Oq _ _).alloc (Sq _) _
 obtain⟨w3,hw3⟩:∃w3,w.alloc (.cells (OC (Qz o qty)) 38)=w3:=⟨_,rfl⟩
 have b3:Ok w w3:=by rw[<-hw3];exact(Oq _ _).alloc (Sq _) _
 have cO:Cl 38 w3 w.heap.size (OC (Qz o qty)):=by rw[<-hw3];exact Qe rfl
 have G3:=H.below b3
 have dF:=G3.gk.om _ _ rfl
 have gZ:=(H.ok o ho).1
 obtain⟨w',hr,D',yE,mW,hg'⟩:=qaA (M:=(Qa s1.rs s2.rs).map (QT o.id qty)) (dF.drew) Oz H.om (Qz o qty) hwf (qiL H.ids ho) (by rw[Fv];rw[Sx (by show (omL _ o.id).isSome=true;rw[(Z2 H.ids).2 ⟨ho,rfl⟩];rfl)]) (by rw[Fv];exact H.len)
 have hg3:w3.grownBy w' (some m1):=⟨hg'.os,hg'.tape,hg'.output,hg'.size,hg'.block⟩
 have HR:Hid ((Instr.mapUpdate 133 (.map (some m1)) (.int .u64 o.id) (.agg (OC (Qz o qty)))).run prog w3.drew=.ok () w'):=Ou hr
 have sH:=Ou hg3
 have nO:=ZS cO dF
 have nP:=ZS G3.bookp dF
 have HP:Hid (∀W,w3.grownBy W (some m1)->W.cell? ⟨p,0,none⟩=some (.map (some m1))):=Ou λW h=>(Cl.c ((Zx h).blk G3.bookp nP) 0).trans rfl
 have HO:Hid (∀W,w3.grownBy W (some m1)->Cl 38 W w.heap.size (OC (Qz o qty))):=Ou λW h=>(Zx h).blk cO nO
 have HF:=Ou (qiM (qty:=qty) G3 b3 hg3 yE mW ho q1 hq)
 have hqr:-9223372036854775808<=o.qty/\o.qty<=9223372036854775807:=gZ.2.2.2.2.1
 have g1:decide (qty<1)=false:=Sz q1
 have g2:decide (o.qty<qty)=false:=Sz Oz
 have g4:¬o.qty<qty:=by omega
 have g5:(qty==o.qty)=false:=by simp;omega
 have ew:IntKind.i64.wrap (o.qty-qty)=o.qty-qty:=by rw[Wz];omega
 have ew2:wrap64 (o.qty-qty)=o.qty-qty:=by unfold wrap64;omega
 clear H hl ho hB b3 cO G3 dF gZ hr yE mW hg' hg3 nO nP hqr hq
 go_enter func202,ntmps202
 go_wp2_with ((with_reducible refine HM.out.mono ?_);rintro e w1 ⟨rfl,rfl⟩;clear HM)
 rw[show w.alloc (.cells #[.int .u64 o.id,.int .i64 o.acc,.int .i64 o.side,.int .i64 o.price,.int .i64 (o.qty-qty),.int .u64 o.seq] 38)=w3 from hw3]
 refine wp_region_held_drew (S:=λW=>w3.grownBy W (some m1)) Ow (by exact⟨rfl,rfl,rfl,Sq _,λ_ _ _=>rfl⟩) (λhHeld=>?_)
 refine tkA 0 ?_
 refine tkA 1 ?_
 refine tkA 2 ?_
 refine tkH 3 ?_ ?_ Ov ?_
 rotate_left
 ·(intro w hSw;have hs:=HP.out _ hSw;(try dsimp only at hSw);go_simp;try with_reducible rfl)
 (try simp only[zz])
 refine tkA 4 ?_
 refine tkH 5 ?_ ?_ Ov ?_
 rotate_left
 ·(intro w hSw;obtain⟨x0,x1,x2,x3,x4,x5⟩:=Qm (HO.out _ hSw);(try dsimp only at hSw);go_simp;try with_reducible rfl)
 (try simp only[zz])
 refine rdH 6 (λK hK=>?_)
 ((with_reducible apply qaM);rfl;rfl;rfl;rfl;rfl;exact HR.out;skip)
 refine hK.out _ _ (by exact sH.out) (λhHeld=>?_)
 clear hK K
 (try simp only[zz])
 refine wpAnyH_done Ow ?_ _
 clear HP HO HR
 go_wp2_with fail
 go_ret
 obtain⟨s1',s2',h⟩:=HF.out
 exact⟨rfl,s1',s2',Ou h⟩
theorem qiR (p:Nat)(m:Nat×Nat)(s1 s2:Gd)(id qty:Int)(hwf:(Lit.int .u64 id).wf=true)(w:World)(H:gWhole w p m s1 s2) :
  Calls prog 202 #[.pointer (some ⟨p,0,none⟩),.int .u64 id,.int .i64 qty] w λe w'=>∃c s1' s2',e=.returned (.int .i64 c)/\Hid (qa0 w w' p m s1 s2 s1' s2' id qty c):=by
 by_cases hx:∃x∈Qa s1.rs s2.rs,x.id=id
 ·obtain⟨o,ho,hid⟩:=hx;by_cases h1:qty<1
  ·exact(qa5 p m s1 s2 o id qty w H ho hid (.inl h1)).mono λe w' h=>⟨2,s1,s2,h.1,Ou (.inr ⟨o,ho,hid,.inl ⟨rfl,.inl h1,rfl,rfl,h.2.out⟩⟩)⟩
  by_cases h2:o.qty<qty
  ·exact(qa5 p m s1 s2 o id qty w H ho hid (.inr h2)).mono λe w' h=>⟨2,s1,s2,h.1,Ou (.inr ⟨o,ho,hid,.inl ⟨rfl,.inr h2,rfl,rfl,h.2.out⟩⟩)⟩
  by_cases h3:qty=o.qty
  ·exact(qiP p m s1 s2 o id qty w H ho hid h1 h3).mono λe w' ⟨h,s1',s2',k⟩=>⟨0,s1',s2',h,Ou (.inr ⟨o,ho,hid,.inr (.inl ⟨rfl,h1,h3,k.out⟩)⟩)⟩
  ·exact(qiQ p m s1 s2 o id qty w H ho hid h1 Oz).mono λe w' ⟨h,s1',s2',k⟩=>⟨0,s1',s2',h,Ou (.inr ⟨o,ho,hid,.inr (.inr ⟨rfl,h1,by omega,k.out⟩)⟩)⟩
 ·have hno:∀x∈Qa s1.rs s2.rs,¬x.id=id:=λx iH e=>hx ⟨x,iH,e⟩;exact(qiO p m s1 s2 id qty hwf w H hno).mono λe w' h=>⟨51,s1,s2,h.1,Ou (.inl ⟨rfl,hno,rfl,rfl,h.2.out⟩)⟩
theorem qiS (a b:Nat)(t1 t2:Sg)(h1:t1.tb=a)(h2:t2.tb=b):((DataW.map ([]:List (Lit×DataW Value))).put (.int .i64 1) (.held (.pointer (some ⟨a,0,none⟩)))).put (.int .i64 2) (.held (.pointer (some ⟨b,0,none⟩)))=Ja t1 t2:=by
 subst h1 h2
 simp[Ja,DataW.put,DataW.insert,Lit.sameKey,Lit.before]
theorem qiT (w:World):Calls prog 51 #[] w λe w'=>∃p m s1 s2,e=.returned (.pointer (some ⟨p,0,none⟩))/\Hid (gWhole w' p m s1 s2/\Qa s1.rs s2.rs=[]/\Ok w w'/\∀k,gft p m s1 s2 k->w.heap.size<=k):=by
 have hmm:=@run_makeMap prog
 obtain⟨W1,hW1⟩:∃W1,(w.alloc (.map #[] 0)).alloc (.map #[] 0)=W1:=⟨_,rfl⟩
 have b1:Ok w W1:=by rw[<-hW1];exact((Oq _ _).alloc (Sq _) _).alloc Oy _
 have z1:W1.heap.size=w.heap.size+2:=by rw[<-hW1];simp
 have dS:W1.ownsMap prog 35 RV w.heap.size 0 (.map []):=by
  rw[<-hW1];exact(World.ownsMap_made w prog 35 RV).alloc _
 have qL:W1.ownsMap prog 3 RV (w.heap.size+1) 0 (.map []):=by
  rw[<-hW1];have:=World.ownsMap_made (w.alloc (.map #[] 0)) prog 3 RV;rw[World.size_alloc]at this;exact this
 have HH:=Ou (Sv b1 (Sv z1 (Sv dS qL)))
 have iO:=Ou (U6 1 W1)
 clear b1 z1 dS qL
 go_enter func51,ntmps51
 go_wp2_with fail
 ((with_reducible refine iO.out.mono ?_);rintro e w2 ⟨rfl,h2⟩)
 obtain⟨b1,z1,dS,qL⟩:=HH.out
 have sm2:=QS qL (Fr.of_below (S:=λ_=>False) h2.out.2.1) (λh=>h)
 obtain⟨w3,hr3,wL,t3⟩:=sm2.store Vh underlying136 (by unfold maxLen;omega) (keyOf_int_mk underlying3 (by decide:(Lit.int .i64 1).wf=true)) (show RV (.pointer (some ⟨W1.heap.size+1,0,none⟩))=some (.held (.pointer (some ⟨W1.heap.size+1,0,none⟩)),[]) from rfl)
 have kW:=Ou (U6 2 w3)
 have qP:=Ou (Sv h2.out (Sv wL t3.grown))
 clear b1 z1 dS qL h2 sm2 wL t3 iO
 go_wp2_with fail
 ((with_reducible refine kW.out.mono ?_);rintro e w4 ⟨rfl,h4⟩)
 obtain⟨⟨yI,b2,z2⟩,wL,g3⟩:=qP.out
 have wM:=QS wL (Fr.of_below (S:=λ_=>False) h4.out.2.1) (λh=>h)
 obtain⟨w5,hr5,wN,t5⟩:=wM.store Vh underlying136 (by unfold maxLen;omega) (keyOf_int_mk underlying3 (by decide:(Lit.int .i64 2).wf=true)) (show RV (.pointer (some ⟨w3.heap.size+1,0,none⟩))=some (.held (.pointer (some ⟨w3.heap.size+1,0,none⟩)),[]) from rfl)
 have zA:=Ou (Sv h4.out (Sv wN t5.grown))
 clear yI b2 z2 wL g3 wM wN t5 h4 kW
 go_wp2_with fail
 go_ret
 obtain⟨b1,z1,dS,qL⟩:=HH.out
 obtain⟨⟨yI,b2,z2⟩,_,g3⟩:=qP.out
 obtain⟨⟨sg4,b4,z4⟩,wN,g5⟩:=zA.out
 rw[qiS (W1.heap.size+1) (w3.heap.size+1) ⟨W1.heap.size+1,W1.heap.size,.nil⟩ ⟨w3.heap.size+1,w3.heap.size,.nil⟩ rfl rfl]at wN
 have hz3:=g3.size
 have hz5:=g5.size
 have f23:=Zx g3
 have f45:=Zx g5
 -- side 1
 have k1:SgIn w3 1 ⟨W1.heap.size+1,W1.heap.size,.nil⟩:=yI.keep f23 (λk hk=>yI.no_map (QS qL (Fr.of_below (S:=λ_=>False) b2) (λh=>h)) k hk)
 have k2:=k1.below b4
 have wM:=QS (qP.out.2.1) (Fr.of_below (S:=λ_=>False) b4) (λh=>h)
 have k3:SgIn w5 1 ⟨W1.heap.size+1,W1.heap.size,.nil⟩:=k2.keep f45 (λk hk=>k2.no_map wM k hk)
 have k4:SgIn w5 2 ⟨w3.heap.size+1,w3.heap.size,.nil⟩:=sg4.keep f45 (λk hk=>sg4.no_map wM k hk)
 have nZ:=QS dS (Fr.of_below (S:=λ_=>False) b2) (λh=>h)
 have dF:=QS nZ f23 Oz
 have om4:=QS dF (Fr.of_below (S:=λ_=>False) b4) (λh=>h)
 have om5:=QS om4 f45 Oz
 have bw3:Ok w w3:=(b1.trans (b2.mono b1.size)).trans ((f23.below (B:=w.heap.size) (λk hk=>by rw[hk];omega) (by have:=b2.size;omega)))
 have bw5:Ok w w5:=(bw3.trans (b4.mono bw3.size)).trans ((f45.below (B:=w.heap.size) (λk hk=>by rw[hk];omega) (by have:=b4.size;omega)))
 have b6:Ok w5 (w5.alloc (.cells #[.map (some w.heap.size),.map (some (w.heap.size+1))] 138)):=(Oq _ _).alloc (Sq _) _
 refine⟨w5.heap.size,(w.heap.size,w.heap.size+1),⟨⟨W1.heap.size+1,W1.heap.size,.nil⟩,[]⟩,⟨⟨w3.heap.size+1,w3.heap.size,.nil⟩,[]⟩,rfl,Ou ⟨⟨.map [],⟨⟨.inr ⟨_,rfl,Qe rfl⟩,λa b e=>?_,λa b e=>?_,λ_=>k3.below b6,λ_=>k4.below b6⟩,qh1,rfl,rfl,⟨List.Pairwise.nil,λ_ h=>(by cases h),λ_ h=>(by cases h),λ_ h=>(by cases h)⟩,⟨List.Pairwise.nil,λ_ h=>(by cases h),λ_ h=>(by cases h),λ_ h=>(by cases h)⟩,List.Pairwise.nil,by simp[Qa,Qb],λ_ h=>(by cases h),List.Pairwise.nil,λ_ h=>(by cases h),?_,?_,?_⟩⟩,rfl,bw5.trans (b6.mono bw5.size),?_⟩⟩
 ·injection e with e;injection e with e1 e2;subst e1;exact(QS om5 (Fr.of_below (S:=λ_=>False) b6) (λh=>h)).mono Oz
 ·injection e with e;injection e with e1 e2;subst e2;exact QS wN (Fr.of_below (S:=λ_=>False) b6) (λh=>h)
 ·show W1.heap.size+1≠w3.heap.size+1;omega
 ·show w.heap.size≠w.heap.size+1;omega
 ·show W1.heap.size≠w3.heap.size;omega
 ·have hb2:=b2.size;have hb4:=b4.size;rintro k (rfl|rfl|rfl|hk|hk)
  ·omega
  ·exact Sq _
  ·exact Fq _
  ·rcases hk with rfl|rfl|hk | ⟨v,hv,_⟩
   ·show w.heap.size<=W1.heap.size;omega
   ·show w.heap.size<=W1.heap.size+1;omega
   ·cases hk
   ·cases hv
  ·rcases hk with rfl|rfl|hk | ⟨v,hv,_⟩
   ·show w.heap.size<=w3.heap.size;omega
   ·show w.heap.size<=w3.heap.size+1;omega
   ·cases hk
   ·cases hv
attribute [local go_sem] Oper.semAt_some
theorem qa6 (tb:Nat)(w:World) :
  Calls prog 211 #[.pointer (some ⟨tb,0,none⟩)] w λe w'=>e=.returned (.func (.func 221) #[] #[.pointer (some ⟨w.heap.size,0,none⟩)])/\w'=w.alloc (.cells #[.pointer (some ⟨tb,0,none⟩)] 134):=by
 have uZ:=Vf
 go_enter func211,ntmps211
 go_wp2_with fail
 go_ret
 exact⟨rfl,rfl⟩
abbrev kv (x:Int×Value):Array Value:=#[.int .i64 x.1,x.2]
theorem qiU (t:Tr):t.items.length=t.rows.length:=by
 have h:=congrArg List.length (V8 t)
 simpa using h
theorem qa7:∀{Q:List Rw},(∀r∈Q,r.q≠[])->Q.length<=(Qb Q).length
 | [],_=>As _
 | r :: Q,h=>by
  have h1:=qa7 (Q:=Q) (λx hx=>h x (Ev _ hx));have h2:0<r.q.length:=List.length_pos_iff.2 (h r (Eu ..));have e:Qb (r :: Q)=r.q++Qb Q:=rfl;rw[e,Su,Wq];omega
end
section
open Go.RowKit Go.Sort Go.Lib Go.Maps
theorem qiV (p m ms:Nat)(D:DataW Value)(g1 g2:Sg)(Q1 Q2:List Rw)(w:World)(H:GW w p m ms D g1 g2 Q1 Q2)(B:Nat)(hB:∀k,Kf p m ms g1 g2 k->k<B)(hBw:B<=w.heap.size)
  (v:Value) (n:Nat) (X:List Od) (hown:w.ownsRow B 38 6 v n (ol X)) (hn:n<=10000) (A:Option Addr) (c:Nat) (Y:List Od) (hY:∀x∈Y,x∈Qa Q1 Q2) (hQ:QIn w B A Y) (hm:Y.length<=1000) :
  Calls prog 212 #[.pointer (some ⟨p,0,none⟩),v,.slice A Y.length c] w λe w'=>∃v',e=.returned v'/\Hid (w'.ownsRow B 38 6 v' (n+Y.length) (ol (X++Y))/\Below B w w'/\Fr (λj=>v.ownBlock=some j) w w'):=by
 obtain⟨i0,hi0,hz0,hz1,hz2⟩:=info_parts qaE
 have HH:=Ou H
 have HB:=Ou hB
 have HQ:=Ou hQ
 have HY:=Ou hY
 clear H hB hQ hY
 have xV:(Y.length:Int)<=1000:=by omega
 go_enter func212,ntmps212
 go_wp2_with fail
 obtain⟨N,hN⟩:∃N,N=Y.length:=⟨_,rfl⟩
 rw[<-hN]at hm xV ⊢
 have HN:=Ou hN
 clear hN
 go_loopg [1,11] N (λkx s1 iI wr=>∃k:Nat,iI=.int .i64 (k:Int)/\k<=N/\N-k<=kx/\wr.ownsRow B 38 6 s1 (n+k) (ol (X++Y.take k))/\Hid (Below B w wr/\Fr (λj=>v.ownBlock=some j) w wr/\∀j,s1.ownBlock=some j->v.ownBlock=some j∨w.heap.size<=j))
 case atStart=>exact⟨0,rfl,by omega,by omega,by simpa using hown,Below.refl _ _,Fr.refl _ _,λ_ h=>.inl h⟩
 case round =>
  obtain⟨k,rfl,hk,aP,hown',hd⟩:=hrel;by_cases hlt:k<N
  ·have aF:(k:Int)<(N:Int):=by omega
   have d8:(0:Int)<=(k:Int):=by omega
   have lS:k<Y.length:=by rw[<-HN.out];exact hlt
   obtain⟨g,rfl,hgB,hc⟩:=(HQ.out.below hd.out.1) k lS;obtain⟨x,ex⟩:∃x,Y[k]! = x:=⟨_,rfl⟩
   rw[ex]at hc;have vZ:x∈Y:=by rw[<-ex,Sj Y k lS];exact Wt _
   have qH:=HY.out x vZ;have G:=HH.out.fr (qaC hd.out.1) (λj hj hbad=>by have:=HB.out j hj;omega);have hsome:omL (Qa Q1 Q2) x.id=some x:=(Z2 G.ids).2 ⟨qH,rfl⟩;have hl:=Xw (G.gk.om _ _ rfl) G.om x.id (Jw (G.ok x qH).1.1);rw[hsome]at hl;have hl':(Instr.lookup 133 (.map (some m)) (.int .u64 x.id) false).run prog wr=.ok (.agg (OC x)) wr:=hl;have k0:wr.cell? ⟨p,0,none⟩=some (.map (some m)):=(G.bookp.c 0).trans rfl
   have HS:Hid (ol (X++Y.take (k+1))=ol (X++Y.take k)++Qn x):=Ou (by
    rw[Ek lS,<-St,Cs,<-Sj Y k lS,ex])
   have hsz:=hd.out.1.size;have qA:n+k<=11000:=by omega
   clear ex vZ qH G hsome hl;generalize x.id=xi at *;go_wp2_with (at_builtin;refine wpList_append_own_at _ rfl _ _ 22 rfl B 38 i0 (.agg (OC ⟨0,0,0,0,0,0⟩)) 6 48 underlying22 hi0 hz0 hz1 hz2 rfl Ox _ _ _ rfl (hown'.alloc _) ⟨wr.heap.size,0,none⟩ 1 1 (Qn x) rfl rfl ?c1 ?c2 ?c3 ?c4 ?c5 ?_)
   case c1=>exact qaD wr x _
   case c2=>exact Jr x
   case c3=>unfold maxLen;omega
   case c4=>omega
   case c5=>simp;omega
   intro v1 w1 hown1 hg1 _ hloc
   have cY:Hid (Below B w w1/\Fr (λj=>v.ownBlock=some j) w w1/\∀j,v1.ownBlock=some j->v.ownBlock=some j∨w.heap.size<=j):=Ou ⟨Below.grown (hd.out.1.alloc (Sk hBw hsz) _) hg1 (by simp;omega) (λk hk=>(hown'.lt k hk).1),(hd.out.2.1.alloc _).grown hg1 hd.out.2.2,λj e=>by
    rcases hloc with h|h
    ·exact hd.out.2.2 j (by rw[<-h];exact e)
    ·rw[h]at e;injection e with e;right;rw[<-e];omega⟩
   rw[<-HS.out]at hown1;clear hg1 hloc hown' hd;go_wp2_with fail
   go_roundg (N-(k+1))
   case measure=>omega
   case rel=>exact⟨k+1,by go_num,by omega,by omega,hown1,cY⟩
  ·have aF:¬(k:Int)<(N:Int):=by omega
   obtain rfl:k=N:=by omega
   rw[Fs (by rw[<-HN.out];exact Sq _)]at hown';have HF:=Ou (Sv hown' (Sv hd.out.1 hd.out.2.1));clear hown' hd;go_wp2_with fail
   go_ret;have eN:=HN.out;subst eN;refine⟨?v,?e,?h⟩
   case h=>exact HF
   case e=>rfl
end
section
open Go.RowKit Go.Sort Go.Lib Go.Maps Go.Shelf
abbrev Ix (T:Tr):={ x:Int×Value // x∈T.items }
def Zh {T:Tr}(l:List (Ix T)):List (Int×Value):=l.map Subtype.val
theorem XD {T:Tr}(l:List (Ix T))(x:Ix T):Zh (l++[x])=Zh l++[x.1]:=by unfold Zh;simp
theorem qa8 (n:Nat)(S:Nat->Prop)(Bt tb sb:Nat)(s:Int)(T:Tr)(w:World)(hBt:Cl 134 w Bt #[.pointer (some ⟨tb,0,none⟩)])(hS:SgIn w s ⟨tb,sb,T⟩)(hb:∀b∈T.blks,¬S b)(hv:∀v∈T.vals,∀k,v.ownBlock=some k->¬S k) :
  SeqStopsK Fence.wide n prog 221 #[.pointer (some ⟨Bt,0,none⟩)] (λx:Ix T=>kv x.1) (Fr S) (λys=>Zh ys=T.items) (λpre=>Zh pre <+: T.items) T.items.length w:=λll J Jx W hW hJ _ hY h0=>by
 have sW:=hS.below hW
 have cW:=(hW.block _ (Qc hBt)).trans hBt
 refine(qhE n ll Bt tb sb S T (λx=>x∈T.items) (λl W=>∃pre:List (Ix T),Zh pre=l/\J pre W) (λl W=>∃pre:List (Ix T),Zh pre=l/\Jx pre W) (λl W h=>by
   obtain⟨pre,e,h⟩:=h
   exact⟨pre,e,hJ pre W W.drew none h ⟨rfl,rfl,rfl,Sq _,λ_ _ _=>rfl⟩ (λr e=>by cases e)⟩)
  (λm l x W1 hp hl hx=>by
   obtain⟨pre,rfl,hp⟩:=hp;refine qhC rfl m ((hY pre ⟨x,hx⟩ W1 hp (by unfold Zh at hl;simpa using hl)).mono ?_);rintro e W' (⟨h1,h2,h3⟩ | ⟨h1,h2⟩)
   ·exact .inl ⟨h1,⟨_,XD pre ⟨x,hx⟩,h2⟩,h3⟩
   ·exact .inr ⟨h1,⟨_,XD pre ⟨x,hx⟩,h2⟩⟩) W ((Cl.c cW 0).trans rfl) sW.cx sW.tr hb hv (λ_ h=>h) ⟨[],rfl,h0⟩).mono ?_
 rintro e w' ⟨he,(⟨ys,e1,pre,e2,h⟩ | ⟨l,h1,pre,e2,h⟩)⟩
 ·exact⟨he,.inl ⟨pre,e2.trans e1,h⟩⟩
 ·exact⟨he,.inr ⟨pre,(by show Zh pre <+: T.items;rw[e2];exact h1),h⟩⟩
theorem Gq {W:World}:∀{t:Tr},TrIn W t->∀x∈t.items,∃q,(x.1,q)∈t.rows/\W.ownsRow 0 35 1 x.2 q.length (idV q)/\x.2∈t.vals
 | .nil,_,x,h=>(by cases h)
 | .node a k v q l r,ht,x,h=>by
  obtain⟨_,h1,h2,h3⟩:=ht;unfold Tr.items at h;rcases List.mem_append.1 h with h|h
  ·obtain⟨q',e1,e2,e3⟩:=Gq h2 x h;exact⟨q',by simp[Tr.rows,e1],e2,by simp[Tr.vals,e3]⟩
  ·rcases List.mem_cons.1 h with rfl|h
   ·exact⟨q,by simp[Tr.rows],h1,by simp[Tr.vals]⟩
   ·obtain⟨q',e1,e2,e3⟩:=Gq h3 x h;exact⟨q',by simp[Tr.rows,e1],e2,by simp[Tr.vals,e3]⟩
theorem qa9 {s:Int}{Q:List Rw}(h:SideOk s Q){r:Rw}(hr:r∈Q):atP r.pr Q=r.q:=by
 obtain⟨A,B,rfl⟩:=List.append_of_mem hr
 have e:A++r :: B=A++[r]++B:=by simp
 have hp:=h.rows
 rw[e]at h hp ⊢
 have h1:=(List.pairwise_append.1 hp).1
 have h2:=(List.pairwise_append.1 hp).2.2
 have h3:=(List.pairwise_append.1 h1).2.2
 rw[Gi h (λa ha=>h3 a ha r Oy) (λb hb=>h2 r Oy b hb) (λx hx=>by rw[List.mem_singleton.1 hx])]
 simp[Qb]
def QX (Q:List Rw)(l:List (Int×Value)):List Od:=l.flatMap (λx=>atP x.1 Q)
theorem qba (Q:List Rw)(l:List (Int×Value))(x:Int×Value):QX Q (l++[x])=QX Q l++atP x.1 Q:=by unfold QX;simp
theorem qbb {s:Int}{Q:List Rw}{t:Tr}(h:SideOk s Q)(e:t.rows=Q.map QH):QX Q t.items=Qb Q:=by
 have h1:QX Q t.items=(t.items.map Prod.fst).flatMap (λp=>atP p Q):=by unfold QX;rw[List.flatMap_map]
 rw[h1,V8,e,List.map_map,List.flatMap_map]
 unfold Qb
 have:∀{l:List Rw},(∀r∈l,r∈Q)->l.flatMap (λa=>atP ((Prod.fst ∘ QH) a) Q)=l.flatMap (·.q):=by
  intro l
  induction l with
  | nil=>intro _;rfl
  | cons r l ih =>
   intro hl;rw[Ik,Ik,ih (λx hx=>hl x (Ev _ hx))];rw[show atP ((Prod.fst ∘ QH) r) Q=r.q from qa9 h (hl r (Eu ..))]
 exact this (λr hr=>hr)
theorem Gr (Q:List Rw)(l:List (Int×Value))(h:(Qb Q).length<=64):(QX Q l).length<=l.length*64:=by
 induction l with
 | nil=>simp[QX]
 | cons x l ih =>
  have e:QX Q (x :: l)=atP x.1 Q++QX Q l:=rfl;have h1:(atP x.1 Q).length<=(Qb Q).length:=Rj _ _;rw[e,Su,Wq];omega
theorem qiW {W:World}{g:Sg}{s:Int}{Q:List Rw}(hS:SgIn W s g)(e:g.t.rows=Q.map QH)(hQ:SideOk s Q){B:Nat}(hB:∀k,QF g k->k<B){x:Int×Value}(hx:x∈g.t.items) :
  ∃A cc,x.2=.slice A (atP x.1 Q).length cc/\QIn W B A (atP x.1 Q):=by
 obtain⟨q,h1,ho,h3⟩:=Gq hS.tr x hx
 rw[e]at h1
 obtain⟨r,hr,er⟩:=List.mem_map.1 h1
 have e1:r.pr=x.1:=congrArg Prod.fst er
 have e2:r.q.map (·.id)=q:=congrArg Prod.snd er
 rw[<-e1,qa9 hQ hr]
 subst e2
 rw[Fv]at ho
 rcases ho.2 with ⟨hv,h0⟩ | ⟨gg,cap,cur,hv,_⟩
 ·rw[hv,h0]at ho;have:=V5 (Y:=r.q) (B:=B) ho (λk hk=>by cases hk);exact⟨none,0,by rw[hv,h0],this.2⟩
 ·rw[hv]at ho ⊢;have:=V5 (Y:=r.q) (B:=B) ho (λk hk=>hB k (.inr (.inr (.inr ⟨_,h3,by rw[hv];exact hk⟩))));exact⟨_,_,rfl,this.2⟩
attribute [local go_sem] Oper.semAt_some
structure SideT (b:Option Addr) (w:World) (sd:Int) (T:Tr) (Q:List Rw):Prop where
 len:T.items.length<=64
 flat:(Qb Q).length<=64
 blks:∀k∈T.blks,k<w.heap.size
 vals:∀v∈T.vals,∀k,v.ownBlock=some k->k<w.heap.size
 side:∀W,Ok w W->w.heap.size<W.heap.size->Calls prog 210 #[.pointer b,.int .i64 sd] W λe w'=>∃g',e=.returned (.pointer (some ⟨g'.tb,0,none⟩))/\Hid (g'.t=T/\SgIn w' sd g'/\Ok W w')
 told:∀x∈T.items,∃A c,x.2=.slice A (atP x.1 Q).length c/\∀W v n X,Ok w W->w.heap.size+3<=W.heap.size->W.ownsRow (w.heap.size+3) 38 6 v n (ol X)->n<=10000->Calls prog 212 #[.pointer b,v,.slice A (atP x.1 Q).length c] W λe w'=>∃v',e=.returned v'/\Hid (w'.ownsRow (w.heap.size+3) 38 6 v' (n+(atP x.1 Q).length) (ol (X++atP x.1 Q))/\Below (w.heap.size+3) W w'/\Fr (λj=>v.ownBlock=some j) W w')
theorem Gs {T:TypeId}{W w1:World}(B:Nat){base n size:Nat}{v:Value}{xs:List Value}(ho:W.ownsRow base T size v n xs)(hf:Fr (λj=>v.ownBlock=some j) W w1):KeepsFrom B W w1:=by
 refine⟨hf.size,λi o _ hi hc=>?_⟩
 refine hf.blk hi (λe=>?_)
 rcases ho.2 with ⟨hv,_⟩ | ⟨k,cap,cur,hv,_,hk,_⟩
 ·rw[hv]at e;cases e
 ·rw[hv]at e;injection e with e;subst e;rw[hk]at hi;cases hi;cases hc
def AxA (tm:Array Value){T:Tr}(x:Ix T)(a':Act)(_:World):Prop:=a'={ tmps:=((tm.setIfInBounds 18 (.int .i64 x.1.1)).setIfInBounds 19 x.1.2).setIfInBounds 7 x.1.2,defers:=[] }
theorem qiX (b:Option Addr)(w:World)(T1 T2:Tr)(Q1 Q2:List Rw)(H1:SideT b w 1 T1 Q1)(H2:SideT b w 2 T2 Q2) :
  Calls prog 200 #[.pointer b] w λe w'=>∃v,e=.returned v/\Hid (w'.ownsRow w.heap.size 38 6 v (QX Q1 T1.items++QX Q2 T2.items).length (ol (QX Q1 T1.items++QX Q2 T2.items))/\Ok w w'):=by
 have G1:=Ou H1
 have G2:=Ou H2
 clear H1 H2
 refine(callsIn_wide (n:=5)).1 ?_
 refine callsIn_of_wp_marks func200 rfl trivial ?_ rfl
 simp only[ntmps200,Wu,Wq,Nx,Nat.reduceAdd,Nat.reduceSub,Nw,Nv,Nu,Nt,Mu,Ew]
 gi_wp2_with fail
 obtain⟨W0,hW0⟩:∃W0,((w.alloc (.cells #[.pointer b] 104)).alloc (.cells #[.slice none 0 0] 22)).alloc (.cells #[.int .i64 1,.int .i64 2] 3)=W0:=⟨_,rfl⟩
 have hz0:W0.heap.size=w.heap.size+3:=by rw[<-hW0];simp
 have oU:Ok w W0:=by rw[<-hW0];exact(((Oq _ _).alloc (Sq _) _).alloc Oy _).alloc (by simp;omega) _
 have cb0:Cl 104 W0 w.heap.size #[.pointer b]:=by rw[<-hW0];exact Qp (by simp;omega) (Qp Oy (Qe rfl))
 have cl0:Cl 22 W0 (w.heap.size+1) #[.slice none 0 0]:=by rw[<-hW0];exact Qp Oy (Qe Oy)
 have cs0:Cl 3 W0 (w.heap.size+2) #[.int .i64 1,.int .i64 2]:=by rw[<-hW0];exact Qe Oy
 rw[hW0,show w.heap.size+1+1=w.heap.size+2 from rfl]
 clear hW0
 refine wpIn_loop_rounds 3 ?_
 rw[roundsIn_succ]
 have iP:=Ou (G1.out.side W0 oU Oz)
 have k0:W0.cell? ⟨w.heap.size,0,none⟩=some (.pointer b):=(cb0.c 0).trans rfl
 have k1:W0.cell? ⟨w.heap.size+2,0,none⟩=some (.int .i64 1):=(cs0.c 0).trans rfl
 gi_wp2_with (first|(refine⟨trivial,?_⟩;refine((callsIn_wide (n:=5-1)).2 iP.out).mono ?_;rintro e w1 ⟨g1,rfl,h1⟩)|(refine⟨trivial,?_⟩;refine((callsIn_wide (n:=5-1)).2 (qa6 _ _)).mono ?_;rintro e w1' ⟨rfl,rfl⟩))
 have aN:=oU
 have sL:(∃v,Cl 22 W0 (w.heap.size+1) #[v]/\W0.ownsRow (w.heap.size+3) 38 6 v ([]:List Od).length (ol [])/\Cl 104 W0 w.heap.size #[.pointer b]/\Cl 3 W0 (w.heap.size+2) #[.int .i64 1,.int .i64 2]/\w.heap.size+3<=W0.heap.size):=⟨_,cl0,World.ownsRow_nil _ _ _ _,cb0,cs0,by omega⟩
 obtain⟨X1,hX1⟩:∃X:List Od,X=[]:=⟨_,rfl⟩
 rw[<-hX1]at sL
 have uD:X1.length<=5000:=by rw[hX1];exact As _
 have kC:=Ou hX1
 clear hX1
 clear k0 k1 cl0 cb0 cs0 oU
 obtain⟨Y1,mX⟩:∃W,w1.alloc (.cells #[.pointer (some ⟨g1.tb,0,none⟩)] 134)=W:=⟨_,rfl⟩
 rw[mX]
 obtain⟨uR,vR,lL⟩:=h1.out
 have hyz1:Y1.heap.size=w1.heap.size+1:=by rw[<-mX];simp
 have hws1:=lL.size
 have gG:Ok W0 Y1:=by rw[<-mX];exact lL.alloc lL.size _
 have tP:Ok w Y1:=aN.trans (gG.mono aN.size)
 have uK:Cl 134 Y1 w1.heap.size #[.pointer (some ⟨g1.tb,0,none⟩)]:=by rw[<-mX];exact Qe rfl
 have nW:SgIn Y1 1 ⟨g1.tb,g1.sb,T1⟩:=by
  have:=vR.below (w':=Y1) (by rw[<-mX];exact(Oq _ _).alloc (Sq _) _);rw[<-uR];exact this
 have uI:∀j∈T1.blks,¬(j=w.heap.size+1∨w.heap.size+3<=j):=λj hj h=>by have:=G1.out.blks j hj;omega
 have vV:∀v∈T1.vals,∀j,v.ownBlock=some j->¬(j=w.heap.size+1∨w.heap.size+3<=j):=λv hv j e h=>by have:=G1.out.vals v hv j e;omega
 have hi1:(∃v,Cl 22 Y1 (w.heap.size+1) #[v]/\Y1.ownsRow (w.heap.size+3) 38 6 v (X1).length (ol (X1))/\Cl 104 Y1 w.heap.size #[.pointer b]/\Cl 3 Y1 (w.heap.size+2) #[.int .i64 1,.int .i64 2]/\w.heap.size+3<=Y1.heap.size):=by
  obtain⟨v,a1,a2,a3,a4,a5⟩:=sL;exact⟨v,(gG.block _ (Qc a1)).trans a1,Qi (S:=λ_=>False) a2 (Fr.of_below gG) (λ_ _ h=>h),(gG.block _ (Qc a3)).trans a3,(gG.block _ (Qc a4)).trans a4,Sk a5 gG.size⟩
 have hd1:True:=trivial
 clear vR lL mX h1 uR iP sL gG
 refine wpIn_rangeFunc_ownH rfl Oz (gf:=221) (lb:=#[.pointer (some ⟨w1.heap.size,0,none⟩)]) rfl trivial (enters_of func221 Ow rfl)
  (qa8 (5-1) (λj=>j=w.heap.size+1∨w.heap.size+3<=j) w1.heap.size g1.tb g1.sb 1 T1 Y1 uK nW uI vV) Fr.t (λW l o o' hl ho _ _=>VQ W l o o' (.inr (by have:=aN.size;omega)) ho) (Oq _ _) (λ_=>rfl)
  (λpre W=>(∃v,Cl 22 W (w.heap.size+1) #[v]/\W.ownsRow (w.heap.size+3) 38 6 v (X1++QX Q1 (Zh pre)).length (ol (X1++QX Q1 (Zh pre)))/\Cl 104 W w.heap.size #[.pointer b]/\Cl 3 W (w.heap.size+2) #[.int .i64 1,.int .i64 2]/\w.heap.size+3<=W.heap.size)/\True/\Ok w W)
  (λ_ _ _=>False)
  (OwnFrom.and (Own.from (λs A B row hs hg hr=>by obtain⟨v,a1,a2,a3,a4,a5⟩:=hs;exact⟨v,a1.own hg hr,UP a2 hg hr,a3.own hg hr,a4.own hg hr,Sk a5 hg.size⟩) _) (OwnFrom.and (λ_ _ _ _ _ _ _=>trivial) (ownFrom_below (Sq _) tP.size)))
  (λ_ _ _ _ _ hs _ _=>hs)
  ⟨by rw[show QX Q1 (Zh ([]:List (Ix T1)))=[] from rfl,Mq];exact hi1,hd1,tP⟩
  (AxA #[.pointer b,.pointer (some ⟨w.heap.size,0,none⟩),.slice none 0 0,.pointer (some ⟨w.heap.size+1,0,none⟩),undef,.int .i64 1,undef,undef,.slice (some ⟨w.heap.size+2,0,none⟩) 2 2,.int .i64 2,.int .i64 0,.bool true,.pointer (some ⟨w.heap.size+2,0,none⟩),.int .i64 1,.pointer b,.int .i64 1,.pointer (some ⟨g1.tb,0,none⟩),.func (.func 221) #[] #[.pointer (some ⟨w1.heap.size,0,none⟩)],undef,undef,undef,undef,undef,undef,undef,undef])
  (λx a' _ X Y row hs hg hr=>hs)
  ?assign1 ?body1 ?done1 ?stop1
 case assign1 =>
  rintro l0 pre x W K hI hK;unfold AxA at hK
  gi_wp2
  exact hK _ _ ((KeepsOthers.refl _).from _) (Fr.refl _ W) hI rfl
 case body1 =>
  rintro l0 pre x a' W hl ⟨r,hr⟩ ⟨⟨v,a1,a2,a3,a4,a5⟩,hd,hB⟩ rfl hlt;obtain⟨A,c,ex,HT⟩:=G1.out.told x.1 x.2;have cV:(X1++QX Q1 (Zh pre)).length<=10000:=by
   have b1:=Gr Q1 (Zh pre) G1.out.flat;have b2:(Zh pre).length=pre.length:=by unfold Zh;simp
   have b3:=G1.out.len;rw[Su];have b4:=uD;omega
  obtain⟨N,hN⟩:∃N,N=(X1++QX Q1 (Zh pre)).length:=⟨_,rfl⟩
  rw[<-hN]at a2 cV;have HN:=Ou hN;clear hN;have f9:=Ou (HT W v _ _ hB a5 a2 cV);have p0:W.cell? ⟨w.heap.size,0,none⟩=some (.pointer b):=(a3.c 0).trans rfl;have p1:W.cell? ⟨w.heap.size+1,0,none⟩=some v:=(a1.c 0).trans rfl;have HW:=Ou (Sv a1 (Sv a2 (Sv a3 (Sv a4 (Sv a5 (Sv hd hB))))));clear HT a1 a2 a3 a4 a5 hd hB cV;simp only[ex]
  gi_wp2_with (refine⟨trivial,?_⟩;refine((callsIn_wide).2 f9.out).mono ?_;rintro e w3 ⟨v',rfl,h3⟩;obtain⟨A3,cc3,rfl,_⟩:=ZQ h3.out.1;have c3:Cl 22 w3 (w.heap.size+1) #[v]:=h3.out.2.2.blk HW.out.1 (λe=>by have:=(Zv HW.out.2.1 _ e).1;omega);have p3:w3.cell? ⟨w.heap.size+1,0,none⟩=some v:=(c3.c 0).trans rfl;have f3:=c3.f (k:=0);clear p0 p1)
  obtain⟨a1,a2,a3,a4,a5,hd,hB⟩:=HW.out;obtain⟨h5,h6,h7⟩:=h3.out;have hsz:=h7.size;have cK:Fr (λj=>j=w.heap.size+1∨w.heap.size+3<=j) W (w3.setCell ⟨w.heap.size+1,0,none⟩ (.slice A3 (N+(atP x.1.1 Q1).length) cc3)):=(h7.mono (λj hj=>.inl (.inr (Zv a2 j hj).1))).set (.inl (.inl rfl)) _;refine⟨(Gs _ a2 h7).trans ((KeepsOthers.setCell _ _ _).from _),cK,⟨_,(QK c3).trans rfl,?_,cK.blk a3 Oz,cK.blk a4 Oz,Sk a5 cK.size⟩,trivial,(hB.trans (h6.mono Oz)).setCell (p:=⟨w.heap.size+1,0,none⟩) (Fq _) _⟩;rw[XD,qba,<-St,Su,<-HN.out]
  refine Qi (S:=λj=>j=w.heap.size+1) h5 ((Fr.refl (λj=>j=w.heap.size+1) w3).set (p:=⟨w.heap.size+1,0,none⟩) (.inl rfl) _) (λj hj e=>?_);have:=(Zv h5 j hj).1;omega
 case stop1 =>
  rintro D c pre W _ _ h _;exact h.elim
 case done1 =>
  rintro D1 ys W1 hD1 wD ⟨HI,hdd,HB⟩ hK1;rw[wD]at HI;obtain⟨X2,xN⟩:∃X,X=X1++QX Q1 T1.items:=⟨_,rfl⟩
  rw[<-xN]at HI;have uE:X2.length<=5000:=by
   have b1:=Gr Q1 T1.items G1.out.flat;have b2:=G1.out.len;have b3:X1.length=0:=by rw[kC.out];rfl
   rw[xN,Su];omega
  have HX:=Ou xN;have iD:=Ou (G2.out.side W1 HB (by have:=HB.size;have:=hD1;omega));have iL:=HI;obtain⟨v,a1,a2,a3,a4,a5⟩:=HI;have k0:W1.cell? ⟨w.heap.size,0,none⟩=some (.pointer b):=(a3.c 0).trans rfl;have k1:W1.cell? ⟨w.heap.size+2,1,none⟩=some (.int .i64 2):=(a4.c 1).trans rfl;clear a1 a2 a3 a4 a5 wD hdd uK nW uI vV hi1 hd1 uD xN
  gi_wp2_with fail
  rw[roundsIn_succ]
  gi_wp2_with (first|(refine⟨trivial,?_⟩;refine((callsIn_wide (n:=5-1)).2 iD.out).mono ?_;rintro e w2 ⟨g2,rfl,h2⟩)|(refine⟨trivial,?_⟩;refine((callsIn_wide (n:=5-1)).2 (qa6 _ _)).mono ?_;rintro e w2' ⟨rfl,rfl⟩))
  clear k0 k1;have aG:=HB;obtain⟨Y2,lJ⟩:∃W,w2.alloc (.cells #[.pointer (some ⟨g2.tb,0,none⟩)] 134)=W:=⟨_,rfl⟩
  rw[lJ];obtain⟨uS,vS,lM⟩:=h2.out;have hyz2:Y2.heap.size=w2.heap.size+1:=by rw[<-lJ];simp
  have hws2:=lM.size;have fC:Ok W1 Y2:=by rw[<-lJ];exact lM.alloc lM.size _
  have tQ:Ok w Y2:=aG.trans (fC.mono aG.size);have uL:Cl 134 Y2 w2.heap.size #[.pointer (some ⟨g2.tb,0,none⟩)]:=by rw[<-lJ];exact Qe rfl
  have nX:SgIn Y2 2 ⟨g2.tb,g2.sb,T2⟩:=by
   have:=vS.below (w':=Y2) (by rw[<-lJ];exact(Oq _ _).alloc (Sq _) _);rw[<-uS];exact this
  have uJ:∀j∈T2.blks,¬(j=w.heap.size+1∨w.heap.size+3<=j):=λj hj h=>by have:=G2.out.blks j hj;omega
  have vW:∀v∈T2.vals,∀j,v.ownBlock=some j->¬(j=w.heap.size+1∨w.heap.size+3<=j):=λv hv j e h=>by have:=G2.out.vals v hv j e;omega
  have hi2:(∃v,Cl 22 Y2 (w.heap.size+1) #[v]/\Y2.ownsRow (w.heap.size+3) 38 6 v (X2).length (ol (X2))/\Cl 104 Y2 w.heap.size #[.pointer b]/\Cl 3 Y2 (w.heap.size+2) #[.int .i64 1,.int .i64 2]/\w.heap.size+3<=Y2.heap.size):=by
   obtain⟨v,a1,a2,a3,a4,a5⟩:=iL;exact⟨v,(fC.block _ (Qc a1)).trans a1,Qi (S:=λ_=>False) a2 (Fr.of_below fC) (λ_ _ h=>h),(fC.block _ (Qc a3)).trans a3,(fC.block _ (Qc a4)).trans a4,Sk a5 fC.size⟩
  have hd2:Y2.heap[D1]? = some (.deferred (some [])):=(fC.block _ (Qc hK1)).trans hK1;clear vS lM lJ h2 uS iD iL fC;refine wpIn_rangeFunc_ownH rfl Oz (gf:=221) (lb:=#[.pointer (some ⟨w2.heap.size,0,none⟩)]) rfl trivial (enters_of func221 Ow rfl)
   (qa8 (5-1) (λj=>j=w.heap.size+1∨w.heap.size+3<=j) w2.heap.size g2.tb g2.sb 2 T2 Y2 uL nX uJ vW) Fr.t (λW l o o' hl ho _ _=>VQ W l o o' (.inr (by have:=aG.size;omega)) ho) (Oq _ _) (λ_=>rfl)
   (λpre W=>(∃v,Cl 22 W (w.heap.size+1) #[v]/\W.ownsRow (w.heap.size+3) 38 6 v (X2++QX Q2 (Zh pre)).length (ol (X2++QX Q2 (Zh pre)))/\Cl 104 W w.heap.size #[.pointer b]/\Cl 3 W (w.heap.size+2) #[.int .i64 1,.int .i64 2]/\w.heap.size+3<=W.heap.size)/\W.heap[D1]? = some (.deferred (some []))/\Ok w W)
   (λ_ _ _=>False)
   (OwnFrom.and (Own.from (λs A B row hs hg hr=>by obtain⟨v,a1,a2,a3,a4,a5⟩:=hs;exact⟨v,a1.own hg hr,UP a2 hg hr,a3.own hg hr,a4.own hg hr,Sk a5 hg.size⟩) _) (OwnFrom.and (λs A B row hs hg hr=>(hg.block _ (Qc hs) (λe=>by have:=(hr D1 e.symm).1;have:=Qc hd2;omega)).trans hs) (ownFrom_below (Sq _) tQ.size)))
   (λ_ _ _ _ _ hs _ _=>hs)
   ⟨by rw[show QX Q2 (Zh ([]:List (Ix T2)))=[] from rfl,Mq];exact hi2,hd2,tQ⟩
   (AxA #[.pointer b,.pointer (some ⟨w.heap.size,0,none⟩),.slice none 0 0,.pointer (some ⟨w.heap.size+1,0,none⟩),undef,.int .i64 2,undef,undef,.slice (some ⟨w.heap.size+2,0,none⟩) 2 2,.int .i64 2,.int .i64 1,.bool true,.pointer (some ⟨w.heap.size+2,1,none⟩),.int .i64 2,.pointer b,.int .i64 2,.pointer (some ⟨g2.tb,0,none⟩),.func (.func 221) #[] #[.pointer (some ⟨w2.heap.size,0,none⟩)],undef,undef,undef,undef,undef,undef,.int .i64 1,undef])
   (λx a' _ X Y row hs hg hr=>hs)
   ?assign2 ?body2 ?done2 ?stop2
  case assign2 =>
   rintro l0 pre x W K hI hK;unfold AxA at hK
   gi_wp2
   exact hK _ _ ((KeepsOthers.refl _).from _) (Fr.refl _ W) hI rfl
  case body2 =>
   rintro l0 pre x a' W hl ⟨r,hr⟩ ⟨⟨v,a1,a2,a3,a4,a5⟩,hd,hB⟩ rfl hlt;obtain⟨A,c,ex,HT⟩:=G2.out.told x.1 x.2;have cV:(X2++QX Q2 (Zh pre)).length<=10000:=by
    have b1:=Gr Q2 (Zh pre) G2.out.flat;have b2:(Zh pre).length=pre.length:=by unfold Zh;simp
    have b3:=G2.out.len;rw[Su];have b4:=uE;omega
   obtain⟨N,hN⟩:∃N,N=(X2++QX Q2 (Zh pre)).length:=⟨_,rfl⟩
   rw[<-hN]at a2 cV;have HN:=Ou hN;clear hN;have f9:=Ou (HT W v _ _ hB a5 a2 cV);have p0:W.cell? ⟨w.heap.size,0,none⟩=some (.pointer b):=(a3.c 0).trans rfl;have p1:W.cell? ⟨w.heap.size+1,0,none⟩=some v:=(a1.c 0).trans rfl;have HW:=Ou (Sv a1 (Sv a2 (Sv a3 (Sv a4 (Sv a5 (Sv hd hB))))));clear HT a1 a2 a3 a4 a5 hd hB cV;simp only[ex]
   gi_wp2_with (refine⟨trivial,?_⟩;refine((callsIn_wide).2 f9.out).mono ?_;rintro e w3 ⟨v',rfl,h3⟩;obtain⟨A3,cc3,rfl,_⟩:=ZQ h3.out.1;have c3:Cl 22 w3 (w.heap.size+1) #[v]:=h3.out.2.2.blk HW.out.1 (λe=>by have:=(Zv HW.out.2.1 _ e).1;omega);have p3:w3.cell? ⟨w.heap.size+1,0,none⟩=some v:=(c3.c 0).trans rfl;have f3:=c3.f (k:=0);clear p0 p1)
   obtain⟨a1,a2,a3,a4,a5,hd,hB⟩:=HW.out;obtain⟨h5,h6,h7⟩:=h3.out;have hsz:=h7.size;have cK:Fr (λj=>j=w.heap.size+1∨w.heap.size+3<=j) W (w3.setCell ⟨w.heap.size+1,0,none⟩ (.slice A3 (N+(atP x.1.1 Q2).length) cc3)):=(h7.mono (λj hj=>.inl (.inr (Zv a2 j hj).1))).set (.inl (.inl rfl)) _;refine⟨(Gs _ a2 h7).trans ((KeepsOthers.setCell _ _ _).from _),cK,⟨_,(QK c3).trans rfl,?_,cK.blk a3 Oz,cK.blk a4 Oz,Sk a5 cK.size⟩,((Gs 0 a2 h7).trans ((KeepsOthers.setCell _ _ _).from _)).same D1 _ (As _) hd rfl,(hB.trans (h6.mono Oz)).setCell (p:=⟨w.heap.size+1,0,none⟩) (Fq _) _⟩
   rw[XD,qba,<-St,Su,<-HN.out];refine Qi (S:=λj=>j=w.heap.size+1) h5 ((Fr.refl (λj=>j=w.heap.size+1) w3).set (p:=⟨w.heap.size+1,0,none⟩) (.inl rfl) _) (λj hj e=>?_);have:=(Zv h5 j hj).1;omega
  case stop2 =>
   rintro D c pre W _ _ h _;exact h.elim
  case done2 =>
   rintro D2 ys W2 hD2 wF ⟨HI,hdd,HB⟩ hK2;rw[wF]at HI;rw[show X2++QX Q2 T2.items=QX Q1 T1.items++QX Q2 T2.items by rw[HX.out,kC.out,Mu]]at HI;obtain⟨N,hN⟩:∃N,N=(QX Q1 T1.items++QX Q2 T2.items).length:=⟨_,rfl⟩
   rw[<-hN]at HI;have HN:=Ou hN;obtain⟨v,a1,a2,a3,a4,a5⟩:=HI;obtain⟨A9,c9,rfl,_⟩:=ZQ a2;have p1:W2.cell? ⟨w.heap.size+1,0,none⟩=some (.slice A9 N c9):=(a1.c 0).trans rfl;clear wF uL nX uJ vW hi2 hd2 uE a1 a3 a4 hN
   gi_wp2_with fail
   rw[roundsIn_succ]
   gi_wp2_with fail
   have hDD:D1<Y2.heap.size:=by have:=Qc hK1;omega
   have tV:w.heap.size+3<=D1:=by have:=aN.size;omega
   have hL2:w.heap.size+3<=D2:=by omega
   have oY:(W2.putObj D2 (.deferred none)).heap[D1]? = some (.deferred (some [])):=((grownBy_putObj' W2 D2 (.deferred none)).block D1 (Qc hdd) (by intro e;injection e;omega)).trans hdd;refine⟨by simp,.inl ⟨_,_,rfl,run_takeDeferred hK2,?_⟩⟩;refine⟨by simp,.inl ⟨_,_,rfl,run_takeDeferred oY,?_⟩⟩;refine⟨_,results_tmp rfl _ _ _,_,rfl,Ou ⟨?_,(HB.trans (belowK_b (w:=w) (Sq _) W2 D2 _ _ Oz hK2 rfl rfl)).trans (belowK_b (w:=w) (Sq _) _ D1 _ _ Oz oY rfl rfl)⟩⟩;rw[<-HN.out];exact Ju (UQ (UQ a2 D2 hK2 rfl) D1 oY rfl) Oz
theorem qbc {p m ms:Nat}{D:DataW Value}{g1 g2:Sg}{Q1 Q2:List Rw}{sd:Int}{g:Sg}{Q:List Rw}{w:World}(H:GW w p m ms D g1 g2 Q1 Q2)(S:OwnS w p m ms D g1 g2 Q1 Q2 sd g Q):SideT (some ⟨p,0,none⟩) w sd g.t Q:=by
 have hl:g.t.items.length=Q.length:=by rw[qiU,S.eq,Fv]
 refine⟨by have:=qa7 S.ok.some;have:=S.len;omega,S.len,λk hk=>S.sg.lt k (.inr (.inr (.inl hk))),λv hv k hk=>S.sg.lt k (.inr (.inr (.inr ⟨v,hv,hk⟩))),λW hB _=>(S.call W (H.below hB)).mono ?_,λx hx=>?_⟩
 ·rintro e w' ⟨rfl,rfl⟩;exact⟨g,rfl,Ou ⟨rfl,S.sg.below hB,Below.refl _ _⟩⟩
 ·obtain⟨A,c,ex,hq⟩:=qiW S.sg S.eq S.ok (B:=w.heap.size) (λk hk=>S.sg.lt k hk) hx;refine⟨A,c,ex,λW v n X hB hz ho hn=>?_⟩
  refine qiV p m ms D g1 g2 Q1 Q2 W (H.below hB) (w.heap.size+3) (λk hk=>by have:=H.lt k hk;omega) hz v n X ho hn A c (atP x.1 Q) (λy hy=>S.mem y (List.mem_filter.1 hy).1) (λk hk=>?_) (by
   have h1:(atP x.1 Q).length<=(Qb Q).length:=Rj _ _;have h2:=S.len
   omega)
  obtain⟨gg,h1,h2,h3⟩:=hq.below hB k hk;exact⟨gg,h1,by omega,h3⟩
theorem qiY (p m ms:Nat)(D:DataW Value)(g1 g2:Sg)(Q1 Q2:List Rw)(w:World)(H:GW w p m ms D g1 g2 Q1 Q2) :
  Calls prog 200 #[.pointer (some ⟨p,0,none⟩)] w λe w'=>∃v,e=.returned v/\Hid (w'.ownsRow w.heap.size 38 6 v (Qa Q1 Q2).length (ol (Qa Q1 Q2))/\Ok w w'):=by
 have h:=qiX _ w g1.t g2.t Q1 Q2 (qbc H H.own1) (qbc H H.own2)
 rw[qbb H.ok1 H.e1,qbb H.ok2 H.e2]at h
 exact h
theorem gWhole.pw {w:World}{p:Nat}{m:Nat×Nat}{s1 s2:Gd}(H:gWhole w p m s1 s2):(Qa s1.rs s2.rs).Pairwise (λx y=>ltO x y=true):=by
 obtain⟨D,h⟩:=H
 exact CS h.ok1 h.ok2
theorem qbd {Q1 Q2:List Rw}(o1:SideOk 1 Q1)(o2:SideOk 2 Q2)(sd:Int):Zo sd (Qa Q1 Q2)=Qb (rsq Q1 Q2 sd):=by
 have h1:=Z9 o1
 have h2:=Z9 o2
 unfold Qa
 rw[show Zo sd (Qb Q1++Qb Q2)=Zo sd (Qb Q1)++Zo sd (Qb Q2) from Pj _ _]
 unfold rsq
 by_cases e1:sd=1
 ·subst e1;rw[Sx rfl,Xc h1,KB h2 Ox,Mq]
 ·rw[Sw e1];by_cases e2:sd=2
  ·subst e2;rw[Sx rfl,Xc h2,KB h1 Ox,Mu]
  ·rw[Sw e2,KB h1 (λe=>e1 e.symm),KB h2 (λe=>e2 e.symm)];rfl
theorem qiZ {Q1 Q2:List Rw}(o1:SideOk 1 Q1)(o2:SideOk 2 Q2)(sd:Int):V7 Q1 Q2 sd=QE sd (Qa Q1 Q2):=by
 unfold V7 Vu QE
 rw[qbd o1 o2]
theorem qi0 (p:Nat)(m:Nat×Nat)(s1 s2:Gd)(sd:Int)(hs:(Lit.int .i64 sd).wf=true)(w:World)(H:gWhole w p m s1 s2) :
  Calls prog 201 #[.pointer (some ⟨p,0,none⟩),.int .i64 sd] w λe w'=>e=.returned (.tuple #[QG (QE sd (Qa s1.rs s2.rs)),.bool (QE sd (Qa s1.rs s2.rs)).isSome])/\Hid (Ok w w'):=by
 obtain⟨D,h⟩:=H
 rw[<-qiZ h.ok1 h.ok2]
 exact qii p m.1 m.2 D s1.g s2.g s1.rs s2.rs sd hs w h
theorem qi1 (p:Nat)(m:Nat×Nat)(s1 s2:Gd)(w:World)(H:gWhole w p m s1 s2) :
  Calls prog 204 #[.pointer (some ⟨p,0,none⟩)] w λe w'=>e=.returned (.int .i64 (Qa s1.rs s2.rs).length)/\w=w':=by
 obtain⟨D,h⟩:=H
 exact qic p m.1 m.2 D s1.g s2.g s1.rs s2.rs w h
theorem qi2 (p:Nat)(m:Nat×Nat)(s1 s2:Gd)(w:World)(H:gWhole w p m s1 s2) :
  Calls prog 200 #[.pointer (some ⟨p,0,none⟩)] w λe w'=>∃v,e=.returned v/\Hid (w'.ownsRow w.heap.size 38 6 v (Qa s1.rs s2.rs).length (ol (Qa s1.rs s2.rs))/\Ok w w'):=by
 obtain⟨D,h⟩:=H
 exact qiY p m.1 m.2 D s1.g s2.g s1.rs s2.rs w h
theorem gft.lt {w:World}{p:Nat}{m:Nat×Nat}{s1 s2:Gd}(H:gWhole w p m s1 s2):∀k,gft p m s1 s2 k->k<w.heap.size:=by
 obtain⟨D,h⟩:=H
 exact h.lt
end
end Go.Proofs.YtikapeaodobkjaaGreat
