/- What the laws lean on, in a few texts (by shake.py): number 13 of 16. -/
import Derived.Test.YtikapeaodobkjaaGreatZq1
import Derived.Test.YtikapeaodobkjaaGreatZq2
import Derived.Test.YtikapeaodobkjaaGreatZq5
import Derived.Test.YtikapeaodobkjaaGreatZq10
import Derived.Test.YtikapeaodobkjaaGreatZq9
import Derived.Test.YtikapeaodobkjaaGreatZq11
import Derived.Test.YtikapeaodobkjaaGreatZq3
import Derived.Maps.OwnSet
import Derived.Maps.Views
import Derived.Shelf.SlSortCmp.QuietGrown
import Derived.Laws.OwnMore
import Derived.Laws.AppendOwnNone
import Derived.Shelf.SlGeneric
import Derived.Shelf.SlicesE.DeleteFunc
import Derived.Ground.SlgfProg
import Derived.Test.YtikapeaodobkjaaGreatProg
import Derived.Deep.WholeRow
import Derived.Maps.AppendAt
import Derived.LoopNIn

set_option maxHeartbeats 16000000
set_option maxRecDepth 1000000
set_option linter.unusedVariables false
set_option linter.unusedSimpArgs false
namespace Go.Proofs.YtikapeaodobkjaaGreat
open _root_.Go.Proofs.Tryz
section
open Go.RowKit Go.Sort Go.Lib Go.Maps
def zO:Od:=⟨0,0,0,0,0,0⟩
def Ids (L:List Od):Prop:=L.Pairwise (λx y=>¬x.id=y.id)
def omL (L:List Od)(id:Int):Option Od:=L.find? (λx=>x.id==id)
theorem Vr:∀{L:List Od},Ids L->∀{x y:Od},x∈L->y∈L->x.id=y.id->x=y
 | [],_,x,y,hx,_,_=>(by cases hx)
 | z :: L,h,x,y,hx,hy,e=>by
  obtain⟨h1,h2⟩:=List.pairwise_cons.1 h;rcases List.mem_cons.1 hx with ex|hx
  ·rcases List.mem_cons.1 hy with ey|hy
   ·rw[ex,ey]
   ·rw[ex]at e;exact absurd e (h1 y hy)
  ·rcases List.mem_cons.1 hy with ey|hy
   ·rw[ey]at e;exact absurd e.symm (h1 x hx)
   ·exact Vr h2 hx hy e
theorem Z1 {L:List Od}(h:Ids L){id:Int}{x:Od}:omL L id=some x↔x∈L/\x.id=id:=by
 unfold omL
 constructor
 ·intro hf;exact⟨List.mem_of_find?_eq_some hf,by have:=List.find?_some hf;simpa using this⟩
 ·rintro ⟨hx,rfl⟩
  cases hf:L.find? (λy=>y.id==x.id) with
  | none =>
   have:=List.find?_eq_none.1 hf x hx;simp at this
  | some y =>
   have e1:=List.mem_of_find?_eq_some hf;have e2:=List.find?_some hf;simp at e2;rw[Vr h e1 hx e2]
theorem omL_none {L:List Od}{id:Int}:omL L id=none↔∀x∈L,¬x.id=id:=by
 unfold omL
 rw[List.find?_eq_none]
 simp
theorem Xo {L M:List Od}(h:Ids L)(hp:L.Perm M):Ids M:=hp.pairwise h (λh e=>h e.symm)
theorem qhS {L M:List Od}(h:Ids L)(hp:L.Perm M)(id:Int):omL L id=omL M id:=by
 apply Option.ext
 intro x
 rw[Z1 h,Z1 (Xo h hp),hp.mem_iff]
theorem qhT (x:Od)(L:List Od)(id:Int):omL (x :: L) id=if id=x.id then some x else omL L id:=by
 unfold omL
 rw[List.find?_cons]
 by_cases e:id=x.id
 ·subst e;simp
 ·rw[Sw e];have:(x.id==id)=false:=by simp;exact λh=>e h.symm
  rw[this]
theorem qhU (L:List Od)(k id:Int):omL (L.filter (λx=>!(x.id==k))) id=if id=k then none else omL L id:=by
 by_cases e:id=k
 ·subst e;rw[Sx rfl,omL_none];intro x hx;have:=(List.mem_filter.1 hx).2;simpa using this
 ·rw[Sw e];unfold omL;rw[List.find?_filter]
  congr 1
  funext x
  by_cases h:x.id=id
  ·have:¬x.id=k:=λh2=>e (h.symm.trans h2);simp[h,e]
  ·simp[h]
structure OmT (D:DataW Value) (L:List Od):Prop where
 tidy:Tidy D
 at_:∀id,D.atKey (.int .u64 id) (.held zO.val)=.held ((omL L id).getD zO).val
 has:∀id,Maps.has D (.int .u64 id)=(omL L id).isSome
 size:Maps.size D=L.length
theorem qhV:OmT (.map []) []:=⟨tidy_empty,λ_=>rfl,λ_=>rfl,rfl⟩
theorem OmT.of {D:DataW Value}{L M:List Od}(h:OmT D L)(hf:∀id,omL M id=omL L id)(hl:M.length=L.length):OmT D M :=
 ⟨h.tidy,λid=>by rw[hf,h.at_],λid=>by rw[hf,h.has],by rw[hl,h.size]⟩
theorem OmT.perm {D:DataW Value}{L M:List Od}(h:OmT D L)(hd:Ids L)(hp:L.Perm M):OmT D M :=
 h.of (λid=>(qhS hd hp id).symm) hp.length_eq.symm
theorem Xp {a b:Int}(h:¬a=b):(Lit.int .u64 a)≠(Lit.int .u64 b):=λe=>by injection e with _ e;exact h e
theorem OmT.put {D:DataW Value}{L M:List Od}(h:OmT D L)(x:Od)(hk:WideAt.IsKeyLit (.int .u64 x.id))(hf:∀id,omL M id=if id=x.id then some x else omL L id)(hl:M.length=if (omL L x.id).isSome=true then L.length else L.length+1) :
  OmT (D.put (.int .u64 x.id) (.held x.val)) M:=by
 refine⟨h.tidy.put hk _,λid=>?_,λid=>?_,?_⟩
 ·rw[hf];by_cases e:id=x.id
  ·subst e;rw[Sx rfl,atKey_put_same h.tidy.isMap hk];rfl
  ·rw[Sw e,atKey_put_other (Xp e),h.at_]
 ·rw[hf];by_cases e:id=x.id
  ·subst e;rw[Sx rfl,has_put_same h.tidy.isMap hk];rfl
  ·rw[Sw e,has_put_other (Xp e),h.has]
 ·rw[size_put h.tidy,h.has,h.size,hl]
theorem OmT.del {D:DataW Value}{L M:List Od}(h:OmT D L)(k:Int)(hf:∀id,omL M id=if id=k then none else omL L id)(hl:M.length+(if (omL L k).isSome=true then 1 else 0)=L.length) :
  OmT (D.del (.int .u64 k)) M:=by
 refine⟨h.tidy.del _,λid=>?_,λid=>?_,?_⟩
 ·rw[hf];by_cases e:id=k
  ·subst e;rw[Sx rfl,atKey_del_same];rfl
  ·rw[Sw e,atKey_del_other (Xp e),h.at_]
 ·rw[hf];by_cases e:id=k
  ·subst e;rw[Sx rfl,has_del_same];rfl
  ·rw[Sw e,has_del_other (Xp e),h.has]
 ·have:=size_del (k:=.int .u64 k) h.tidy;rw[h.has,h.size]at this;omega
def QG (r:Rw):Rq:=(r.pr,r.q.map (·.id))
def VD (l:List Value):Prop:=l.Pairwise (λu v=>∀j,u.ownBlock=some j->v.ownBlock≠some j)
theorem VD.perm {l m:List Value}(h:VD l)(hp:l.Perm m):VD m:=hp.pairwise h (λh j hj hi=>h j hi hj)
theorem qhW {s p:Int}{A B P Q:List Rw}{M R:List Rw}(h:A++M++B=P++R++Q)(hA:∀a∈A,Qf s a.pr p=true)(hM:∀a∈M,a.pr=p)(hB:∀b∈B,Qf s p b.pr=true)
  (hP:∀a∈P,Qf s a.pr p=true) (hR:∀a∈R,a.pr=p) (hQ:∀b∈Q,Qf s p b.pr=true):A=P/\M=R/\B=Q:=by
 have irr:∀x:Int,Qf s x x=false:=λx=>by
  cases hx:Qf s x x with
  | false=>rfl
  | true=>rw[JR]at hx;omega
 have asy:∀x y:Int,Qf s x y=true->Qf s y x=false:=λx y hx=>by
  cases hy:Qf s y x with
  | false=>rfl
  | true=>have:=UX hx hy;rw[irr]at this;cases this
 have key:∀(X Y Z:List Rw),(∀a∈X,Qf s a.pr p=true)->(∀a∈Y,a.pr=p)->(∀a∈Z,Qf s p a.pr=true) ->
   X=(X++Y++Z).filter (λa=>Qf s a.pr p)/\Y=(X++Y++Z).filter (λa=>a.pr==p)/\Z=(X++Y++Z).filter (λa=>Qf s p a.pr):=by
  intro X Y Z hX hY hZ;refine⟨?_,?_,?_⟩
  ·rw[List.filter_append,List.filter_append,List.filter_eq_self.2 hX,List.filter_eq_nil_iff.2 (λa ha=>by rw[hY a ha,irr];decide),List.filter_eq_nil_iff.2 (λa ha=>by rw[asy _ _ (hZ a ha)];decide)];simp
  ·rw[List.filter_append,List.filter_append,List.filter_eq_nil_iff.2 (λa ha=>by
    intro e;have:=hX a ha
    rw[beq_iff_eq.1 e,irr]at this;cases this),List.filter_eq_self.2 (λa ha=>by rw[hY a ha];simp),List.filter_eq_nil_iff.2 (λa ha=>by
    intro e;have:=hZ a ha
    rw[beq_iff_eq.1 e,irr]at this;cases this)]
   simp
  ·rw[List.filter_append,List.filter_append,List.filter_eq_nil_iff.2 (λa ha=>by rw[asy _ _ (hX a ha)];decide),List.filter_eq_nil_iff.2 (λa ha=>by rw[hY a ha,irr];decide),List.filter_eq_self.2 hZ];simp
 have k1:=key A M B hA hM hB
 have k2:=key P R Q hP hR hQ
 rw[h]at k1
 exact⟨k1.1.trans k2.1.symm,k1.2.1.trans k2.2.1.symm,k1.2.2.trans k2.2.2.symm⟩
theorem U9 {s p:Int}{Rs:List Rw}{A B:List Rw}{M:List Rw}(hs:Rs=A++M++B)(hA:∀a∈A,Qf s a.pr p=true)(hM:∀a∈M,a.pr=p)(hB:∀b∈B,Qf s p b.pr=true)
  {P R Q:List Rq} (h:Rs.map QG=P++R++Q) (hP:∀a∈P,Qf s a.1 p=true) (hR:∀a∈R,a.1=p) (hQ:∀b∈Q,Qf s p b.1=true):A.map QG=P/\M.map QG=R/\B.map QG=Q:=by
 obtain⟨X,Z,rfl,hXP,hZ⟩:=List.map_eq_append_iff.1 h
 obtain⟨X,Y,rfl,hX,hY⟩:=List.map_eq_append_iff.1 hXP
 have mem:∀{l:List Rw} {m:List Rq} {f:Int->Prop},l.map QG=m->(∀a∈m,f a.1)->∀a∈l,f a.pr:=λhl hm a ha=>hm (QG a) (by rw[<-hl];exact List.mem_map_of_mem ha)
 obtain⟨rfl,rfl,rfl⟩:=qhW hs.symm hA hM hB (mem (f:=λx=>Qf s x p=true) hX hP) (mem (f:=λx=>x=p) hY hR) (mem (f:=λx=>Qf s p x=true) hZ hQ)
 exact⟨hX,hY,hZ⟩
end
section
open Go.RowKit Go.Sort Go.Lib Go.Shelf
theorem qhX (w:World)(base n g:Nat)(xs:List Value)(ys:List Value)(ad:Addr)(cc:Nat)(ty:TypeId)(i0:TypeInfo)(hi0:prog.info? 35=some i0)(hz0:i0.zero=some (.int .u64 0))(hz1:i0.size=1)(hz2:i0.bytes=8)
  (hown:w.ownsRow base 35 1 (.slice (some ⟨g,0,none⟩) n n) n xs) (hl:ys.length=1) (hnews:∀j u,ys[j]? = some u->w.cell? (ad.add j)=some u) (hn:n<=1000) (hb:base<=w.heap.size) :
  ∃v' w',(Builtin.append_ #[124,124] ty #[.slice (some ⟨g,0,none⟩) n n,.slice (some ad) 1 cc]).run prog w=.ok v' w'/\w'.ownsRow base 35 1 v' (n+1) (xs++ys)/\w.grownBy w' none/\v'.ownBlock=some w.heap.size:=by
 have holds:∀j u,xs[j]? = some u->w.cell? ((⟨g,0,none⟩:Addr).add j)=some u:=hown.cells (g:=g) rfl
 have hr:=run_append_grow (P:=prog) w 124 ty 35 i0 (.int .u64 0) underlying124 hi0 hz0 ⟨g,0,none⟩ n n xs (by rw[hz1];exact hown.1) holds ad 1 cc ys (by rw[hz1];exact hl) hnews Oz Oz (growslice_fits Oz (by rw[hz2];omega))
 have hge:=grownCap_ge w (n+1) n 35
 have hcm:grownCap w (n+1) n 35<=maxLen:=grownCap_le_maxLen w (n+1) n 35 (by unfold maxLen;omega)
 have hlen:(xs++ys).length=(n+1)*1:=by rw[Su,hown.1,hl];omega
 refine⟨_,_,hr,⟨hlen,.inr ⟨w.heap.size,_,_,rfl,hb,heap_alloc_new w.drew _,hge,hcm,?_,?_⟩⟩,⟨rfl,rfl,rfl,by simp,λk hk _=>heap_alloc_old w.drew _ hk⟩,rfl⟩
 ·have:=hown.1;simp only[Array.size_append,Wu,size_zeroCells,hl,Value.cells];simp;omega
 ·simp only[Array.toList_append,St];rw[<-St,<-hlen];exact List.take_left
theorem qhY (w:World)(base n:Nat)(v:Value)(xs ys:List Value)(vb:Nat)(hown:w.ownsRow base 35 1 v n xs)(hb:base<=w.heap.size)(hn:n<=1000)(hv:w.heap[vb]? = some (.cells ys.toArray 35 (0,0)))(hy:ys.length=1)(h2:∀v∈ys,v.oneCell'=true) :
  Calls prog 220 #[v,.int .i64 n,.slice (some ⟨vb,0,none⟩) 1 1] w λe w'=>∃v',e=.returned v'/\Hid (w'.ownsRow base 35 1 v' (n+1) (xs++ys)/\w.grownBy w' v.ownBlock/\((v'.ownBlock=some w.heap.size/\w.grownBy w' none)∨∃g c,v=.slice (some ⟨g,0,none⟩) n c/\v'=.slice (some ⟨g,0,none⟩) (n+1) c)):=by
 obtain⟨i0,hi0,hz0,hz1,hz2⟩:=info_parts TZ
 have HO:=Ou hown
 have jQ:Hid (∀(j:Nat) (u:Value),ys[j]? = some u->w.cell? ((⟨vb,0,none⟩:Addr).add j)=some u):=Ou (λj u hj=>by
  rw[QN,Nat.zero_add,cell_of_row _ _ _ _ _ _ hv,List.getElem?_toArray];exact hj)
 have q1:IntKind.i64.wrap ((n:Int)+1)=(n:Int)+1:=by rw[Wz];omega
 rcases hown.2 with ⟨rfl,rfl⟩ | ⟨g,c,cur,rfl,_,_,hc,hm,_,_⟩
 ·clear hown hv;go_enter func220,ntmps220;go_wp2_with (at_builtin;refine wpList_append_own_at _ rfl _ _ 124 rfl base 35 i0 (.int .u64 0) 1 8 underlying124 hi0 hz0 hz1 hz2 rfl Ox _ _ _ rfl HO.out ⟨vb,0,none⟩ 1 1 ys rfl Oz jQ.out h2 (by unfold maxLen;omega) Oz hb ?_)
  intro v1 w1 k1 k2 k4 k3;have HR:Hid (w1.ownsRow base 35 1 v1 (0+1) (xs++ys)/\w.grownBy w1 none/\v1.ownBlock=some w.heap.size):=by
   refine⟨k1,k2,?_⟩;rcases k3 with h|h
   ·rcases k1.2 with ⟨_,h0⟩ | ⟨g,c,cur,rfl,_⟩
    ·omega
    ·cases h
   ·exact h
  clear k1 k2 k3 k4;go_wp2_with fail
  go_ret;exact⟨_,rfl,HR.out.1,HR.out.2.1,.inl ⟨HR.out.2.2,HR.out.2.1⟩⟩
 ·have hcm:c<=9223372036854775807:=by unfold maxLen at hm;omega
  have q2:(n:Int)<=(c:Int):=by omega
  have q3:(c:Int)<=9223372036854775807:=by omega
  clear hown hv hm;by_cases hcn:c=n
  ·subst hcn;have HA:=Ou (λty=>qhX w base c g xs ys ⟨vb,0,none⟩ 1 ty i0 hi0 hz0 hz1 hz2 HO.out hy jQ.out hn hb);go_enter func220,ntmps220;obtain⟨v1,w1,hr,k1,k2,k3⟩:=HA.out 124;have HR:Hid (w1.ownsRow base 35 1 v1 (c+1) (xs++ys)/\w.grownBy w1 none/\v1.ownBlock=some w.heap.size):=⟨k1,k2,k3⟩
   have HX:=Ou hr;clear k1 k2 k3 HA hr;go_wp2_with (at_builtin;refine wpList_append_run _ rfl _ _ _ _ rfl _ _ rfl rfl _ _ HX.out ?_)
   go_wp2_with fail
   go_ret;have h:=HR.out.2.1;exact⟨_,rfl,HR.out.1,⟨h.os,h.tape,h.output,h.size,λk hk _=>h.block k hk Oy⟩,.inl ⟨HR.out.2.2,h⟩⟩
  ·go_enter func220,ntmps220;go_wp2_with (at_builtin;refine wpList_append_fits _ rfl _ _ 124 rfl base 35 i0 1 underlying124 hi0 hz1 g n c xs rfl HO.out ⟨vb,0,none⟩ 1 1 ys rfl Oz jQ.out h2 Oz ?_)
   intro w1 k1 k2;have HR:Hid (w1.ownsRow base 35 1 (.slice (some ⟨g,0,none⟩) (n+1) c) (n+1) (xs++ys)/\w.grownBy w1 (some g)):=⟨k1,k2⟩
   clear k1 k2;go_wp2_with fail
   go_ret;exact⟨_,rfl,HR.out.1,HR.out.2,.inr ⟨g,c,rfl,rfl⟩⟩
theorem qhZ (w:World)(base n i:Nat)(v:Value)(xs ys:List Value)(vb:Nat)(hown:w.ownsRow base 35 1 v n xs)(hb:base<=w.heap.size)(hn:n<=1000)(hi:i<=n)(hvb:v.ownBlock≠some vb)(hv:w.heap[vb]? = some (.cells ys.toArray 35 (0,0)))(hy:ys.length=1)(h1:∀u∈xs,u.oneCell'=true)(h2:∀u∈ys,u.oneCell'=true) :
  Calls prog 220 #[v,.int .i64 i,.slice (some ⟨vb,0,none⟩) 1 1] w λe w'=>∃v',e=.returned v'/\Hid (w'.ownsRow base 35 1 v' (n+1) (xs.take (i*1)++ys++xs.drop (i*1))/\w.grownBy w' v.ownBlock/\((v'.ownBlock=some w.heap.size/\w.grownBy w' none)∨∃g c,v=.slice (some ⟨g,0,none⟩) n c/\v'=.slice (some ⟨g,0,none⟩) (n+1) c)):=by
 have hl:=hown.1
 by_cases hin:i=n
 ·subst hin;refine(qhY w base i v xs ys vb hown hb hn hv hy h2).mono λe w' ⟨v',he,h⟩=>⟨v',he,?_⟩
  rw[List.take_of_length_le Oz,List.drop_eq_nil_of_le Oz,List.append_nil];exact h
 rcases hown.2 with ⟨_,h0⟩ | ⟨g,c,cur,rfl,hbg,hg,hc,hm,hs,ht⟩
 ·omega
 have vG:vb≠g:=λe=>hvb (by rw[e];rfl)
 have hll:cur.toList.length=c*1:=by rw[Array.length_toList];exact hs
 by_cases hcn:n+1<=c
 ·refine(qhs w g n c i vb cur.toList ys (by rw[Array.toArray_toList];exact hg) hll hcn Oz hm vG hv hy (by rw[ht];exact h1) h2).mono λe w' ⟨he,h⟩=>⟨_,he,?_⟩
  obtain⟨k1,k2⟩:=UJ (xs:=xs) (i:=i) Oz hcn hll hy ht;refine⟨⟨?_,.inr ⟨g,c,_,rfl,hbg,h.out.2,hcn,hm,by rw[Wu];exact k1,k2⟩⟩,h.out.1,.inr ⟨g,c,rfl,rfl⟩⟩;simp only[Su,Wy,Az,hy];omega
 ·obtain rfl:c=n:=by omega
  have ex:cur=xs.toArray:=by rw[<-ht,List.take_of_length_le Oz,Array.toArray_toList]
  rw[ex]at hg;refine(qht w g c i vb xs ys hg hl hn Oz hv hy h1 h2).mono λe w' ⟨v',he,h⟩=>⟨v',he,Js h.out.1 hb,?_,.inl ⟨h.out.2.2,⟨h.out.2.1.os,h.out.2.1.tape,h.out.2.1.output,h.out.2.1.size,λj hj _=>h.out.2.1.block j hj⟩⟩⟩
  exact⟨h.out.2.1.os,h.out.2.1.tape,h.out.2.1.output,h.out.2.1.size,λj hj _=>h.out.2.1.block j hj⟩
end
end Go.Proofs.YtikapeaodobkjaaGreat
namespace Go.Proofs
open _root_.Go.Proofs.YtikapeaodobkjaaGreat
open Go.Shelf
def Tryz.delL_ren:Go.Shelf.Ren:=⟨fun|10=>215|6=>224|n=>n,fun|22=>124|23=>35|25=>213|3=>3|4=>4|0=>0|n=>n,fun|n=>n⟩
theorem Tryz.delL:Go.Proofs.SlLaysH.n10 prog Tryz.delL_ren:={
 mixed:=by kernel_rfl
 f6:=⟨Tryz.f224.name,by decide,func224.trans (congrArg some Ow)⟩
 f10:=⟨Tryz.f215.name,by decide,func215.trans (congrArg some Ow)⟩
 t0:=underlying0
 a0:=Tryz.isAgg0
 z0:=Tryz.sizeOf0
 v0:=Tryz.zeroValue0
 t3:=underlying3
 a3:=Tryz.isAgg3
 z3:=Tryz.sizeOf3
 v3:=Tryz.zeroValue3
 t4:=underlying4
 a4:=Tryz.isAgg4
 z4:=Tryz.sizeOf4
 v4:=Tryz.zeroValue4
 t22:=underlying124
 a22:=Tryz.isAgg124
 z22:=Tryz.sizeOf124
 v22:=Tryz.zeroValue124
 a23:=Tryz.isAgg35
 z23:=Tryz.sizeOf35
 t25:=underlying213
 a25:=Tryz.isAgg213
 z25:=Tryz.sizeOf213
 v25:=Tryz.zeroValue213 }
end Go.Proofs
namespace Go.Proofs.YtikapeaodobkjaaGreat
open _root_.Go.Proofs.Tryz
section
open Go.RowKit Go.Sort Go.Lib Go.Shelf
abbrev Ji:Int->Value:=Value.int .u64
theorem qai (q:List Int):idV q=q.map Ji:=rfl
theorem qaj (id x:Int)(B:Nat)(W:World)(hc:W.cell? ⟨B,0,none⟩=some (.int .u64 id)) :
  FnGives prog 216 #[.pointer (some ⟨B,0,none⟩)] #[.int .u64 x] (.bool (x==id)) W:=by
 show Calls prog 216 #[.int .u64 x,.pointer (some ⟨B,0,none⟩)] W _
 generalize hr:(x==id)=r
 go_enter func216,ntmps216
 go_wp2
 all_goals (go_ret;exact⟨by simp_all,0,rfl⟩)
theorem qh0 {w:World}{g:Nat}{cur:Array Value}{e:TypeId}{ss:List Int}(hb:w.heap[g]? = some (.cells cur e (0,0)))(ht:cur.toList.take ss.length=ss.map Ji):Holds Ji w g 0 ss.toArray:=by
 intro j hj
 have hj':j<ss.length:=by simpa using hj
 refine⟨?_,by simp[World.frozen?,hb]⟩
 have h1:(cur.toList.take ss.length)[j]? = (ss.map Ji)[j]?:=by rw[ht]
 rw[List.getElem?_take_of_lt hj']at h1
 simp only[World.cell?,hb,Nat.zero_add]
 simp only[Option.isSome_none,Bool.false_eq_true,if_false]
 rw[<-Array.getElem?_toList,h1]
 simp[hj']
theorem qak {w:World}{g n:Nat}{cur:Array Value}{e:TypeId}{fr:Nat×Nat}(d:Array Int)(hb:w.heap[g]? = some (.cells cur e fr)) :
  (putRow Ji (Sort.ahead w n) g 0 d).heap[g]? = some (.cells (putCells Ji 0 d cur) e fr):=by
 simp[putRow,mapBlock,Sort.ahead,Array.getElem?_modify,hb,onCells]
theorem qh1 {w:World}{g n:Nat}(d:Array Int):w.grownBy (putRow Ji (Sort.ahead w n) g 0 d) (some g):=by
 refine⟨rfl,rfl,rfl,by simp,λk hk hne=>?_⟩
 have:g≠k:=λe=>hne (by rw[e])
 simp[putRow,mapBlock,Sort.ahead,Array.getElem?_modify,this]
theorem qh2 (cur:Array Value)(ts:List Int)(h:ts.length<=cur.size):(putCells Ji 0 ts.toArray cur).toList.take ts.length=ts.map Ji:=by
 apply List.ext_getElem?
 intro j
 by_cases hj:j<ts.length
 ·rw[List.getElem?_take_of_lt hj,Array.getElem?_toList];simp[putCells,hj,show j<cur.size by omega]
 ·rw[List.getElem?_take_eq_none Oz,List.getElem?_eq_none (by simp;omega)]
def JF (id:Int)(q:List Int):List Int:=q.filter λx=>!(x==id)
def JG (id:Int)(q:List Int):List Int:=JF id q++List.replicate (q.length-(JF id q).length) 0
theorem Ga (id:Int)(q:List Int):(JF id q).length<=q.length:=List.length_filter_le _ _
theorem qal (id:Int)(q:List Int):(JG id q).length=q.length:=by
 have:=Ga id q
 unfold JG
 rw[Su,List.length_replicate]
 omega
theorem qh3 (w:World):(zeroValue 35).run prog w=.ok (.int .u64 0) w:=by kernel_rfl
theorem qh4 (w:World)(base g c B:Nat)(id:Int)(q:List Int)(hown:w.ownsRow base 35 1 (.slice (some ⟨g,0,none⟩) q.length c) q.length (idV q))(hn:q.length<=1000)(hB:Cl 35 w B #[.int .u64 id])(hne:B≠g) :
  Calls prog 215 #[.slice (some ⟨g,0,none⟩) q.length c,.func (.func 216) #[] #[.pointer (some ⟨B,0,none⟩)]] w λe w' =>
   e=.returned (.slice (some ⟨g,0,none⟩) (JF id q).length c)/\Hid (w'.ownsRow base 35 1 (.slice (some ⟨g,0,none⟩) (JF id q).length c) (JF id q).length (idV (JF id q)) /\
    w'.ownsRow base 35 1 (.slice (some ⟨g,0,none⟩) q.length c) q.length (idV (JG id q))/\w.grownBy w' (some g)):=by
 rcases hown.2 with ⟨hv,_⟩ | ⟨k,cap,cur,hv,hbk,hk,hnc,hcm,hcs,ht⟩
 ·cases hv
 injection hv with e1 _ e3
 injection e1 with e1
 injection e1 with e1
 subst e1 e3
 have hcell:w.cell? ⟨B,0,none⟩=some (.int .u64 id):=(hB.c 0).trans rfl
 have hBl:B<w.heap.size:=Qc hB
 have eg:∀args w,(callFunc 216 args).run prog w=.ok (.enter 216 args) w:=enters_of func216 Ow rfl
 have hcon:=AnyE.slices_DeleteFunc Tryz.delL Ji (λ_=>rfl) (λx=>x==id) 216 #[.pointer (some ⟨B,0,none⟩)] eg 0 qh3 g 0 c q.toArray w
  (λW x hb=>qaj id x B W ((hb.cell (p:=⟨B,0,none⟩) hBl).trans hcell))
  (λn os dk x _=>qaj id x B _ (by
   unfold sortWorld;rw[cell?_grow _ _ _ (by show B<(putRow _ _ _ _ _).heap.size;rw[size_putRow];exact hBl),cell?_putRow_other _ _ g 0 _ _ (Or.inl hne)]
   exact hcell))
  (qh0 hk (by rw[Nat.mul_one]at ht;exact ht)) (by simp;omega) (by simpa using hnc)
 change Calls prog 215 _ _ _ at hcon
 have es:q.toArray.size=q.length:=by simp
 rw[es]at hcon
 refine hcon.mono λe w' ⟨he,n,hw⟩=>⟨he,?_⟩
 have hw2:w'=putRow Ji (Sort.ahead w n) g 0 (JG id q).toArray:=hw
 subst hw2
 have hl:=qal id q
 have hT:=qh2 cur (JG id q) (by rw[hl,hcs];omega)
 refine⟨⟨by simp[idV],.inr ⟨g,c,_,rfl,hbk,qak _ hk,Sk (Ga id q) hnc,hcm,by simp[putCells,hcs],?_⟩⟩,⟨by simp[idV,hl],.inr ⟨g,c,_,rfl,hbk,qak _ hk,hnc,hcm,by simp[putCells,hcs],?_⟩⟩,qh1 _⟩
 ·rw[Nat.mul_one];have h2:((putCells Ji 0 (JG id q).toArray cur).toList.take (JG id q).length).take (JF id q).length=((JG id q).map Ji).take (JF id q).length:=by rw[hT]
  rw[List.take_take,Nat.min_eq_left (by rw[hl];exact Ga id q)]at h2;rw[h2,qai];unfold JG;rw[List.map_append,List.take_left' (by simp)]
 ·rw[Nat.mul_one,qai,<-hl];exact hT
end
section
open Go.RowKit Go.Sort Go.Lib Go.Maps
theorem Xq:Keyed prog 35:=int_keyed underlying35
theorem qam {w:World}{P:Program}{K:TypeId}{m n k:Nat}{D:DataW Value}(h:w.ownsMap P K RV m n D)(hz:Maps.size D<=k):w.ownsMap P K RV m k D:=by
 obtain⟨es,clock,hb,F,_,hD⟩:=h
 refine⟨es,clock,hb,F,?_,hD⟩
 rw[hD]at hz
 simpa [Maps.size,length_sorted] using hz
theorem qan (w:World):(zeroValue 38).run prog w=.ok zO.val w:=by kernel_rfl
theorem qao {v u:Value}{ps:List MemPlace}(h:RV v=some (.held u,ps)):v=u:=DataW.held.inj (congrArg Prod.fst (Option.some.inj h))
theorem Xr {w:World}{m n:Nat}{D:DataW Value}{L:List Od}(h:w.ownsMap prog 35 RV m n D)(hO:OmT D L)(id:Int)(hs:(Lit.int .u64 id).wf=true) :
  (Instr.lookup 133 (.map (some m)) (.int .u64 id) false).run prog w=.ok ((omL L id).getD zO).val w:=by
 obtain⟨v,ps,hr,hv⟩:=h.lookup Xq underlying133 (qan w) (R:=RV) rfl (keyOf_int_mk underlying35 hs)
 rw[hO.at_]at hv
 rw[hr,qao hv]
theorem look_ok {w:World}{m n:Nat}{D:DataW Value}{L:List Od}(h:w.ownsMap prog 35 RV m n D)(hO:OmT D L)(id:Int)(hs:(Lit.int .u64 id).wf=true) :
  (Instr.lookup 133 (.map (some m)) (.int .u64 id) true).run prog w=.ok (.tuple #[((omL L id).getD zO).val,.bool (omL L id).isSome]) w:=by
 obtain⟨v,ps,hr,hv⟩:=h.look_ok Xq underlying133 (qan w) (R:=RV) rfl (keyOf_int_mk underlying35 hs)
 rw[hO.at_]at hv
 rw[hr,qao hv,hO.has]
theorem qap {w:World}{m n:Nat}{D:DataW Value}{L:List Od}(h:w.ownsMap prog 35 RV m n D)(hO:OmT D L)(ty:TypeId) :
  (Builtin.len_ #[133] ty #[.map (some m)]).run prog w=.ok (.int .i64 (L.length:Nat)) w:=by
 rw[h.len underlying133 ty,hO.size]
theorem qaq {w:World}{m n:Nat}{D:DataW Value}{L M:List Od}(h:w.ownsMap prog 35 RV m n D)(hn:n<=1000)(hO:OmT D L)(x:Od)(hs:(Lit.int .u64 x.id).wf=true)
  (hf:∀id,omL M id=if id=x.id then some x else omL L id) (hl:M.length=if (omL L x.id).isSome=true then L.length else L.length+1) (hk:M.length<=64) :
  ∃w',(Instr.mapUpdate 133 (.map (some m)) (.int .u64 x.id) x.val).run prog w=.ok () w'/\∃D',w'.ownsMap prog 35 RV m 64 D'/\OmT D' M/\w.grownBy w' (some m):=by
 obtain⟨w',hr,h1,h2⟩:=h.store Xq underlying133 (by unfold maxLen;omega) (keyOf_int_mk underlying35 hs) (show RV x.val=some (.held x.val,[]) from rfl)
 have mO:=hO.put x (by trivial) hf hl
 exact⟨w',hr,_,qam h1 (by rw[mO.size];exact hk),mO,h2.grown⟩
theorem qh5 {w:World}{m n:Nat}{D:DataW Value}{L M:List Od}(h:w.ownsMap prog 35 RV m n D)(hO:OmT D L)(k:Int)(hs:(Lit.int .u64 k).wf=true)
  (hf:∀id,omL M id=if id=k then none else omL L id) (hl:M.length+(if (omL L k).isSome=true then 1 else 0)=L.length) (hk:M.length<=64) (ty:TypeId) :
  ∃w',(Builtin.delete_ #[133,35] ty #[.map (some m),.int .u64 k]).run prog w=.ok (.tuple #[]) w'/\∃D',w'.ownsMap prog 35 RV m 64 D'/\OmT D' M/\w.grownBy w' (some m):=by
 obtain⟨w',hr,h1,h2⟩:=h.drop Xq underlying133 (keyOf_int_mk underlying35 hs) ty
 have mO:=hO.del k hf hl
 exact⟨w',hr,_,qam h1 (by rw[mO.size];exact hk),mO,h2.grown⟩
structure GW (w:World) (p m ms:Nat) (D:DataW Value) (g1 g2:Sg) (Q1 Q2:List Rw):Prop where
 gk:Gk w (some ⟨p,0,none⟩) (some (m,ms)) D g1 g2
 om:OmT D (Qa Q1 Q2)
 e1:g1.t.rows=Q1.map QG
 e2:g2.t.rows=Q2.map QG
 ok1:SideOk 1 Q1
 ok2:SideOk 2 Q2
 ids:Ids (Qa Q1 Q2)
 len:(Qa Q1 Q2).length<=64
 ok:∀x∈Qa Q1 Q2,Od.ok w x/\Qj x=true
 vd:VD (g1.t.vals++g2.t.vals)
 bd:∀b∈g1.t.blks,b ∉ g2.t.blks
 tb:g1.tb≠g2.tb
 mm:m≠ms
 sb:g1.sb≠g2.sb
def QE (g:Sg)(k:Nat):Prop:=k=g.sb∨k=g.tb∨k∈g.t.blks∨∃v∈g.t.vals,v.ownBlock=some k
def Kd (p m ms:Nat)(g1 g2:Sg)(k:Nat):Prop:=k=p∨k=m∨k=ms∨QE g1 k∨QE g2 k
theorem Gk.fr {S:Nat->Prop}{w w':World}{p m ms:Nat}{D:DataW Value}{g1 g2:Sg}(h:Gk w (some ⟨p,0,none⟩) (some (m,ms)) D g1 g2)(hf:Fr S w w')(hn:∀k,Kd p m ms g1 g2 k->¬S k):Gk w' (some ⟨p,0,none⟩) (some (m,ms)) D g1 g2:=by
 refine⟨?_,λa b e=>?_,λa b e=>?_,λe=>?_,λe=>?_⟩
 ·rcases h.shape with ⟨h0,_⟩ | ⟨q,hq,hc⟩
  ·cases h0
  ·refine .inr ⟨q,hq,hf.blk hc ?_⟩;injection hq with hq;injection hq with hq;exact hn q (.inl hq.symm)
 ·have:=h.om a b e;injection e with e;injection e with e1 e2;exact QQ this hf (hn a (.inr (.inl e1.symm)))
 ·have:=h.sm a b e;injection e with e;injection e with e1 e2;exact QQ this hf (hn b (.inr (.inr (.inl e2.symm))))
 ·exact(h.s1 e).fr hf (hn _ (.inr (.inr (.inr (.inl (.inl rfl)))))) (hn _ (.inr (.inr (.inr (.inl (.inr (.inl rfl))))))) (λb hb=>hn _ (.inr (.inr (.inr (.inl (.inr (.inr (.inl hb)))))))) (λv hv k hk=>hn _ (.inr (.inr (.inr (.inl (.inr (.inr (.inr ⟨v,hv,hk⟩))))))))
 ·exact(h.s2 e).fr hf (hn _ (.inr (.inr (.inr (.inr (.inl rfl)))))) (hn _ (.inr (.inr (.inr (.inr (.inr (.inl rfl))))))) (λb hb=>hn _ (.inr (.inr (.inr (.inr (.inr (.inr (.inl hb)))))))) (λv hv k hk=>hn _ (.inr (.inr (.inr (.inr (.inr (.inr (.inr ⟨v,hv,hk⟩))))))))
theorem GW.fr {S:Nat->Prop}{w w':World}{p m ms:Nat}{D:DataW Value}{g1 g2:Sg}{Q1 Q2:List Rw}(h:GW w p m ms D g1 g2 Q1 Q2)(hf:Fr S w w')(hn:∀k,Kd p m ms g1 g2 k->¬S k):GW w' p m ms D g1 g2 Q1 Q2 :=
 ⟨h.gk.fr hf hn,h.om,h.e1,h.e2,h.ok1,h.ok2,h.ids,h.len,h.ok,h.vd,h.bd,h.tb,h.mm,h.sb⟩
theorem GW.below {w w':World}{p m ms:Nat}{D:DataW Value}{g1 g2:Sg}{Q1 Q2:List Rw}(h:GW w p m ms D g1 g2 Q1 Q2)(hf:Ok w w'):GW w' p m ms D g1 g2 Q1 Q2 :=
 h.fr (S:=λ_=>False) (Fr.of_below hf) (λ_ _ h=>h)
theorem TrIn.vlt {W:World}:∀{t:Tr},TrIn W t->∀v∈t.vals,∀k,v.ownBlock=some k->k<W.heap.size
 | .nil,_,v,h=>(by cases h)
 | .node a k v q l r,h,u,hu=>by
  unfold Tr.vals at hu;rcases List.mem_append.1 hu with hu|hu
  ·exact TrIn.vlt h.2.2.1 u hu
  ·rcases List.mem_cons.1 hu with rfl|hu
   ·exact λk hk=>(h.2.1.lt k hk).2
   ·exact TrIn.vlt h.2.2.2 u hu
theorem SgIn.lt {w:World}{s:Int}{g:Sg}(h:SgIn w s g):∀k,QE g k->k<w.heap.size:=by
 rintro k (rfl|rfl|hk | ⟨v,hv,hk⟩)
 ·exact Qc h.box
 ·exact Qc h.cx
 ·exact h.tr.lt k hk
 ·exact h.tr.vlt v hv k hk
theorem GW.lt {w:World}{p m ms:Nat}{D:DataW Value}{g1 g2:Sg}{Q1 Q2:List Rw}(h:GW w p m ms D g1 g2 Q1 Q2):∀k,Kd p m ms g1 g2 k->k<w.heap.size:=by
 rintro k (rfl|rfl|rfl|hk|hk)
 ·rcases h.gk.shape with ⟨h0,_⟩ | ⟨q,hq,hc⟩
  ·cases h0
  ·injection hq with hq;injection hq with hq;rw[hq];exact Qc hc
 ·exact(h.gk.om _ _ rfl).lt
 ·exact(h.gk.sm _ _ rfl).lt
 ·exact(h.gk.s1 rfl).lt k hk
 ·exact(h.gk.s2 rfl).lt k hk
theorem GW.bookp {w:World}{p m ms:Nat}{D:DataW Value}{g1 g2:Sg}{Q1 Q2:List Rw}(h:GW w p m ms D g1 g2 Q1 Q2):Cl 138 w p #[.map (some m),.map (some ms)]:=by
 rcases h.gk.shape with ⟨h0,_⟩ | ⟨q,hq,hc⟩
 ·cases h0
 ·injection hq with hq;injection hq with hq;rw[hq];exact hc
theorem qh6 (p m ms:Nat)(D:DataW Value)(g1 g2:Sg)(Q1 Q2:List Rw)(w:World)(H:GW w p m ms D g1 g2 Q1 Q2) :
  Calls prog 204 #[.pointer (some ⟨p,0,none⟩)] w λe w'=>e=.returned (.int .i64 (Qa Q1 Q2).length)/\w=w':=by
 have HM:=Ou (Kc (some ⟨p,0,none⟩) (some (m,ms)) D g1 g2 w H.gk)
 have k0:w.cell? ⟨p,0,none⟩=some (.map (some m)):=(H.bookp.c 0).trans rfl
 have hl:=λty=>qap (H.gk.om _ _ rfl) H.om ty
 generalize (Qa Q1 Q2).length=n at hl
 clear H
 go_enter func204,ntmps204
 go_wp2_with ((with_reducible refine HM.out.mono ?_);rintro e w1 ⟨rfl,rfl⟩;clear HM)
 go_ret
 exact⟨rfl,rfl⟩
theorem qar (p m ms:Nat)(D:DataW Value)(g1 g2:Sg)(Q1 Q2:List Rw)(id:Int)(hs:(Lit.int .u64 id).wf=true)(w:World)(H:GW w p m ms D g1 g2 Q1 Q2) :
  Calls prog 203 #[.pointer (some ⟨p,0,none⟩),.int .u64 id] w λe w'=>e=.returned (.tuple #[.agg (OC ((omL (Qa Q1 Q2) id).getD zO)),.bool (omL (Qa Q1 Q2) id).isSome])/\Hid (Ok w w'):=by
 have hb:Ok w (w.alloc (.cells (OC ⟨0,0,0,0,0,0⟩) 38)):=(Oq _ _).alloc (Sq _) _
 have HM:=Ou (Kc (some ⟨p,0,none⟩) (some (m,ms)) D g1 g2 _ (H.below hb).gk)
 have k0:(w.alloc (.cells (OC ⟨0,0,0,0,0,0⟩) 38)).cell? ⟨p,0,none⟩=some (.map (some m)):=((H.below hb).bookp.c 0).trans rfl
 have hl:=look_ok ((H.below hb).gk.om _ _ rfl) H.om id hs
 generalize (omL (Qa Q1 Q2) id).isSome=there at hl ⊢
 generalize (omL (Qa Q1 Q2) id).getD zO=z at hl ⊢
 have hl':(Instr.lookup 133 (.map (some m)) (.int .u64 id) true).run prog (w.alloc (.cells (OC ⟨0,0,0,0,0,0⟩) 38))=.ok (.tuple #[.agg (OC z),.bool there]) (w.alloc (.cells (OC ⟨0,0,0,0,0,0⟩) 38)):=hl
 have HB:=Ou hb
 clear H hb hl
 go_enter func203,ntmps203
 go_wp2_with ((with_reducible refine HM.out.mono ?_);rintro e w1 ⟨rfl,rfl⟩;clear HM)
 refine bodyPost_ret (ZP rfl _ _ _ rfl z _ (Qp Oy (Qe rfl)) _ rfl) rfl ?_
 exact⟨rfl,Ou (((Oq _ _).alloc (Sq _) _).alloc Oy _)⟩
theorem qas {B:Nat}{w w':World}(h:Below B w w'):Fr (λk=>B<=k) w w':=⟨h.os,h.tape,h.output,h.size,λk hk hn=>h.block k Oz⟩
theorem Ju {a:Int}(h:0<=a/\a<=18446744073709551615):(Lit.int .u64 a).wf=true:=WalkArith.wf_u64 h
theorem qat (w:World)(x:Od)(T:TypeId):∀(j:Nat) (u:Value),(Qo x)[j]? = some u->(w.alloc (Obj.cells (OC x) T)).cell? ((⟨w.heap.size,0,none⟩:Addr).add j)=some u:=by
 intro j u hu
 rw[QN,cell_of_row _ _ _ _ _ _ (heap_alloc_new w _)]
 match j,hu with
 | 0,hu=>simpa [Qo] using hu
 | 1,hu=>simpa [Qo] using hu
 | 2,hu=>simpa [Qo] using hu
 | 3,hu=>simpa [Qo] using hu
 | 4,hu=>simpa [Qo] using hu
 | 5,hu=>simpa [Qo] using hu
theorem qau:(prog.info? 38).map (λi=>(i.zero,i.size,i.bytes))=some (some (.agg (OC ⟨0,0,0,0,0,0⟩)),6,48):=by kernel_rfl
def QIn (w:World)(B:Nat)(A:Option Addr)(Y:List Od):Prop:=∀k,k<Y.length->∃g,A=some ⟨g,0,none⟩/\g<B/\w.cell? ⟨g,k,none⟩=some (.int .u64 (Y[k]!).id)
theorem QIn.below {w w':World}{B:Nat}{A:Option Addr}{Y:List Od}(h:QIn w B A Y)(hb:Below B w w'):QIn w' B A Y:=λk hk=>by
 obtain⟨g,h1,h2,h3⟩:=h k hk
 exact⟨g,h1,h2,(hb.cell (p:=⟨g,k,none⟩) h2).trans h3⟩
theorem qh7 (p m ms:Nat)(D:DataW Value)(g1 g2:Sg)(Q1 Q2:List Rw)(w:World)(H:GW w p m ms D g1 g2 Q1 Q2)(B:Nat)(hB:∀k,Kd p m ms g1 g2 k->k<B)(hBw:B<=w.heap.size)
  (v:Value) (n:Nat) (X:List Od) (hown:w.ownsRow B 38 6 v n (ol X)) (hn:n<=1000) (A:Option Addr) (c:Nat) (Y:List Od) (hY:∀x∈Y,x∈Qa Q1 Q2) (hQ:QIn w B A Y) (hm:Y.length<=1000) :
  Calls prog 212 #[.pointer (some ⟨p,0,none⟩),v,.slice A Y.length c] w λe w'=>∃v',e=.returned v'/\Hid (w'.ownsRow B 38 6 v' (n+Y.length) (ol (X++Y))/\Below B w w'):=by
 obtain⟨i0,hi0,hz0,hz1,hz2⟩:=info_parts qau
 have HH:=Ou H
 have HB:=Ou hB
 have HQ:=Ou hQ
 have HY:=Ou hY
 clear H hB hQ hY
 have xL:(Y.length:Int)<=1000:=by omega
 go_enter func212,ntmps212
 go_wp2_with fail
 obtain⟨N,hN⟩:∃N,N=Y.length:=⟨_,rfl⟩
 rw[<-hN]at hm xL ⊢
 have HN:=Ou hN
 clear hN
 go_loopg [1,11] N (λkx s1 iG wr=>∃k:Nat,iG=.int .i64 (k:Int)/\k<=N/\N-k<=kx/\wr.ownsRow B 38 6 s1 (n+k) (ol (X++Y.take k))/\Hid (Below B w wr))
 case atStart=>exact⟨0,rfl,by omega,by omega,by simpa using hown,Below.refl _ _⟩
 case round =>
  obtain⟨k,rfl,hk,aM,hown',hd⟩:=hrel;by_cases hlt:k<N
  ·have aF:(k:Int)<(N:Int):=by omega
   have d8:(0:Int)<=(k:Int):=by omega
   have lK:k<Y.length:=by rw[<-HN.out];exact hlt
   obtain⟨g,rfl,hgB,hc⟩:=(HQ.out.below hd.out) k lK;obtain⟨x,ex⟩:∃x,Y[k]! = x:=⟨_,rfl⟩
   rw[ex]at hc;have vO:x∈Y:=by rw[<-ex,Sj Y k lK];exact Wt _
   have qA:=HY.out x vO;have G:=HH.out.fr (qas hd.out) (λj hj hbad=>by have:=HB.out j hj;omega);have hsome:omL (Qa Q1 Q2) x.id=some x:=(Z1 G.ids).2 ⟨qA,rfl⟩;have hl:=Xr (G.gk.om _ _ rfl) G.om x.id (Ju (G.ok x qA).1.1);rw[hsome]at hl;have hl':(Instr.lookup 133 (.map (some m)) (.int .u64 x.id) false).run prog wr=.ok (.agg (OC x)) wr:=hl;have k0:wr.cell? ⟨p,0,none⟩=some (.map (some m)):=(G.bookp.c 0).trans rfl
   have HS:Hid (ol (X++Y.take (k+1))=ol (X++Y.take k)++Qo x):=Ou (by
    rw[List.take_succ_eq_append_getElem lK,<-St,Ck,<-Sj Y k lK,ex])
   have hsz:=hd.out.size;have pV:n+k<=2000:=by omega
   clear ex vO qA G hsome hl;generalize x.id=xi at *;go_wp2_with (at_builtin;refine wpList_append_own _ rfl _ _ 22 rfl B 38 i0 (.agg (OC ⟨0,0,0,0,0,0⟩)) 6 48 underlying22 hi0 hz0 hz1 hz2 rfl Ox _ _ _ rfl (hown'.alloc _) ⟨wr.heap.size,0,none⟩ 1 1 (Qo x) rfl rfl ?c1 ?c2 ?c3 ?c4 ?c5 ?_)
   case c1=>exact qat wr x _
   case c2=>exact JC x
   case c3=>unfold maxLen;omega
   case c4=>omega
   case c5=>simp;omega
   intro v1 w1 hown1 hg1 _;have cY:Hid (Below B w w1):=Below.grown (hd.out.alloc (Sk hBw hsz) _) hg1 (by simp;omega) (λk hk=>(hown'.lt k hk).1);rw[<-HS.out]at hown1;clear hg1 hown' hd;go_wp2_with fail
   go_roundg (N-(k+1))
   case measure=>omega
   case rel=>exact⟨k+1,by go_num,by omega,by omega,hown1,cY⟩
  ·have aF:¬(k:Int)<(N:Int):=by omega
   obtain rfl:k=N:=by omega
   rw[List.take_of_length_le (by rw[<-HN.out];exact Sq _)]at hown';have HF:=Ou (Sv hown' hd.out);clear hown' hd;go_wp2_with fail
   go_ret;have eN:=HN.out;subst eN;refine⟨?v,?e,?h⟩
   case h=>exact HF
   case e=>rfl
theorem V6 {w:World}{A:Option Addr}{n c:Nat}{Y:List Od}{B:Nat}(h:w.ownsRow 0 35 1 (.slice A n c) n (idV (Y.map (·.id))))(hB:∀k,(Value.slice A n c).ownBlock=some k->k<B):n=Y.length/\QIn w B A Y:=by
 have hl:=h.1
 simp only[idV,List.length_map]at hl
 refine⟨by omega,λk hk=>?_⟩
 rcases h.2 with ⟨hv,h0⟩ | ⟨g,cap,cur,hv,_,hg,_,_,_,ht⟩
 ·omega
 ·injection hv with e1 _ _;subst e1;refine⟨g,rfl,hB g rfl,?_⟩;rw[cell_of_row _ _ _ _ _ _ hg,<-Array.getElem?_toList];have h2:(cur.toList.take (n*1))[k]? = (idV (Y.map (·.id)))[k]?:=by rw[ht]
  rw[List.getElem?_take,Sx (by omega)]at h2;rw[h2,idV,List.map_map,List.getElem?_map,List.getElem?_eq_getElem hk,Sj Y k hk];rfl
theorem Gb {w:World}{g:Sg}{s pr:Int}{Q:List Rw}{c:Cx}{t:Tr}(hI:SpI w g.tb g.sb s pr g.t c t)(hh:Vn pr t)(e:g.t.rows=Q.map QG)(hQ:SideOk s Q) :
  ∃A M B,Q=A++M++B/\(∀a∈A,Qf s a.pr pr=true)/\(∀b∈B,Qf s pr b.pr=true) /\
   ((t=.nil/\M=[])∨∃a v q l r m,t=.node a pr v q l r/\M=[m]/\m.pr=pr/\q=m.q.map (·.id)/\A.map QG=c.pre++l.rows/\B.map QG=r.rows++c.post):=by
 have h:=e.symm
 rw[<-hI.eq,Zp]at h
 have mem:∀{l:List Rw} {m:List Rq} {f:Int->Prop},l.map QG=m->(∀a∈m,f a.1)->∀a∈l,f a.pr:=λhl hm a ha=>hm (QG a) (by rw[<-hl];exact List.mem_map_of_mem ha)
 cases t with
 | nil =>
  rw[show Tr.rows .nil=[] from rfl,List.append_nil]at h;obtain⟨X,Z,rfl,hX,hZ⟩:=List.map_eq_append_iff.1 h;exact⟨X,[],Z,by simp,mem (f:=λx=>Qf s x pr=true) hX hI.at_.pre,mem (f:=λx=>Qf s pr x=true) hZ hI.at_.post,.inl ⟨rfl,rfl⟩⟩
 | node a k v q l r =>
  have hk:k=pr:=hh;subst hk;have hs:=hI.at_.srt;rw[Zp]at hs;unfold Srt at hs;rw[show Tr.rows (.node a k v q l r)=l.rows++(k,q) :: r.rows from rfl]at hs h;have e1:c.pre++(l.rows++(k,q) :: r.rows)++c.post=(c.pre++l.rows)++[(k,q)]++(r.rows++c.post):=by simp
  rw[e1]at hs h;obtain⟨XY,Z,rfl,hXY,hZ⟩:=List.map_eq_append_iff.1 h;obtain⟨X,Y,rfl,hX,hY⟩:=List.map_eq_append_iff.1 hXY;have hs1:=(List.pairwise_append.1 hs).1;have hs2:=(List.pairwise_append.1 hs).2.2;have hs3:=(List.pairwise_append.1 hs1).2.2
  match Y,hY with
  | [m],hY =>
   injection hY with hm _;have pS:m.pr=k:=congrArg Prod.fst hm;have hm2:m.q.map (·.id)=q:=congrArg Prod.snd hm;exact⟨X,[m],Z,rfl,mem (f:=λx=>Qf s x k=true) hX (λx hx=>hs3 x hx (k,q) Oy),mem (f:=λx=>Qf s k x=true) hZ (λx hx=>hs2 (k,q) Oy x hx),.inr ⟨a,v,q,l,r,m,rfl,rfl,pS,hm2.symm,hX,hZ⟩⟩
def atP (pr:Int)(Q:List Rw):List Od:=(Qb Q).filter (λx=>x.price==pr)
theorem Vs (s x:Int):Qf s x x=false:=by
 cases hx:Qf s x x with
 | false=>rfl
 | true=>rw[JR]at hx;omega
theorem Gc {s pr:Int}{A M B:List Rw}(h:SideOk s (A++M++B))(hA:∀a∈A,Qf s a.pr pr=true)(hB:∀b∈B,Qf s pr b.pr=true)(hM:∀r∈M,r.pr=pr):atP pr (A++M++B)=Qb M:=by
 unfold atP Qb
 rw[Wv,Wv,List.filter_append,List.filter_append]
 have fA:∀(X:List Rw),(∀r∈X,r∈A++M++B)->(∀r∈X,¬r.pr=pr)->(X.flatMap (·.q)).filter (λx=>x.price==pr)=[]:=λX hX hp=>by
  rw[List.filter_eq_nil_iff];intro x hx;obtain⟨r,hr,kF⟩:=List.mem_flatMap.1 hx;have:=(h.mem r (hX r hr) x kF).2;intro e;rw[beq_iff_eq]at e;exact hp r hr (this.symm.trans e)
 have fM:((M.flatMap (·.q)).filter (λx=>x.price==pr))=M.flatMap (·.q):=by
  rw[List.filter_eq_self];intro x hx;obtain⟨r,hr,kF⟩:=List.mem_flatMap.1 hx;rw[(h.mem r (by simp[hr]) x kF).2,hM r hr];simp
 rw[fA A (λr hr=>by simp[hr]) (λr hr e=>by have:=hA r hr;rw[e,Vs]at this;cases this),fA B (λr hr=>by simp[hr]) (λr hr e=>by have:=hB r hr;rw[e,Vs]at this;cases this),fM]
 simp
theorem qh8 {w:World}{g:Sg}{s pr:Int}{Q:List Rw}{c:Cx}{t:Tr}(hI:SpI w g.tb g.sb s pr g.t c t)(hh:Vn pr t)(e:g.t.rows=Q.map QG)(hQ:SideOk s Q)(hS:SgIn w s g){B:Nat}(hB:∀k,QE g k->k<B) :
  ∃A cc,t.val=.slice A (atP pr Q).length cc/\QIn w B A (atP pr Q):=by
 obtain⟨X,M,Z,rfl,hX,hZ,hM⟩:=Gb hI hh e hQ
 rcases hM with ⟨rfl,rfl⟩ | ⟨a,v,q,l,r,m,rfl,rfl,hm,rfl,_,_⟩
 ·rw[Gc hQ hX hZ (λr hr=>by cases hr)];exact⟨none,0,rfl,λk hk=>absurd hk (by simp[Qb])⟩
 ·rw[Gc hQ hX hZ (λr hr=>by rw[List.mem_singleton.1 hr];exact hm)];have e1:Qb [m]=m.q:=by simp[Qb]
  rw[e1];have ho:=hI.tr.2.1;have hv:v∈g.t.vals:=by
   obtain⟨A,C,hp⟩:=JY c;rw[<-hI.eq,hp];simp[Tr.vals]
  rw[List.length_map]at ho;rcases ho.2 with ⟨rfl,h0⟩ | ⟨gg,cap,cur,rfl,_⟩
  ·rw[h0]at ho ⊢;have:=V6 (Y:=m.q) (B:=B) ho (λk hk=>by cases hk);exact⟨none,0,by rw[Tr.val],this.2⟩
  ·have:=V6 (Y:=m.q) (B:=B) ho (λk hk=>hB k (.inr (.inr (.inr ⟨_,hv,hk⟩))));exact⟨_,_,rfl,this.2⟩
structure OwnS (w:World) (p m ms:Nat) (D:DataW Value) (g1 g2:Sg) (Q1 Q2:List Rw) (sd:Int) (g:Sg) (Q:List Rw):Prop where
 s12:sd=1∨sd=2
 sg:SgIn w sd g
 eq:g.t.rows=Q.map QG
 ok:SideOk sd Q
 ft:∀k,QE g k->Kd p m ms g1 g2 k
 mem:∀x∈Qb Q,x∈Qa Q1 Q2
 len:(Qb Q).length<=64
 ids:Ids (Qa Q1 Q2)->Ids (Qb Q)
 call:∀W,GW W p m ms D g1 g2 Q1 Q2->Calls prog 210 #[.pointer (some ⟨p,0,none⟩),.int .i64 sd] W λe w'=>e=.returned (.pointer (some ⟨g.tb,0,none⟩))/\W=w'
theorem GW.own1 {w:World}{p m ms:Nat}{D:DataW Value}{g1 g2:Sg}{Q1 Q2:List Rw}(h:GW w p m ms D g1 g2 Q1 Q2):OwnS w p m ms D g1 g2 Q1 Q2 1 g1 Q1:=by
 refine⟨.inl rfl,h.gk.s1 rfl,h.e1,h.ok1,λk hk=>.inr (.inr (.inr (.inl hk))),λx hx=>Ws _ hx,(by have:=h.len;unfold Qa at this;rw[Su]at this;omega),λhi=>(List.pairwise_append.1 hi).1,λW hW=>(V4 _ _ D g1 g2 1 W Ox hW.gk).mono ?_⟩
 rintro e w' ⟨g,rfl,hg⟩
 cases hg.out with
 | own1 _ _ hw=>exact⟨rfl,hw⟩
 | own2 _ h2 _=>exact absurd h2 Ox
 | new h1 _ _=>rcases h1 with h1|h1;cases h1;exact absurd rfl h1.1
theorem GW.own2 {w:World}{p m ms:Nat}{D:DataW Value}{g1 g2:Sg}{Q1 Q2:List Rw}(h:GW w p m ms D g1 g2 Q1 Q2):OwnS w p m ms D g1 g2 Q1 Q2 2 g2 Q2:=by
 refine⟨.inr rfl,h.gk.s2 rfl,h.e2,h.ok2,λk hk=>.inr (.inr (.inr (.inr hk))),λx hx=>Wx _ hx,(by have:=h.len;unfold Qa at this;rw[Su]at this;omega),λhi=>(List.pairwise_append.1 hi).2.1,λW hW=>(V4 _ _ D g1 g2 2 W Ox hW.gk).mono ?_⟩
 rintro e w' ⟨g,rfl,hg⟩
 cases hg.out with
 | own1 _ h1 _=>exact absurd h1 Ox
 | own2 _ _ hw=>exact⟨rfl,hw⟩
 | new h1 _ _=>rcases h1 with h1|h1;cases h1;exact absurd rfl h1.2
def rsq (Q1 Q2:List Rw)(sd:Int):List Rw:=if sd=1 then Q1 else if sd=2 then Q2 else []
theorem GW.drewN {w:World}{p m ms:Nat}{D:DataW Value}{g1 g2:Sg}{Q1 Q2:List Rw}(h:GW w p m ms D g1 g2 Q1 Q2)(n:Nat):GW (w.drewN n) p m ms D g1 g2 Q1 Q2:=h.below (QI (Oq _ _) n)
theorem qav (p m ms:Nat)(D:DataW Value)(g1 g2:Sg)(Q1 Q2:List Rw)(sd pr:Int)(g:Sg)(Q:List Rw)(w:World)(H:GW w p m ms D g1 g2 Q1 Q2)(S:OwnS w p m ms D g1 g2 Q1 Q2 sd g Q) :
  Calls prog 205 #[.pointer (some ⟨p,0,none⟩),.int .i64 sd,.int .i64 pr] w λe w'=>∃v,e=.returned v/\Hid (w'.ownsRow w.heap.size 38 6 v (atP pr Q).length (ol (atP pr Q))/\Ok w w'):=by
 have HS:=Ou (S.call w H)
 have HG:=Ou (Xf g.tb g.sb sd pr g.t w (λ_=>S.s12) S.sg.box S.sg.cx S.sg.tr S.sg.srt)
 have HT:=Ou (show ∀n A c,QIn (w.drewN n) w.heap.size A (atP pr Q)->Calls prog 212 #[.pointer (some ⟨p,0,none⟩),.slice none 0 0,.slice A (atP pr Q).length c] (w.drewN n) λe w'=>∃v',e=.returned v'/\Hid (w'.ownsRow w.heap.size 38 6 v' (0+(atP pr Q).length) (ol ([]++atP pr Q))/\Below w.heap.size (w.drewN n) w') from λn A c hq =>
  qh7 p m ms D g1 g2 Q1 Q2 (w.drewN n) (H.drewN n) w.heap.size (λk hk=>H.lt k hk) (Sq _) _ 0 [] (World.ownsRow_nil _ _ _ _) Oz A c (atP pr Q) (λx hx=>S.mem x (List.mem_filter.1 hx).1) hq (by
   have h1:(atP pr Q).length<=(Qb Q).length:=List.length_filter_le _ _;have h2:=S.len
   omega))
 have HI:=Ou (show ∀W c t n,W=w.drewN n->SpI w g.tb g.sb sd pr g.t c t->Vn pr t->∃A cc,t.val=.slice A (atP pr Q).length cc/\QIn (w.drewN n) w.heap.size A (atP pr Q) from λW c t n hW hI hh=>by
  obtain⟨A,cc,h1,h2⟩:=qh8 hI hh S.eq S.ok S.sg (B:=w.heap.size) (λk hk=>S.sg.lt k hk)
  exact⟨A,cc,h1,h2.below (QI (Oq _ _) n)⟩)
 clear H S
 go_enter func205,ntmps205
 go_wp2_with fail
 ((with_reducible refine HS.out.mono ?_);rintro e w1 ⟨rfl,rfl⟩)
 go_wp2_with fail
 ((with_reducible refine HG.out.mono ?_);rintro e w2 ⟨c,t,rfl,hh,n,rfl⟩)
 obtain⟨A,cc,ev,hq⟩:=HI.out _ c t n rfl hh.out.1 hh.out.2
 rw[ev]
 have eY:=Ou (HT.out n A cc hq)
 clear HS HG HT HI hh ev hq
 go_wp2_with fail
 ((with_reducible refine eY.out.mono ?_);rintro e w3 ⟨v,rfl,h3⟩)
 clear eY
 go_wp2_with fail
 go_ret
 refine⟨_,rfl,?_⟩
 rw[Nat.zero_add,List.nil_append]at h3
 exact Ou ⟨h3.out.1,(QI (Oq _ _) n).trans h3.out.2⟩
end
section
open Go.RowKit Go.Sort Go.Lib Go.Maps Go.Shelf
theorem qaw {w w':World}{mm:Option (Nat×Nat)}{side:Int}{g g1 g2:Sg}(h:SideIs w w' mm g1 g2 side g)(hn:¬side=1/\¬side=2):g.t=.nil/\SgIn w' side g/\Ok w w':=by
 cases h with
 | own1 _ h=>exact absurd h hn.1
 | own2 _ h=>exact absurd h hn.2
 | new _ hb hs=>exact⟨rfl,hs,hb⟩
theorem qh9 (b:Option Addr)(mm:Option (Nat×Nat))(D:DataW Value)(g1 g2:Sg)(sd pr:Int)(hn:¬sd=1/\¬sd=2)(hs:(Lit.int .i64 sd).wf=true)(w:World)(H:Gk w b mm D g1 g2) :
  Calls prog 205 #[.pointer b,.int .i64 sd,.int .i64 pr] w λe w'=>∃v,e=.returned v/\Hid (w'.ownsRow w.heap.size 38 6 v 0 (ol [])/\Ok w w'):=by
 have HS:=Ou (V4 b mm D g1 g2 sd w hs H)
 have HT:Hid (∀W,Calls prog 212 #[.pointer b,.slice none 0 0,.slice none 0 0] W λe w'=>e=.returned (.slice none 0 0)/\W=w'):=Ou (λW=>qho b W)
 clear H
 go_enter func205,ntmps205
 go_wp2_with (first|((with_reducible refine HS.out.mono ?_);rintro e w1 ⟨⟨tb,sb,t⟩,rfl,hg⟩;obtain⟨h1,h2,h3⟩:=qaw hg.out hn;dsimp only at h1 h2;subst h1;have HF:=Ou (Xf tb sb sd pr .nil w1 (λh=>absurd rfl h) h2.box h2.cx h2.tr h2.srt);have B1:=Ou h3;clear HS hg h2 h3)|((with_reducible refine HF.out.mono ?_);rintro e w2 ⟨c,t,rfl,ht,n,rfl⟩;obtain rfl:=qhp ht.out.1;dsimp only[Tr.val])|((with_reducible refine(HT.out _).mono ?_);rintro e w3 ⟨rfl,rfl⟩))
 go_ret
 exact⟨.slice none 0 0,rfl,Ou ⟨World.ownsRow_nil _ _ _ _,((Fr.of_below (S:=λ_=>False) B1.out).drewN _).below (λ_ h=>False.elim h) (Sq _)⟩⟩
theorem qia {w w':World}{b:Option Addr}{mm:Option (Nat×Nat)}{D:DataW Value}{g1 g2:Sg}(h:Gk w b mm D g1 g2)(hf:Ok w w'):Gk w' b mm D g1 g2:=by
 refine⟨?_,λa b e=>QQ (h.om a b e) (Fr.of_below (S:=λ_=>False) hf) (λh=>h),λa b e=>QQ (h.sm a b e) (Fr.of_below (S:=λ_=>False) hf) (λh=>h),λe=>(h.s1 e).below hf,λe=>(h.s2 e).below hf⟩
 rcases h.shape with h0 | ⟨q,hq,hc⟩
 ·exact .inl h0
 ·exact .inr ⟨q,hq,(Fr.of_below (S:=λ_=>False) hf).blk hc (λh=>h)⟩
theorem qib (b:Option Addr)(mm:Option (Nat×Nat))(D:DataW Value)(g1 g2:Sg)(sd:Int)(hn:¬sd=1/\¬sd=2)(hs:(Lit.int .i64 sd).wf=true)(w:World)(H:Gk w b mm D g1 g2) :
  Calls prog 201 #[.pointer b,.int .i64 sd] w λe w'=>e=.returned (.tuple #[QF none,.bool false])/\Hid (Ok w w'):=by
 have hb:Ok w (w.alloc (.cells (OC ⟨0,0,0,0,0,0⟩) 38)):=(Oq _ _).alloc (Sq _) _
 have HS:=Ou (V4 b mm D g1 g2 sd (w.alloc (.cells (OC ⟨0,0,0,0,0,0⟩) 38)) hs (qia H hb))
 have HB:=Ou hb
 clear H hb
 go_enter func201,ntmps201
 go_wp2_with (first|((with_reducible refine HS.out.mono ?_);rintro e w1 ⟨⟨tb,sb,t⟩,rfl,hg⟩;obtain⟨h1,h2,h3⟩:=qaw hg.out hn;dsimp only at h1 h2;subst h1;have HF:=Ou (TV tb sb .nil w1 h2.cx h2.tr);have B1:Hid (Ok w w1):=HB.out.trans (h3.mono HB.out.size);have C1:Cl 38 w1 w.heap.size (OC ⟨0,0,0,0,0,0⟩):=(h3.block _ (by rw[World.size_alloc];exact Nat.lt_succ_self _)).trans (Qe rfl);have C0:=Ou C1;obtain⟨x0,x1,x2,x3,x4,x5⟩:=Qm C1;have f0:=C1.f (k:=0);have f1:=C1.f (k:=1);have f2:=C1.f (k:=2);have f3:=C1.f (k:=3);have f4:=C1.f (k:=4);have f5:=C1.f (k:=5);clear HS hg h2 h3 C1)|((with_reducible refine HF.out.mono ?_);rintro e w2 ⟨rfl,rfl⟩;dsimp only[Vp,Tr.fst]))
 have hf:=JV ⟨0,0,0,0,0,0⟩ C0.out
 have hb:=VS ⟨0,0,0,0,0,0⟩ (Sq _) B1.out
 refine bodyPost_ret (ZP rfl _ _ _ rfl ⟨0,0,0,0,0,0⟩ _ hf _ rfl) rfl ?_
 exact⟨rfl,Ou hb⟩
theorem qax (x:Od):(prog.info? 38).map (·.size)=some (OC x).size:=Yx
section
variable {ops:Array Oper}{o:Oper}{a:Act}{w:World}{Q:Exit → Act → World → Prop}
theorem V7 {K:Act->World->Prop}{E:Prop}(hgd:Region.wanted o (yielded ops a.tmps)=true)(x y:Operand)(ho:o.op=.store 38 x y)(g:Nat)(z:Od)(hx:a.eval x=.pointer (some ⟨g,0,none⟩))(hy:a.eval y=.agg (OC z))(z':Od)(t:TypeId)
  (hg:w.heap[g]? = some (.cells (OC z') t (0,0))) (h:K (a.put o.dst undef) (w.setRow g (OC z))):if Region.wanted o (yielded ops a.tmps)=true then Oper.wp prog o a w K Q else E:=by
 rw[Sx hgd]
 exact wp_store_row _ x y ho g _ hx hy _ _ hg (qax z) rfl (all_oneCell_toArray (cs:=Qo z) (JC z)) h
end
theorem Xs {w X:World}{c:Nat}{cs:Array Value}(h:Fr (·=c) w X):Fr (·=c) w (X.setRow c cs) :=
 ⟨h.os,h.tape,h.output,by simpa [World.setRow] using h.size,λk hk hn=>(setRow_other X c k cs hn).trans (h.block k hk hn)⟩
theorem qay {w X:World}{c:Nat}(o:Od)(h:Fr (·=c) w X):Fr (·=c) w (Zm X c o):=by
 unfold Zm
 exact(((((h.set (.inl rfl) _).set (.inl rfl) _).set (.inl rfl) _).set (.inl rfl) _).set (.inl rfl) _).set (.inl rfl) _
def Vt (Q:List Rw):Option Od:=(Qb Q).head?
theorem qaz (p m ms:Nat)(D:DataW Value)(g1 g2:Sg)(Q1 Q2:List Rw)(sd:Int)(g:Sg)(Q:List Rw)(w:World)(H:GW w p m ms D g1 g2 Q1 Q2)(S:OwnS w p m ms D g1 g2 Q1 Q2 sd g Q) :
  Calls prog 201 #[.pointer (some ⟨p,0,none⟩),.int .i64 sd] w λe w'=>e=.returned (.tuple #[QF (Vt Q),.bool (Vt Q).isSome])/\Hid (Ok w w'):=by
 have hb:Ok w (w.alloc (.cells (OC ⟨0,0,0,0,0,0⟩) 38)):=(Oq _ _).alloc (Sq _) _
 obtain⟨w1,hw1⟩:∃w1,w.alloc (.cells (OC ⟨0,0,0,0,0,0⟩) 38)=w1:=⟨_,rfl⟩
 rw[hw1]at hb
 have HS:=Ou (S.call w1 (H.below hb))
 have vB:=S.sg.below hb
 have HF:=Ou (TV g.tb g.sb g.t w1 vB.cx vB.tr)
 have gS:Hid (Cl 38 w1 w.heap.size (OC ⟨0,0,0,0,0,0⟩)):=Ou (by rw[<-hw1];exact Qe rfl)
 have HB:=Ou hb
 have hr:=TS g.t
 rw[S.eq]at hr
 cases hf:g.t.fst with
 | none =>
  rw[hf]at hr HF;have hQ:Q=[]:=by cases Q with|nil=>rfl|cons r Q=>simp at hr
  subst hQ;obtain⟨x0,x1,x2,x3,x4,x5⟩:=Qm gS.out;have f0:=Cl.f gS.out (k:=0);have f1:=Cl.f gS.out (k:=1);have f2:=Cl.f gS.out (k:=2);have f3:=Cl.f gS.out (k:=3);have f4:=Cl.f gS.out (k:=4);have f5:=Cl.f gS.out (k:=5);clear H S vB hr hf hb;go_enter func201,ntmps201;go_wp2_with fail
  ((with_reducible refine HS.out.mono ?_);rintro e w2 ⟨rfl,rfl⟩);go_wp2_with fail
  ((with_reducible refine HF.out.mono ?_);rintro e w2 ⟨rfl,rfl⟩;dsimp only[Vp]);go_wp2_with fail
  have hf:=JV ⟨0,0,0,0,0,0⟩ gS.out;have hb:=VS ⟨0,0,0,0,0,0⟩ (Sq _) HB.out;refine bodyPost_ret (ZP rfl _ _ _ rfl ⟨0,0,0,0,0,0⟩ _ hf _ rfl) rfl ?_;exact⟨rfl,Ou hb⟩
 | some f =>
  obtain⟨k,v,q⟩:=f;rw[hf]at hr HF;obtain⟨r,Q',rfl⟩:∃r Q',Q=r :: Q':=by cases Q with|nil=>simp at hr|cons r Q'=>exact⟨r,Q',rfl⟩
  have hr2:QG r=(k,q):=by simpa using hr
  have hq:q=r.q.map (·.id):=(congrArg Prod.snd hr2).symm;obtain⟨x,rq,hx⟩:∃x rq,r.q=x :: rq:=by
   cases hh:r.q with
   | nil=>exact absurd hh (S.ok.some r List.mem_cons_self)
   | cons x rq=>exact⟨x,rq,rfl⟩
  have hfo:Vt (r :: Q')=some x:=by unfold Vt Qb;rw[List.flatMap_cons,hx];rfl
  have iF:x∈Qa Q1 Q2:=S.mem x (by unfold Qb;rw[List.flatMap_cons,hx];simp);rw[hfo];have ho:=TU vB.tr _ hf;dsimp only at ho;have hv:v∈g.t.vals:=by
   have:=TT g.t;rw[hf]at this
   cases hvl:g.t.vals with
   | nil=>rw[hvl]at this;simp at this
   | cons u vs=>rw[hvl]at this;simp at this;rw[this];exact List.mem_cons_self
  rw[hq,hx]at ho;rcases ho.2 with ⟨_,h0⟩ | ⟨gg,cap,cur,rfl,_,hg,_,_,hcs,ht⟩
  ·simp at h0
  have hc0:w1.cell? ⟨gg,0,none⟩=some (.int .u64 x.id):=by
   rw[cell_of_row _ _ _ _ _ _ hg,<-Array.getElem?_toList];have h2:(cur.toList.take (((x :: rq).map (·.id)).length*1))[0]? = (idV ((x :: rq).map (·.id)))[0]?:=by rw[ht]
   rw[List.getElem?_take,Sx (by simp)]at h2;rw[h2];rfl
  have hft:=S.ft gg (.inr (.inr (.inr ⟨_,hv,rfl⟩)));have hgl:gg<w.heap.size:=H.lt gg hft;have hne:∀j,Kd p m ms g1 g2 j->¬j=w.heap.size:=λj hj e=>by have:=H.lt j hj;omega
  have kO:Hid (∀W,(Fr (·=w.heap.size) w1 W/\∃z0,Cl 38 W w.heap.size (OC z0))->W.cell? ⟨p,0,none⟩=some (.map (some m))):=Ou λW hW=>(((H.below hb).fr hW.1 hne).bookp.c 0).trans rfl;have kU:Hid (∀W,(Fr (·=w.heap.size) w1 W/\∃z0,Cl 38 W w.heap.size (OC z0))->W.cell? ⟨gg,0,none⟩=some (.int .u64 x.id)):=Ou λW hW=>by
   have e:=hW.1.block gg (Qc hg) Oz;have:W.heap[gg]? = some (.cells cur 35 (0,0)):=e.trans hg;rw[cell_of_row _ _ _ _ _ _ this,<-cell_of_row _ _ _ _ _ _ hg];exact hc0
  have o7:Hid (∀W,(Fr (·=w.heap.size) w1 W/\∃z0,Cl 38 W w.heap.size (OC z0))->(Instr.lookup 133 (.map (some m)) (.int .u64 x.id) false).run prog W=.ok (.agg (OC x)) W):=Ou λW hW=>by
   have G:=(H.below hb).fr hW.1 hne;have:=Xr (G.gk.om _ _ rfl) G.om x.id (Ju (G.ok x iF).1.1);rw[(Z1 G.ids).2 ⟨iF,rfl⟩]at this;exact this
  have n7:((x :: rq).map (·.id)).length=rq.length+1:=by simp
  rw[hq,hx,n7]at HF;have hl0:(0:Int)<=(rq.length:Int):=by omega
  generalize rq.length=n at HF hl0;generalize x.id=xi at kU o7;clear H S vB hr hf hb hr2 hq hx hfo iF ho hv hg hcs ht hc0 hft hgl hne n7;go_enter func201,ntmps201;go_wp2_with fail
  ((with_reducible refine HS.out.mono ?_);rintro e w2 ⟨rfl,rfl⟩);go_wp2_with fail
  ((with_reducible refine HF.out.mono ?_);rintro e w2 ⟨rfl,rfl⟩;dsimp only[Vp]);go_wp2_with fail
  refine wp_region_held_drew (S:=λW=>Fr (·=w.heap.size) w1 W/\∃z0,Cl 38 W w.heap.size (OC z0)) Ow (by exact⟨Fr.drew (Fr.refl _ _),_,Qk gS.out⟩) (λhHeld=>?_);refine tkA 0 ?_;refine tkA 1 ?_;refine tkA 2 ?_;refine tkH 3 ?_ ?_ Ov ?_;rotate_left
  ·(intro w hSw;have hs:=kO.out _ hSw;(try dsimp only at hSw);go_simp;try with_reducible rfl)
  (try simp only[zz]);refine tkA 4 ?_;refine tkA 5 ?_;refine tkH 6 ?_ ?_ Ov ?_;rotate_left
  ·(intro w hSw;have hs:=kU.out _ hSw;(try dsimp only at hSw);go_simp;try with_reducible rfl)
  (try simp only[zz]);refine tkH 7 ?_ ?_ Ov ?_;rotate_left
  ·(intro w hSw;have hs:=o7.out _ hSw;(try dsimp only at hSw);go_simp;try with_reducible rfl)
  (try simp only[zz]);refine rdH 8 (λK hK=>?_);((with_reducible apply V7);rfl;rfl;rfl;rfl;exact Qk gS.out;skip);refine hK.out _ _ (by exact⟨Xs (Fr.drew (Fr.refl _ _)),_,setRow_heap _ _ _ _ _ _ (Qk gS.out)⟩) (λhHeld=>?_);clear hK K;(try simp only[zz]);refine tkA 9 ?_;(try simp only[zz]);refine wpAnyH_done Ow ?_ _;go_wp2_with fail
  have hX:Cl 38 (w1.drew.setRow w.heap.size (OC x)) w.heap.size (OC x):=setRow_heap _ _ _ _ _ _ (Qk gS.out);refine bodyPost_ret (ZP rfl _ _ _ rfl x _ hX _ rfl) rfl ?_;exact⟨rfl,Ou (HB.out.trans (hHeld.1.below (λk hk=>by rw[hk];exact Sq _) (by rw[<-hw1];simp)))⟩
def V8 (Q1 Q2:List Rw)(sd:Int):Option Od:=Vt (rsq Q1 Q2 sd)
theorem qic (p m ms:Nat)(D:DataW Value)(g1 g2:Sg)(Q1 Q2:List Rw)(sd:Int)(hs:(Lit.int .i64 sd).wf=true)(w:World)(H:GW w p m ms D g1 g2 Q1 Q2) :
  Calls prog 201 #[.pointer (some ⟨p,0,none⟩),.int .i64 sd] w λe w'=>e=.returned (.tuple #[QF (V8 Q1 Q2 sd),.bool (V8 Q1 Q2 sd).isSome])/\Hid (Ok w w'):=by
 unfold V8 rsq
 by_cases h1:sd=1
 ·subst h1;rw[Sx rfl];exact qaz p m ms D g1 g2 Q1 Q2 1 g1 Q1 w H H.own1
 rw[Sw h1]
 by_cases h2:sd=2
 ·subst h2;rw[Sx rfl];exact qaz p m ms D g1 g2 Q1 Q2 2 g2 Q2 w H H.own2
 rw[Sw h2]
 exact qib _ _ D g1 g2 sd ⟨h1,h2⟩ hs w H.gk
theorem qid (p m ms:Nat)(D:DataW Value)(g1 g2:Sg)(Q1 Q2:List Rw)(sd pr:Int)(hs:(Lit.int .i64 sd).wf=true)(w:World)(H:GW w p m ms D g1 g2 Q1 Q2) :
  Calls prog 205 #[.pointer (some ⟨p,0,none⟩),.int .i64 sd,.int .i64 pr] w λe w'=>∃v,e=.returned v/\Hid (w'.ownsRow w.heap.size 38 6 v (atP pr (rsq Q1 Q2 sd)).length (ol (atP pr (rsq Q1 Q2 sd)))/\Ok w w'):=by
 unfold rsq
 by_cases h1:sd=1
 ·subst h1;rw[Sx rfl];exact qav p m ms D g1 g2 Q1 Q2 1 pr g1 Q1 w H H.own1
 rw[Sw h1]
 by_cases h2:sd=2
 ·subst h2;rw[Sx rfl];exact qav p m ms D g1 g2 Q1 Q2 2 pr g2 Q2 w H H.own2
 rw[Sw h2]
 refine(qh9 _ _ D g1 g2 sd pr ⟨h1,h2⟩ hs w H.gk).mono ?_
 rintro e w' ⟨v,rfl,h⟩
 exact⟨v,rfl,h⟩
theorem qie (W:World)(ob bb qb p m g n c i:Nat)(o x:Od)(hi:i<n)(h1:Cl 38 W ob (OC o))(h2:Cl 104 W bb #[.pointer (some ⟨p,0,none⟩)])(h3:Cl 124 W qb #[.slice (some ⟨g,0,none⟩) n c])
  (hp:W.cell? ⟨p,0,none⟩=some (.map (some m))/\p<W.heap.size) (hx:W.cell? ⟨g,i,none⟩=some (.int .u64 x.id)/\g<W.heap.size)
  (hl:∀W',Gw W W'->(Instr.lookup 133 (.map (some m)) (.int .u64 x.id) false).run prog W'=.ok (.agg (OC x)) W') :
  Calls prog 219 #[.int .i64 i,.pointer (some ⟨ob,0,none⟩),.pointer (some ⟨bb,0,none⟩),.pointer (some ⟨qb,0,none⟩)] W λe w'=>e=.returned (.bool (Qt o x))/\Gw W w':=by
 have HO:Hid (∀W',Gw W W'->Cl 38 W' ob (OC o)):=Ou λW' h=>(h.b.block _ (Qc h1)).trans h1
 have HB:Hid (∀W',Gw W W'->W'.cell? ⟨bb,0,none⟩=some (.pointer (some ⟨p,0,none⟩))):=Ou λW' h=>(h.b.cell (p:=⟨bb,0,none⟩) (Qc h2)).trans ((h2.c 0).trans rfl)
 have HP:Hid (∀W',Gw W W'->W'.cell? ⟨p,0,none⟩=some (.map (some m))):=Ou λW' h=>(h.b.cell (p:=⟨p,0,none⟩) hp.2).trans hp.1
 have HQ:Hid (∀W',Gw W W'->W'.cell? ⟨qb,0,none⟩=some (.slice (some ⟨g,0,none⟩) n c)):=Ou λW' h=>(h.b.cell (p:=⟨qb,0,none⟩) (Qc h3)).trans ((h3.c 0).trans rfl)
 have HX:Hid (∀W',Gw W W'->W'.cell? ⟨g,i,none⟩=some (.int .u64 x.id)):=Ou λW' h=>(h.b.cell (p:=⟨g,i,none⟩) hx.2).trans hx.1
 have HL:=Ou hl
 have HA:=Ou (λW'=>DG o.id o.acc o.side o.price o.qty o.seq x.id x.acc x.side x.price x.qty x.seq W')
 have hr:VG o.id o.side o.price o.seq x.id x.side x.price x.seq=Qt o x:=rfl
 rw[hr]at HA
 generalize Qt o x=r at HA ⊢
 have q1:(i:Int)<(n:Int):=by omega
 have q2:(0:Int)<=(i:Int):=by omega
 clear h1 h2 h3 hp hx hl hr hi
 go_enter func219,ntmps219
 go_wp2_with fail
 refine wp_region_held_drew (S:=λW'=>Gw W W') Ow (by exact⟨(Oq _ _).drew,Nat.le_succ _⟩) (λhHeld=>?_)
 refine tkH 0 ?_ ?_ Ov ?_
 rotate_left
 ·(intro w hSw;obtain⟨x0,x1,x2,x3,x4,x5⟩:=Qm (HO.out _ hSw);(try dsimp only at hSw);go_simp;try with_reducible rfl)
 (try simp only[zz])
 refine tkH 1 ?_ ?_ Ov ?_
 rotate_left
 ·(intro w hSw;have hs:=HB.out _ hSw;(try dsimp only at hSw);go_simp;try with_reducible rfl)
 (try simp only[zz])
 refine tkA 2 ?_
 refine tkA 3 ?_
 refine tkH 4 ?_ ?_ Ov ?_
 rotate_left
 ·(intro w hSw;have hs:=HP.out _ hSw;(try dsimp only at hSw);go_simp;try with_reducible rfl)
 (try simp only[zz])
 refine tkH 5 ?_ ?_ Ov ?_
 rotate_left
 ·(intro w hSw;have hs:=HQ.out _ hSw;(try dsimp only at hSw);go_simp;try with_reducible rfl)
 (try simp only[zz])
 refine tkA 6 ?_
 refine tkA 7 ?_
 refine tkH 8 ?_ ?_ Ov ?_
 rotate_left
 ·(intro w hSw;have hs:=HX.out _ hSw;(try dsimp only at hSw);go_simp;try with_reducible rfl)
 (try simp only[zz])
 refine tkH 9 ?_ ?_ Ov ?_
 rotate_left
 ·(intro w hSw;have hs:=HL.out _ hSw;(try dsimp only at hSw);go_simp;try with_reducible rfl)
 (try simp only[zz])
 refine rdH 10 (λK hK=>?_)
 go_simp
 ((with_reducible refine(HA.out _).mono ?_);rintro e y1 ⟨rfl,hg'⟩;have hg:=Ou hg';clear hg')
 refine hK.out _ _ (by exact hHeld.trans hg.out) (λhHeld=>?_)
 clear hK K
 (try simp only[zz])
 refine tkA 11 ?_
 (try simp only[zz])
 refine wpAnyH_done Ow ?_ _
 go_wp2_with fail
 go_ret
 exact⟨rfl,hHeld⟩
theorem ZR {T:TypeId}{w:World}{c m n:Nat}{cs:Array Value}{P:Program}{K:TypeId}{R:Value->Option (DataW Value×List MemPlace)}{D:DataW Value}(h:Cl T w c cs)(hm:w.ownsMap P K R m n D):c≠m:=by
 rintro rfl
 obtain⟨es,clock,hb,_⟩:=hm
 rw[h]at hb
 cases hb
theorem TrIn.vcl {W:World}:∀{t:Tr},TrIn W t->∀v∈t.vals,∀k,v.ownBlock=some k->∃cur,Cl 35 W k cur
 | .nil,_,v,h=>(by cases h)
 | .node a k v q l r,h,u,hu=>by
  unfold Tr.vals at hu;rcases List.mem_append.1 hu with hu|hu
  ·exact TrIn.vcl h.2.2.1 u hu
  ·rcases List.mem_cons.1 hu with rfl|hu
   ·intro j hj;rcases h.2.1.2 with ⟨rfl,_⟩ | ⟨g,cap,cur,rfl,_,hg,_⟩
    ·cases hj
    ·injection hj with hj;subst hj;exact⟨cur,hg⟩
   ·exact TrIn.vcl h.2.2.2 u hu
theorem SgIn.cl {w:World}{s:Int}{g:Sg}(h:SgIn w s g):∀k,QE g k->∃T cs,Cl T w k cs:=by
 rintro k (rfl|rfl|hk | ⟨v,hv,hk⟩)
 ·exact⟨_,_,h.box⟩
 ·exact⟨_,_,h.cx⟩
 ·obtain⟨cs,hc⟩:=h.tr.at_ k hk;exact⟨_,cs,hc⟩
 ·obtain⟨cs,hc⟩:=h.tr.vcl v hv k hk;exact⟨_,cs,hc⟩
theorem SgIn.no_map {w:World}{s:Int}{g:Sg}(h:SgIn w s g){m n:Nat}{P:Program}{K:TypeId}{R:Value->Option (DataW Value×List MemPlace)}{D:DataW Value}(hm:w.ownsMap P K R m n D):∀k,QE g k->k≠m:=by
 intro k hk
 obtain⟨T,cs,hc⟩:=h.cl k hk
 exact ZR hc hm
theorem SgIn.keep {S:Nat->Prop}{w w':World}{s:Int}{g:Sg}(h:SgIn w s g)(hf:Fr S w w')(hn:∀k,QE g k->¬S k):SgIn w' s g :=
 h.fr hf (hn _ (.inl rfl)) (hn _ (.inr (.inl rfl))) (λb hb=>hn b (.inr (.inr (.inl hb)))) (λv hv k hk=>hn k (.inr (.inr (.inr ⟨v,hv,hk⟩))))
theorem Zv {row:Nat}{w w':World}(h:w.grownBy w' (some row)):Fr (·=row) w w':=⟨h.os,h.tape,h.output,h.size,λk hk hn=>h.block k hk (λe=>hn (by injection e))⟩
theorem qif {S:Nat->Prop}{w w':World}(h:w.grownBy w' none):Fr S w w':=⟨h.os,h.tape,h.output,h.size,λk hk _=>h.block k hk Oy⟩
theorem Gk.setom {w w':World}{p m ms:Nat}{D D':DataW Value}{g1 g2:Sg}(h:Gk w (some ⟨p,0,none⟩) (some (m,ms)) D g1 g2)(hg:w.grownBy w' (some m))(ho:w'.ownsMap prog 35 RV m 64 D')(hm:m≠ms):Gk w' (some ⟨p,0,none⟩) (some (m,ms)) D' g1 g2:=by
 have hf:=Zv hg
 refine⟨?_,λa b e=>?_,λa b e=>?_,λe=>?_,λe=>?_⟩
 ·rcases h.shape with ⟨h0,_⟩ | ⟨q,hq,hc⟩
  ·cases h0
  ·exact .inr ⟨q,hq,hf.blk hc (ZR hc (h.om _ _ rfl))⟩
 ·injection e with e;injection e with e1 e2;subst e1;exact ho
 ·have:=h.sm a b e;injection e with e;injection e with e1 e2;subst e2;exact QQ this hf (λe=>hm e.symm)
 ·exact(h.s1 e).keep hf (λk hk=>(h.s1 e).no_map (h.om _ _ rfl) k hk)
 ·exact(h.s2 e).keep hf (λk hk=>(h.s2 e).no_map (h.om _ _ rfl) k hk)
theorem Ge:∀(c:Cx) (t:Tr),(c.plug t).vals.Perm (t.vals++c.vals)
 | .top,t=>by simp[Cx.plug,Cx.vals]
 | .left a key v q r c,t=>by
  refine(Ge c _).trans ?_;simp only[Tr.vals,Cx.vals,St,List.cons_append];exact List.Perm.refl _
 | .right a key v q l c,t=>by
  refine(Ge c _).trans ?_;simp only[Tr.vals,Cx.vals,St,List.cons_append];exact List.perm_middle.trans ((List.Perm.cons v (List.perm_append_comm_assoc l.vals t.vals c.vals)).trans List.perm_middle.symm)
theorem Gf:∀(c:Cx) (t t':Tr),t.blks=t'.blks->(c.plug t).blks=(c.plug t').blks
 | .top,t,t',h=>h
 | .left a key v q r c,t,t',h=>Gf c _ _ (by simp only[Tr.blks,h])
 | .right a key v q l c,t,t',h=>Gf c _ _ (by simp only[Tr.blks,h])
theorem qig {W W':World}{g:Sg}{s key:Int}{c:Cx}{a b0:Nat}{v:Value}{q q':List Int}{l r:Tr}(hS:SgIn W s g)(hI:SpI W g.tb g.sb s key g.t c (.node a key v q l r))(hv:v.ownBlock=some b0)(cT:VD g.t.vals)(hf:Fr (·=b0) W W')(hq:W'.ownsRow 0 35 1 v q'.length (idV q')) :
  SgIn W' s ⟨g.tb,g.sb,c.plug (.node a key v q' l r)⟩/\(c.plug (.node a key v q' l r)).vals=g.t.vals/\(c.plug (.node a key v q' l r)).blks=g.t.blks/\(c.plug (.node a key v q' l r)).items=g.t.items:=by
 have hvv:=hI.tr.2.1
 obtain⟨cur,hcur⟩:∃cur,Cl 35 W b0 cur:=by
  rcases hvv.2 with ⟨rfl,_⟩ | ⟨gg,cap,cur,rfl,_,hg,_⟩
  ·cases hv
  ·injection hv with hv;subst hv;exact⟨cur,hg⟩
 have hp0:g.t.vals.Perm ((Tr.node a key v q l r).vals++c.vals):=by rw[<-hI.eq];exact Ge c _
 have hVP:=cT.perm hp0
 simp only[Tr.vals,St,List.cons_append]at hVP
 have hVQ:VD (v :: (l.vals++(r.vals++c.vals))):=hVP.perm List.perm_middle
 have hno:∀u∈l.vals++(r.vals++c.vals),∀k,u.ownBlock=some k->¬k=b0:=λu hu k hk e=>by
  subst e;exact(List.pairwise_cons.1 hVQ).1 u hu k hv hk
 have cne:∀{T:TypeId} {k:Nat} {cs:Array Value},35≠T->Cl T W k cs->¬k=b0:=λhT hc e=>by
  subst e;have e2:some _=some _:=Eq.trans (Eq.symm hc) hcur;injection e2 with e2;injection e2 with _ e2 _;exact hT e2.symm
 have hblk:∀b∈g.t.blks,¬b=b0:=λb hb=>by
  obtain⟨cs,hc⟩:=hS.tr.at_ b hb;exact cne Ox hc
 have hB:=Jh c (.node a key v q l r)
 rw[hI.eq]at hB
 have tG:∀b∈(Tr.node a key v q l r).blks++c.blks,¬b=b0:=λb hb=>hblk b (hB.mem_iff.2 hb)
 simp only[Tr.blks,St,List.cons_append]at tG
 have i6:¬g.tb=b0:=cne Ox hS.cx
 have cx':CxIn W' g.tb g.sb c (.pointer (some ⟨a,0,none⟩)):=CxIn.fr hf i6 hI.cx (λb hb=>tG b (by simp[hb])) (λu hu k hk=>hno u (by simp[hu]) k hk)
 have tr':TrIn W' (.node a key v q' l r):=⟨hf.blk hI.tr.1 (tG a Oy),hq,TrIn.fr hf hI.tr.2.2.1 (λb hb=>tG b (by simp[hb])) (λu hu k hk=>hno u (by simp[hu]) k hk),TrIn.fr hf hI.tr.2.2.2 (λb hb=>tG b (by simp[hb])) (λu hu k hk=>hno u (by simp[hu]) k hk)⟩
 have hp:=Ka (t:=.node a key v q' l r) cx' tr'
 obtain⟨A,C,hpv⟩:=JY c
 obtain⟨A2,C2,hpi⟩:=Vo c
 have ev:(c.plug (.node a key v q' l r)).vals=g.t.vals:=by rw[<-hI.eq,hpv,hpv];rfl
 have eb:(c.plug (.node a key v q' l r)).blks=g.t.blks:=by rw[<-hI.eq];exact Gf c _ _ rfl
 have ei:(c.plug (.node a key v q' l r)).items=g.t.items:=by rw[<-hI.eq,hpi,hpi];rfl
 have hbox:Cl 3 W' g.sb #[.int .i64 s]:=hf.blk hS.box (cne Ox hS.box)
 have hsrt:Srt s (c.plug (.node a key v q' l r)).rows:=by
  have h:=hS.srt;rw[<-hI.eq,Zp]at h;rw[Zp];unfold Srt at h ⊢;simp only[Tr.rows,St,List.cons_append]at h ⊢;have h2:=(List.pairwise_map (f:=λx:Rq=>x.1) (R:=λx y=>Qf s x y=true)).2 h;refine(List.pairwise_map (f:=λx:Rq=>x.1) (R:=λx y=>Qf s x y=true)).1 ?_;simpa using h2
 exact⟨⟨hbox,hp.1,hp.2,hsrt,by rw[eb];exact hS.nd⟩,ev,eb,ei⟩
theorem qih {w:World}{g n k c:Nat}{xs:List Int}(h:w.ownsRow 0 35 1 (.slice (some ⟨g,0,none⟩) n c) n (idV xs))(hk:k<=n):w.ownsRow 0 35 1 (.slice (some ⟨g,0,none⟩) k c) k (idV (xs.take k)):=by
 have hl:=h.1
 simp only[idV,List.length_map]at hl
 rcases h.2 with ⟨hv,_⟩ | ⟨g',cap,cur,hv,hb,hg,hnc,hcm,hcs,ht⟩
 ·cases hv
 ·injection hv with e1 _ e3;injection e1 with e1;injection e1 with e1;subst e1 e3;refine⟨by simp[idV];omega,.inr ⟨g,c,cur,rfl,hb,hg,by omega,hcm,hcs,?_⟩⟩;have h2:(cur.toList.take (n*1)).take k=(idV xs).take k:=by rw[ht]
  rw[List.take_take,Nat.min_eq_left (by omega)]at h2;rw[Nat.mul_one,h2];simp[idV,List.map_take]
def Gg (pr:Int)(q:List Int):Rw:=⟨pr,.slice none 0 0,q.map λi=>⟨i,0,0,0,0,0⟩⟩
theorem qii (pr:Int)(q:List Int):QG (Gg pr q)=(pr,q):=by
 unfold QG Gg
 simp[List.map_map,Function.comp_def]
structure Rew (Wj:World) (s pr:Int) (g:Sg) (A M B:List Rw) (T:Tr):Prop where
 sg:SgIn Wj s ⟨g.tb,g.sb,T⟩
 vals:T.vals=g.t.vals
 blks:T.blks=g.t.blks
 items:T.items=g.t.items
 rows:∃M',T.rows=(A++M'++B).map QG/\∀a∈M',a.pr=pr
theorem qij {Wj W:World}{s pr:Int}{g:Sg}{A M B:List Rw}(hS:SgIn W s g)(hf:Fr (λ_=>False) W Wj)(e:g.t.rows=(A++M++B).map QG)(hM:∀a∈M,a.pr=pr):Rew Wj s pr g A M B g.t :=
 ⟨hS.keep hf (λ_ _ h=>h),rfl,rfl,rfl,M,e,hM⟩
theorem qaA {Wj W:World}{s pr:Int}{g:Sg}{A B:List Rw}{m:Rw}{c:Cx}{a b0:Nat}{v:Value}{q q':List Int}{l r:Tr}(hS:SgIn W s g)(hI:SpI W g.tb g.sb s pr g.t c (.node a pr v q l r))(hv:v.ownBlock=some b0)(cT:VD g.t.vals)(hf:Fr (·=b0) W Wj)(hq:Wj.ownsRow 0 35 1 v q'.length (idV q'))
  (hA:A.map QG=c.pre++l.rows) (hB:B.map QG=r.rows++c.post):Rew Wj s pr g A [m] B (c.plug (.node a pr v q' l r)):=by
 obtain⟨h1,h2,h3,h4⟩:=qig hS hI hv cT hf hq
 refine⟨h1,h2,h3,h4,[Gg pr q'],?_,λa ha=>by rw[List.mem_singleton.1 ha];rfl⟩
 rw[Zp,List.map_append,List.map_append,hA,hB]
 simp[Tr.rows,qii]
theorem qik (o:Od)(q:List Od):(idV (q.map (·.id))).take (plN o q*1)++[.int .u64 o.id]++(idV (q.map (·.id))).drop (plN o q*1)=idV ((QO o q).map (·.id)):=by
 unfold QO idV
 simp[List.map_take,List.map_drop]
theorem qil {W w':World}{sd:Int}{tb sb:Nat}{g:Sg}{A M B:List Rw}{o:Od}{Tw T':Tr}{v':Value}{ids:List Int}(hQ:SideOk sd (A++M++B))(hA:∀a∈A,Qf sd a.pr o.price=true)(hB:∀b∈B,Qf sd o.price b.pr=true)
  (hM:M=[]∨∃m,M=[m]/\m.pr=o.price) (hR:Rew W sd o.price g A M B Tw) (hP:TPut W w' tb sb sd o.price Tw T' v' ids) (bZ:ids=(QO o (Qb M)).map (·.id)) :
  ∃Q',T'.rows=Q'.map QG/\KT sd o (A++M++B) Q':=by
 obtain⟨M',e,tJ⟩:=hR.rows
 obtain⟨P,R,Z,h1,h2,h3,tN,iC⟩:=hP.rows
 rw[e]at h1
 obtain⟨e1,e2,e3⟩:=U9 rfl hA tJ hB h1 tN (λa ha=>by rcases h3 with h3 | ⟨q0,h3⟩<;>(rw[h3]at ha;simp at ha);rw[ha]) iC
 refine⟨A++⟨o.price,.slice none 0 0,QO o (Qb M)⟩ :: B,?_,A,B,_,M,rfl,rfl,rfl,hA,hB,?_⟩
 ·rw[h2,<-e1,<-e3,bZ];simp[QG]
 ·rcases hM with rfl | ⟨m,rfl,hm⟩
  ·refine .inl ⟨rfl,?_⟩;show QO o []=[o];simp[QO]
  ·refine .inr ⟨m,rfl,hm,?_⟩;show QO o (Qb [m])=QO o m.q;simp[Qb]
theorem V9:∀t:Tr,t.items.map Prod.fst=t.rows.map Prod.fst
 | .nil=>rfl
 | .node a k v q l r=>by simp[Tr.items,Tr.rows,V9 l,V9 r]
theorem qaB {s:Int}{t:Tr}(h:Srt s t.rows){k:Int}{u v:Value}(h1:(k,u)∈t.items)(h2:(k,v)∈t.items):u=v:=by
 have irr:¬Qf s k k=true:=by rw[JR];omega
 have hp:(t.items.map Prod.fst).Pairwise (λx y=>Qf s x y=true):=by
  rw[V9];exact List.pairwise_map.2 h
 rw[List.pairwise_map]at hp
 revert h1 h2 hp
 generalize t.items=R
 intro h1 h2 hp
 induction R with
 | nil=>cases h1
 | cons x R ih =>
  obtain⟨hx,hR⟩:=List.pairwise_cons.1 hp;rcases List.mem_cons.1 h1 with e1|h1
  ·rcases List.mem_cons.1 h2 with e2|h2
   ·rw[<-e1]at e2;exact(Prod.mk.inj e2).2.symm
   ·have:=hx _ h2;rw[<-e1]at this;exact absurd this irr
  ·rcases List.mem_cons.1 h2 with e2|h2
   ·have:=hx _ h1;rw[<-e2]at this;exact absurd this irr
   ·exact ih h1 h2 hR
section
variable {ops:Array Oper}{o:Oper}{a:Act}{w:World}{Q:Exit → Act → World → Prop}
theorem qaC {K:Act->World->Prop}{E:Prop}(hgd:Region.wanted o (yielded ops a.tmps)=true)(t:TypeId)(x y z:Operand)(ho:o.op=.mapUpdate t x y z)(mv kv vv:Value)(hx:a.eval x=mv)(hy:a.eval y=kv)(hz:a.eval z=vv){w':World}
  (hr:(Instr.mapUpdate t mv kv vv).run prog w=.ok () w') (h:K (a.put o.dst undef) w'):if Region.wanted o (yielded ops a.tmps)=true then Oper.wp prog o a w K Q else E:=by
 rw[Sx hgd]
 unfold Oper.wp
 simp[execOp,ho,hx,hy,hz,hr,Result.andThen]
 exact h
end
theorem qaD {p m ms:Nat}{D:DataW Value}{g1 g2:Sg}{sd:Int}{g:Sg}(h12:(sd=1/\g=g1)∨(sd=2/\g=g2))(W:World)(hG:Gk W (some ⟨p,0,none⟩) (some (m,ms)) D g1 g2) :
  Calls prog 210 #[.pointer (some ⟨p,0,none⟩),.int .i64 sd] W λe w'=>e=.returned (.pointer (some ⟨g.tb,0,none⟩))/\W=w':=by
 have hwf:(Lit.int .i64 sd).wf=true:=by rcases h12 with ⟨rfl,_⟩ | ⟨rfl,_⟩<;>decide
 refine(V4 _ _ D g1 g2 sd W hwf hG).mono ?_
 rintro e w' ⟨g',rfl,hg⟩
 cases hg.out with
 | own1 _ h1 hw=>rcases h12 with ⟨_,rfl⟩ | ⟨h2,_⟩;exact⟨rfl,hw⟩;omega
 | own2 _ h1 hw=>rcases h12 with ⟨h2,_⟩ | ⟨_,rfl⟩;omega;exact⟨rfl,hw⟩
 | new h1 _ _=>rcases h1 with h1|h1;cases h1;rcases h12 with ⟨h2,_⟩ | ⟨h2,_⟩;exact absurd h2 h1.1;exact absurd h2 h1.2
def Xt (w4 w5:World)(qv v':Value)(n:Nat)(ids:List Int):Prop :=
 Hid (w5.ownsRow 0 35 1 v' (n+1) (idV ids)/\w4.grownBy w5 qv.ownBlock/\((v'.ownBlock=some w4.heap.size/\w4.grownBy w5 none)∨∃g c,qv=.slice (some ⟨g,0,none⟩) n c/\v'=.slice (some ⟨g,0,none⟩) (n+1) c))
theorem qim {w1 w4 w5:World}{s pr:Int}{g:Sg}{A M B:List Rw}{c:Cx}{t:Tr}{n:Nat}{v':Value}{ids:List Int}(hS:SgIn w1 s g)(hI:SpI w1 g.tb g.sb s pr g.t c t)(cT:VD g.t.vals)(e:g.t.rows=(A++M++B).map QG)
  (hM:(t=.nil/\M=[])∨∃a v q l r m,t=.node a pr v q l r/\M=[m]/\m.pr=pr/\q=m.q.map (·.id)/\A.map QG=c.pre++l.rows/\B.map QG=r.rows++c.post)
  (hf:Fr (λ_=>False) w1 w4) (h:Xt w4 w5 t.val v' n ids) :
  ∃Tw,Rew w5 s pr g A M B Tw/\((∃j,w1.heap.size<=j/\v'.ownBlock=some j)∨∃u,(pr,u)∈g.t.items/\v'.ownBlock=u.ownBlock)/\Fr (QE g) w1 w5:=by
 obtain⟨k1,k2,k3⟩:=h.out
 rcases k3 with ⟨k3,k4⟩ | ⟨b0,cc,k3,k4⟩
 ·have uE:Fr (λ_=>False) w1 w5:=hf.trans (qif (S:=λ_=>False) k4) (λ_ h=>.inl h);exact⟨g.t,qij hS uE e (λa ha=>by rcases hM with ⟨_,rfl⟩ | ⟨_,_,_,_,_,m,_,rfl,hm,_⟩;cases ha;rw[List.mem_singleton.1 ha];exact hm),.inl ⟨_,hf.size,k3⟩,uE.mono (λ_ h=>h.elim)⟩
 ·rcases hM with ⟨rfl,_⟩ | ⟨a,v,q,l,r,m,rfl,rfl,hm,hq,hA,hB⟩
  ·cases k3
  ·have hv:v=.slice (some ⟨b0,0,none⟩) n cc:=k3;have hvb:v.ownBlock=some b0:=by rw[hv];rfl
   have hval:(Tr.node a pr v q l r).val=v:=rfl;rw[hval,hvb]at k2;rw[k4]at k1;have hl:=k1.1;simp only[idV,List.length_map]at hl;have hq':=qih k1 (k:=n) Oz;rw[<-hv]at hq';have gX:(ids.take n).length=n:=by rw[Wy];omega
   have uE:Fr (·=b0) w1 w5:=(hf.mono (λ_ h=>h.elim)).trans (Zv k2) (λ_ h=>.inl h);obtain⟨A2,C2,hpi⟩:=Vo c;have hmem:(pr,v)∈g.t.items:=by rw[<-hI.eq,hpi];simp[Tr.items]
   obtain⟨A3,C3,hpv⟩:=JY c;have hvm:v∈g.t.vals:=by rw[<-hI.eq,hpv];simp[Tr.vals]
   exact⟨_,qaA hS hI hvb cT uE (by rw[gX];exact hq') hA hB,.inr ⟨v,hmem,by rw[k4,hvb];rfl⟩,uE.mono (λk h=>.inl (.inr (.inr (.inr ⟨v,hvm,by rw[hvb,h]⟩))))⟩
theorem Kz {T T':TypeId}{w:World}{k k':Nat}{cs cs':Array Value}(h:Cl T w k cs)(h':Cl T' w k' cs')(hT:T≠T'):¬k=k':=by
 rintro rfl
 have e2:some _=some _:=Eq.trans (Eq.symm h) h'
 injection e2 with e2
 injection e2 with _ e2 _
 exact hT e2
theorem KA {w:World}{s:Int}{g:Sg}{T:TypeId}{k:Nat}{cs:Array Value}(h:SgIn w s g)(hc:Cl T w k cs)(h1:T≠156)(h2:T≠278):¬(k=g.tb∨k∈g.t.blks):=by
 rintro (rfl|hk)
 ·exact Kz hc h.cx h1 rfl
 ·obtain⟨cs',hc'⟩:=h.tr.at_ k hk;exact Kz hc hc' h2 rfl
def Xv (w w':World)(m:Nat)(sd:Int)(g:Sg)(Q:List Rw)(L:List Od)(o:Od):Prop:=∃D' T' Q' v',
 w'.ownsMap prog 35 RV m 64 D'/\OmT D' (o :: L)/\SgIn w' sd ⟨g.tb,g.sb,T'⟩/\T'.rows=Q'.map QG/\KT sd o Q Q'/\(∀b∈T'.blks,b∈g.t.blks∨w.heap.size<=b) /\
 (∃A B C,g.t.vals=A++B++C/\T'.vals=A++v' :: C/\((∃j,w.heap.size<=j/\v'.ownBlock=some j)∨∃u,B=[u]/\v'.ownBlock=u.ownBlock))/\Fr (λk=>k=m∨QE g k) w w'
theorem qin {w w0 w1 w5 w6:World}{m ms p:Nat}{D D':DataW Value}{g1 g2:Sg}{Q1 Q2:List Rw}{g:Sg}{Q A M B:List Rw}{o:Od}{Tw T':Tr}{v':Value}
  (S:OwnS w p m ms D g1 g2 Q1 Q2 o.side g Q) (b0:Ok w w0) (fI:w0.grownBy w1 (some m)) (fN:SgIn w1 o.side g) (dQ:w1.ownsMap prog 35 RV m 64 D') (aT:OmT D' (o :: Qa Q1 Q2)) (bS:Q=A++M++B) (hA:∀a∈A,Qf o.side a.pr o.price=true) (hB:∀b∈B,Qf o.side o.price b.pr=true)
  (hM:M=[]∨∃m,M=[m]/\m.pr=o.price) (hR:Rew w5 o.side o.price g A M B Tw) (hN:((∃j,w1.heap.size<=j/\v'.ownBlock=some j)∨∃u,(o.price,u)∈g.t.items/\v'.ownBlock=u.ownBlock)/\Fr (QE g) w1 w5)
  (h6:TPut w5 w6 g.tb g.sb o.side o.price Tw T' v' ((QO o (Qb M)).map (·.id))):Xv w w6 m o.side g Q (Qa Q1 Q2) o:=by
 have pE:Fr (QE g) w5 w6:=h6.fr.mono (λk hk=>.inl (by
  rcases hk with rfl|hk
  ·exact .inr (.inl rfl)
  ·rw[hR.blks]at hk;exact .inr (.inr (.inl hk))))
 have iE:Fr (QE g) w1 w6:=hN.2.trans pE (λ_ h=>.inl h)
 have hz1:w.heap.size<=w1.heap.size:=Sk b0.size fI.size
 have mU:Cl 3 w6 g.sb #[.int .i64 o.side]:=h6.fr.blk hR.sg.box (KA hR.sg hR.sg.box Ox Ox)
 obtain⟨Q',e1,e2⟩:=qil (by rw[<-bS];exact S.ok) hA hB hM hR h6 rfl
 refine⟨D',T',Q',v',QQ dQ iE (λh=>fN.no_map dQ m h rfl),aT,⟨mU,h6.cx,h6.tr,h6.srt,h6.nd⟩,e1,by rw[bS];exact e2,λb hb=>?_,?_,?_⟩
 ·rcases h6.bl b hb with h|h
  ·rw[hR.blks]at h;exact .inl h
  ·exact .inr (Sk hz1 (Sk hN.2.size h))
 ·obtain⟨A',B',C',k1,k2,k3⟩:=h6.vals;rw[hR.vals]at k1;refine⟨A',B',C',k1,k2,?_⟩;rcases hN.1 with ⟨j,hj,hv⟩ | ⟨u,hu,hv⟩
  ·exact .inl ⟨j,by omega,hv⟩
  ·rcases k3 with ⟨_,k3⟩ | ⟨u',rfl,k3⟩
   ·exact absurd (by rw[hR.items];exact hu) (k3 u)
   ·rw[hR.items]at k3;have:=qaB fN.srt hu k3;exact .inr ⟨u',rfl,by rw[<-this];exact hv⟩
 ·have f1:Fr (λk=>k=m∨QE g k) w w1:=(Fr.of_below (S:=λk=>k=m∨QE g k) b0).trans (Zv fI) (λk h=>.inl (.inl h));exact f1.trans iE (λk h=>.inl (.inr h))
theorem qio {w:World}{tb sb:Nat}{s pr:Int}{T:Tr}{A M B:List Rw}{c:Cx}{t:Tr}(hI:SpI w tb sb s pr T c t)(hM:(t=.nil/\M=[])∨∃a v q l r m,t=.node a pr v q l r/\M=[m]/\m.pr=pr/\q=m.q.map (·.id)/\A.map QG=c.pre++l.rows/\B.map QG=r.rows++c.post) :
  ∃Aq cc,t.val=.slice Aq (Qb M).length cc/\w.ownsRow 0 35 1 (.slice Aq (Qb M).length cc) (Qb M).length (idV ((Qb M).map (·.id))):=by
 rcases hM with ⟨rfl,rfl⟩ | ⟨a,v,q,l,r,m,rfl,rfl,hm,rfl,_,_⟩
 ·exact⟨none,0,rfl,World.ownsRow_nil _ _ _ _⟩
 ·have e1:Qb [m]=m.q:=by simp[Qb]
  rw[e1];have ho:=hI.tr.2.1;rw[List.length_map]at ho;rcases ho.2 with ⟨rfl,h0⟩ | ⟨gg,cap,cur,rfl,_⟩
  ·rw[h0]at ho ⊢;exact⟨none,0,rfl,ho⟩
  ·exact⟨_,_,rfl,ho⟩
theorem qip {sd:Int}(dI:sd=1∨sd=2){o x:Od}(ho:o.side=sd)(hx:x.side=sd)(hp:x.price=o.price)(hi:¬x.id=o.id):Qt o x=!Qt x o:=by
 cases h:Qt x o with
 | true =>
  cases h2:Qt o x with
  | false=>rfl
  | true=>have h1:=VO h;have h2:=VO h2;rw[CK h1]at h2;cases h2
 | false=>exact CH (hx.trans ho.symm) (by rw[hx];exact dI) hp hi h
theorem qaE (p m ms:Nat)(D:DataW Value)(g1 g2:Sg)(Q1 Q2:List Rw)(sd:Int)(g:Sg)(Q:List Rw)(o:Od)(w:World)(H:GW w p m ms D g1 g2 Q1 Q2)(S:OwnS w p m ms D g1 g2 Q1 Q2 sd g Q)(h12:(sd=1/\g=g1)∨(sd=2/\g=g2))
  (cT:VD g.t.vals) (hs:o.side=sd) (hid:∀x∈Qa Q1 Q2,¬x.id=o.id) (hok:Od.ok w o) (hl:(Qa Q1 Q2).length<64) :
  Calls prog 209 #[.pointer (some ⟨p,0,none⟩),.agg #[.int .u64 o.id,.int .i64 o.acc,.int .i64 o.side,.int .i64 o.price,.int .i64 o.qty,.int .u64 o.seq]] w λe w'=>e=.returned (.tuple #[])/\Hid (Xv w w' m sd g Q (Qa Q1 Q2) o):=by
 subst hs
 have uN:=Ve
 have dI:=S.s12
 obtain⟨w0,hw0⟩:∃w0,((w.alloc (.cells #[.pointer (some ⟨p,0,none⟩)] 104)).alloc (.cells (OC o) 38))=w0:=⟨_,rfl⟩
 have b0:Ok w w0:=by rw[<-hw0];exact((Oq _ _).alloc (Sq _) _).alloc Oy _
 have hz0:w0.heap.size=w.heap.size+2:=by rw[<-hw0];simp
 have cB:Cl 104 w0 w.heap.size #[.pointer (some ⟨p,0,none⟩)]:=by rw[<-hw0];exact Qp Oy (Qe rfl)
 have cO:Cl 38 w0 (w.heap.size+1) (OC o):=by rw[<-hw0];exact Qe Oy
 have H0:=H.below b0
 have vU:=H0.gk.om _ _ rfl
 have hnone:omL (Qa Q1 Q2) o.id=none:=omL_none.2 hid
 obtain⟨w1,hr,D',dQ,aT,hg1⟩:=qaq (M:=o :: Qa Q1 Q2) (vU.drew) Oz H.om o (Ju hok.1) (λid=>qhT o _ id) (by rw[hnone];simp) (by simp;omega)
 have fI:w0.grownBy w1 (some m):=⟨hg1.os,hg1.tape,hg1.output,hg1.size,hg1.block⟩
 have HR:Hid ((Instr.mapUpdate 133 (.map (some m)) (.int .u64 o.id) (.agg (OC o))).run prog w0.drew=.ok () w1):=Ou hr
 have nB:=ZR cB vU
 have nO:=ZR cO vU
 have nP:=ZR H0.bookp vU
 have HB:Hid (∀W,w0.grownBy W (some m)->W.cell? ⟨w.heap.size,0,none⟩=some (.pointer (some ⟨p,0,none⟩))):=Ou λW h=>(Cl.c ((Zv h).blk cB nB) 0).trans rfl
 have HO:Hid (∀W,w0.grownBy W (some m)->Cl 38 W (w.heap.size+1) (OC o)):=Ou λW h=>(Zv h).blk cO nO
 have HP:Hid (∀W,w0.grownBy W (some m)->W.cell? ⟨p,0,none⟩=some (.map (some m))):=Ou λW h=>(Cl.c ((Zv h).blk H0.bookp nP) 0).trans rfl
 have nZ:=Ou fI
 have gk1:=H0.gk.setom fI dQ H.mm
 have fN:SgIn w1 o.side g:=by
  rcases h12 with ⟨h,rfl⟩ | ⟨h,rfl⟩
  ·rw[h];exact gk1.s1 rfl
  ·rw[h];exact gk1.s2 rfl
 have cB1:=(Zv fI).blk cB nB
 have cO1:=(Zv fI).blk cO nO
 have mH:=Ou (qaD h12 w1 gk1)
 have rV:=Ou (Xf g.tb g.sb o.side o.price g.t w1 (λ_=>dI) fN.box fN.cx fN.tr fN.srt)
 obtain⟨x0,x1,x2,x3,x4,x5⟩:=Qm cO1
 have kB:w1.cell? ⟨w.heap.size,0,none⟩=some (.pointer (some ⟨p,0,none⟩)):=(Cl.c cB1 0).trans rfl
 have HH:=Ou (Sv H (Sv S (Sv b0 (Sv hz0 (Sv gk1 (Sv fN (Sv cB1 (Sv cO1 (Sv dQ (Sv aT (Sv hid (Sv cT (Sv hok hl)))))))))))))
 clear vU H0 nB nO nP cB cO b0 hz0 gk1 fN cB1 cO1 dQ aT hnone hr hg1 fI H S hid cT hok hl
 go_enter func209,ntmps209
 go_wp2_with fail
 refine wp_region_held_drew (S:=λW=>w0.grownBy W (some m)) Ow (by exact⟨rfl,rfl,rfl,Sq _,λ_ _ _=>rfl⟩) (λhHeld=>?_)
 refine tkH 0 ?_ ?_ Ov ?_
 rotate_left
 ·(intro w hSw;have hs:=HB.out _ hSw;(try dsimp only at hSw);go_simp;try with_reducible rfl)
 (try simp only[zz])
 refine tkA 1 ?_
 refine tkA 2 ?_
 refine tkH 3 ?_ ?_ Ov ?_
 rotate_left
 ·(intro w hSw;have hs:=HP.out _ hSw;(try dsimp only at hSw);go_simp;try with_reducible rfl)
 (try simp only[zz])
 refine tkA 4 ?_
 refine tkH 5 ?_ ?_ Ov ?_
 rotate_left
 ·(intro w hSw;obtain⟨x0,x1,x2,x3,x4,x5⟩:=Qm (HO.out _ hSw);(try dsimp only at hSw);go_simp;try with_reducible rfl)
 (try simp only[zz])
 refine tkH 6 ?_ ?_ Ov ?_
 rotate_left
 ·(intro w hSw;obtain⟨x0,x1,x2,x3,x4,x5⟩:=Qm (HO.out _ hSw);(try dsimp only at hSw);go_simp;try with_reducible rfl)
 (try simp only[zz])
 refine rdH 7 (λK hK=>?_)
 ((with_reducible apply qaC);rfl;rfl;rfl;rfl;rfl;exact HR.out;skip)
 refine hK.out _ _ (by exact nZ.out) (λhHeld=>?_)
 clear hK K
 (try simp only[zz])
 refine wpAnyH_done Ow ?_ _
 clear hHeld HB HO HP HR
 go_wp2_with fail
 ((with_reducible refine mH.out.mono ?_);rintro e wS ⟨rfl,rfl⟩)
 clear mH
 go_wp2_with fail
 ((with_reducible refine rV.out.mono ?_);rintro e wG ⟨c,t,rfl,hh,n,rfl⟩)
 clear rV
 obtain⟨H,S,b0,hz0,gk1,fN,cB1,cO1,dQ,aT,hid,cT,hok,hl⟩:=HH.out
 obtain⟨A,M,B,bS,hA,hB,hM⟩:=Gb hh.out.1 hh.out.2 S.eq S.ok
 obtain⟨Aq,cc,ev,hown⟩:=qio hh.out.1 hM
 rw[ev]
 have bF:SideOk o.side (A++M++B):=by rw[<-bS];exact S.ok
 have hMp:∀r∈M,r.pr=o.price:=by rcases hM with ⟨_,rfl⟩ | ⟨_,_,_,_,_,m',_,rfl,hm,_⟩;intro r hr;cases hr;intro r hr;rw[List.mem_singleton.1 hr];exact hm
 have iF:∀x∈Qb M,x∈Qa Q1 Q2/\x.side=o.side/\x.price=o.price:=λx hx=>by
  obtain⟨r,hr,kF⟩:=List.mem_flatMap.1 hx;have hr':r∈A++M++B:=by simp[hr]
  have h:=bF.mem r hr' x kF;exact⟨S.mem x (by rw[bS];exact List.mem_flatMap.2 ⟨r,hr',kF⟩),h.1,h.2.trans (hMp r hr)⟩
 have hpw:(Qb M).Pairwise (λx y=>Qt x y=true):=by
  rcases hM with ⟨_,rfl⟩ | ⟨_,_,_,_,_,m',_,rfl,hm,_⟩
  ·exact List.Pairwise.nil
  ·have:=bF.que m' Oy;simpa [Qb] using this
 have tK:(Qb M).length<=64:=by
  have h1:(Qb Q).length=(Qb A).length+(Qb M).length+(Qb B).length:=by rw[bS];simp[Qb];omega
  have:=S.len;omega
 obtain⟨w2,hw2⟩:∃w2,((w1.drewN n).alloc (.cells #[.slice none 0 0] 124)).setCell ⟨w1.heap.size,0,none⟩ (.slice Aq (Qb M).length cc)=w2:=⟨_,rfl⟩
 have cz:Cl 124 ((w1.drewN n).alloc (.cells #[.slice none 0 0] 124)) w1.heap.size #[.slice none 0 0]:=Qe rfl
 have z1:((w1.drewN n).alloc (.cells #[.slice none 0 0] 124)).cell? ⟨w1.heap.size,0,none⟩=some (.slice none 0 0):=(Cl.c cz 0).trans rfl
 have z2:((w1.drewN n).alloc (.cells #[.slice none 0 0] 124)).frozen? ⟨w1.heap.size,0,none⟩=false:=Cl.f cz
 have hn0:(w1.drewN n).heap.size=w1.heap.size:=rfl
 have b12:Ok w1 w2:=by rw[<-hw2];exact((QI (Oq _ _) n).alloc (Sq _) _).setCell (p:=⟨w1.heap.size,0,none⟩) (Sq _) _
 have cQ2:Cl 124 w2 w1.heap.size #[.slice Aq (Qb M).length cc]:=by rw[<-hw2];exact QK cz
 have cO2:Cl 38 w2 (w.heap.size+1) (OC o):=(b12.block _ (Qc cO1)).trans cO1
 have cB2:Cl 104 w2 w.heap.size #[.pointer (some ⟨p,0,none⟩)]:=(b12.block _ (Qc cB1)).trans cB1
 have xE:Cl 138 w1 p #[.map (some m),.map (some ms)]:=by
  rcases gk1.shape with ⟨h0,_⟩ | ⟨q,hq,hc⟩
  ·cases h0
  ·injection hq with hq;injection hq with hq;rw[hq];exact hc
 have hq2:QIn w1 w1.heap.size Aq (Qb M):=(V6 hown (λk hk=>(hown.lt k hk).2)).2
 have mX:Ids (o :: Qa Q1 Q2):=List.pairwise_cons.2 ⟨λx hx e=>hid x hx e.symm,H.ids⟩
 have zI:=Any.sort_Search Tryz.searchL 219 #[.pointer (some ⟨w.heap.size+1,0,none⟩),.pointer (some ⟨w.heap.size,0,none⟩),.pointer (some ⟨w1.heap.size,0,none⟩)] (Qb M).length (λi=>!Qt (Qb M)[i]! o) w2 (enters_of func219 Ow rfl) Oz
  (λmm os i hi=>by
   have hG:=Gw.of_grow w2 mm os;have cY:Ok w1 (Go.Sort.grow (w2.drewN mm) os):=b12.trans (hG.b.mono b12.size);obtain⟨gq,rfl,hgq,iD⟩:=hq2 i hi;have dJ:=iF (Qb M)[i]! (by rw[Sj (Qb M) i hi];exact Wt _);have hfl:=qip dI rfl dJ.2.1 dJ.2.2 (hid _ dJ.1);have:=qie (Go.Sort.grow (w2.drewN mm) os) (w.heap.size+1) w.heap.size w1.heap.size p m gq (Qb M).length cc i o (Qb M)[i]! hi ((hG.b.block _ (Qc cO2)).trans cO2) ((hG.b.block _ (Qc cB2)).trans cB2) ((hG.b.block _ (Qc cQ2)).trans cQ2)
    ⟨(cY.cell (p:=⟨p,0,none⟩) (Qc xE)).trans ((Cl.c xE 0).trans rfl),Ww (Qc xE) cY.size⟩ ⟨(cY.cell (p:=⟨gq,i,none⟩) hgq).trans iD,Ww hgq cY.size⟩
    (λW' hW'=>by
     have hBW:Ok w1 W':=cY.trans (hW'.b.mono cY.size);have xW:=QQ dQ (Fr.of_below (S:=λ_=>False) hBW) (λh=>h);have hlk:=Xr xW aT (Qb M)[i]!.id (Ju (H.ok _ dJ.1).1.1);rw[(Z1 mX).2 ⟨List.mem_cons_of_mem _ dJ.1,rfl⟩]at hlk
     exact hlk)
   rw[hfl]at this
   exact this.mono λe w' ⟨h1,h2⟩=>⟨h1,h2.grow⟩)
  (UB (YQ hpw))
 rw[UC (Qb M) (λx=>Qt x o),show List.countP (λx=>Qt x o) (Qb M)=plN o (Qb M) from rfl]at zI
 have sU:=Ou zI
 have hpl:plN o (Qb M)<=(Qb M).length:=List.countP_le_length
 have kQ:w2.cell? ⟨w1.heap.size,0,none⟩=some (.slice Aq (Qb M).length cc):=(Cl.c cQ2 0).trans rfl
 have kB2:w2.cell? ⟨w.heap.size,0,none⟩=some (.pointer (some ⟨p,0,none⟩)):=(Cl.c cB2 0).trans rfl
 have qK:=Ou (Sv b12 (Sv cQ2 (Sv cO2 (Sv hown (Sv bF (Sv bS (Sv hA (Sv hB (Sv hM (Sv tK (Sv hh.out.1 ev)))))))))))
 clear cz H S b0 hz0 gk1 fN cB1 cO1 dQ aT hid cT hok hl hh hA hB hM ev hown bF bS hMp iF hpw tK b12 cQ2 cO2 cB2 xE hq2 mX zI kB x0 x1 x2 x3 x4 x5
 generalize hNN:(Qb M).length=N at *
 go_wp2_with fail
 refine sU.out.mono ?_
 rintro e w3 ⟨rfl,hg3'⟩
 have g3:Gw w2 w3:=by obtain⟨nq,os,rfl⟩:=hg3';exact Gw.of_grow _ _ _
 clear hg3' sU z1 z2 hw2 kQ kB2
 obtain⟨H,S,b0,hz0,gk1,fN,cB1,cO1,dQ,aT,hid,cT,hok,hl⟩:=HH.out
 obtain⟨b12,cQ2,cO2,hown,bF,bS,hA,hB,hM,tK,hI,ev⟩:=qK.out
 have b13:Ok w1 w3:=b12.trans (g3.b.mono b12.size)
 have cO3:Cl 38 w3 (w.heap.size+1) (OC o):=(g3.b.block _ (Qc cO2)).trans cO2
 have cQ3:Cl 124 w3 w1.heap.size #[.slice Aq N cc]:=(g3.b.block _ (Qc cQ2)).trans cQ2
 have C3:=Ou (Sv cO3 cQ3)
 obtain⟨w4,hw4⟩:∃w4,w3.drew.alloc (.cells #[.int .u64 o.id] 35)=w4:=⟨_,rfl⟩
 have b34:Ok w3 w4:=by rw[<-hw4];exact((Oq _ _).drew).alloc (Sq _) _
 have b14:Ok w1 w4:=b13.trans (b34.mono b13.size)
 have cO4:Cl 38 w4 (w.heap.size+1) (OC o):=(b34.block _ (Qc cO3)).trans cO3
 have cQ4:Cl 124 w4 w1.heap.size #[.slice Aq N cc]:=(b34.block _ (Qc cQ3)).trans cQ3
 have C4:=Ou (Sv cO4 cQ4)
 have hv4:w4.heap[w3.heap.size]? = some (.cells ([.int .u64 o.id]:List Value).toArray 35 (0,0)):=by rw[<-hw4];exact Qe rfl
 have gN:w4.ownsRow 0 35 1 (.slice Aq N cc) N (idV ((Qb M).map (·.id))):=Qh hown (Fr.of_below (S:=λ_=>False) b14) (λ_ _ h=>h)
 have hvb:(Value.slice Aq N cc).ownBlock≠some w3.heap.size:=λe=>by have:=(hown.lt _ e).2;have:=b13.size;omega
 have HI:Hid (Calls prog 220 #[.slice Aq N cc,.int .i64 (plN o (Qb M)),.slice (some ⟨w3.heap.size,0,none⟩) 1 1] w4 λe w'=>∃v',e=.returned v'/\Xt w4 w' (.slice Aq N cc) v' N ((QO o (Qb M)).map (·.id))) :=
  Ou ((qhZ w4 0 N (plN o (Qb M)) (.slice Aq N cc) (idV ((Qb M).map (·.id))) [.int .u64 o.id] w3.heap.size gN (Nat.zero_le _) Oz hpl hvb hv4 rfl (λu hu=>by
   obtain⟨a,_,rfl⟩:=List.mem_map.1 hu;rfl) (λu hu=>by rw[List.mem_singleton.1 hu];rfl)).mono λe w' ⟨v',he,h⟩=>⟨v',he,by rw[qik]at h;exact h⟩)
 have HX:=Ou (λw5 v' (h:Xt w4 w5 (.slice Aq N cc) v' N ((QO o (Qb M)).map (·.id)))=>qim fN hI cT (A:=A) (M:=M) (B:=B) (by rw[S.eq,bS]) hM (Fr.of_below b14) (by rw[ev];exact h))
 have lW:=Ou (λw5 v' (h:Xt w4 w5 (.slice Aq N cc) v' N ((QO o (Qb M)).map (·.id)))=>Sv ((h.out.2.1.block _ (Qc cO4) (λe=>Qn gN cO4 Ox e.symm)).trans cO4) ((h.out.2.1.block _ (Qc cQ4) (λe=>Qn gN cQ4 Ox e.symm)).trans cQ4))
 have HND:=Ou fN.nd
 have HLN:Hid (((QO o (Qb M)).map (·.id)).length=N+1):=Ou (by rw[List.length_map,YZ,hNN])
 have hpI:(plN o (Qb M):Int)<=(N:Int):=by omega
 clear H S b0 hz0 gk1 fN cB1 cO1 dQ aT hid cT hok hl b12 cQ2 cO2 hown bF bS hA hB hM tK hI ev b13 cO3 cQ3 b34 b14 cO4 cQ4 hv4 gN hvb g3
 go_wp2_with fail
 refine wp_region_held_drew (S:=λW=>Cl 38 W (w.heap.size+1) (OC o)/\Cl 124 W w1.heap.size #[.slice Aq N cc]) Ow (by exact⟨Qk C3.out.1,Qk C3.out.2⟩) (λhHeld=>?_)
 refine tkA 0 ?_
 refine tkA 1 ?_
 refine tkH 2 ?_ ?_ Ov ?_
 rotate_left
 ·(intro w hSw;obtain⟨x0,x1,x2,x3,x4,x5⟩:=Qm hSw.1;(try dsimp only at hSw);go_simp;try with_reducible rfl)
 (try simp only[zz])
 refine tkH 3 ?_ ?_ Ov ?_
 rotate_left
 ·(intro w hSw;have hs:w.cell? ⟨w1.heap.size,0,none⟩=some (.slice Aq N cc):=(hSw.2.c 0).trans rfl;(try dsimp only at hSw);go_simp;try with_reducible rfl)
 (try simp only[zz])
 refine tkA 4 ?_
 refine tkA 5 ?_
 refine tkH 6 ?_ ?_ Ov ?_
 rotate_left
 ·(intro w hSw;obtain⟨x0,x1,x2,x3,x4,x5⟩:=Qm hSw.1;(try dsimp only at hSw);go_simp;try with_reducible rfl)
 (try simp only[zz])
 refine rdH 7 (λK hK=>?_)
 go_simp
 refine hK.out _ _ (by exact⟨C4.out.1,C4.out.2⟩) (λhHeld=>?_)
 clear hK K
 (try simp only[zz])
 refine rdH 8 (λK hK=>?_)
 go_simp
 ((with_reducible refine HI.out.mono ?_);rintro e w5 ⟨v',rfl,h5⟩)
 obtain⟨Tw,hR,hN⟩:=HX.out _ _ h5
 have kT:=Ou (TR g.tb g.sb o.side o.price Tw v' ((QO o (Qb M)).map (·.id)) w5 dI hR.sg.box hR.sg.cx hR.sg.tr hR.sg.srt (by have:=hR.blks;rw[this];exact HND.out) (by have:=h5.out.1;rw[HLN.out];exact this))
 have HK:=Ou (Sv hR hN)
 have C5:Hid (Cl 38 w5 (w.heap.size+1) (OC o)/\Cl 124 w5 w1.heap.size #[.slice Aq N cc]):=lW.out _ _ h5
 clear h5 hR hN HI
 refine hK.out _ _ (by exact⟨C5.out.1,C5.out.2⟩) (λhHeld=>?_)
 clear hK K
 (try simp only[zz])
 refine rdH 9 (λK hK=>?_)
 go_simp
 ((with_reducible refine kT.out.mono ?_);rintro e w6 ⟨rfl,T',h6⟩)
 have C6:Hid (Cl 38 w6 (w.heap.size+1) (OC o)/\Cl 124 w6 w1.heap.size #[.slice Aq N cc]):=Ou ⟨h6.out.fr.blk C5.out.1 (KA HK.out.1.sg C5.out.1 Ox Ox),h6.out.fr.blk C5.out.2 (KA HK.out.1.sg C5.out.2 Ox Ox)⟩
 refine hK.out _ _ (by exact⟨C6.out.1,C6.out.2⟩) (λhHeld=>?_)
 clear hK K
 (try simp only[zz])
 refine wpAnyH_done Ow ?_ _
 go_wp2_with fail
 go_end0
 obtain⟨H,S,b0,hz0,gk1,fN,cB1,cO1,dQ,aT,hid,cT,hok,hl⟩:=HH.out
 obtain⟨b12,cQ2,cO2,hown,bF,bS,hA,hB,hM,tK,hI,ev⟩:=qK.out
 exact⟨rfl,Ou (qin S b0 nZ.out fN dQ aT bS hA hB (by rcases hM with ⟨_,h⟩ | ⟨_,_,_,_,_,m',_,h,hm,_⟩;exact .inl h;exact .inr ⟨m',h,hm⟩) HK.out.1 HK.out.2 h6.out)⟩
structure Gd where
 g:Sg
 rs:List Rw
def gWhole (w:World)(p:Nat)(m:Nat×Nat)(s1 s2:Gd):Prop:=∃D,GW w p m.1 m.2 D s1.g s2.g s1.rs s2.rs
def gft (p:Nat)(m:Nat×Nat)(s1 s2:Gd)(k:Nat):Prop:=Kd p m.1 m.2 s1.g s2.g k
structure gTurnIs (w w':World) (p:Nat) (m:Nat×Nat) (s1 s2 s1' s2':Gd):Prop where
 wh:gWhole w' p m s1' s2'
 fr:Fr (gft p m s1 s2) w w'
 ft:∀k,gft p m s1' s2' k->gft p m s1 s2 k∨w.heap.size<=k
structure gPutIs (w w':World) (p:Nat) (m:Nat×Nat) (s1 s2 s1' s2':Gd) (o:Od):Prop where
 tu:gTurnIs w w' p m s1 s2 s1' s2'
 perm:(Qa s1'.rs s2'.rs).Perm (o :: Qa s1.rs s2.rs)
 e2:o.side=1->s2'=s2
 e1:o.side=2->s1'=s1
theorem VD.sub {l m:List Value}(h:VD l)(hs:m.Sublist l):VD m:=List.Pairwise.sublist hs h
theorem Gh {A B C Y:List Value}{v':Value}{n:Nat}(h:VD (A++B++C++Y))(hlt:∀u∈A++B++C++Y,∀k,u.ownBlock=some k->k<n)(hv:(∃j,n<=j/\v'.ownBlock=some j)∨∃u,B=[u]/\v'.ownBlock=u.ownBlock):VD (A++v' :: C++Y):=by
 have hp:(A++v' :: C++Y).Perm (v' :: (A++C++Y)):=by
  simp only[St,List.cons_append];exact List.perm_middle
 have hsub:(A++C++Y).Sublist (A++B++C++Y):=by
  refine List.Sublist.append ?_ (List.Sublist.refl _);refine List.Sublist.append ?_ (List.Sublist.refl _);exact List.sublist_append_left A B
 refine VD.perm ?_ hp.symm
 refine List.pairwise_cons.2 ⟨λu hu j hj hk=>?_,h.sub hsub⟩
 rcases hv with ⟨i,hi,hv⟩ | ⟨b,rfl,hv⟩
 ·have:=hlt u (hsub.subset hu) j hk;rw[hv]at hj;injection hj with hj;omega
 ·have hq:(A++[b]++C++Y).Perm (b :: (A++C++Y)):=by
   simp only[St,List.cons_append,List.nil_append];exact List.perm_middle
  have:=(List.pairwise_cons.1 (h.perm hq)).1 u hu j (by rw[<-hv];exact hj);exact this hk
theorem SgIn.cls {w:World}{s:Int}{g:Sg}(h:SgIn w s g){k:Nat}(hk:QE g k):(k=g.sb/\∃cs,Cl 3 w k cs)∨(k=g.tb/\∃cs,Cl 156 w k cs)∨(k∈g.t.blks/\∃cs,Cl 278 w k cs)∨((∃v∈g.t.vals,v.ownBlock=some k)/\∃cs,Cl 35 w k cs):=by
 rcases hk with rfl|rfl|hk | ⟨v,hv,hk⟩
 ·exact .inl ⟨rfl,_,h.box⟩
 ·exact .inr (.inl ⟨rfl,_,h.cx⟩)
 ·exact .inr (.inr (.inl ⟨hk,h.tr.at_ k hk⟩))
 ·exact .inr (.inr (.inr ⟨⟨v,hv,hk⟩,h.tr.vcl v hv k hk⟩))
theorem GW.apart {w:World}{p m ms:Nat}{D:DataW Value}{g1 g2:Sg}{Q1 Q2:List Rw}(H:GW w p m ms D g1 g2 Q1 Q2):∀k,QE g1 k->¬QE g2 k:=by
 intro k h1 h2
 have d:∀{T T':TypeId} {cs cs':Array Value},Cl T w k cs->Cl T' w k cs'->T≠T'->False:=λa b c=>Kz a b c rfl
 rcases(H.gk.s1 rfl).cls h1 with ⟨a,c,hc⟩ | ⟨a,c,hc⟩ | ⟨a,c,hc⟩ | ⟨⟨v,hv,hk⟩,c,hc⟩<;>rcases(H.gk.s2 rfl).cls h2 with ⟨b,c',hc'⟩ | ⟨b,c',hc'⟩ | ⟨b,c',hc'⟩ | ⟨⟨v',hv',hk'⟩,c',hc'⟩
 ·exact H.sb (a.symm.trans b)
 ·exact d hc hc' Ox
 ·exact d hc hc' Ox
 ·exact d hc hc' Ox
 ·exact d hc hc' Ox
 ·exact H.tb (a.symm.trans b)
 ·exact d hc hc' Ox
 ·exact d hc hc' Ox
 ·exact d hc hc' Ox
 ·exact d hc hc' Ox
 ·exact H.bd k a b
 ·exact d hc hc' Ox
 ·exact d hc hc' Ox
 ·exact d hc hc' Ox
 ·exact d hc hc' Ox
 ·exact(List.pairwise_append.1 H.vd).2.2 v hv v' hv' k hk hk'
theorem qaF {w:World}{p m ms:Nat}{D:DataW Value}{g1 g2:Sg}{Q1 Q2:List Rw}(H:GW w p m ms D g1 g2 Q1 Q2){s:Int}{g:Sg}(h:SgIn w s g):¬QE g p:=by
 intro hk
 have d:∀{T T':TypeId} {cs cs':Array Value},Cl T w p cs->Cl T' w p cs'->T≠T'->False:=λa b c=>Kz a b c rfl
 rcases h.cls hk with ⟨a,c,hc⟩ | ⟨a,c,hc⟩ | ⟨a,c,hc⟩ | ⟨_,c,hc⟩<;>exact d hc H.bookp Ox
structure SideTo (w w':World) (m:Nat) (sd:Int) (g g':Sg):Prop where
 sg:SgIn w' sd g'
 tb:g'.tb=g.tb
 sb:g'.sb=g.sb
 bl:∀b∈g'.t.blks,b∈g.t.blks∨w.heap.size<=b
 vl:∀v∈g'.t.vals,∀k,v.ownBlock=some k->QE g k∨w.heap.size<=k
 fr:Fr (λk=>k=m∨QE g k) w w'
theorem SideTo.ft {w w':World}{m:Nat}{sd:Int}{g g':Sg}(h:SideTo w w' m sd g g'):∀k,QE g' k->QE g k∨w.heap.size<=k:=by
 rintro k (rfl|rfl|hk | ⟨v,hv,hk⟩)
 ·exact .inl (.inl h.sb)
 ·exact .inl (.inr (.inl h.tb))
 ·exact(h.bl k hk).imp (λh=>.inr (.inr (.inl h))) id
 ·exact h.vl v hv k hk
theorem qaG {w w':World}{p:Nat}{m:Nat×Nat}{D D':DataW Value}{s1 s2:Gd}{g':Sg}{Q':List Rw}(H:GW w p m.1 m.2 D s1.g s2.g s1.rs s2.rs)(h:SideTo w w' m.1 1 s1.g g')(om:w'.ownsMap prog 35 RV m.1 64 D')(hO:OmT D' (Qa Q' s2.rs))
  (er:g'.t.rows=Q'.map QG) (ok:SideOk 1 Q') (ids:Ids (Qa Q' s2.rs)) (hl:(Qa Q' s2.rs).length<=64) (hok:∀x∈Qa Q' s2.rs,Od.ok w' x/\Qj x=true) (vd:VD (g'.t.vals++s2.g.t.vals)) :
  gTurnIs w w' p m s1 s2 ⟨g',Q'⟩ s2:=by
 have hS1:=H.gk.s1 rfl
 have fD:=H.gk.s2 rfl
 have far2:∀k,QE s2.g k->¬(k=m.1∨QE s1.g k):=λk hk h=>by
  rcases h with rfl|h
  ·exact fD.no_map (H.gk.om _ _ rfl) _ hk rfl
  ·exact H.apart k h hk
 have farp:¬(p=m.1∨QE s1.g p):=λh=>by
  rcases h with h|h
  ·exact ZR H.bookp (H.gk.om _ _ rfl) h
  ·exact qaF H hS1 h
 have fars:¬(m.2=m.1∨QE s1.g m.2):=λh=>by
  rcases h with h|h
  ·exact H.mm h.symm
  ·exact hS1.no_map (H.gk.sm _ _ rfl) _ h rfl
 refine⟨⟨D',⟨⟨.inr ⟨p,rfl,h.fr.blk H.bookp farp⟩,λa b e=>?_,λa b e=>?_,λ_=>h.sg,λ_=>fD.keep h.fr far2⟩,hO,er,H.e2,ok,H.ok2,ids,hl,hok,vd,?_,?_,H.mm,?_⟩⟩,?_,?_⟩
 ·injection e with e;injection e with e1 e2;subst e1;exact om
 ·have:=H.gk.sm a b e;injection e with e;injection e with e1 e2;subst e2;have hD:Z8 s1.g s2.g=Z8 g' s2.g:=by unfold Z8;rw[h.tb]
  rw[<-hD];exact QQ this h.fr fars
 ·intro b hb hb2;rcases h.bl b hb with h1|h1
  ·exact H.bd b h1 hb2
  ·have:=fD.tr.lt b hb2;omega
 ·rw[h.tb];exact H.tb
 ·rw[h.sb];exact H.sb
 ·exact h.fr.mono (λk hk=>.inl (by
   rcases hk with rfl|hk
   ·exact .inr (.inl rfl)
   ·exact .inr (.inr (.inr (.inl hk)))))
 ·rintro k (rfl|rfl|rfl|hk|hk)
  ·exact .inl (.inl rfl)
  ·exact .inl (.inr (.inl rfl))
  ·exact .inl (.inr (.inr (.inl rfl)))
  ·exact(h.ft k hk).imp (λh=>.inr (.inr (.inr (.inl h)))) id
  ·exact .inl (.inr (.inr (.inr (.inr hk))))
theorem qaH {w w':World}{p:Nat}{m:Nat×Nat}{D D':DataW Value}{s1 s2:Gd}{g':Sg}{Q':List Rw}(H:GW w p m.1 m.2 D s1.g s2.g s1.rs s2.rs)(h:SideTo w w' m.1 2 s2.g g')(om:w'.ownsMap prog 35 RV m.1 64 D')(hO:OmT D' (Qa s1.rs Q'))
  (er:g'.t.rows=Q'.map QG) (ok:SideOk 2 Q') (ids:Ids (Qa s1.rs Q')) (hl:(Qa s1.rs Q').length<=64) (hok:∀x∈Qa s1.rs Q',Od.ok w' x/\Qj x=true) (vd:VD (s1.g.t.vals++g'.t.vals)) :
  gTurnIs w w' p m s1 s2 s1 ⟨g',Q'⟩:=by
 have hS1:=H.gk.s1 rfl
 have fD:=H.gk.s2 rfl
 have far1:∀k,QE s1.g k->¬(k=m.1∨QE s2.g k):=λk hk h=>by
  rcases h with rfl|h
  ·exact hS1.no_map (H.gk.om _ _ rfl) _ hk rfl
  ·exact H.apart k hk h
 have farp:¬(p=m.1∨QE s2.g p):=λh=>by
  rcases h with h|h
  ·exact ZR H.bookp (H.gk.om _ _ rfl) h
  ·exact qaF H fD h
 have fars:¬(m.2=m.1∨QE s2.g m.2):=λh=>by
  rcases h with h|h
  ·exact H.mm h.symm
  ·exact fD.no_map (H.gk.sm _ _ rfl) _ h rfl
 refine⟨⟨D',⟨⟨.inr ⟨p,rfl,h.fr.blk H.bookp farp⟩,λa b e=>?_,λa b e=>?_,λ_=>hS1.keep h.fr far1,λ_=>h.sg⟩,hO,H.e1,er,H.ok1,ok,ids,hl,hok,vd,?_,?_,H.mm,?_⟩⟩,?_,?_⟩
 ·injection e with e;injection e with e1 e2;subst e1;exact om
 ·have:=H.gk.sm a b e;injection e with e;injection e with e1 e2;subst e2;have hD:Z8 s1.g s2.g=Z8 s1.g g':=by unfold Z8;rw[h.tb]
  rw[<-hD];exact QQ this h.fr fars
 ·intro b hb hb2;rcases h.bl b hb2 with h1|h1
  ·exact H.bd b hb h1
  ·have:=hS1.tr.lt b hb;omega
 ·rw[h.tb];exact H.tb
 ·rw[h.sb];exact H.sb
 ·exact h.fr.mono (λk hk=>.inl (by
   rcases hk with rfl|hk
   ·exact .inr (.inl rfl)
   ·exact .inr (.inr (.inr (.inr hk)))))
 ·rintro k (rfl|rfl|rfl|hk|hk)
  ·exact .inl (.inl rfl)
  ·exact .inl (.inr (.inl rfl))
  ·exact .inl (.inr (.inr (.inl rfl)))
  ·exact .inl (.inr (.inr (.inr (.inl hk))))
  ·exact(h.ft k hk).imp (λh=>.inr (.inr (.inr (.inr h)))) id
theorem qiq {w w':World}{p:Nat}{m:Nat×Nat}{D:DataW Value}{s1 s2:Gd}{o:Od}(H:GW w p m.1 m.2 D s1.g s2.g s1.rs s2.rs)(h:Xv w w' m.1 1 s1.g s1.rs (Qa s1.rs s2.rs) o)(hs:o.side=1)(hid:∀x∈Qa s1.rs s2.rs,¬x.id=o.id)(hok:Od.ok w o)(hg:Qj o=true)(hl:(Qa s1.rs s2.rs).length<64) :
  ∃s1',gPutIs w w' p m s1 s2 s1' s2 o:=by
 obtain⟨D',T',Q',v',om,hO,sg,er,hP,hbl,⟨A,B,C,v1,v2,v3⟩,hf⟩:=h
 have jL:∀x∈Qb s1.rs,¬x.id=o.id:=λx hx=>hid x (Ws _ hx)
 obtain⟨ok',perm'⟩:=Y3 (.inl rfl) hs H.ok1 jL hP
 have hperm:(Qa Q' s2.rs).Perm (o :: Qa s1.rs s2.rs):=perm'.append_right (Qb s2.rs)
 have bZ:Ids (o :: Qa s1.rs s2.rs):=List.pairwise_cons.2 ⟨λx hx e=>hid x hx e.symm,H.ids⟩
 have hS1:=H.gk.s1 rfl
 have fD:=H.gk.s2 rfl
 have hlt:∀u∈A++B++C++s2.g.t.vals,∀k,u.ownBlock=some k->k<w.heap.size:=λu hu k hk=>by
  rcases List.mem_append.1 hu with hu|hu
  ·rw[<-v1]at hu;exact hS1.tr.vlt u hu k hk
  ·exact fD.tr.vlt u hu k hk
 have hvd:VD (A++B++C++s2.g.t.vals):=by rw[<-v1];exact H.vd
 have vd':=Gh hvd hlt v3
 refine⟨⟨⟨s1.g.tb,s1.g.sb,T'⟩,Q'⟩,qaG H ⟨sg,rfl,rfl,hbl,λu hu k hk=>?_,hf⟩ om (hO.perm bZ hperm.symm) er ok' (Xo bZ hperm.symm) ?_ (λx hx=>?_) ?_,hperm,λ_=>rfl,λh=>by omega⟩
 ·dsimp only at hu;rw[v2]at hu;rcases List.mem_append.1 hu with hu|hu
  ·exact .inl (.inr (.inr (.inr ⟨u,by rw[v1];simp[hu],hk⟩)))
  ·rcases List.mem_cons.1 hu with rfl|hu
   ·rcases v3 with ⟨j,hj,hv⟩ | ⟨b,rfl,hv⟩
    ·rw[hv]at hk;injection hk with hk;subst hk;exact .inr hj
    ·exact .inl (.inr (.inr (.inr ⟨b,by rw[v1];simp,by rw[<-hv];exact hk⟩)))
   ·exact .inl (.inr (.inr (.inr ⟨u,by rw[v1];simp[hu],hk⟩)))
 ·rw[hperm.length_eq];simp;omega
 ·rcases List.mem_cons.1 (hperm.mem_iff.1 hx) with rfl|hx
  ·exact⟨hok,hg⟩
  ·exact H.ok x hx
 ·dsimp only;rw[v2];exact vd'
theorem qir {w w':World}{p:Nat}{m:Nat×Nat}{D:DataW Value}{s1 s2:Gd}{o:Od}(H:GW w p m.1 m.2 D s1.g s2.g s1.rs s2.rs)(h:Xv w w' m.1 2 s2.g s2.rs (Qa s1.rs s2.rs) o)(hs:o.side=2)(hid:∀x∈Qa s1.rs s2.rs,¬x.id=o.id)(hok:Od.ok w o)(hg:Qj o=true)(hl:(Qa s1.rs s2.rs).length<64) :
  ∃s2',gPutIs w w' p m s1 s2 s1 s2' o:=by
 obtain⟨D',T',Q',v',om,hO,sg,er,hP,hbl,⟨A,B,C,v1,v2,v3⟩,hf⟩:=h
 have jL:∀x∈Qb s2.rs,¬x.id=o.id:=λx hx=>hid x (Wx _ hx)
 obtain⟨ok',perm'⟩:=Y3 (.inr rfl) hs H.ok2 jL hP
 have hperm:(Qa s1.rs Q').Perm (o :: Qa s1.rs s2.rs):=(perm'.append_left (Qb s1.rs)).trans List.perm_middle
 have bZ:Ids (o :: Qa s1.rs s2.rs):=List.pairwise_cons.2 ⟨λx hx e=>hid x hx e.symm,H.ids⟩
 have hS1:=H.gk.s1 rfl
 have fD:=H.gk.s2 rfl
 have hlt:∀u∈A++B++C++s1.g.t.vals,∀k,u.ownBlock=some k->k<w.heap.size:=λu hu k hk=>by
  rcases List.mem_append.1 hu with hu|hu
  ·rw[<-v1]at hu;exact fD.tr.vlt u hu k hk
  ·exact hS1.tr.vlt u hu k hk
 have hvd:VD (A++B++C++s1.g.t.vals):=by rw[<-v1];exact H.vd.perm List.perm_append_comm
 have vd':=Gh hvd hlt v3
 refine⟨⟨⟨s2.g.tb,s2.g.sb,T'⟩,Q'⟩,qaH H ⟨sg,rfl,rfl,hbl,λu hu k hk=>?_,hf⟩ om (hO.perm bZ hperm.symm) er ok' (Xo bZ hperm.symm) ?_ (λx hx=>?_) ?_,hperm,λh=>by omega,λ_=>rfl⟩
 ·dsimp only at hu;rw[v2]at hu;rcases List.mem_append.1 hu with hu|hu
  ·exact .inl (.inr (.inr (.inr ⟨u,by rw[v1];simp[hu],hk⟩)))
  ·rcases List.mem_cons.1 hu with rfl|hu
   ·rcases v3 with ⟨j,hj,hv⟩ | ⟨b,rfl,hv⟩
    ·rw[hv]at hk;injection hk with hk;subst hk;exact .inr hj
    ·exact .inl (.inr (.inr (.inr ⟨b,by rw[v1];simp,by rw[<-hv];exact hk⟩)))
   ·exact .inl (.inr (.inr (.inr ⟨u,by rw[v1];simp[hu],hk⟩)))
 ·rw[hperm.length_eq];simp;omega
 ·rcases List.mem_cons.1 (hperm.mem_iff.1 hx) with rfl|hx
  ·exact⟨hok,hg⟩
  ·exact H.ok x hx
 ·dsimp only;rw[v2];exact vd'.perm List.perm_append_comm
theorem qis (p:Nat)(m:Nat×Nat)(s1 s2:Gd)(o:Od)(w:World)(H:gWhole w p m s1 s2)(hid:∀x∈Qa s1.rs s2.rs,¬x.id=o.id)(hok:Od.ok w o)(hg:Qj o=true)(hl:(Qa s1.rs s2.rs).length<64) :
  Calls prog 209 #[.pointer (some ⟨p,0,none⟩),.agg #[.int .u64 o.id,.int .i64 o.acc,.int .i64 o.side,.int .i64 o.price,.int .i64 o.qty,.int .u64 o.seq]] w λe w'=>e=.returned (.tuple #[])/\∃s1' s2',Hid (gPutIs w w' p m s1 s2 s1' s2' o):=by
 obtain⟨D,H⟩:=H
 rcases Vi hg with hs|hs
 ·refine(qaE p m.1 m.2 D s1.g s2.g s1.rs s2.rs 1 s1.g s1.rs o w H H.own1 (.inl ⟨rfl,rfl⟩) (List.pairwise_append.1 H.vd).1 hs hid hok hl).mono λe w' h=>⟨h.1,?_⟩
  obtain⟨s1',h'⟩:=qiq H h.2.out hs hid hok hg hl;exact⟨s1',s2,Ou h'⟩
 ·refine(qaE p m.1 m.2 D s1.g s2.g s1.rs s2.rs 2 s2.g s2.rs o w H H.own2 (.inr ⟨rfl,rfl⟩) (List.pairwise_append.1 H.vd).2.1 hs hid hok hl).mono λe w' h=>⟨h.1,?_⟩
  obtain⟨s2',h'⟩:=qir H h.2.out hs hid hok hg hl;exact⟨s1,s2',Ou h'⟩
def Gi (w w':World)(p:Nat)(m:Nat×Nat)(s1 s2 s1' s2':Gd)(o:Od)(c:Int):Prop :=
 (c=2/\Qj o=false/\s1'=s1/\s2'=s2/\Ok w w') ∨
 (Qj o=true/\c=52/\(∃x∈Qa s1.rs s2.rs,x.id=o.id)/\s1'=s1/\s2'=s2/\Ok w w') ∨
 (Qj o=true/\(∀x∈Qa s1.rs s2.rs,¬x.id=o.id)/\((c=50/\(Qa s1.rs s2.rs).length=64/\s1'=s1/\s2'=s2/\Ok w w')∨(c=0/\(Qa s1.rs s2.rs).length<64/\gPutIs w w' p m s1 s2 s1' s2' o)))
theorem qit {w W w':World}{p:Nat}{m:Nat×Nat}{s1 s2 s1' s2':Gd}{o:Od}(hb:Ok w W)(h:gPutIs W w' p m s1 s2 s1' s2' o):gPutIs w w' p m s1 s2 s1' s2' o :=
 ⟨⟨h.tu.wh,(Fr.of_below hb:Fr (gft p m s1 s2) w W).trans h.tu.fr (λ_ h=>.inl h),λk hk=>(h.tu.ft k hk).imp id (λh'=>Sk hb.size h')⟩,h.perm,h.e2,h.e1⟩
theorem gWhole.below {w w':World}{p:Nat}{m:Nat×Nat}{s1 s2:Gd}(h:gWhole w p m s1 s2)(hb:Ok w w'):gWhole w' p m s1 s2:=by
 obtain⟨D,h⟩:=h
 exact⟨D,h.below hb⟩
theorem ZJ {B c:Nat}{w X:World}{cs:Array Value}(h:Below B w X)(hc:B<=c):Below B w (X.setRow c cs) :=
 h.trans ⟨rfl,rfl,rfl,by simp[World.setRow],λk hk=>setRow_other X c k cs Oz⟩
theorem qiu (p:Nat)(m:Nat×Nat)(s1 s2:Gd)(o:Od)(w:World)(H:gWhole w p m s1 s2)(hok:Od.ok w o)(hg:Qj o=true) :
  Calls prog 199 #[.pointer (some ⟨p,0,none⟩),.agg #[.int .u64 o.id,.int .i64 o.acc,.int .i64 o.side,.int .i64 o.price,.int .i64 o.qty,.int .u64 o.seq]] w λe w'=>∃c s1' s2',e=.returned (.int .i64 c)/\Hid (Gi w w' p m s1 s2 s1' s2' o c):=by
 obtain⟨w0,hw0⟩:∃w0,w.alloc (.cells (OC o) 38)=w0:=⟨_,rfl⟩
 have b0:Ok w w0:=by rw[<-hw0];exact(Oq _ _).alloc (Sq _) _
 have cO:Cl 38 w0 w.heap.size (OC o):=by rw[<-hw0];exact Qe rfl
 have H0:=H.below b0
 have HM:Hid (Calls prog 208 #[.pointer (some ⟨p,0,none⟩)] w0 λe w'=>e=.returned (.bool true)/\w0=w'):=Ou (by obtain⟨D,h⟩:=H0;exact Kc _ _ _ _ _ _ h.gk)
 have qJ:Hid (Calls prog 65 #[.agg #[.int .u64 o.id,.int .i64 o.acc,.int .i64 o.side,.int .i64 o.price,.int .i64 o.qty,.int .u64 o.seq]] w0 λe w'=>e=.returned (.bool (Qj o))/\Gw w0 w'):=Ou (KI o w0)
 rw[hg]at qJ
 obtain⟨x0,x1,x2,x3,x4,x5⟩:=Qm cO
 have HH:=Ou (Sv H0 (Sv b0 cO))
 clear b0 cO H0
 go_enter func199,ntmps199
 go_wp2_with fail
 ((with_reducible refine HM.out.mono ?_);rintro e w1 ⟨rfl,rfl⟩)
 go_wp2_with fail
 ((with_reducible refine qJ.out.mono ?_);rintro e w1 ⟨rfl,hb⟩)
 clear qJ HM x0 x1 x2 x3 x4 x5
 go_wp2_with fail
 obtain⟨⟨D,G0⟩,b0,cO⟩:=HH.out
 have b1:=hb.b
 have G1:=G0.below b1
 have cO1:Cl 38 w1 w.heap.size (OC o):=(b1.block _ (Qc cO)).trans cO
 have hlt1:∀k,Kd p m.1 m.2 s1.g s2.g k->k<w1.heap.size:=G1.lt
 have HP:Hid (∀W,Ok w1 W->W.cell? ⟨p,0,none⟩=some (.map (some m.1))):=Ou λW hW=>((G1.below hW).bookp.c 0).trans rfl
 have HI:Hid (∀W,Ok w1 W->W.cell? ⟨w.heap.size,0,none⟩=some (.int .u64 o.id)):=Ou λW hW=>(hW.cell (p:=⟨w.heap.size,0,none⟩) (Qc cO1)).trans ((Cl.c cO1 0).trans rfl)
 have HL:Hid (∀W,Ok w1 W->(Instr.lookup 133 (.map (some m.1)) (.int .u64 o.id) true).run prog W=.ok (.tuple #[.agg (OC ((omL (Qa s1.rs s2.rs) o.id).getD zO)),.bool (omL (Qa s1.rs s2.rs) o.id).isSome]) W):=Ou λW hW=>look_ok ((G1.below hW).gk.om _ _ rfl) G1.om o.id (Ju hok.1)
 have yQ:=Ou (Sv G1 (Sv (b0.trans (b1.mono b0.size)) cO1))
 clear G0 b0 cO b1 G1 cO1 hlt1 hb HH
 obtain⟨m1,m2⟩:=m
 dsimp only at HP HL yQ
 generalize hthere:(omL (Qa s1.rs s2.rs) o.id).isSome=there at HL
 generalize (omL (Qa s1.rs s2.rs) o.id).getD zO=z at HL
 have HT:=Ou hthere
 clear hthere
 refine wp_region_held_drew (S:=λW=>Ok w1 W) Ow (by exact(Oq _ _).drew) (λhHeld=>?_)
 refine tkA 0 ?_
 refine tkA 1 ?_
 refine tkA 2 ?_
 refine tkH 3 ?_ ?_ Ov ?_
 rotate_left
 ·(intro w hSw;have hs:=HP.out _ hSw;(try dsimp only at hSw);go_simp;try with_reducible rfl)
 (try simp only[zz])
 refine tkA 4 ?_
 refine tkH 5 ?_ ?_ Ov ?_
 rotate_left
 ·(intro w hSw;have hs:=HI.out _ hSw;(try dsimp only at hSw);go_simp;try with_reducible rfl)
 (try simp only[zz])
 refine tkH 6 ?_ ?_ Ov ?_
 rotate_left
 ·(intro w hSw;have hs:=HL.out _ hSw;(try dsimp only at hSw);go_simp;try with_reducible rfl)
 (try simp only[zz])
 refine tkA 7 ?_
 refine tkA 8 ?_
 refine tkA 9 ?_
 (try simp only[zz])
 refine rdH 10 (λK hK=>?_)
 go_simp
 refine hK.out _ _ (by exact(Oq _ _).drew.alloc (Sq _) _) (λhHeld=>?_)
 clear hK K
 (try simp only[zz])
 refine rdH 11 (λK hK=>?_)
 ((with_reducible apply V7);rfl;rfl;rfl;rfl;exact(show Cl 38 _ w1.heap.size (OC ⟨0,0,0,0,0,0⟩) from Qk (Qe rfl));skip)
 refine hK.out _ _ (by exact ZJ ((Oq _ _).drew.alloc (Sq _) _) (Sq _)) (λhHeld=>?_)
 clear hK K
 (try simp only[zz])
 refine tkA 12 ?_
 (try simp only[zz])
 refine wpAnyH_done Ow ?_ _
 obtain⟨G1,bw,cO1⟩:=yQ.out
 have kP:=HP.out _ hHeld
 have GW2:=G1.below hHeld
 have cO2:=(hHeld.block _ (Qc cO1)).trans cO1
 have bw2:=bw.trans (hHeld.mono bw.size)
 have hlen:=λty=>qap (GW2.gk.om _ _ rfl) G1.om ty
 have kT:=Ou (λh1 h2=>qis p (m1,m2) s1 s2 o _ ⟨D,GW2⟩ h1 hok hg h2)
 obtain⟨x0,x1,x2,x3,x4,x5⟩:=Qm cO2
 have aG:=Ou bw2
 have rZ:=Ou G1.len
 have HID:=Ou G1.ids
 clear HP HI HL yQ G1 GW2 cO1 cO2 bw bw2 hHeld hok
 cases there with
 | true =>
  have hex:∃x∈Qa s1.rs s2.rs,x.id=o.id:=by
   obtain⟨x,hx⟩:=Option.isSome_iff_exists.1 HT.out;exact⟨x,(Z1 HID.out).1 hx⟩
  clear hlen kT x0 x1 x2 x3 x4 x5;go_wp2_with fail
  go_ret;exact⟨52,s1,s2,rfl,Ou (.inr (.inl ⟨hg,rfl,hex,rfl,rfl,aG.out⟩))⟩
 | false =>
  have hno:∀x∈Qa s1.rs s2.rs,¬x.id=o.id:=by
   refine omL_none.1 ?_;have:=HT.out
   cases h:omL (Qa s1.rs s2.rs) o.id with
   | none=>rfl
   | some x=>rw[h]at this;cases this
  have yY:=Ou hno;clear hno;obtain⟨N,hN⟩:∃N,N=(Qa s1.rs s2.rs).length:=⟨_,rfl⟩
  rw[<-hN]at hlen rZ;have HN:=Ou hN;clear hN;by_cases h64:N=64
  ·have e64:((N:Int)==64)=true:=by simp[h64]
   have HE:=Ou h64;clear kT x0 x1 x2 x3 x4 x5 h64;go_wp2_with fail
   go_ret;exact⟨50,s1,s2,rfl,Ou (.inr (.inr ⟨hg,yY.out,.inl ⟨rfl,by rw[<-HN.out,HE.out],rfl,rfl,aG.out⟩⟩))⟩
  ·have e64:((N:Int)==64)=false:=by simp;omega
   have hlt:(Qa s1.rs s2.rs).length<64:=by have:=rZ.out;rw[<-HN.out];omega
   have kO:=Ou (kT.out yY.out hlt);have HLT:=Ou hlt;clear kT h64 hlt;go_wp2_with fail
   ((with_reducible refine kO.out.mono ?_);rintro e w5 ⟨rfl,s1',s2',hp⟩);go_wp2_with fail
   go_ret;exact⟨0,s1',s2',rfl,Ou (.inr (.inr ⟨hg,yY.out,.inr ⟨rfl,HLT.out,qit aG.out hp.out⟩⟩))⟩
theorem qiv (p:Nat)(m:Nat×Nat)(s1 s2:Gd)(o:Od)(w:World)(H:gWhole w p m s1 s2)(hg:Qj o=false) :
  Calls prog 199 #[.pointer (some ⟨p,0,none⟩),.agg #[.int .u64 o.id,.int .i64 o.acc,.int .i64 o.side,.int .i64 o.price,.int .i64 o.qty,.int .u64 o.seq]] w λe w'=>∃c s1' s2',e=.returned (.int .i64 c)/\Hid (Gi w w' p m s1 s2 s1' s2' o c):=by
 obtain⟨w0,hw0⟩:∃w0,w.alloc (.cells (OC o) 38)=w0:=⟨_,rfl⟩
 have b0:Ok w w0:=by rw[<-hw0];exact(Oq _ _).alloc (Sq _) _
 have cO:Cl 38 w0 w.heap.size (OC o):=by rw[<-hw0];exact Qe rfl
 have H0:=H.below b0
 have HM:Hid (Calls prog 208 #[.pointer (some ⟨p,0,none⟩)] w0 λe w'=>e=.returned (.bool true)/\w0=w'):=Ou (by obtain⟨D,h⟩:=H0;exact Kc _ _ _ _ _ _ h.gk)
 have qJ:Hid (Calls prog 65 #[.agg #[.int .u64 o.id,.int .i64 o.acc,.int .i64 o.side,.int .i64 o.price,.int .i64 o.qty,.int .u64 o.seq]] w0 λe w'=>e=.returned (.bool (Qj o))/\Gw w0 w'):=Ou (KI o w0)
 rw[hg]at qJ
 obtain⟨x0,x1,x2,x3,x4,x5⟩:=Qm cO
 have HB:=Ou b0
 clear b0 cO H0
 go_enter func199,ntmps199
 go_wp2_with fail
 ((with_reducible refine HM.out.mono ?_);rintro e w1 ⟨rfl,rfl⟩)
 go_wp2_with fail
 ((with_reducible refine qJ.out.mono ?_);rintro e w1 ⟨rfl,hb⟩)
 go_wp2_with fail
 go_ret
 exact⟨2,s1,s2,rfl,Ou (.inl ⟨rfl,hg,rfl,rfl,HB.out.trans (hb.b.mono HB.out.size)⟩)⟩
theorem qiw (p:Nat)(m:Nat×Nat)(s1 s2:Gd)(o:Od)(w:World)(H:gWhole w p m s1 s2)(hok:Od.ok w o) :
  Calls prog 199 #[.pointer (some ⟨p,0,none⟩),.agg #[.int .u64 o.id,.int .i64 o.acc,.int .i64 o.side,.int .i64 o.price,.int .i64 o.qty,.int .u64 o.seq]] w λe w'=>∃c s1' s2',e=.returned (.int .i64 c)/\Hid (Gi w w' p m s1 s2 s1' s2' o c):=by
 cases hg:Qj o with
 | false=>exact qiv p m s1 s2 o w H hg
 | true=>exact qiu p m s1 s2 o w H hok hg
def Za (id:Int)(q:List Od):List Od:=q.filter (λx=>!(x.id==id))
theorem qix (id:Int)(q:List Od):JF id (q.map (·.id))=(Za id q).map (·.id):=by
 unfold JF Za
 rw[List.filter_map]
 rfl
theorem Ya {o:Od}:∀{q:List Od},Ids q->o∈q->q.Perm (o :: Za o.id q)
 | [],_,h=>(by cases h)
 | x :: q,hi,h=>by
  obtain⟨h1,h2⟩:=List.pairwise_cons.1 hi;rcases List.mem_cons.1 h with rfl|h
  ·unfold Za;rw[List.filter_cons_of_neg Oy,List.filter_eq_self.2 (λy hy=>by have:=h1 y hy;simp;exact λe=>this e.symm)]
  ·have hx:¬x.id=o.id:=h1 o h;unfold Za;rw[List.filter_cons_of_pos (by simp[hx])];exact((Ya h2 h).cons x).trans (List.Perm.swap o x _)
theorem qaI {A M B:List Rw}(h:Ids (Qb (A++M++B))):Ids (Qb M):=by
 unfold Qb at h ⊢
 rw[Wv,Wv]at h
 exact(List.pairwise_append.1 (List.pairwise_append.1 h).1).2.1
def KY (w w':World)(m:Nat)(sd:Int)(g:Sg)(Q:List Rw)(L:List Od)(o:Od):Prop:=∃D' T' Q',
 w'.ownsMap prog 35 RV m 64 D'/\OmT D' (Za o.id L)/\SideTo w w' m sd g ⟨g.tb,g.sb,T'⟩/\T'.rows=Q'.map QG/\SideOk sd Q'/\(Qb Q).Perm (o :: Qb Q') /\
 (∀Y,VD (g.t.vals++Y)->(∀u∈g.t.vals++Y,∀k,u.ownBlock=some k->k<w.heap.size)->VD (T'.vals++Y))
theorem qaJ {w w0 w3 w5 w6:World}{m:Nat}{sd pr:Int}{g:Sg}{A M B:List Rw}{Tw T':Tr}(b0:Ok w w0)(hg:w0.grownBy w3 (some m))(hR:Rew w5 sd pr g A M B Tw)(hf:Fr (QE g) w3 w5)(bK:Fr (λb=>b=g.tb∨b∈Tw.blks) w5 w6)
  (gW:CxIn w6 g.tb g.sb .top T'.ptr) (htr:TrIn w6 T') (hsrt:Srt sd T'.rows) (hnd:T'.blks.Nodup) (hbl:∀b∈T'.blks,b∈Tw.blks∨w5.heap.size<=b) (hvl:∀v∈T'.vals,∀k,v.ownBlock=some k->QE g k∨w.heap.size<=k):SideTo w w6 m sd g ⟨g.tb,g.sb,T'⟩:=by
 have mU:Cl 3 w6 g.sb #[.int .i64 sd]:=bK.blk hR.sg.box (KA hR.sg hR.sg.box Ox Ox)
 have pE:Fr (QE g) w5 w6:=bK.mono (λk hk=>.inl (by
  rcases hk with rfl|hk
  ·exact .inr (.inl rfl)
  ·rw[hR.blks]at hk;exact .inr (.inr (.inl hk))))
 have f1:Fr (λk=>k=m∨QE g k) w w3:=(Fr.of_below (S:=λk=>k=m∨QE g k) b0).trans (Zv hg) (λk h=>.inl (.inl h))
 refine⟨⟨mU,gW,htr,hsrt,hnd⟩,rfl,rfl,λb hb=>?_,hvl,(f1.trans hf (λk h=>.inl (.inr h))).trans pE (λk h=>.inl (.inr h))⟩
 rcases hbl b hb with h|h
 ·rw[hR.blks]at h;exact .inl h
 ·exact .inr (Sk b0.size (Sk hg.size (Sk hf.size h)))
theorem qiy {w w0 w3 w5 w6:World}{m p ms:Nat}{D D':DataW Value}{g1 g2:Sg}{Q1 Q2:List Rw}{sd:Int}{g:Sg}{Q A B:List Rw}{mr:Rw}{o:Od}{Tw T':Tr}{v v':Value}
  (S:OwnS w p m ms D g1 g2 Q1 Q2 sd g Q) (dI:sd=1∨sd=2) (hI:Ids (Qa Q1 Q2)) (b0:Ok w w0) (pF:w0.grownBy w3 (some m)) (dR:SgIn w3 sd g) (dF:w3.ownsMap prog 35 RV m 64 D') (bM:OmT D' (Za o.id (Qa Q1 Q2)))
  (bS:Q=A++[mr]++B) (hA:∀a∈A,Qf sd a.pr mr.pr=true) (hB:∀b∈B,Qf sd mr.pr b.pr=true) (ho:o∈mr.q) (hne:Za o.id mr.q≠[])
  (hR:Rew w5 sd mr.pr g A [mr] B Tw) (hf:Fr (QE g) w3 w5) (hv:(mr.pr,v)∈g.t.items) (hvv:v'.ownBlock=v.ownBlock) (h6:TPut w5 w6 g.tb g.sb sd mr.pr Tw T' v' ((Za o.id mr.q).map (·.id))):KY w w6 m sd g Q (Qa Q1 Q2) o:=by
 obtain⟨M',e,tJ⟩:=hR.rows
 obtain⟨P,R,Z,r1,r2,r3,tN,iC⟩:=h6.rows
 rw[e]at r1
 obtain⟨e1,e2,e3⟩:=U9 rfl hA tJ hB r1 tN (λa ha=>by rcases r3 with h3 | ⟨q0,h3⟩<;>(rw[h3]at ha;simp at ha);rw[ha]) iC
 obtain⟨A',B',C',k1,k2,k3⟩:=h6.vals
 rw[hR.vals]at k1
 obtain⟨u,rfl,k4⟩:∃u,B'=[u]/\(mr.pr,u)∈Tw.items:=by
  rcases k3 with ⟨_,k3⟩|k3
  ·exact absurd (by rw[hR.items];exact hv) (k3 v)
  ·exact k3
 rw[hR.items]at k4
 have hu:=qaB dR.srt hv k4
 subst hu
 have bF:SideOk sd (A++[mr]++B):=by rw[<-bS];exact S.ok
 have zY:Ids (Qb (A++[mr]++B)):=by
  rw[<-bS];have hsub:∀x∈Qb Q,x∈Qa Q1 Q2:=S.mem;exact S.ids hI
 have zZ:Ids mr.q:=by simpa [Qb] using qaI zY
 have aX:=Ya zZ ho
 have iE:Fr (QE g) w3 w6:=hf.trans (h6.fr.mono (λk hk=>.inl (by
  rcases hk with rfl|hk
  ·exact .inr (.inl rfl)
  ·rw[hR.blks]at hk;exact .inr (.inr (.inl hk))))) (λ_ h=>.inl h)
 have hvl:∀x∈T'.vals,∀k,x.ownBlock=some k->QE g k∨w.heap.size<=k:=λx hx k hk=>by
  rw[k2]at hx;rcases List.mem_append.1 hx with hx|hx
  ·exact .inl (.inr (.inr (.inr ⟨x,by rw[k1];simp[hx],hk⟩)))
  ·rcases List.mem_cons.1 hx with rfl|hx
   ·exact .inl (.inr (.inr (.inr ⟨v,by rw[k1];simp,by rw[<-hvv];exact hk⟩)))
   ·exact .inl (.inr (.inr (.inr ⟨x,by rw[k1];simp[hx],hk⟩)))
 refine⟨D',T',A++⟨mr.pr,.slice none 0 0,Za o.id mr.q⟩ :: B,QQ dF iE (λh=>dR.no_map dF m h rfl),bM,qaJ b0 pF hR hf h6.fr h6.cx h6.tr h6.srt h6.nd h6.bl hvl,?_,?_,?_,?_⟩
 ·rw[r2,<-e1,<-e3];simp[QG]
 ·exact KP hA hB bF rfl hne (λx hx=>(bF.mem mr Oy x (List.mem_filter.1 hx).1)) ((bF.que mr Oy).filter _)
 ·rw[bS];unfold Qb;rw[Wv,Wv,Wv,List.flatMap_cons];simp only[List.flatMap_cons,List.flatMap_nil,List.append_nil,St];exact((aX.append_right _).append_left _).trans List.perm_middle
 ·intro Y hY hlt;rw[k2];exact Gh (A:=A') (B:=[v]) (C:=C') (Y:=Y) (by rw[<-k1];exact hY) (n:=w.heap.size) (by rw[<-k1];exact hlt) (.inr ⟨v,rfl,hvv⟩)
theorem qiz {w w0 w3 w5 w6:World}{m p ms:Nat}{D D':DataW Value}{g1 g2:Sg}{Q1 Q2:List Rw}{sd:Int}{g:Sg}{Q A B:List Rw}{mr:Rw}{o:Od}{Tw T':Tr}
  (S:OwnS w p m ms D g1 g2 Q1 Q2 sd g Q) (hI:Ids (Qa Q1 Q2)) (b0:Ok w w0) (pF:w0.grownBy w3 (some m)) (dR:SgIn w3 sd g) (dF:w3.ownsMap prog 35 RV m 64 D') (bM:OmT D' (Za o.id (Qa Q1 Q2)))
  (bS:Q=A++[mr]++B) (hA:∀a∈A,Qf sd a.pr mr.pr=true) (hB:∀b∈B,Qf sd mr.pr b.pr=true) (ho:o∈mr.q) (hne:Za o.id mr.q=[])
  (hR:Rew w5 sd mr.pr g A [mr] B Tw) (hf:Fr (QE g) w3 w5) (h6:TDrop w5 w6 g.tb g.sb sd mr.pr Tw T'):KY w w6 m sd g Q (Qa Q1 Q2) o:=by
 obtain⟨M',e,tJ⟩:=hR.rows
 obtain⟨P,R,Z,r1,r2,r3,tN,iC⟩:=h6.rows
 rw[e]at r1
 obtain⟨e1,e2,e3⟩:=U9 rfl hA tJ hB r1 tN (λa ha=>by rcases r3 with h3 | ⟨q0,h3⟩<;>(rw[h3]at ha;simp at ha);rw[ha]) iC
 obtain⟨A',B',C',k1,k2,k3⟩:=h6.vals
 rw[hR.vals]at k1
 have bF:SideOk sd (A++[mr]++B):=by rw[<-bS];exact S.ok
 have zZ:Ids mr.q:=by
  have:=qaI (by rw[<-bS];exact S.ids hI:Ids (Qb (A++[mr]++B)));simpa [Qb] using this
 have aX:=Ya zZ ho
 rw[hne]at aX
 have iE:Fr (QE g) w3 w6:=hf.trans (h6.fr.mono (λk hk=>.inl (by
  rcases hk with rfl|hk
  ·exact .inr (.inl rfl)
  ·rw[hR.blks]at hk;exact .inr (.inr (.inl hk))))) (λ_ h=>.inl h)
 refine⟨D',T',A++B,QQ dF iE (λh=>dR.no_map dF m h rfl),bM,qaJ b0 pF hR hf h6.fr h6.cx h6.tr h6.srt h6.nd (λb hb=>.inl (h6.bl b hb)) (λx hx k hk=>.inl (.inr (.inr (.inr ⟨x,?_,hk⟩)))),?_,UA bF,?_,?_⟩
 ·rw[k2]at hx;rw[k1];rcases List.mem_append.1 hx with hx|hx<;>simp[hx]
 ·rw[r2,<-e1,<-e3,List.map_append]
 ·rw[bS];unfold Qb;rw[Wv,Wv,Wv];simp only[List.flatMap_cons,List.flatMap_nil,List.append_nil,St];exact((aX.append_right _).append_left _).trans List.perm_middle
 ·intro Y hY _;rw[k2];rw[k1]at hY;refine hY.sub (List.Sublist.append (List.Sublist.append ?_ (List.Sublist.refl _)) (List.Sublist.refl _));exact List.sublist_append_left A' B'
section
variable {ops:Array Oper}{o:Oper}{a:Act}{w:World}{Q:Exit → Act → World → Prop}
theorem qiA {K:Act->World->Prop}{E:Prop}(hgd:Region.wanted o (yielded ops a.tmps)=true)(x y:Operand)(t k:TypeId)(ho:o.op=.call { callee:=.builtin .delete,args:=#[x,y],argTypes:=#[t,k] })(mv kv:Value)(hx:a.eval x=mv)(hy:a.eval y=kv){w':World}
  (hr:(Builtin.delete_ #[t,k] o.type #[mv,kv]).run prog w=.ok (.tuple #[]) w') (h:K (a.put o.dst (.tuple #[])) w'):if Region.wanted o (yielded ops a.tmps)=true then Oper.wp prog o a w K Q else E:=by
 rw[Sx hgd]
 unfold Oper.wp
 simp[execOp,ho,resolve,invoke,builtin,hx,hy,hr,Result.andThen]
 exact h
end
theorem qaK {w w6 w7:World}{m rb:Nat}{sd:Int}{g:Sg}{Q:List Rw}{L:List Od}{o:Od}{cs:Array Value}(h:KY w w6 m sd g Q L o)(hf:Fr (·=rb) w6 w7)(hc:Cl 38 w6 rb cs)(hr:w.heap.size<=rb):KY w w7 m sd g Q L o:=by
 obtain⟨D',T',Q',om,hO,sT,er,ok,pm,vd⟩:=h
 have hno:∀k,QE ⟨g.tb,g.sb,T'⟩ k->¬k=rb:=λk hk e=>by
  subst e;have d:∀{T T':TypeId} {cs cs':Array Value},Cl T w6 k cs->Cl T' w6 k cs'->T≠T'->False:=λa b c=>Kz a b c rfl;rcases sT.sg.cls hk with ⟨a,c,hc'⟩ | ⟨a,c,hc'⟩ | ⟨a,c,hc'⟩ | ⟨_,c,hc'⟩<;>exact d hc' hc Ox
 exact⟨D',T',Q',QQ om hf (λe=>ZR hc om e.symm),hO,⟨sT.sg.keep hf hno,sT.tb,sT.sb,sT.bl,sT.vl,sT.fr.trans hf (λk hk=>by subst hk;exact .inr hr)⟩,er,ok,pm,vd⟩
theorem qiB {o:Od}{L:List Od}(hi:Ids L)(ho:o∈L):(Za o.id L).length+(if (omL L o.id).isSome=true then 1 else 0)=L.length:=by
 rw[(Z1 hi).2 ⟨ho,rfl⟩,(Ya hi ho).length_eq]
 simp
theorem qaL (p m ms:Nat)(D:DataW Value)(g1 g2:Sg)(Q1 Q2:List Rw)(sd:Int)(g:Sg)(Q:List Rw)(o:Od)(w:World)(H:GW w p m ms D g1 g2 Q1 Q2)(S:OwnS w p m ms D g1 g2 Q1 Q2 sd g Q)(h12:(sd=1/\g=g1)∨(sd=2/\g=g2))
  (cT:VD g.t.vals) (hs:o.side=sd) (ho:o∈Qb Q) :
  Calls prog 207 #[.pointer (some ⟨p,0,none⟩),.int .u64 o.id] w λe w'=>e=.returned (.tuple #[.agg (OC o),.bool true])/\Hid (KY w w' m sd g Q (Qa Q1 Q2) o):=by
 subst hs
 have dI:=S.s12
 have iP:=S.mem o ho
 have hwf:=Ju (H.ok o iP).1.1
 obtain⟨w0,hw0⟩:∃w0,((w.alloc (.cells #[.int .u64 o.id] 35)).alloc (.cells (OC ⟨0,0,0,0,0,0⟩) 38))=w0:=⟨_,rfl⟩
 have b0:Ok w w0:=by rw[<-hw0];exact((Oq _ _).alloc (Sq _) _).alloc Oy _
 have cI:Cl 35 w0 w.heap.size #[.int .u64 o.id]:=by rw[<-hw0];exact Qp Oy (Qe rfl)
 have cR:Cl 38 w0 (w.heap.size+1) (OC ⟨0,0,0,0,0,0⟩):=by rw[<-hw0];exact Qe Oy
 have H0:=H.below b0
 have aC:=Ou (qar p m ms D g1 g2 Q1 Q2 o.id hwf w0 H0)
 rw[(Z1 H.ids).2 ⟨iP,rfl⟩]at aC
 have kI:w0.cell? ⟨w.heap.size,0,none⟩=some (.int .u64 o.id):=(Cl.c cI 0).trans rfl
 have HH:=Ou (Sv H (Sv S (Sv b0 (Sv cI (Sv cR (Sv cT (Sv ho iP)))))))
 clear H0 cI cR H S b0 cT ho iP
 go_enter func207,ntmps207
 go_wp2_with fail
 ((with_reducible refine aC.out.mono ?_);rintro e w1 ⟨rfl,hb1⟩)
 clear aC kI
 dsimp only[Option.getD,Option.isSome]
 obtain⟨w2,hw2⟩:∃w2,w1.alloc (.cells (OC o) 38)=w2:=⟨_,rfl⟩
 obtain⟨H,S,b0,cI,cR,cT,ho,iP⟩:=HH.out
 have b02:Ok w0 w2:=by rw[<-hw2];exact hb1.out.alloc hb1.out.size _
 have hz0:w0.heap.size=w.heap.size+2:=by rw[<-hw0];simp
 have b2:Ok w w2:=b0.trans (b02.mono b0.size)
 have hz1:w.heap.size+2<=w1.heap.size:=by rw[<-hz0];exact hb1.out.size
 have cO2:Cl 38 w2 w1.heap.size (OC o):=by rw[<-hw2];exact Qe rfl
 have cI2:Cl 35 w2 w.heap.size #[.int .u64 o.id]:=(b02.block _ (Qc cI)).trans cI
 have cR2:Cl 38 w2 (w.heap.size+1) (OC ⟨0,0,0,0,0,0⟩):=(b02.block _ (Qc cR)).trans cR
 have G2:=H.below b2
 have nQ:=G2.gk.om _ _ rfl
 obtain⟨w3,hr,D',dF,bM,hg3⟩:=qh5 (M:=Za o.id (Qa Q1 Q2)) (nQ.drew) H.om o.id hwf (λid=>qhU _ _ _) (qiB H.ids iP) (by have:=List.length_filter_le (λx:Od=>!(x.id==o.id)) (Qa Q1 Q2);have:=H.len;unfold Za;omega) 0
 have cK:w2.grownBy w3 (some m):=⟨hg3.os,hg3.tape,hg3.output,hg3.size,hg3.block⟩
 have HR:=Ou hr
 have nI:=ZR cI2 nQ
 have nO:=ZR cO2 nQ
 have nR:=ZR cR2 nQ
 have nP:=ZR G2.bookp nQ
 have HP:Hid (∀W,w2.grownBy W (some m)->W.cell? ⟨p,0,none⟩=some (.map (some m))):=Ou λW h=>(Cl.c ((Zv h).blk G2.bookp nP) 0).trans rfl
 have HI:Hid (∀W,w2.grownBy W (some m)->W.cell? ⟨w.heap.size,0,none⟩=some (.int .u64 o.id)):=Ou λW h=>(Cl.c ((Zv h).blk cI2 nI) 0).trans rfl
 have o6:=Ou cK
 have gk3:=G2.gk.setom cK dF H.mm
 have dR:SgIn w3 o.side g:=by
  rcases h12 with ⟨h,rfl⟩ | ⟨h,rfl⟩
  ·rw[h];exact gk3.s1 rfl
  ·rw[h];exact gk3.s2 rfl
 have cI3:=(Zv cK).blk cI2 nI
 have cO3:=(Zv cK).blk cO2 nO
 have cR3:=(Zv cK).blk cR2 nR
 have mH:=Ou (qaD h12 w3 gk3)
 have rV:=Ou (Xf g.tb g.sb o.side o.price g.t w3 (λ_=>dI) dR.box dR.cx dR.tr dR.srt)
 obtain⟨x0,x1,x2,x3,x4,x5⟩:=Qm cO3
 have HH3:=Ou (Sv b2 (Sv cK (Sv gk3 (Sv dR (Sv cI3 (Sv cO3 (Sv cR3 (Sv dF (Sv bM hz1)))))))))
 clear H S b0 cI cR cT ho iP b02 hz0 b2 cO2 cI2 cR2 G2 nQ dF bM hg3 cK hr nI nO nR nP gk3 dR cI3 cO3 cR3 hb1
 go_wp2_with fail
 refine wp_region_held_drew (S:=λW=>w2.grownBy W (some m)) Ow (by exact⟨rfl,rfl,rfl,Sq _,λ_ _ _=>rfl⟩) (λhHeld=>?_)
 refine tkA 0 ?_
 refine tkA 1 ?_
 refine tkA 2 ?_
 refine tkH 3 ?_ ?_ Ov ?_
 rotate_left
 ·(intro w hSw;have hs:=HP.out _ hSw;(try dsimp only at hSw);go_simp;try with_reducible rfl)
 (try simp only[zz])
 refine tkH 4 ?_ ?_ Ov ?_
 rotate_left
 ·(intro w hSw;have hs:=HI.out _ hSw;(try dsimp only at hSw);go_simp;try with_reducible rfl)
 (try simp only[zz])
 refine rdH 5 (λK hK=>?_)
 ((with_reducible apply qiA);rfl;rfl;rfl;rfl;exact HR.out;skip)
 refine hK.out _ _ (by exact o6.out) (λhHeld=>?_)
 clear hK K
 (try simp only[zz])
 refine wpAnyH_done Ow ?_ _
 clear HP HI HR
 go_wp2_with fail
 ((with_reducible refine mH.out.mono ?_);rintro e wS ⟨rfl,rfl⟩)
 clear mH
 go_wp2_with fail
 ((with_reducible refine rV.out.mono ?_);rintro e wG ⟨c,t,rfl,hh,n,rfl⟩)
 clear rV
 obtain⟨H,S,b0,cI,cR,cT,ho,iP⟩:=HH.out
 obtain⟨b2,cK,gk3,dR,cI3,cO3,cR3,dF,bM,hz1⟩:=HH3.out
 obtain⟨A,M,B,bS,hA,hB,hM⟩:=Gb hh.out.1 hh.out.2 S.eq S.ok
 have bF:SideOk o.side (A++M++B):=by rw[<-bS];exact S.ok
 obtain⟨a,v,q,l,r,mr,rfl,rfl,hmp,hqe,qY,hBr⟩:∃a v q l r mr,t=.node a o.price v q l r/\M=[mr]/\mr.pr=o.price/\q=mr.q.map (·.id)/\A.map QG=c.pre++l.rows/\B.map QG=r.rows++c.post:=by
  rcases hM with ⟨_,rfl⟩|h
  ·rw[bS,List.append_nil]at ho;rw[List.append_nil]at bF;obtain⟨x,hx,uS⟩:=List.mem_flatMap.1 ho;have hp:=(bF.mem x hx o uS).2;rcases List.mem_append.1 hx with hx|hx
   ·have:=hA x hx;rw[<-hp,Vs]at this;cases this
   ·have:=hB x hx;rw[<-hp,Vs]at this;cases this
  ·exact h
 have nE:o∈mr.q:=by
  rw[bS]at ho;obtain⟨x,hx,uS⟩:=List.mem_flatMap.1 ho;have hp:=(bF.mem x hx o uS).2;rcases List.mem_append.1 hx with hx|hx
  ·rcases List.mem_append.1 hx with hx|hx
   ·have:=hA x hx;rw[<-hp,Vs]at this;cases this
   ·rw[List.mem_singleton.1 hx]at uS;exact uS
  ·have:=hB x hx;rw[<-hp,Vs]at this;cases this
 have hown:=hh.out.1.tr.2.1
 subst hqe
 have n7:mr.q.length<=64:=by
  have h1:(Qb Q).length=(Qb A).length+mr.q.length+(Qb B).length:=by rw[bS];simp[Qb];omega
  have:=S.len;omega
 obtain⟨b1,cc,hv⟩:∃b1 cc,v=.slice (some ⟨b1,0,none⟩) (mr.q.map (·.id)).length cc:=by
  rcases hown.2 with ⟨_,h0⟩ | ⟨gg,cap,cur,hv,_⟩
  ·rw[List.length_map]at h0;have:=List.length_pos_of_mem nE;omega
  ·exact⟨gg,cap,hv⟩
 subst hv
 dsimp only[Tr.val]
 have hbl:b1<w.heap.size:=H.lt b1 (S.ft b1 (.inr (.inr (.inr ⟨_,by
  obtain⟨A3,C3,hpv⟩:=JY c;rw[<-hh.out.1.eq,hpv];simp only[Tr.vals]
  exact Ws _ (Wx _ (Wx _ List.mem_cons_self)),rfl⟩))))
 have gN:(w3.drewN n).ownsRow 0 35 1 (.slice (some ⟨b1,0,none⟩) (mr.q.map (·.id)).length cc) (mr.q.map (·.id)).length (idV (mr.q.map (·.id))):=Qh hown (Fr.drewN (Fr.refl (λ_=>False) _) n) (λ_ _ h=>h)
 have iU:=Ou (qh4 (w3.drewN n) 0 b1 cc w.heap.size o.id (mr.q.map (·.id)) gN (by rw[List.length_map];omega) cI3 Oz)
 rw[qix]at iU
 have jN:((Za o.id mr.q).map (·.id)).length=(Za o.id mr.q).length:=List.length_map _
 have mZ:(mr.q.map (·.id)).length=mr.q.length:=List.length_map _
 have HLe:=Ou (Sv jN mZ)
 obtain⟨N,hN⟩:∃N,N=((Za o.id mr.q).map (·.id)).length:=⟨_,rfl⟩
 rw[<-hN]at iU
 obtain⟨N0,hN0⟩:∃N0,N0=(mr.q.map (·.id)).length:=⟨_,rfl⟩
 rw[<-hN0]at iU ⊢
 have HN:=Ou (Sv hN hN0)
 have yR:=Ou (Sv bS (Sv hA (Sv hB (Sv hmp (Sv qY (Sv hBr (Sv nE (Sv n7 hbl))))))))
 have hN64:N<=64:=by
  have:=List.length_filter_le (λx:Od=>!(x.id==o.id)) mr.q;rw[hN,jN];unfold Za;omega
 clear H S b0 cI cR cT ho iP b2 cK gk3 dR cI3 cO3 cR3 dF bM hz1 bS hA hB bF qY hBr nE hown n7 hbl gN jN mZ hN hN0 x0 x1 x2 x3 x4 x5
 have uN:=Ve
 go_wp2_with fail
 ((with_reducible refine iU.out.mono ?_);rintro e w5 ⟨rfl,h5⟩)
 clear iU
 obtain⟨H,S,b0,cI,cR,cT,ho,iP⟩:=HH.out
 obtain⟨b2,cK,gk3,dR,cI3,cO3,cR3,dF,bM,hz1⟩:=HH3.out
 obtain⟨bS,hA,hB,dX,qY,hBr,nE,n7,hbl⟩:=yR.out
 have f35:Fr (·=b1) w3 w5:=((Fr.drewN (Fr.refl (λ_=>False) w3) n).mono (λ_ h=>h.elim)).trans (Zv h5.out.2.2) (λ_ h=>.inl h)
 have jH:(Value.slice (some ⟨b1,0,none⟩) (mr.q.map (·.id)).length cc)∈g.t.vals/\(o.price,Value.slice (some ⟨b1,0,none⟩) (mr.q.map (·.id)).length cc)∈g.t.items:=by
  obtain⟨A3,C3,hpv⟩:=JY c;obtain⟨A2,C2,hpi⟩:=Vo c;rw[<-hh.out.1.eq,hpv,hpi];simp only[Tr.vals,Tr.items];exact⟨Ws _ (Wx _ (Wx _ List.mem_cons_self)),Ws _ (Wx _ (Wx _ List.mem_cons_self))⟩
 have dU:Rew w5 o.side o.price g A [mr] B (c.plug (.node a o.price (.slice (some ⟨b1,0,none⟩) (mr.q.map (·.id)).length cc) (JG o.id (mr.q.map (·.id))) l r)) :=
  qaA dR hh.out.1 rfl cT f35 (by rw[qal];have:=h5.out.2.1;rw[HN.out.2]at this;exact this) qY hBr
 generalize hTw:c.plug (.node a o.price (.slice (some ⟨b1,0,none⟩) (mr.q.map (·.id)).length cc) (JG o.id (mr.q.map (·.id))) l r)=Tw at dU
 have f35s:Fr (QE g) w3 w5:=f35.mono (λk hk=>.inl (by subst hk;exact .inr (.inr (.inr ⟨_,jH.1,rfl⟩))))
 obtain⟨cu,xI⟩:=dR.tr.vcl _ jH.1 b1 rfl
 have cO5:Cl 38 w5 w1.heap.size (OC o):=f35.blk cO3 (Kz cO3 xI Ox)
 have cR5:Cl 38 w5 (w.heap.size+1) (OC ⟨0,0,0,0,0,0⟩):=f35.blk cR3 (Kz cR3 xI Ox)
 obtain⟨x0,x1,x2,x3,x4,x5⟩:=Qm cO5
 have hN0I:(0:Int)<=(N:Int):=by omega
 by_cases hz:N=0
 ·have ez:((N:Int)==0)=true:=by simp[hz]
  have hnil:Za o.id mr.q=[]:=by
   have h1:=HN.out.1;rw[HLe.out.1,hz]at h1;exact List.eq_nil_of_length_eq_zero h1.symm
  have qI:=Ou (qhi g.tb g.sb o.side o.price Tw w5 dI dU.sg.box dU.sg.cx dU.sg.tr dU.sg.srt dU.sg.nd);have oJ:=Ou (λw6 T' (h6:TDrop w5 w6 g.tb g.sb o.side o.price Tw T')=>qiz S H.ids b2 cK dR dF bM bS (by rw[dX];exact hA) (by rw[dX];exact hB) nE hnil (by rw[dX];exact dU) f35s (by rw[dX];exact h6));have CH5:=Ou (λw6 T' (h6:TDrop w5 w6 g.tb g.sb o.side o.price Tw T')=>Sv (h6.fr.blk cO5 (KA dU.sg cO5 Ox Ox)) (h6.fr.blk cR5 (KA dU.sg cR5 Ox Ox)));clear H S b0 cI cR cT ho iP b2 cK gk3 dR cI3 cO3 cR3 dF bM bS hA hB qY hBr nE n7 hbl f35 jH dU f35s xI cO5 cR5 h5 hnil hh hz
  go_wp2_with fail
  ((with_reducible refine qI.out.mono ?_);rintro e w6 ⟨rfl,T',h6⟩);have oJ:=Ou (oJ.out w6 T' h6.out);obtain⟨cO6,cR6⟩:=CH5.out w6 T' h6.out;clear qI h6 x0 x1 x2 x3 x4 x5;obtain⟨x0,x1,x2,x3,x4,x5⟩:=Qm cO6;obtain⟨z0,z1,z2,z3,z4,z5⟩:=Qm cR6;have f0:=Cl.f cR6 (k:=0);have f1:=Cl.f cR6 (k:=1);have f2:=Cl.f cR6 (k:=2);have f3:=Cl.f cR6 (k:=3);have f4:=Cl.f cR6 (k:=4);have f5:=Cl.f cR6 (k:=5);have sM:=Ou cR6;clear cO6 cR6 CH5;go_wp2_with fail
  have hf7:Fr (·=w.heap.size+1) w6 (Zm w6 (w.heap.size+1) o):=qay o (Fr.refl _ _);have hX:=JV o sM.out;refine bodyPost_ret (ZP rfl _ _ _ rfl o _ hX _ rfl) rfl ?_;exact⟨rfl,Ou (qaK oJ.out hf7 sM.out Oz)⟩
 ·have ez:((N:Int)==0)=false:=by simp;omega
  have hnn:Za o.id mr.q≠[]:=λe=>hz (by rw[HN.out.1,HLe.out.1,e];rfl);have kT:=Ou (TR g.tb g.sb o.side o.price Tw (.slice (some ⟨b1,0,none⟩) N cc) ((Za o.id mr.q).map (·.id)) w5 dI dU.sg.box dU.sg.cx dU.sg.tr dU.sg.srt dU.sg.nd (by have:=h5.out.1;rw[<-HN.out.1];exact this));have oJ:=Ou (λw6 T' (h6:TPut w5 w6 g.tb g.sb o.side o.price Tw T' (.slice (some ⟨b1,0,none⟩) N cc) ((Za o.id mr.q).map (·.id)))=>qiy (v:=.slice (some ⟨b1,0,none⟩) (mr.q.map (·.id)).length cc) (v':=.slice (some ⟨b1,0,none⟩) N cc) S dI H.ids b2 cK dR dF bM bS (by rw[dX];exact hA) (by rw[dX];exact hB) nE hnn (by rw[dX];exact dU) f35s (by rw[dX];exact jH.2) rfl (by rw[dX];exact h6))
  have CH5:=Ou (λw6 T' (h6:TPut w5 w6 g.tb g.sb o.side o.price Tw T' (.slice (some ⟨b1,0,none⟩) N cc) ((Za o.id mr.q).map (·.id)))=>Sv (h6.fr.blk cO5 (KA dU.sg cO5 Ox Ox)) (h6.fr.blk cR5 (KA dU.sg cR5 Ox Ox)));clear H S b0 cI cR cT ho iP b2 cK gk3 dR cI3 cO3 cR3 dF bM bS hA hB qY hBr nE n7 hbl f35 jH dU f35s xI cO5 cR5 h5 hnn hh hz;go_wp2_with fail
  ((with_reducible refine kT.out.mono ?_);rintro e w6 ⟨rfl,T',h6⟩);have oJ:=Ou (oJ.out w6 T' h6.out);obtain⟨cO6,cR6⟩:=CH5.out w6 T' h6.out;clear kT h6 x0 x1 x2 x3 x4 x5;obtain⟨x0,x1,x2,x3,x4,x5⟩:=Qm cO6;obtain⟨z0,z1,z2,z3,z4,z5⟩:=Qm cR6;have f0:=Cl.f cR6 (k:=0);have f1:=Cl.f cR6 (k:=1);have f2:=Cl.f cR6 (k:=2);have f3:=Cl.f cR6 (k:=3);have f4:=Cl.f cR6 (k:=4);have f5:=Cl.f cR6 (k:=5);have sM:=Ou cR6;clear cO6 cR6 CH5;go_wp2_with fail
  have hf7:Fr (·=w.heap.size+1) w6 (Zm w6 (w.heap.size+1) o):=qay o (Fr.refl _ _);have hX:=JV o sM.out;refine bodyPost_ret (ZP rfl _ _ _ rfl o _ hX _ rfl) rfl ?_;exact⟨rfl,Ou (qaK oJ.out hf7 sM.out Oz)⟩
structure gTakeIs (w w':World) (p:Nat) (m:Nat×Nat) (s1 s2 s1' s2':Gd) (o:Od):Prop where
 tu:gTurnIs w w' p m s1 s2 s1' s2'
 perm:(Qa s1.rs s2.rs).Perm (o :: Qa s1'.rs s2'.rs)
 e2:o.side=1->s2'=s2
 e1:o.side=2->s1'=s1
theorem qaM {L M:List Od}{o:Od}(hi:Ids L)(ho:o∈L)(h:L.Perm (o :: M)):(Za o.id L).Perm M:=((Ya hi ho).symm.trans h).cons_inv
theorem qaN {L M:List Od}{o:Od}{w w':World}(hi:Ids L)(h:L.Perm (o :: M))(hl:L.length<=64)(hok:∀x∈L,Od.ok w x/\Qj x=true):Ids M/\M.length<=64/\∀x∈M,Od.ok w' x/\Qj x=true:=by
 have hi':=Xo hi h
 refine⟨(List.pairwise_cons.1 hi').2,?_,λx hx=>hok x (h.mem_iff.2 (List.mem_cons_of_mem _ hx))⟩
 have:=h.length_eq
 simp at this
 omega
theorem qiC {w w':World}{p:Nat}{m:Nat×Nat}{D:DataW Value}{s1 s2:Gd}{o:Od}(H:GW w p m.1 m.2 D s1.g s2.g s1.rs s2.rs)(h:KY w w' m.1 1 s1.g s1.rs (Qa s1.rs s2.rs) o)(hs:o.side=1)(ho:o∈Qa s1.rs s2.rs) :
  ∃s1',gTakeIs w w' p m s1 s2 s1' s2 o:=by
 obtain⟨D',T',Q',om,hO,sT,er,ok,pm,vd⟩:=h
 have hperm:(Qa s1.rs s2.rs).Perm (o :: Qa Q' s2.rs):=pm.append_right (Qb s2.rs)
 obtain⟨i',l',k'⟩:=qaN (w':=w') H.ids hperm H.len H.ok
 have dH:Ids (Za o.id (Qa s1.rs s2.rs)):=H.ids.filter _
 have hlt:∀u∈s1.g.t.vals++s2.g.t.vals,∀k,u.ownBlock=some k->k<w.heap.size:=λu hu k hk=>by
  rcases List.mem_append.1 hu with hu|hu
  ·exact(H.gk.s1 rfl).tr.vlt u hu k hk
  ·exact(H.gk.s2 rfl).tr.vlt u hu k hk
 exact⟨⟨⟨s1.g.tb,s1.g.sb,T'⟩,Q'⟩,qaG H sT om (hO.perm dH (qaM H.ids ho hperm)) er ok i' l' k' (vd _ H.vd hlt),hperm,λ_=>rfl,λh=>by omega⟩
theorem qiD {w w':World}{p:Nat}{m:Nat×Nat}{D:DataW Value}{s1 s2:Gd}{o:Od}(H:GW w p m.1 m.2 D s1.g s2.g s1.rs s2.rs)(h:KY w w' m.1 2 s2.g s2.rs (Qa s1.rs s2.rs) o)(hs:o.side=2)(ho:o∈Qa s1.rs s2.rs) :
  ∃s2',gTakeIs w w' p m s1 s2 s1 s2' o:=by
 obtain⟨D',T',Q',om,hO,sT,er,ok,pm,vd⟩:=h
 have hperm:(Qa s1.rs s2.rs).Perm (o :: Qa s1.rs Q'):=(pm.append_left (Qb s1.rs)).trans List.perm_middle
 obtain⟨i',l',k'⟩:=qaN (w':=w') H.ids hperm H.len H.ok
 have dH:Ids (Za o.id (Qa s1.rs s2.rs)):=H.ids.filter _
 have hlt:∀u∈s2.g.t.vals++s1.g.t.vals,∀k,u.ownBlock=some k->k<w.heap.size:=λu hu k hk=>by
  rcases List.mem_append.1 hu with hu|hu
  ·exact(H.gk.s2 rfl).tr.vlt u hu k hk
  ·exact(H.gk.s1 rfl).tr.vlt u hu k hk
 exact⟨⟨⟨s2.g.tb,s2.g.sb,T'⟩,Q'⟩,qaH H sT om (hO.perm dH (qaM H.ids ho hperm)) er ok i' l' k' ((vd _ (H.vd.perm List.perm_append_comm) hlt).perm List.perm_append_comm),hperm,λh=>by omega,λ_=>rfl⟩
theorem qaO (p:Nat)(m:Nat×Nat)(s1 s2:Gd)(o:Od)(id:Int)(w:World)(H:gWhole w p m s1 s2)(ho:o∈Qa s1.rs s2.rs)(hid:o.id=id) :
  Calls prog 207 #[.pointer (some ⟨p,0,none⟩),.int .u64 id] w λe w'=>e=.returned (.tuple #[QF (some o),.bool true])/\∃s1' s2',Hid (gTakeIs w w' p m s1 s2 s1' s2' o):=by
 subst hid
 obtain⟨D,H⟩:=H
 rcases List.mem_append.1 ho with uQ|uQ
 ·have hs:=Z7 H.ok1 o uQ;refine(qaL p m.1 m.2 D s1.g s2.g s1.rs s2.rs 1 s1.g s1.rs o w H H.own1 (.inl ⟨rfl,rfl⟩) (List.pairwise_append.1 H.vd).1 hs uQ).mono λe w' h=>⟨h.1,?_⟩
  obtain⟨s1',h'⟩:=qiC H h.2.out hs ho;exact⟨s1',s2,Ou h'⟩
 ·have hs:=Z7 H.ok2 o uQ;refine(qaL p m.1 m.2 D s1.g s2.g s1.rs s2.rs 2 s2.g s2.rs o w H H.own2 (.inr ⟨rfl,rfl⟩) (List.pairwise_append.1 H.vd).2.1 hs uQ).mono λe w' h=>⟨h.1,?_⟩
  obtain⟨s2',h'⟩:=qiD H h.2.out hs ho;exact⟨s1,s2',Ou h'⟩
section
variable {ops:Array Oper}{rest:List Oper}{o:Oper}{a:Act}{w:World}{Q:Exit → Act → World → Prop}
theorem Vu (hgd:o.guard=none)(x y:Operand)(ho:o.op=.store 38 x y)(g:Nat)(z:Od)(hx:a.eval x=.pointer (some ⟨g,0,none⟩))(hy:a.eval y=.agg (OC z))(z':Od)(t:TypeId)
  (hg:Cl t w g (OC z')) (h:wpList prog ops Q rest (a.put o.dst undef) (w.setRow g (OC z))):wpList prog ops Q (o :: rest) a w :=
 wpList_plain hgd λK hK=>wp_store_row _ x y ho g _ hx hy _ _ hg (qax z) rfl (all_oneCell_toArray (cs:=Qo z) (JC z)) (hK _ _ h)
end
theorem qaP {T:TypeId}{w:World}{k g:Nat}{cs cs':Array Value}(h:Cl T w k cs)(hne:k≠g):Cl T (w.setRow g cs') k cs:=(setRow_other w g k cs' hne).trans h
theorem qiE (p:Nat)(m:Nat×Nat)(s1 s2:Gd)(id:Int)(hwf:(Lit.int .u64 id).wf=true)(w:World)(H:gWhole w p m s1 s2)(hno:∀x∈Qa s1.rs s2.rs,¬x.id=id) :
  Calls prog 207 #[.pointer (some ⟨p,0,none⟩),.int .u64 id] w λe w'=>e=.returned (.tuple #[QF none,.bool false])/\Hid (Ok w w'):=by
 obtain⟨D,H⟩:=H
 obtain⟨w0,hw0⟩:∃w0,((w.alloc (.cells #[.int .u64 id] 35)).alloc (.cells (OC ⟨0,0,0,0,0,0⟩) 38))=w0:=⟨_,rfl⟩
 have b0:Ok w w0:=by rw[<-hw0];exact((Oq _ _).alloc (Sq _) _).alloc Oy _
 have cI:Cl 35 w0 w.heap.size #[.int .u64 id]:=by rw[<-hw0];exact Qp Oy (Qe rfl)
 have cR:Cl 38 w0 (w.heap.size+1) (OC ⟨0,0,0,0,0,0⟩):=by rw[<-hw0];exact Qe Oy
 have hz0:w0.heap.size=w.heap.size+2:=by rw[<-hw0];simp
 have aC:=Ou (qar p m.1 m.2 D s1.g s2.g s1.rs s2.rs id hwf w0 (H.below b0))
 rw[omL_none.2 hno]at aC
 have kI:w0.cell? ⟨w.heap.size,0,none⟩=some (.int .u64 id):=(Cl.c cI 0).trans rfl
 have HH:=Ou (Sv b0 (Sv cR hz0))
 clear H b0 cI cR hz0
 go_enter func207,ntmps207
 go_wp2_with fail
 ((with_reducible refine aC.out.mono ?_);rintro e w1 ⟨rfl,hb1⟩)
 clear aC kI
 dsimp only[Option.getD,Option.isSome,zO]
 obtain⟨b0,cR,hz0⟩:=HH.out
 have b1:Ok w w1:=b0.trans (hb1.out.mono b0.size)
 have cR1:Cl 38 w1 (w.heap.size+1) (OC ⟨0,0,0,0,0,0⟩):=(hb1.out.block _ (Qc cR)).trans cR
 have hne:w.heap.size+1<w1.heap.size:=Qc cR1
 obtain⟨w2,hw2⟩:∃w2,w1.alloc (.cells (OC ⟨0,0,0,0,0,0⟩) 38)=w2:=⟨_,rfl⟩
 have b12:Ok w1 w2:=by rw[<-hw2];exact(Oq _ _).alloc (Sq _) _
 have cR2:Cl 38 w2 (w.heap.size+1) (OC ⟨0,0,0,0,0,0⟩):=(b12.block _ hne).trans cR1
 have cN2:Cl 38 w2 w1.heap.size (OC ⟨0,0,0,0,0,0⟩):=by rw[<-hw2];exact Qe rfl
 have HR:=Ou (Sv cR2 (Sv (b1.trans (b12.mono b1.size)) (Sv cN2 hne)))
 have fQ:Hid (w.heap.size+1≠w1.heap.size):=Ou Oz
 clear b0 cR hz0 b1 cR1 b12 cR2 hb1 cN2 hne
 go_wp2_with (first|((with_reducible apply Vu);rfl;rfl;rfl;rfl;exact HR.out.2.2.1;skip)|(refine Vu rfl _ _ rfl (w.heap.size+1) ⟨0,0,0,0,0,0⟩ rfl rfl _ _ (qaP HR.out.1 fQ.out) ?_))
 have hX:Cl 38 ((w2.setRow w1.heap.size (OC ⟨0,0,0,0,0,0⟩)).setRow (w.heap.size+1) (OC ⟨0,0,0,0,0,0⟩)) (w.heap.size+1) (OC ⟨0,0,0,0,0,0⟩):=setRow_heap _ _ _ _ _ _ (qaP HR.out.1 fQ.out)
 have hb:=ZJ (cs:=OC ⟨0,0,0,0,0,0⟩) (ZJ (cs:=OC ⟨0,0,0,0,0,0⟩) HR.out.2.1 (show w.heap.size<=w1.heap.size by have:=HR.out.2.2.2;omega)) (show w.heap.size<=w.heap.size+1 by omega)
 refine bodyPost_ret (ZP rfl _ _ _ rfl ⟨0,0,0,0,0,0⟩ _ hX _ rfl) rfl ?_
 exact⟨rfl,Ou hb⟩
structure gLessIs (w w':World) (p:Nat) (m:Nat×Nat) (s1 s2 s1' s2':Gd) (o:Od) (qty:Int):Prop where
 tu:gTurnIs w w' p m s1 s2 s1' s2'
 now:Qa s1'.rs s2'.rs=(Qa s1.rs s2.rs).map (QR o.id qty)
 e2:o.side=1->s2'=s2
 e1:o.side=2->s1'=s1
def qaQ (w w':World)(p:Nat)(m:Nat×Nat)(s1 s2 s1' s2':Gd)(id qty c:Int):Prop :=
 (c=51/\(∀x∈Qa s1.rs s2.rs,¬x.id=id)/\s1'=s1/\s2'=s2/\Ok w w') ∨
 ∃o∈Qa s1.rs s2.rs,o.id=id/\((c=2/\(qty<1∨o.qty<qty)/\s1'=s1/\s2'=s2/\Ok w w')∨(c=0/\¬qty<1/\qty=o.qty/\gTakeIs w w' p m s1 s2 s1' s2' o)∨(c=0/\¬qty<1/\qty<o.qty/\gLessIs w w' p m s1 s2 s1' s2' o qty))
def Jj (id qty:Int)(r:Rw):Rw:=⟨r.pr,r.v,r.q.map (QR id qty)⟩
theorem qaR (id qty:Int)(Q:List Rw):(Q.map (Jj id qty)).map QG=Q.map QG:=by
 rw[List.map_map]
 apply List.map_congr_left
 intro r _
 simp only[Function.comp,QG,Jj,List.map_map]
 congr 1
 apply List.map_congr_left
 intro x _
 exact(ZI id qty x).1
theorem qaS (id qty:Int)(Q:List Rw):Qb (Q.map (Jj id qty))=(Qb Q).map (QR id qty):=by
 unfold Qb
 rw[List.flatMap_map,List.map_flatMap]
 rfl
theorem qaT {s id qty:Int}{Q:List Rw}(h:SideOk s Q):SideOk s (Q.map (Jj id qty)):=by
 refine⟨List.pairwise_map.2 h.rows,λr hr=>?_,λr hr x hx=>?_,λr hr=>?_⟩
 ·obtain⟨r0,h0,rfl⟩:=List.mem_map.1 hr;have:=h.some r0 h0;simpa [Jj] using this
 ·obtain⟨r0,h0,rfl⟩:=List.mem_map.1 hr;obtain⟨y,hy,rfl⟩:=List.mem_map.1 hx;have:=h.mem r0 h0 y hy;rw[(ZI id qty y).2.1,(ZI id qty y).2.2];exact this
 ·obtain⟨r0,h0,rfl⟩:=List.mem_map.1 hr;refine List.pairwise_map.2 ((h.que r0 h0).imp λ{x y} hxy=>?_);rw[UV];exact hxy
theorem qaU {id qty:Int}{Q:List Rw}(h:∀x∈Qb Q,¬x.id=id):Q.map (Jj id qty)=Q:=by
 rw[List.map_congr_left (g:=λr=>r)]
 ·exact List.map_id' Q
 ·intro r hr;obtain⟨p,v,q⟩:=r;have:q.map (QR id qty)=q.map (λx=>x):=List.map_congr_left λx hx=>Sw (h x (List.mem_flatMap.2 ⟨_,hr,hx⟩));simp only[Jj];rw[this,List.map_id']
theorem qiF {L:List Od}{o:Od}{qty:Int}(hi:Ids L)(ho:o∈L)(id:Int):omL (L.map (QR o.id qty)) id=if id=(Qz o qty).id then some (Qz o qty) else omL L id:=by
 have hi':Ids (L.map (QR o.id qty)):=List.pairwise_map.2 (hi.imp λ{x y} h=>by rw[(ZI _ _ x).1,(ZI _ _ y).1];exact h)
 apply Option.ext
 intro x
 rw[Z1 hi']
 by_cases e:id=o.id
 ·rw[Sx (by exact e)];constructor
  ·rintro ⟨hx,dJ⟩;obtain⟨y,hy,rfl⟩:=List.mem_map.1 hx;have vQ:y=o:=Vr hi hy ho (by rw[(ZI _ _ y).1]at dJ;rw[dJ,e]);subst vQ;unfold QR;rw[Sx rfl]
  ·intro h;injection h with h;subst h;refine⟨List.mem_map.2 ⟨o,ho,by unfold QR;rw[Sx rfl]⟩,e.symm⟩
 ·rw[Sw (by exact e),Z1 hi];constructor
  ·rintro ⟨hx,dJ⟩;obtain⟨y,hy,rfl⟩:=List.mem_map.1 hx;have vQ:¬y.id=o.id:=λh=>e (by rw[<-dJ,(ZI _ _ y).1,h]);have e1:QR o.id qty y=y:=Sw vQ;rw[e1]at dJ ⊢;exact⟨hy,dJ⟩
  ·rintro ⟨hx,dJ⟩;exact⟨List.mem_map.2 ⟨x,hx,Sw (λh=>e (by rw[<-dJ,h]))⟩,dJ⟩
theorem qiG {w w0 w':World}{p m1 m2:Nat}{D D':DataW Value}{s1 s2:Gd}{o:Od}{qty:Int}(H:GW w0 p m1 m2 D s1.g s2.g s1.rs s2.rs)(b0:Ok w w0)(hg:w0.grownBy w' (some m1))(om:w'.ownsMap prog 35 RV m1 64 D')(hO:OmT D' ((Qa s1.rs s2.rs).map (QR o.id qty)))
  (ho:o∈Qa s1.rs s2.rs) (h1:¬qty<1) (h2:qty<o.qty):∃s1' s2',gLessIs w w' p (m1,m2) s1 s2 s1' s2' o qty:=by
 have hbk:Qa (s1.rs.map (Jj o.id qty)) (s2.rs.map (Jj o.id qty))=(Qa s1.rs s2.rs).map (QR o.id qty):=by
  unfold Qa;rw[qaS,qaS,List.map_append]
 have hft:∀k,gft p (m1,m2) ⟨s1.g,s1.rs.map (Jj o.id qty)⟩ ⟨s2.g,s2.rs.map (Jj o.id qty)⟩ k->gft p (m1,m2) s1 s2 k:=λk h=>h
 refine⟨⟨s1.g,s1.rs.map (Jj o.id qty)⟩,⟨s2.g,s2.rs.map (Jj o.id qty)⟩,⟨⟨D',H.gk.setom hg om H.mm,by rw[hbk];exact hO,?_,?_,qaT H.ok1,qaT H.ok2,?_,?_,?_,H.vd,H.bd,H.tb,H.mm,H.sb⟩,?_,λk hk=>.inl (hft k hk)⟩,hbk,λhs=>?_,λhs=>?_⟩
 ·dsimp only;rw[qaR];exact H.e1
 ·dsimp only;rw[qaR];exact H.e2
 ·dsimp only;rw[hbk];exact List.pairwise_map.2 (H.ids.imp λ{x y} h=>by rw[(ZI _ _ x).1,(ZI _ _ y).1];exact h)
 ·dsimp only;rw[hbk,List.length_map];exact H.len
 ·dsimp only;rw[hbk];intro x hx;obtain⟨y,hy,rfl⟩:=List.mem_map.1 hx;unfold QR
  split
  ·rename_i vQ
   have:y=o:=Vr H.ids hy ho vQ;subst this;exact UW (H.ok y hy) h1 h2
  ·exact H.ok y hy
 ·exact((Fr.of_below (S:=gft p (m1,m2) s1 s2) b0).trans (Zv hg) (λk h=>.inl (by subst h;exact .inr (.inl rfl))))
 ·have hn:∀x∈Qb s2.rs,¬x.id=o.id:=λx hx e=>by
   have:=Vr H.ids (Wx _ hx) ho e;subst this;have:=Z7 H.ok2 x hx;omega
  obtain⟨gg,rr⟩:=s2;dsimp only at hn ⊢;rw[qaU hn]
 ·have hn:∀x∈Qb s1.rs,¬x.id=o.id:=λx hx e=>by
   have:=Vr H.ids (Ws _ hx) ho e;subst this;have:=Z7 H.ok1 x hx;omega
  obtain⟨gg,rr⟩:=s1;dsimp only at hn ⊢;rw[qaU hn]
theorem qiH {w W w':World}{p:Nat}{m:Nat×Nat}{s1 s2 s1' s2':Gd}{o:Od}(hb:Ok w W)(h:gTakeIs W w' p m s1 s2 s1' s2' o):gTakeIs w w' p m s1 s2 s1' s2' o :=
 ⟨⟨h.tu.wh,(Fr.of_below hb:Fr (gft p m s1 s2) w W).trans h.tu.fr (λ_ h=>.inl h),λk hk=>(h.tu.ft k hk).imp id (λh'=>Sk hb.size h')⟩,h.perm,h.e2,h.e1⟩
theorem qiI (p:Nat)(m:Nat×Nat)(s1 s2:Gd)(id qty:Int)(hwf:(Lit.int .u64 id).wf=true)(w:World)(H:gWhole w p m s1 s2)(hno:∀x∈Qa s1.rs s2.rs,¬x.id=id) :
  Calls prog 202 #[.pointer (some ⟨p,0,none⟩),.int .u64 id,.int .i64 qty] w λe w'=>e=.returned (.int .i64 51)/\Hid (Ok w w'):=by
 obtain⟨D,H⟩:=H
 have HM:=Ou (Kc (some ⟨p,0,none⟩) (some (m.1,m.2)) D s1.g s2.g w H.gk)
 have k0:w.cell? ⟨p,0,none⟩=some (.map (some m.1)):=(H.bookp.c 0).trans rfl
 have hl:=look_ok (H.gk.om _ _ rfl) H.om id hwf
 rw[omL_none.2 hno]at hl
 have hl':(Instr.lookup 133 (.map (some m.1)) (.int .u64 id) true).run prog w=.ok (.tuple #[.agg (OC ⟨0,0,0,0,0,0⟩),.bool false]) w:=hl
 clear H hl
 obtain⟨m1,m2⟩:=m
 dsimp only at HM k0 hl'
 go_enter func202,ntmps202
 go_wp2_with ((with_reducible refine HM.out.mono ?_);rintro e w1 ⟨rfl,rfl⟩;clear HM)
 go_ret
 exact⟨rfl,Ou ((Oq _ _).alloc (Sq _) _)⟩
theorem qaV (p:Nat)(m:Nat×Nat)(s1 s2:Gd)(o:Od)(id qty:Int)(w:World)(H:gWhole w p m s1 s2)(ho:o∈Qa s1.rs s2.rs)(hid:o.id=id)(hq:qty<1∨o.qty<qty) :
  Calls prog 202 #[.pointer (some ⟨p,0,none⟩),.int .u64 id,.int .i64 qty] w λe w'=>e=.returned (.int .i64 2)/\Hid (Ok w w'):=by
 obtain⟨D,H⟩:=H
 obtain⟨m1,m2⟩:=m
 subst hid
 have hwf:=Ju (H.ok o ho).1.1
 have HM:=Ou (Kc (some ⟨p,0,none⟩) (some (m1,m2)) D s1.g s2.g w H.gk)
 have k0:w.cell? ⟨p,0,none⟩=some (.map (some m1)):=(H.bookp.c 0).trans rfl
 have hl:=look_ok (H.gk.om _ _ rfl) H.om o.id hwf
 rw[(Z1 H.ids).2 ⟨ho,rfl⟩]at hl
 have hl':(Instr.lookup 133 (.map (some m1)) (.int .u64 o.id) true).run prog w=.ok (.tuple #[.agg (OC o),.bool true]) w:=hl
 clear H hl ho
 have hB:Ok w (w.alloc (.cells (OC o) 38)):=(Oq _ _).alloc (Sq _) _
 by_cases q1:qty<1
 ·have g1:decide (qty<1)=true:=Sy q1;clear hq;go_enter func202,ntmps202;go_wp2_with ((with_reducible refine HM.out.mono ?_);rintro e w1 ⟨rfl,rfl⟩;clear HM)
  go_ret;exact⟨rfl,Ou hB⟩
 ·have g1:decide (qty<1)=false:=Sz q1;have q2:o.qty<qty:=by omega
  have g2:decide (o.qty<qty)=true:=Sy q2;clear hq;go_enter func202,ntmps202;go_wp2_with ((with_reducible refine HM.out.mono ?_);rintro e w1 ⟨rfl,rfl⟩;clear HM)
  go_ret;exact⟨rfl,Ou hB⟩
theorem qiJ (p:Nat)(m:Nat×Nat)(s1 s2:Gd)(o:Od)(id qty:Int)(w:World)(H:gWhole w p m s1 s2)(ho:o∈Qa s1.rs s2.rs)(hid:o.id=id)(q1:¬qty<1)(hq:qty=o.qty) :
  Calls prog 202 #[.pointer (some ⟨p,0,none⟩),.int .u64 id,.int .i64 qty] w λe w'=>e=.returned (.int .i64 0)/\∃s1' s2',Hid (gTakeIs w w' p m s1 s2 s1' s2' o):=by
 obtain⟨D,H⟩:=H
 obtain⟨m1,m2⟩:=m
 subst hid
 have hwf:=Ju (H.ok o ho).1.1
 have HM:=Ou (Kc (some ⟨p,0,none⟩) (some (m1,m2)) D s1.g s2.g w H.gk)
 have k0:w.cell? ⟨p,0,none⟩=some (.map (some m1)):=(H.bookp.c 0).trans rfl
 have hl:=look_ok (H.gk.om _ _ rfl) H.om o.id hwf
 rw[(Z1 H.ids).2 ⟨ho,rfl⟩]at hl
 have hl':(Instr.lookup 133 (.map (some m1)) (.int .u64 o.id) true).run prog w=.ok (.tuple #[.agg (OC o),.bool true]) w:=hl
 have hB:Ok w (w.alloc (.cells (OC o) 38)):=(Oq _ _).alloc (Sq _) _
 have HT:=Ou (qaO p (m1,m2) s1 s2 o o.id _ ⟨D,H.below hB⟩ ho rfl)
 have g1:decide (o.qty<1)=false:=Sz Oz
 have g2:decide (o.qty<o.qty)=false:=Sz Oz
 have g3:¬o.qty<1:=by omega
 have g4:¬o.qty<o.qty:=by omega
 have g5:(o.qty==o.qty)=true:=by simp
 have HB:=Ou hB
 subst hq
 clear H hl ho q1 hB
 go_enter func202,ntmps202
 go_wp2_with (first|((with_reducible refine HM.out.mono ?_);rintro e w1 ⟨rfl,rfl⟩;clear HM)|((with_reducible refine HT.out.mono ?_);rintro e w5 ⟨rfl,s1',s2',h5⟩;clear HT))
 go_ret
 exact⟨rfl,s1',s2',Ou (qiH HB.out h5.out)⟩
theorem qiK (p:Nat)(m:Nat×Nat)(s1 s2:Gd)(o:Od)(id qty:Int)(w:World)(H:gWhole w p m s1 s2)(ho:o∈Qa s1.rs s2.rs)(hid:o.id=id)(q1:¬qty<1)(hq:qty<o.qty) :
  Calls prog 202 #[.pointer (some ⟨p,0,none⟩),.int .u64 id,.int .i64 qty] w λe w'=>e=.returned (.int .i64 0)/\∃s1' s2',Hid (gLessIs w w' p m s1 s2 s1' s2' o qty):=by
 obtain⟨D,H⟩:=H
 obtain⟨m1,m2⟩:=m
 subst hid
 have hwf:=Ju (H.ok o ho).1.1
 have HM:=Ou (Kc (some ⟨p,0,none⟩) (some (m1,m2)) D s1.g s2.g w H.gk)
 have k0:w.cell? ⟨p,0,none⟩=some (.map (some m1)):=(H.bookp.c 0).trans rfl
 have hl:=look_ok (H.gk.om _ _ rfl) H.om o.id hwf
 rw[(Z1 H.ids).2 ⟨ho,rfl⟩]at hl
 have hl':(Instr.lookup 133 (.map (some m1)) (.int .u64 o.id) true).run prog w=.ok (.tuple #[.agg (OC o),.bool true]) w:=hl
 have hB:Ok w (w.alloc (.cells (OC o) 38)):=(Oq _ _).alloc (Sq _) _
 obtain⟨w3,hw3⟩:∃w3,w.alloc (.cells (OC (Qz o qty)) 38)=w3:=⟨_,rfl⟩
 have b3:Ok w w3:=by rw[<-hw3];exact(Oq _ _).alloc (Sq _) _
 have cO:Cl 38 w3 w.heap.size (OC (Qz o qty)):=by rw[<-hw3];exact Qe rfl
 have G3:=H.below b3
 have dF:=G3.gk.om _ _ rfl
 have gZ:=(H.ok o ho).1
 obtain⟨w',hr,D',xW,mO,hg'⟩:=qaq (M:=(Qa s1.rs s2.rs).map (QR o.id qty)) (dF.drew) Oz H.om (Qz o qty) hwf (qiF H.ids ho) (by rw[List.length_map];rw[Sx (by show (omL _ o.id).isSome=true;rw[(Z1 H.ids).2 ⟨ho,rfl⟩];rfl)]) (by rw[List.length_map];exact H.len)
 have hg3:w3.grownBy w' (some m1):=⟨hg'.os,hg'.tape,hg'.output,hg'.size,hg'.block⟩
 have HR:Hid ((Instr.mapUpdate 133 (.map (some m1)) (.int .u64 o.id) (.agg (OC (Qz o qty)))).run prog w3.drew=.ok () w'):=Ou hr
 have o6:=Ou hg3
 have nO:=ZR cO dF
 have nP:=ZR G3.bookp dF
 have HP:Hid (∀W,w3.grownBy W (some m1)->W.cell? ⟨p,0,none⟩=some (.map (some m1))):=Ou λW h=>(Cl.c ((Zv h).blk G3.bookp nP) 0).trans rfl
 have HO:Hid (∀W,w3.grownBy W (some m1)->Cl 38 W w.heap.size (OC (Qz o qty))):=Ou λW h=>(Zv h).blk cO nO
 have HF:=Ou (qiG (qty:=qty) G3 b3 hg3 xW mO ho q1 hq)
 have hqr:-9223372036854775808<=o.qty/\o.qty<=9223372036854775807:=gZ.2.2.2.2.1
 have g1:decide (qty<1)=false:=Sz q1
 have g2:decide (o.qty<qty)=false:=Sz Oz
 have g4:¬o.qty<qty:=by omega
 have g5:(qty==o.qty)=false:=by simp;omega
 have ew:IntKind.i64.wrap (o.qty-qty)=o.qty-qty:=by rw[Wz];omega
 have ew2:wrap64 (o.qty-qty)=o.qty-qty:=by unfold wrap64;omega
 clear H hl ho hB b3 cO G3 dF gZ hr xW mO hg' hg3 nO nP hqr hq
 go_enter func202,ntmps202
 go_wp2_with ((with_reducible refine HM.out.mono ?_);rintro e w1 ⟨rfl,rfl⟩;clear HM)
 rw[show w.alloc (.cells #[.int .u64 o.id,.int .i64 o.acc,.int .i64 o.side,.int .i64 o.price,.int .i64 (o.qty-qty),.int .u64 o.seq] 38)=w3 from hw3]
 refine wp_region_held_drew (S:=λW=>w3.grownBy W (some m1)) Ow (by exact⟨rfl,rfl,rfl,Sq _,λ_ _ _=>rfl⟩) (λhHeld=>?_)
 refine tkA 0 ?_
 refine tkA 1 ?_
 refine tkA 2 ?_
 refine tkH 3 ?_ ?_ Ov ?_
 rotate_left
 ·(intro w hSw;have hs:=HP.out _ hSw;(try dsimp only at hSw);go_simp;try with_reducible rfl)
 (try simp only[zz])
 refine tkA 4 ?_
 refine tkH 5 ?_ ?_ Ov ?_
 rotate_left
 ·(intro w hSw;obtain⟨x0,x1,x2,x3,x4,x5⟩:=Qm (HO.out _ hSw);(try dsimp only at hSw);go_simp;try with_reducible rfl)
 (try simp only[zz])
 refine rdH 6 (λK hK=>?_)
 ((with_reducible apply qaC);rfl;rfl;rfl;rfl;rfl;exact HR.out;skip)
 refine hK.out _ _ (by exact o6.out) (λhHeld=>?_)
 clear hK K
 (try simp only[zz])
 refine wpAnyH_done Ow ?_ _
 clear HP HO HR
 go_wp2_with fail
 go_ret
 obtain⟨s1',s2',h⟩:=HF.out
 exact⟨rfl,s1',s2',Ou h⟩
theorem qiL (p:Nat)(m:Nat×Nat)(s1 s2:Gd)(id qty:Int)(hwf:(Lit.int .u64 id).wf=true)(w:World)(H:gWhole w p m s1 s2) :
  Calls prog 202 #[.pointer (some ⟨p,0,none⟩),.int .u64 id,.int .i64 qty] w λe w'=>∃c s1' s2',e=.returned (.int .i64 c)/\Hid (qaQ w w' p m s1 s2 s1' s2' id qty c):=by
 by_cases hx:∃x∈Qa s1.rs s2.rs,x.id=id
 ·obtain⟨o,ho,hid⟩:=hx;by_cases h1:qty<1
  ·exact(qaV p m s1 s2 o id qty w H ho hid (.inl h1)).mono λe w' h=>⟨2,s1,s2,h.1,Ou (.inr ⟨o,ho,hid,.inl ⟨rfl,.inl h1,rfl,rfl,h.2.out⟩⟩)⟩
  by_cases h2:o.qty<qty
  ·exact(qaV p m s1 s2 o id qty w H ho hid (.inr h2)).mono λe w' h=>⟨2,s1,s2,h.1,Ou (.inr ⟨o,ho,hid,.inl ⟨rfl,.inr h2,rfl,rfl,h.2.out⟩⟩)⟩
  by_cases h3:qty=o.qty
  ·exact(qiJ p m s1 s2 o id qty w H ho hid h1 h3).mono λe w' ⟨h,s1',s2',k⟩=>⟨0,s1',s2',h,Ou (.inr ⟨o,ho,hid,.inr (.inl ⟨rfl,h1,h3,k.out⟩)⟩)⟩
  ·exact(qiK p m s1 s2 o id qty w H ho hid h1 Oz).mono λe w' ⟨h,s1',s2',k⟩=>⟨0,s1',s2',h,Ou (.inr ⟨o,ho,hid,.inr (.inr ⟨rfl,h1,by omega,k.out⟩)⟩)⟩
 ·have hno:∀x∈Qa s1.rs s2.rs,¬x.id=id:=λx iF e=>hx ⟨x,iF,e⟩;exact(qiI p m s1 s2 id qty hwf w H hno).mono λe w' h=>⟨51,s1,s2,h.1,Ou (.inl ⟨rfl,hno,rfl,rfl,h.2.out⟩)⟩
theorem qiM (a b:Nat)(t1 t2:Sg)(h1:t1.tb=a)(h2:t2.tb=b):((DataW.map ([]:List (Lit×DataW Value))).put (.int .i64 1) (.held (.pointer (some ⟨a,0,none⟩)))).put (.int .i64 2) (.held (.pointer (some ⟨b,0,none⟩)))=Z8 t1 t2:=by
 subst h1 h2
 simp[Z8,DataW.put,DataW.insert,Lit.sameKey,Lit.before]
theorem qiN (w:World):Calls prog 51 #[] w λe w'=>∃p m s1 s2,e=.returned (.pointer (some ⟨p,0,none⟩))/\Hid (gWhole w' p m s1 s2/\Qa s1.rs s2.rs=[]/\Ok w w'/\∀k,gft p m s1 s2 k->w.heap.size<=k):=by
 have hmm:=@run_makeMap prog
 obtain⟨W1,hW1⟩:∃W1,(w.alloc (.map #[] 0)).alloc (.map #[] 0)=W1:=⟨_,rfl⟩
 have b1:Ok w W1:=by rw[<-hW1];exact((Oq _ _).alloc (Sq _) _).alloc Oy _
 have z1:W1.heap.size=w.heap.size+2:=by rw[<-hW1];simp
 have dQ:W1.ownsMap prog 35 RV w.heap.size 0 (.map []):=by
  rw[<-hW1];exact(World.ownsMap_made w prog 35 RV).alloc _
 have qE:W1.ownsMap prog 3 RV (w.heap.size+1) 0 (.map []):=by
  rw[<-hW1];have:=World.ownsMap_made (w.alloc (.map #[] 0)) prog 3 RV;rw[World.size_alloc]at this;exact this
 have HH:=Ou (Sv b1 (Sv z1 (Sv dQ qE)))
 have iN:=Ou (U3 1 W1)
 clear b1 z1 dQ qE
 go_enter func51,ntmps51
 go_wp2_with fail
 ((with_reducible refine iN.out.mono ?_);rintro e w2 ⟨rfl,h2⟩)
 obtain⟨b1,z1,dQ,qE⟩:=HH.out
 have sm2:=QQ qE (Fr.of_below (S:=λ_=>False) h2.out.2.1) (λh=>h)
 obtain⟨w3,hr3,vX,t3⟩:=sm2.store Vg underlying136 (by unfold maxLen;omega) (keyOf_int_mk underlying3 (by decide:(Lit.int .i64 1).wf=true)) (show RV (.pointer (some ⟨W1.heap.size+1,0,none⟩))=some (.held (.pointer (some ⟨W1.heap.size+1,0,none⟩)),[]) from rfl)
 have kO:=Ou (U3 2 w3)
 have qK:=Ou (Sv h2.out (Sv vX t3.grown))
 clear b1 z1 dQ qE h2 sm2 vX t3 iN
 go_wp2_with fail
 ((with_reducible refine kO.out.mono ?_);rintro e w4 ⟨rfl,h4⟩)
 obtain⟨⟨yA,b2,z2⟩,vX,g3⟩:=qK.out
 have vY:=QQ vX (Fr.of_below (S:=λ_=>False) h4.out.2.1) (λh=>h)
 obtain⟨w5,hr5,vZ,t5⟩:=vY.store Vg underlying136 (by unfold maxLen;omega) (keyOf_int_mk underlying3 (by decide:(Lit.int .i64 2).wf=true)) (show RV (.pointer (some ⟨w3.heap.size+1,0,none⟩))=some (.held (.pointer (some ⟨w3.heap.size+1,0,none⟩)),[]) from rfl)
 have yR:=Ou (Sv h4.out (Sv vZ t5.grown))
 clear yA b2 z2 vX g3 vY vZ t5 h4 kO
 go_wp2_with fail
 go_ret
 obtain⟨b1,z1,dQ,qE⟩:=HH.out
 obtain⟨⟨yA,b2,z2⟩,_,g3⟩:=qK.out
 obtain⟨⟨sg4,b4,z4⟩,vZ,g5⟩:=yR.out
 rw[qiM (W1.heap.size+1) (w3.heap.size+1) ⟨W1.heap.size+1,W1.heap.size,.nil⟩ ⟨w3.heap.size+1,w3.heap.size,.nil⟩ rfl rfl]at vZ
 have hz3:=g3.size
 have hz5:=g5.size
 have f23:=Zv g3
 have f45:=Zv g5
 -- side 1
 have k1:SgIn w3 1 ⟨W1.heap.size+1,W1.heap.size,.nil⟩:=yA.keep f23 (λk hk=>yA.no_map (QQ qE (Fr.of_below (S:=λ_=>False) b2) (λh=>h)) k hk)
 have k2:=k1.below b4
 have vY:=QQ (qK.out.2.1) (Fr.of_below (S:=λ_=>False) b4) (λh=>h)
 have k3:SgIn w5 1 ⟨W1.heap.size+1,W1.heap.size,.nil⟩:=k2.keep f45 (λk hk=>k2.no_map vY k hk)
 have k4:SgIn w5 2 ⟨w3.heap.size+1,w3.heap.size,.nil⟩:=sg4.keep f45 (λk hk=>sg4.no_map vY k hk)
 have nQ:=QQ dQ (Fr.of_below (S:=λ_=>False) b2) (λh=>h)
 have dF:=QQ nQ f23 Oz
 have om4:=QQ dF (Fr.of_below (S:=λ_=>False) b4) (λh=>h)
 have om5:=QQ om4 f45 Oz
 have bw3:Ok w w3:=(b1.trans (b2.mono b1.size)).trans ((f23.below (B:=w.heap.size) (λk hk=>by rw[hk];omega) (by have:=b2.size;omega)))
 have bw5:Ok w w5:=(bw3.trans (b4.mono bw3.size)).trans ((f45.below (B:=w.heap.size) (λk hk=>by rw[hk];omega) (by have:=b4.size;omega)))
 have b6:Ok w5 (w5.alloc (.cells #[.map (some w.heap.size),.map (some (w.heap.size+1))] 138)):=(Oq _ _).alloc (Sq _) _
 refine⟨w5.heap.size,(w.heap.size,w.heap.size+1),⟨⟨W1.heap.size+1,W1.heap.size,.nil⟩,[]⟩,⟨⟨w3.heap.size+1,w3.heap.size,.nil⟩,[]⟩,rfl,Ou ⟨⟨.map [],⟨⟨.inr ⟨_,rfl,Qe rfl⟩,λa b e=>?_,λa b e=>?_,λ_=>k3.below b6,λ_=>k4.below b6⟩,qhV,rfl,rfl,⟨List.Pairwise.nil,λ_ h=>(by cases h),λ_ h=>(by cases h),λ_ h=>(by cases h)⟩,⟨List.Pairwise.nil,λ_ h=>(by cases h),λ_ h=>(by cases h),λ_ h=>(by cases h)⟩,List.Pairwise.nil,by simp[Qa,Qb],λ_ h=>(by cases h),List.Pairwise.nil,λ_ h=>(by cases h),?_,?_,?_⟩⟩,rfl,bw5.trans (b6.mono bw5.size),?_⟩⟩
 ·injection e with e;injection e with e1 e2;subst e1;exact(QQ om5 (Fr.of_below (S:=λ_=>False) b6) (λh=>h)).mono Oz
 ·injection e with e;injection e with e1 e2;subst e2;exact QQ vZ (Fr.of_below (S:=λ_=>False) b6) (λh=>h)
 ·show W1.heap.size+1≠w3.heap.size+1;omega
 ·show w.heap.size≠w.heap.size+1;omega
 ·show W1.heap.size≠w3.heap.size;omega
 ·have hb2:=b2.size;have hb4:=b4.size;rintro k (rfl|rfl|rfl|hk|hk)
  ·omega
  ·exact Sq _
  ·exact Nat.le_succ _
  ·rcases hk with rfl|rfl|hk | ⟨v,hv,_⟩
   ·show w.heap.size<=W1.heap.size;omega
   ·show w.heap.size<=W1.heap.size+1;omega
   ·cases hk
   ·cases hv
  ·rcases hk with rfl|rfl|hk | ⟨v,hv,_⟩
   ·show w.heap.size<=w3.heap.size;omega
   ·show w.heap.size<=w3.heap.size+1;omega
   ·cases hk
   ·cases hv
attribute [local go_sem] Oper.semAt_some
theorem qaW (tb:Nat)(w:World) :
  Calls prog 211 #[.pointer (some ⟨tb,0,none⟩)] w λe w'=>e=.returned (.func (.func 221) #[] #[.pointer (some ⟨w.heap.size,0,none⟩)])/\w'=w.alloc (.cells #[.pointer (some ⟨tb,0,none⟩)] 134):=by
 have uN:=Ve
 go_enter func211,ntmps211
 go_wp2_with fail
 go_ret
 exact⟨rfl,rfl⟩
abbrev kv (x:Int×Value):Array Value:=#[.int .i64 x.1,x.2]
theorem qiO (t:Tr):t.items.length=t.rows.length:=by
 have h:=congrArg List.length (V9 t)
 simpa using h
theorem qaX:∀{Q:List Rw},(∀r∈Q,r.q≠[])->Q.length<=(Qb Q).length
 | [],_=>Nat.zero_le _
 | r :: Q,h=>by
  have h1:=qaX (Q:=Q) (λx hx=>h x (List.mem_cons_of_mem _ hx));have h2:0<r.q.length:=List.length_pos_iff.2 (h r (List.mem_cons_self ..));have e:Qb (r :: Q)=r.q++Qb Q:=rfl;rw[e,Su,Wq];omega
end
section
open Go.RowKit Go.Sort Go.Lib Go.Maps
theorem qiP (p m ms:Nat)(D:DataW Value)(g1 g2:Sg)(Q1 Q2:List Rw)(w:World)(H:GW w p m ms D g1 g2 Q1 Q2)(B:Nat)(hB:∀k,Kd p m ms g1 g2 k->k<B)(hBw:B<=w.heap.size)
  (v:Value) (n:Nat) (X:List Od) (hown:w.ownsRow B 38 6 v n (ol X)) (hn:n<=10000) (A:Option Addr) (c:Nat) (Y:List Od) (hY:∀x∈Y,x∈Qa Q1 Q2) (hQ:QIn w B A Y) (hm:Y.length<=1000) :
  Calls prog 212 #[.pointer (some ⟨p,0,none⟩),v,.slice A Y.length c] w λe w'=>∃v',e=.returned v'/\Hid (w'.ownsRow B 38 6 v' (n+Y.length) (ol (X++Y))/\Below B w w'/\Fr (λj=>v.ownBlock=some j) w w'):=by
 obtain⟨i0,hi0,hz0,hz1,hz2⟩:=info_parts qau
 have HH:=Ou H
 have HB:=Ou hB
 have HQ:=Ou hQ
 have HY:=Ou hY
 clear H hB hQ hY
 have xL:(Y.length:Int)<=1000:=by omega
 go_enter func212,ntmps212
 go_wp2_with fail
 obtain⟨N,hN⟩:∃N,N=Y.length:=⟨_,rfl⟩
 rw[<-hN]at hm xL ⊢
 have HN:=Ou hN
 clear hN
 go_loopg [1,11] N (λkx s1 iG wr=>∃k:Nat,iG=.int .i64 (k:Int)/\k<=N/\N-k<=kx/\wr.ownsRow B 38 6 s1 (n+k) (ol (X++Y.take k))/\Hid (Below B w wr/\Fr (λj=>v.ownBlock=some j) w wr/\∀j,s1.ownBlock=some j->v.ownBlock=some j∨w.heap.size<=j))
 case atStart=>exact⟨0,rfl,by omega,by omega,by simpa using hown,Below.refl _ _,Fr.refl _ _,λ_ h=>.inl h⟩
 case round =>
  obtain⟨k,rfl,hk,aM,hown',hd⟩:=hrel;by_cases hlt:k<N
  ·have aF:(k:Int)<(N:Int):=by omega
   have d8:(0:Int)<=(k:Int):=by omega
   have lK:k<Y.length:=by rw[<-HN.out];exact hlt
   obtain⟨g,rfl,hgB,hc⟩:=(HQ.out.below hd.out.1) k lK;obtain⟨x,ex⟩:∃x,Y[k]! = x:=⟨_,rfl⟩
   rw[ex]at hc;have vO:x∈Y:=by rw[<-ex,Sj Y k lK];exact Wt _
   have qA:=HY.out x vO;have G:=HH.out.fr (qas hd.out.1) (λj hj hbad=>by have:=HB.out j hj;omega);have hsome:omL (Qa Q1 Q2) x.id=some x:=(Z1 G.ids).2 ⟨qA,rfl⟩;have hl:=Xr (G.gk.om _ _ rfl) G.om x.id (Ju (G.ok x qA).1.1);rw[hsome]at hl;have hl':(Instr.lookup 133 (.map (some m)) (.int .u64 x.id) false).run prog wr=.ok (.agg (OC x)) wr:=hl;have k0:wr.cell? ⟨p,0,none⟩=some (.map (some m)):=(G.bookp.c 0).trans rfl
   have HS:Hid (ol (X++Y.take (k+1))=ol (X++Y.take k)++Qo x):=Ou (by
    rw[List.take_succ_eq_append_getElem lK,<-St,Ck,<-Sj Y k lK,ex])
   have hsz:=hd.out.1.size;have pV:n+k<=11000:=by omega
   clear ex vO qA G hsome hl;generalize x.id=xi at *;go_wp2_with (at_builtin;refine wpList_append_own_at _ rfl _ _ 22 rfl B 38 i0 (.agg (OC ⟨0,0,0,0,0,0⟩)) 6 48 underlying22 hi0 hz0 hz1 hz2 rfl Ox _ _ _ rfl (hown'.alloc _) ⟨wr.heap.size,0,none⟩ 1 1 (Qo x) rfl rfl ?c1 ?c2 ?c3 ?c4 ?c5 ?_)
   case c1=>exact qat wr x _
   case c2=>exact JC x
   case c3=>unfold maxLen;omega
   case c4=>omega
   case c5=>simp;omega
   intro v1 w1 hown1 hg1 _ hloc
   have cY:Hid (Below B w w1/\Fr (λj=>v.ownBlock=some j) w w1/\∀j,v1.ownBlock=some j->v.ownBlock=some j∨w.heap.size<=j):=Ou ⟨Below.grown (hd.out.1.alloc (Sk hBw hsz) _) hg1 (by simp;omega) (λk hk=>(hown'.lt k hk).1),(hd.out.2.1.alloc _).grown hg1 hd.out.2.2,λj e=>by
    rcases hloc with h|h
    ·exact hd.out.2.2 j (by rw[<-h];exact e)
    ·rw[h]at e;injection e with e;right;rw[<-e];omega⟩
   rw[<-HS.out]at hown1;clear hg1 hloc hown' hd;go_wp2_with fail
   go_roundg (N-(k+1))
   case measure=>omega
   case rel=>exact⟨k+1,by go_num,by omega,by omega,hown1,cY⟩
  ·have aF:¬(k:Int)<(N:Int):=by omega
   obtain rfl:k=N:=by omega
   rw[List.take_of_length_le (by rw[<-HN.out];exact Sq _)]at hown';have HF:=Ou (Sv hown' (Sv hd.out.1 hd.out.2.1));clear hown' hd;go_wp2_with fail
   go_ret;have eN:=HN.out;subst eN;refine⟨?v,?e,?h⟩
   case h=>exact HF
   case e=>rfl
end
section
open Go.RowKit Go.Sort Go.Lib Go.Maps Go.Shelf
abbrev Ix (T:Tr):={ x:Int×Value // x∈T.items }
def Zh {T:Tr}(l:List (Ix T)):List (Int×Value):=l.map Subtype.val
theorem Xw {T:Tr}(l:List (Ix T))(x:Ix T):Zh (l++[x])=Zh l++[x.1]:=by unfold Zh;simp
theorem qaY (n:Nat)(S:Nat->Prop)(Bt tb sb:Nat)(s:Int)(T:Tr)(w:World)(zS:Cl 134 w Bt #[.pointer (some ⟨tb,0,none⟩)])(hS:SgIn w s ⟨tb,sb,T⟩)(hb:∀b∈T.blks,¬S b)(hv:∀v∈T.vals,∀k,v.ownBlock=some k->¬S k) :
  SeqStopsK Fence.wide n prog 221 #[.pointer (some ⟨Bt,0,none⟩)] (λx:Ix T=>kv x.1) (Fr S) (λys=>Zh ys=T.items) (λpre=>Zh pre <+: T.items) T.items.length w:=λll J Jx W hW hJ _ hY h0=>by
 have sW:=hS.below hW
 have cW:=(hW.block _ (Qc zS)).trans zS
 refine(qhx n ll Bt tb sb S T (λx=>x∈T.items) (λl W=>∃pre:List (Ix T),Zh pre=l/\J pre W) (λl W=>∃pre:List (Ix T),Zh pre=l/\Jx pre W) (λl W h=>by
   obtain⟨pre,e,h⟩:=h
   exact⟨pre,e,hJ pre W W.drew none h ⟨rfl,rfl,rfl,Sq _,λ_ _ _=>rfl⟩ (λr e=>by cases e)⟩)
  (λm l x W1 hp hl hx=>by
   obtain⟨pre,rfl,hp⟩:=hp;refine qhv rfl m ((hY pre ⟨x,hx⟩ W1 hp (by unfold Zh at hl;simpa using hl)).mono ?_);rintro e W' (⟨h1,h2,h3⟩ | ⟨h1,h2⟩)
   ·exact .inl ⟨h1,⟨_,Xw pre ⟨x,hx⟩,h2⟩,h3⟩
   ·exact .inr ⟨h1,⟨_,Xw pre ⟨x,hx⟩,h2⟩⟩) W ((Cl.c cW 0).trans rfl) sW.cx sW.tr hb hv (λ_ h=>h) ⟨[],rfl,h0⟩).mono ?_
 rintro e w' ⟨he,(⟨ys,e1,pre,e2,h⟩ | ⟨l,h1,pre,e2,h⟩)⟩
 ·exact⟨he,.inl ⟨pre,e2.trans e1,h⟩⟩
 ·exact⟨he,.inr ⟨pre,(by show Zh pre <+: T.items;rw[e2];exact h1),h⟩⟩
theorem Gj {W:World}:∀{t:Tr},TrIn W t->∀x∈t.items,∃q,(x.1,q)∈t.rows/\W.ownsRow 0 35 1 x.2 q.length (idV q)/\x.2∈t.vals
 | .nil,_,x,h=>(by cases h)
 | .node a k v q l r,ht,x,h=>by
  obtain⟨_,h1,h2,h3⟩:=ht;unfold Tr.items at h;rcases List.mem_append.1 h with h|h
  ·obtain⟨q',e1,e2,e3⟩:=Gj h2 x h;exact⟨q',by simp[Tr.rows,e1],e2,by simp[Tr.vals,e3]⟩
  ·rcases List.mem_cons.1 h with rfl|h
   ·exact⟨q,by simp[Tr.rows],h1,by simp[Tr.vals]⟩
   ·obtain⟨q',e1,e2,e3⟩:=Gj h3 x h;exact⟨q',by simp[Tr.rows,e1],e2,by simp[Tr.vals,e3]⟩
theorem qaZ {s:Int}{Q:List Rw}(h:SideOk s Q){r:Rw}(hr:r∈Q):atP r.pr Q=r.q:=by
 obtain⟨A,B,rfl⟩:=List.append_of_mem hr
 have e:A++r :: B=A++[r]++B:=by simp
 have hp:=h.rows
 rw[e]at h hp ⊢
 have h1:=(List.pairwise_append.1 hp).1
 have h2:=(List.pairwise_append.1 hp).2.2
 have h3:=(List.pairwise_append.1 h1).2.2
 rw[Gc h (λa ha=>h3 a ha r Oy) (λb hb=>h2 r Oy b hb) (λx hx=>by rw[List.mem_singleton.1 hx])]
 simp[Qb]
def QU (Q:List Rw)(l:List (Int×Value)):List Od:=l.flatMap (λx=>atP x.1 Q)
theorem qa0 (Q:List Rw)(l:List (Int×Value))(x:Int×Value):QU Q (l++[x])=QU Q l++atP x.1 Q:=by unfold QU;simp
theorem qa1 {s:Int}{Q:List Rw}{t:Tr}(h:SideOk s Q)(e:t.rows=Q.map QG):QU Q t.items=Qb Q:=by
 have h1:QU Q t.items=(t.items.map Prod.fst).flatMap (λp=>atP p Q):=by unfold QU;rw[List.flatMap_map]
 rw[h1,V9,e,List.map_map,List.flatMap_map]
 unfold Qb
 have:∀{l:List Rw},(∀r∈l,r∈Q)->l.flatMap (λa=>atP ((Prod.fst ∘ QG) a) Q)=l.flatMap (·.q):=by
  intro l
  induction l with
  | nil=>intro _;rfl
  | cons r l ih =>
   intro hl;rw[List.flatMap_cons,List.flatMap_cons,ih (λx hx=>hl x (List.mem_cons_of_mem _ hx))];rw[show atP ((Prod.fst ∘ QG) r) Q=r.q from qaZ h (hl r (List.mem_cons_self ..))]
 exact this (λr hr=>hr)
theorem Gl (Q:List Rw)(l:List (Int×Value))(h:(Qb Q).length<=64):(QU Q l).length<=l.length*64:=by
 induction l with
 | nil=>simp[QU]
 | cons x l ih =>
  have e:QU Q (x :: l)=atP x.1 Q++QU Q l:=rfl;have h1:(atP x.1 Q).length<=(Qb Q).length:=List.length_filter_le _ _;rw[e,Su,Wq];omega
theorem qiQ {W:World}{g:Sg}{s:Int}{Q:List Rw}(hS:SgIn W s g)(e:g.t.rows=Q.map QG)(hQ:SideOk s Q){B:Nat}(hB:∀k,QE g k->k<B){x:Int×Value}(hx:x∈g.t.items) :
  ∃A cc,x.2=.slice A (atP x.1 Q).length cc/\QIn W B A (atP x.1 Q):=by
 obtain⟨q,h1,ho,h3⟩:=Gj hS.tr x hx
 rw[e]at h1
 obtain⟨r,hr,er⟩:=List.mem_map.1 h1
 have e1:r.pr=x.1:=congrArg Prod.fst er
 have e2:r.q.map (·.id)=q:=congrArg Prod.snd er
 rw[<-e1,qaZ hQ hr]
 subst e2
 rw[List.length_map]at ho
 rcases ho.2 with ⟨hv,h0⟩ | ⟨gg,cap,cur,hv,_⟩
 ·rw[hv,h0]at ho;have:=V6 (Y:=r.q) (B:=B) ho (λk hk=>by cases hk);exact⟨none,0,by rw[hv,h0],this.2⟩
 ·rw[hv]at ho ⊢;have:=V6 (Y:=r.q) (B:=B) ho (λk hk=>hB k (.inr (.inr (.inr ⟨_,h3,by rw[hv];exact hk⟩))));exact⟨_,_,rfl,this.2⟩
attribute [local go_sem] Oper.semAt_some
structure SideT (b:Option Addr) (w:World) (sd:Int) (T:Tr) (Q:List Rw):Prop where
 len:T.items.length<=64
 flat:(Qb Q).length<=64
 blks:∀k∈T.blks,k<w.heap.size
 vals:∀v∈T.vals,∀k,v.ownBlock=some k->k<w.heap.size
 side:∀W,Ok w W->w.heap.size<W.heap.size->Calls prog 210 #[.pointer b,.int .i64 sd] W λe w'=>∃g',e=.returned (.pointer (some ⟨g'.tb,0,none⟩))/\Hid (g'.t=T/\SgIn w' sd g'/\Ok W w')
 told:∀x∈T.items,∃A c,x.2=.slice A (atP x.1 Q).length c/\∀W v n X,Ok w W->w.heap.size+3<=W.heap.size->W.ownsRow (w.heap.size+3) 38 6 v n (ol X)->n<=10000->Calls prog 212 #[.pointer b,v,.slice A (atP x.1 Q).length c] W λe w'=>∃v',e=.returned v'/\Hid (w'.ownsRow (w.heap.size+3) 38 6 v' (n+(atP x.1 Q).length) (ol (X++atP x.1 Q))/\Below (w.heap.size+3) W w'/\Fr (λj=>v.ownBlock=some j) W w')
theorem Gm {T:TypeId}{W w1:World}(B:Nat){base n size:Nat}{v:Value}{xs:List Value}(ho:W.ownsRow base T size v n xs)(hf:Fr (λj=>v.ownBlock=some j) W w1):KeepsFrom B W w1:=by
 refine⟨hf.size,λi o _ hi hc=>?_⟩
 refine hf.blk hi (λe=>?_)
 rcases ho.2 with ⟨hv,_⟩ | ⟨k,cap,cur,hv,_,hk,_⟩
 ·rw[hv]at e;cases e
 ·rw[hv]at e;injection e with e;subst e;rw[hk]at hi;cases hi;cases hc
def AxA (tm:Array Value){T:Tr}(x:Ix T)(a':Act)(_:World):Prop:=a'={ tmps:=((tm.setIfInBounds 18 (.int .i64 x.1.1)).setIfInBounds 19 x.1.2).setIfInBounds 7 x.1.2,defers:=[] }
theorem qiR (b:Option Addr)(w:World)(T1 T2:Tr)(Q1 Q2:List Rw)(H1:SideT b w 1 T1 Q1)(H2:SideT b w 2 T2 Q2) :
  Calls prog 200 #[.pointer b] w λe w'=>∃v,e=.returned v/\Hid (w'.ownsRow w.heap.size 38 6 v (QU Q1 T1.items++QU Q2 T2.items).length (ol (QU Q1 T1.items++QU Q2 T2.items))/\Ok w w'):=by
 have G1:=Ou H1
 have G2:=Ou H2
 clear H1 H2
 refine(callsIn_wide (n:=5)).1 ?_
 refine callsIn_of_wp_marks func200 rfl trivial ?_ rfl
 simp only[ntmps200,Wu,Wq,List.length_nil,Nat.reduceAdd,Nat.reduceSub,Array.replicate_succ,Array.replicate_zero,List.push_toArray,List.append_toArray,List.nil_append,List.cons_append]
 gi_wp2_with fail
 obtain⟨W0,hW0⟩:∃W0,((w.alloc (.cells #[.pointer b] 104)).alloc (.cells #[.slice none 0 0] 22)).alloc (.cells #[.int .i64 1,.int .i64 2] 3)=W0:=⟨_,rfl⟩
 have hz0:W0.heap.size=w.heap.size+3:=by rw[<-hW0];simp
 have oO:Ok w W0:=by rw[<-hW0];exact(((Oq _ _).alloc (Sq _) _).alloc Oy _).alloc (by simp;omega) _
 have cb0:Cl 104 W0 w.heap.size #[.pointer b]:=by rw[<-hW0];exact Qp (by simp;omega) (Qp Oy (Qe rfl))
 have cl0:Cl 22 W0 (w.heap.size+1) #[.slice none 0 0]:=by rw[<-hW0];exact Qp Oy (Qe Oy)
 have cs0:Cl 3 W0 (w.heap.size+2) #[.int .i64 1,.int .i64 2]:=by rw[<-hW0];exact Qe Oy
 rw[hW0,show w.heap.size+1+1=w.heap.size+2 from rfl]
 clear hW0
 refine wpIn_loop_rounds 3 ?_
 rw[roundsIn_succ]
 have mH:=Ou (G1.out.side W0 oO Oz)
 have k0:W0.cell? ⟨w.heap.size,0,none⟩=some (.pointer b):=(cb0.c 0).trans rfl
 have k1:W0.cell? ⟨w.heap.size+2,0,none⟩=some (.int .i64 1):=(cs0.c 0).trans rfl
 gi_wp2_with (first|(refine⟨trivial,?_⟩;refine((callsIn_wide (n:=5-1)).2 mH.out).mono ?_;rintro e w1 ⟨g1,rfl,h1⟩)|(refine⟨trivial,?_⟩;refine((callsIn_wide (n:=5-1)).2 (qaW _ _)).mono ?_;rintro e w1' ⟨rfl,rfl⟩))
 have aP:=oO
 have rX:(∃v,Cl 22 W0 (w.heap.size+1) #[v]/\W0.ownsRow (w.heap.size+3) 38 6 v ([]:List Od).length (ol [])/\Cl 104 W0 w.heap.size #[.pointer b]/\Cl 3 W0 (w.heap.size+2) #[.int .i64 1,.int .i64 2]/\w.heap.size+3<=W0.heap.size):=⟨_,cl0,World.ownsRow_nil _ _ _ _,cb0,cs0,by omega⟩
 obtain⟨X1,hX1⟩:∃X:List Od,X=[]:=⟨_,rfl⟩
 rw[<-hX1]at rX
 have tQ:X1.length<=5000:=by rw[hX1];exact Nat.zero_le _
 have jZ:=Ou hX1
 clear hX1
 clear k0 k1 cl0 cb0 cs0 oO
 obtain⟨Y1,mP⟩:∃W,w1.alloc (.cells #[.pointer (some ⟨g1.tb,0,none⟩)] 134)=W:=⟨_,rfl⟩
 rw[mP]
 obtain⟨uF,vC,lF⟩:=h1.out
 have hyz1:Y1.heap.size=w1.heap.size+1:=by rw[<-mP];simp
 have hws1:=lF.size
 have gH:Ok W0 Y1:=by rw[<-mP];exact lF.alloc lF.size _
 have tE:Ok w Y1:=aP.trans (gH.mono aP.size)
 have tY:Cl 134 Y1 w1.heap.size #[.pointer (some ⟨g1.tb,0,none⟩)]:=by rw[<-mP];exact Qe rfl
 have nJ:SgIn Y1 1 ⟨g1.tb,g1.sb,T1⟩:=by
  have:=vC.below (w':=Y1) (by rw[<-mP];exact(Oq _ _).alloc (Sq _) _);rw[<-uF];exact this
 have tW:∀j∈T1.blks,¬(j=w.heap.size+1∨w.heap.size+3<=j):=λj hj h=>by have:=G1.out.blks j hj;omega
 have vH:∀v∈T1.vals,∀j,v.ownBlock=some j->¬(j=w.heap.size+1∨w.heap.size+3<=j):=λv hv j e h=>by have:=G1.out.vals v hv j e;omega
 have hi1:(∃v,Cl 22 Y1 (w.heap.size+1) #[v]/\Y1.ownsRow (w.heap.size+3) 38 6 v (X1).length (ol (X1))/\Cl 104 Y1 w.heap.size #[.pointer b]/\Cl 3 Y1 (w.heap.size+2) #[.int .i64 1,.int .i64 2]/\w.heap.size+3<=Y1.heap.size):=by
  obtain⟨v,a1,a2,a3,a4,a5⟩:=rX;exact⟨v,(gH.block _ (Qc a1)).trans a1,Qh (S:=λ_=>False) a2 (Fr.of_below gH) (λ_ _ h=>h),(gH.block _ (Qc a3)).trans a3,(gH.block _ (Qc a4)).trans a4,Sk a5 gH.size⟩
 have hd1:True:=trivial
 clear vC lF mP h1 uF mH rX gH
 refine wpIn_rangeFunc_ownH rfl Oz (gf:=221) (lb:=#[.pointer (some ⟨w1.heap.size,0,none⟩)]) rfl trivial (enters_of func221 Ow rfl)
  (qaY (5-1) (λj=>j=w.heap.size+1∨w.heap.size+3<=j) w1.heap.size g1.tb g1.sb 1 T1 Y1 tY nJ tW vH) Fr.t (λW l o o' hl ho _ _=>VR W l o o' (.inr (by have:=aP.size;omega)) ho) (Oq _ _) (λ_=>rfl)
  (λpre W=>(∃v,Cl 22 W (w.heap.size+1) #[v]/\W.ownsRow (w.heap.size+3) 38 6 v (X1++QU Q1 (Zh pre)).length (ol (X1++QU Q1 (Zh pre)))/\Cl 104 W w.heap.size #[.pointer b]/\Cl 3 W (w.heap.size+2) #[.int .i64 1,.int .i64 2]/\w.heap.size+3<=W.heap.size)/\True/\Ok w W)
  (λ_ _ _=>False)
  (OwnFrom.and (Own.from (λs A B row hs hg hr=>by obtain⟨v,a1,a2,a3,a4,a5⟩:=hs;exact⟨v,a1.own hg hr,UM a2 hg hr,a3.own hg hr,a4.own hg hr,Sk a5 hg.size⟩) _) (OwnFrom.and (λ_ _ _ _ _ _ _=>trivial) (ownFrom_below (Sq _) tE.size)))
  (λ_ _ _ _ _ hs _ _=>hs)
  ⟨by rw[show QU Q1 (Zh ([]:List (Ix T1)))=[] from rfl,List.append_nil];exact hi1,hd1,tE⟩
  (AxA #[.pointer b,.pointer (some ⟨w.heap.size,0,none⟩),.slice none 0 0,.pointer (some ⟨w.heap.size+1,0,none⟩),undef,.int .i64 1,undef,undef,.slice (some ⟨w.heap.size+2,0,none⟩) 2 2,.int .i64 2,.int .i64 0,.bool true,.pointer (some ⟨w.heap.size+2,0,none⟩),.int .i64 1,.pointer b,.int .i64 1,.pointer (some ⟨g1.tb,0,none⟩),.func (.func 221) #[] #[.pointer (some ⟨w1.heap.size,0,none⟩)],undef,undef,undef,undef,undef,undef,undef,undef])
  (λx a' _ X Y row hs hg hr=>hs)
  ?assign1 ?body1 ?done1 ?stop1
 case assign1 =>
  rintro l0 pre x W K hI hK;unfold AxA at hK
  gi_wp2
  exact hK _ _ ((KeepsOthers.refl _).from _) (Fr.refl _ W) hI rfl
 case body1 =>
  rintro l0 pre x a' W hl ⟨r,hr⟩ ⟨⟨v,a1,a2,a3,a4,a5⟩,hd,hB⟩ rfl hlt;obtain⟨A,c,ex,HT⟩:=G1.out.told x.1 x.2;have cU:(X1++QU Q1 (Zh pre)).length<=10000:=by
   have b1:=Gl Q1 (Zh pre) G1.out.flat;have b2:(Zh pre).length=pre.length:=by unfold Zh;simp
   have b3:=G1.out.len;rw[Su];have b4:=tQ;omega
  obtain⟨N,hN⟩:∃N,N=(X1++QU Q1 (Zh pre)).length:=⟨_,rfl⟩
  rw[<-hN]at a2 cU;have HN:=Ou hN;clear hN;have eY:=Ou (HT W v _ _ hB a5 a2 cU);have p0:W.cell? ⟨w.heap.size,0,none⟩=some (.pointer b):=(a3.c 0).trans rfl;have p1:W.cell? ⟨w.heap.size+1,0,none⟩=some v:=(a1.c 0).trans rfl;have HW:=Ou (Sv a1 (Sv a2 (Sv a3 (Sv a4 (Sv a5 (Sv hd hB))))));clear HT a1 a2 a3 a4 a5 hd hB cU;simp only[ex]
  gi_wp2_with (refine⟨trivial,?_⟩;refine((callsIn_wide).2 eY.out).mono ?_;rintro e w3 ⟨v',rfl,h3⟩;obtain⟨A3,cc3,rfl,_⟩:=ZO h3.out.1;have c3:Cl 22 w3 (w.heap.size+1) #[v]:=h3.out.2.2.blk HW.out.1 (λe=>by have:=(Zs HW.out.2.1 _ e).1;omega);have p3:w3.cell? ⟨w.heap.size+1,0,none⟩=some v:=(c3.c 0).trans rfl;have f3:=c3.f (k:=0);clear p0 p1)
  obtain⟨a1,a2,a3,a4,a5,hd,hB⟩:=HW.out;obtain⟨h5,h6,h7⟩:=h3.out;have hsz:=h7.size;have bK:Fr (λj=>j=w.heap.size+1∨w.heap.size+3<=j) W (w3.setCell ⟨w.heap.size+1,0,none⟩ (.slice A3 (N+(atP x.1.1 Q1).length) cc3)):=(h7.mono (λj hj=>.inl (.inr (Zs a2 j hj).1))).set (.inl (.inl rfl)) _;refine⟨(Gm _ a2 h7).trans ((KeepsOthers.setCell _ _ _).from _),bK,⟨_,(QK c3).trans rfl,?_,bK.blk a3 Oz,bK.blk a4 Oz,Sk a5 bK.size⟩,trivial,(hB.trans (h6.mono Oz)).setCell (p:=⟨w.heap.size+1,0,none⟩) (Nat.le_succ _) _⟩;rw[Xw,qa0,<-St,Su,<-HN.out]
  refine Qh (S:=λj=>j=w.heap.size+1) h5 ((Fr.refl (λj=>j=w.heap.size+1) w3).set (p:=⟨w.heap.size+1,0,none⟩) (.inl rfl) _) (λj hj e=>?_);have:=(Zs h5 j hj).1;omega
 case stop1 =>
  rintro D c pre W _ _ h _;exact h.elim
 case done1 =>
  rintro D1 ys W1 x8 vR ⟨HI,hdd,HB⟩ hK1;rw[vR]at HI;obtain⟨X2,xD⟩:∃X,X=X1++QU Q1 T1.items:=⟨_,rfl⟩
  rw[<-xD]at HI;have tS:X2.length<=5000:=by
   have b1:=Gl Q1 T1.items G1.out.flat;have b2:=G1.out.len;have b3:X1.length=0:=by rw[jZ.out];rfl
   rw[xD,Su];omega
  have HX:=Ou xD;have j4:=Ou (G2.out.side W1 HB (by have:=HB.size;have:=x8;omega));have iJ:=HI;obtain⟨v,a1,a2,a3,a4,a5⟩:=HI;have k0:W1.cell? ⟨w.heap.size,0,none⟩=some (.pointer b):=(a3.c 0).trans rfl;have k1:W1.cell? ⟨w.heap.size+2,1,none⟩=some (.int .i64 2):=(a4.c 1).trans rfl;clear a1 a2 a3 a4 a5 vR hdd tY nJ tW vH hi1 hd1 tQ xD
  gi_wp2_with fail
  rw[roundsIn_succ]
  gi_wp2_with (first|(refine⟨trivial,?_⟩;refine((callsIn_wide (n:=5-1)).2 j4.out).mono ?_;rintro e w2 ⟨g2,rfl,h2⟩)|(refine⟨trivial,?_⟩;refine((callsIn_wide (n:=5-1)).2 (qaW _ _)).mono ?_;rintro e w2' ⟨rfl,rfl⟩))
  clear k0 k1;have aG:=HB;obtain⟨Y2,kZ⟩:∃W,w2.alloc (.cells #[.pointer (some ⟨g2.tb,0,none⟩)] 134)=W:=⟨_,rfl⟩
  rw[kZ];obtain⟨uG,vD,lG⟩:=h2.out;have hyz2:Y2.heap.size=w2.heap.size+1:=by rw[<-kZ];simp
  have hws2:=lG.size;have eZ:Ok W1 Y2:=by rw[<-kZ];exact lG.alloc lG.size _
  have tF:Ok w Y2:=aG.trans (eZ.mono aG.size);have tZ:Cl 134 Y2 w2.heap.size #[.pointer (some ⟨g2.tb,0,none⟩)]:=by rw[<-kZ];exact Qe rfl
  have nK:SgIn Y2 2 ⟨g2.tb,g2.sb,T2⟩:=by
   have:=vD.below (w':=Y2) (by rw[<-kZ];exact(Oq _ _).alloc (Sq _) _);rw[<-uG];exact this
  have tX:∀j∈T2.blks,¬(j=w.heap.size+1∨w.heap.size+3<=j):=λj hj h=>by have:=G2.out.blks j hj;omega
  have vK:∀v∈T2.vals,∀j,v.ownBlock=some j->¬(j=w.heap.size+1∨w.heap.size+3<=j):=λv hv j e h=>by have:=G2.out.vals v hv j e;omega
  have hi2:(∃v,Cl 22 Y2 (w.heap.size+1) #[v]/\Y2.ownsRow (w.heap.size+3) 38 6 v (X2).length (ol (X2))/\Cl 104 Y2 w.heap.size #[.pointer b]/\Cl 3 Y2 (w.heap.size+2) #[.int .i64 1,.int .i64 2]/\w.heap.size+3<=Y2.heap.size):=by
   obtain⟨v,a1,a2,a3,a4,a5⟩:=iJ;exact⟨v,(eZ.block _ (Qc a1)).trans a1,Qh (S:=λ_=>False) a2 (Fr.of_below eZ) (λ_ _ h=>h),(eZ.block _ (Qc a3)).trans a3,(eZ.block _ (Qc a4)).trans a4,Sk a5 eZ.size⟩
  have hd2:Y2.heap[D1]? = some (.deferred (some [])):=(eZ.block _ (Qc hK1)).trans hK1;clear vD lG kZ h2 uG j4 iJ eZ;refine wpIn_rangeFunc_ownH rfl Oz (gf:=221) (lb:=#[.pointer (some ⟨w2.heap.size,0,none⟩)]) rfl trivial (enters_of func221 Ow rfl)
   (qaY (5-1) (λj=>j=w.heap.size+1∨w.heap.size+3<=j) w2.heap.size g2.tb g2.sb 2 T2 Y2 tZ nK tX vK) Fr.t (λW l o o' hl ho _ _=>VR W l o o' (.inr (by have:=aG.size;omega)) ho) (Oq _ _) (λ_=>rfl)
   (λpre W=>(∃v,Cl 22 W (w.heap.size+1) #[v]/\W.ownsRow (w.heap.size+3) 38 6 v (X2++QU Q2 (Zh pre)).length (ol (X2++QU Q2 (Zh pre)))/\Cl 104 W w.heap.size #[.pointer b]/\Cl 3 W (w.heap.size+2) #[.int .i64 1,.int .i64 2]/\w.heap.size+3<=W.heap.size)/\W.heap[D1]? = some (.deferred (some []))/\Ok w W)
   (λ_ _ _=>False)
   (OwnFrom.and (Own.from (λs A B row hs hg hr=>by obtain⟨v,a1,a2,a3,a4,a5⟩:=hs;exact⟨v,a1.own hg hr,UM a2 hg hr,a3.own hg hr,a4.own hg hr,Sk a5 hg.size⟩) _) (OwnFrom.and (λs A B row hs hg hr=>(hg.block _ (Qc hs) (λe=>by have:=(hr D1 e.symm).1;have:=Qc hd2;omega)).trans hs) (ownFrom_below (Sq _) tF.size)))
   (λ_ _ _ _ _ hs _ _=>hs)
   ⟨by rw[show QU Q2 (Zh ([]:List (Ix T2)))=[] from rfl,List.append_nil];exact hi2,hd2,tF⟩
   (AxA #[.pointer b,.pointer (some ⟨w.heap.size,0,none⟩),.slice none 0 0,.pointer (some ⟨w.heap.size+1,0,none⟩),undef,.int .i64 2,undef,undef,.slice (some ⟨w.heap.size+2,0,none⟩) 2 2,.int .i64 2,.int .i64 1,.bool true,.pointer (some ⟨w.heap.size+2,1,none⟩),.int .i64 2,.pointer b,.int .i64 2,.pointer (some ⟨g2.tb,0,none⟩),.func (.func 221) #[] #[.pointer (some ⟨w2.heap.size,0,none⟩)],undef,undef,undef,undef,undef,undef,.int .i64 1,undef])
   (λx a' _ X Y row hs hg hr=>hs)
   ?assign2 ?body2 ?done2 ?stop2
  case assign2 =>
   rintro l0 pre x W K hI hK;unfold AxA at hK
   gi_wp2
   exact hK _ _ ((KeepsOthers.refl _).from _) (Fr.refl _ W) hI rfl
  case body2 =>
   rintro l0 pre x a' W hl ⟨r,hr⟩ ⟨⟨v,a1,a2,a3,a4,a5⟩,hd,hB⟩ rfl hlt;obtain⟨A,c,ex,HT⟩:=G2.out.told x.1 x.2;have cU:(X2++QU Q2 (Zh pre)).length<=10000:=by
    have b1:=Gl Q2 (Zh pre) G2.out.flat;have b2:(Zh pre).length=pre.length:=by unfold Zh;simp
    have b3:=G2.out.len;rw[Su];have b4:=tS;omega
   obtain⟨N,hN⟩:∃N,N=(X2++QU Q2 (Zh pre)).length:=⟨_,rfl⟩
   rw[<-hN]at a2 cU;have HN:=Ou hN;clear hN;have eY:=Ou (HT W v _ _ hB a5 a2 cU);have p0:W.cell? ⟨w.heap.size,0,none⟩=some (.pointer b):=(a3.c 0).trans rfl;have p1:W.cell? ⟨w.heap.size+1,0,none⟩=some v:=(a1.c 0).trans rfl;have HW:=Ou (Sv a1 (Sv a2 (Sv a3 (Sv a4 (Sv a5 (Sv hd hB))))));clear HT a1 a2 a3 a4 a5 hd hB cU;simp only[ex]
   gi_wp2_with (refine⟨trivial,?_⟩;refine((callsIn_wide).2 eY.out).mono ?_;rintro e w3 ⟨v',rfl,h3⟩;obtain⟨A3,cc3,rfl,_⟩:=ZO h3.out.1;have c3:Cl 22 w3 (w.heap.size+1) #[v]:=h3.out.2.2.blk HW.out.1 (λe=>by have:=(Zs HW.out.2.1 _ e).1;omega);have p3:w3.cell? ⟨w.heap.size+1,0,none⟩=some v:=(c3.c 0).trans rfl;have f3:=c3.f (k:=0);clear p0 p1)
   obtain⟨a1,a2,a3,a4,a5,hd,hB⟩:=HW.out;obtain⟨h5,h6,h7⟩:=h3.out;have hsz:=h7.size;have bK:Fr (λj=>j=w.heap.size+1∨w.heap.size+3<=j) W (w3.setCell ⟨w.heap.size+1,0,none⟩ (.slice A3 (N+(atP x.1.1 Q2).length) cc3)):=(h7.mono (λj hj=>.inl (.inr (Zs a2 j hj).1))).set (.inl (.inl rfl)) _;refine⟨(Gm _ a2 h7).trans ((KeepsOthers.setCell _ _ _).from _),bK,⟨_,(QK c3).trans rfl,?_,bK.blk a3 Oz,bK.blk a4 Oz,Sk a5 bK.size⟩,((Gm 0 a2 h7).trans ((KeepsOthers.setCell _ _ _).from _)).same D1 _ (Nat.zero_le _) hd rfl,(hB.trans (h6.mono Oz)).setCell (p:=⟨w.heap.size+1,0,none⟩) (Nat.le_succ _) _⟩
   rw[Xw,qa0,<-St,Su,<-HN.out];refine Qh (S:=λj=>j=w.heap.size+1) h5 ((Fr.refl (λj=>j=w.heap.size+1) w3).set (p:=⟨w.heap.size+1,0,none⟩) (.inl rfl) _) (λj hj e=>?_);have:=(Zs h5 j hj).1;omega
  case stop2 =>
   rintro D c pre W _ _ h _;exact h.elim
  case done2 =>
   rintro D2 ys W2 zW vS ⟨HI,hdd,HB⟩ hK2;rw[vS]at HI;rw[show X2++QU Q2 T2.items=QU Q1 T1.items++QU Q2 T2.items by rw[HX.out,jZ.out,List.nil_append]]at HI;obtain⟨N,hN⟩:∃N,N=(QU Q1 T1.items++QU Q2 T2.items).length:=⟨_,rfl⟩
   rw[<-hN]at HI;have HN:=Ou hN;obtain⟨v,a1,a2,a3,a4,a5⟩:=HI;obtain⟨A9,c9,rfl,_⟩:=ZO a2;have p1:W2.cell? ⟨w.heap.size+1,0,none⟩=some (.slice A9 N c9):=(a1.c 0).trans rfl;clear vS tZ nK tX vK hi2 hd2 tS a1 a3 a4 hN
   gi_wp2_with fail
   rw[roundsIn_succ]
   gi_wp2_with fail
   have hDD:D1<Y2.heap.size:=by have:=Qc hK1;omega
   have tI:w.heap.size+3<=D1:=by have:=aP.size;omega
   have hL2:w.heap.size+3<=D2:=by omega
   have oU:(W2.putObj D2 (.deferred none)).heap[D1]? = some (.deferred (some [])):=((grownBy_putObj' W2 D2 (.deferred none)).block D1 (Qc hdd) (by intro e;injection e;omega)).trans hdd;refine⟨by simp,.inl ⟨_,_,rfl,run_takeDeferred hK2,?_⟩⟩;refine⟨by simp,.inl ⟨_,_,rfl,run_takeDeferred oU,?_⟩⟩;refine⟨_,results_tmp rfl _ _ _,_,rfl,Ou ⟨?_,(HB.trans (belowK_b (w:=w) (Sq _) W2 D2 _ _ Oz hK2 rfl rfl)).trans (belowK_b (w:=w) (Sq _) _ D1 _ _ Oz oU rfl rfl)⟩⟩;rw[<-HN.out];exact Js (UN (UN a2 D2 hK2 rfl) D1 oU rfl) Oz
theorem qa2 {p m ms:Nat}{D:DataW Value}{g1 g2:Sg}{Q1 Q2:List Rw}{sd:Int}{g:Sg}{Q:List Rw}{w:World}(H:GW w p m ms D g1 g2 Q1 Q2)(S:OwnS w p m ms D g1 g2 Q1 Q2 sd g Q):SideT (some ⟨p,0,none⟩) w sd g.t Q:=by
 have hl:g.t.items.length=Q.length:=by rw[qiO,S.eq,List.length_map]
 refine⟨by have:=qaX S.ok.some;have:=S.len;omega,S.len,λk hk=>S.sg.lt k (.inr (.inr (.inl hk))),λv hv k hk=>S.sg.lt k (.inr (.inr (.inr ⟨v,hv,hk⟩))),λW hB _=>(S.call W (H.below hB)).mono ?_,λx hx=>?_⟩
 ·rintro e w' ⟨rfl,rfl⟩;exact⟨g,rfl,Ou ⟨rfl,S.sg.below hB,Below.refl _ _⟩⟩
 ·obtain⟨A,c,ex,hq⟩:=qiQ S.sg S.eq S.ok (B:=w.heap.size) (λk hk=>S.sg.lt k hk) hx;refine⟨A,c,ex,λW v n X hB hz ho hn=>?_⟩
  refine qiP p m ms D g1 g2 Q1 Q2 W (H.below hB) (w.heap.size+3) (λk hk=>by have:=H.lt k hk;omega) hz v n X ho hn A c (atP x.1 Q) (λy hy=>S.mem y (List.mem_filter.1 hy).1) (λk hk=>?_) (by
   have h1:(atP x.1 Q).length<=(Qb Q).length:=List.length_filter_le _ _;have h2:=S.len
   omega)
  obtain⟨gg,h1,h2,h3⟩:=hq.below hB k hk;exact⟨gg,h1,by omega,h3⟩
theorem qiS (p m ms:Nat)(D:DataW Value)(g1 g2:Sg)(Q1 Q2:List Rw)(w:World)(H:GW w p m ms D g1 g2 Q1 Q2) :
  Calls prog 200 #[.pointer (some ⟨p,0,none⟩)] w λe w'=>∃v,e=.returned v/\Hid (w'.ownsRow w.heap.size 38 6 v (Qa Q1 Q2).length (ol (Qa Q1 Q2))/\Ok w w'):=by
 have h:=qiR _ w g1.t g2.t Q1 Q2 (qa2 H H.own1) (qa2 H H.own2)
 rw[qa1 H.ok1 H.e1,qa1 H.ok2 H.e2]at h
 exact h
theorem gWhole.pw {w:World}{p:Nat}{m:Nat×Nat}{s1 s2:Gd}(H:gWhole w p m s1 s2):(Qa s1.rs s2.rs).Pairwise (λx y=>ltO x y=true):=by
 obtain⟨D,h⟩:=H
 exact CJ h.ok1 h.ok2
theorem qa3 {Q1 Q2:List Rw}(o1:SideOk 1 Q1)(o2:SideOk 2 Q2)(sd:Int):Zu sd (Qa Q1 Q2)=Qb (rsq Q1 Q2 sd):=by
 have h1:=Z7 o1
 have h2:=Z7 o2
 unfold Qa
 rw[show Zu sd (Qb Q1++Qb Q2)=Zu sd (Qb Q1)++Zu sd (Qb Q2) from List.filter_append _ _]
 unfold rsq
 by_cases e1:sd=1
 ·subst e1;rw[Sx rfl,Y8 h1,Kx h2 Ox,List.append_nil]
 ·rw[Sw e1];by_cases e2:sd=2
  ·subst e2;rw[Sx rfl,Y8 h2,Kx h1 Ox,List.nil_append]
  ·rw[Sw e2,Kx h1 (λe=>e1 e.symm),Kx h2 (λe=>e2 e.symm)];rfl
theorem qiT {Q1 Q2:List Rw}(o1:SideOk 1 Q1)(o2:SideOk 2 Q2)(sd:Int):V8 Q1 Q2 sd=QW sd (Qa Q1 Q2):=by
 unfold V8 Vt QW
 rw[qa3 o1 o2]
theorem qiU (p:Nat)(m:Nat×Nat)(s1 s2:Gd)(sd:Int)(hs:(Lit.int .i64 sd).wf=true)(w:World)(H:gWhole w p m s1 s2) :
  Calls prog 201 #[.pointer (some ⟨p,0,none⟩),.int .i64 sd] w λe w'=>e=.returned (.tuple #[QF (QW sd (Qa s1.rs s2.rs)),.bool (QW sd (Qa s1.rs s2.rs)).isSome])/\Hid (Ok w w'):=by
 obtain⟨D,h⟩:=H
 rw[<-qiT h.ok1 h.ok2]
 exact qic p m.1 m.2 D s1.g s2.g s1.rs s2.rs sd hs w h
theorem qiV (p:Nat)(m:Nat×Nat)(s1 s2:Gd)(w:World)(H:gWhole w p m s1 s2) :
  Calls prog 204 #[.pointer (some ⟨p,0,none⟩)] w λe w'=>e=.returned (.int .i64 (Qa s1.rs s2.rs).length)/\w=w':=by
 obtain⟨D,h⟩:=H
 exact qh6 p m.1 m.2 D s1.g s2.g s1.rs s2.rs w h
theorem qiW (p:Nat)(m:Nat×Nat)(s1 s2:Gd)(w:World)(H:gWhole w p m s1 s2) :
  Calls prog 200 #[.pointer (some ⟨p,0,none⟩)] w λe w'=>∃v,e=.returned v/\Hid (w'.ownsRow w.heap.size 38 6 v (Qa s1.rs s2.rs).length (ol (Qa s1.rs s2.rs))/\Ok w w'):=by
 obtain⟨D,h⟩:=H
 exact qiS p m.1 m.2 D s1.g s2.g s1.rs s2.rs w h
theorem gft.lt {w:World}{p:Nat}{m:Nat×Nat}{s1 s2:Gd}(H:gWhole w p m s1 s2):∀k,gft p m s1 s2 k->k<w.heap.size:=by
 obtain⟨D,h⟩:=H
 exact h.lt
end
end Go.Proofs.YtikapeaodobkjaaGreat
