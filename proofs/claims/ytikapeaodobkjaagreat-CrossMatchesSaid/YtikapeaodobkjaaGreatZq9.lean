/- What the laws lean on, in a few texts (by shake.py): number 9 of 16. -/
import Derived.Test.YtikapeaodobkjaaGreatZq1
import Derived.Test.YtikapeaodobkjaaGreatZq2
import Derived.Test.YtikapeaodobkjaaGreatZq5
import Derived.Test.YtikapeaodobkjaaGreatZq3
import Derived.Shelf.SlSortCmp.QuietGrown
import Derived.Maps.OwnSet
import Derived.RangeFuncNested
import Derived.RangeFuncBound
import Derived.RangeFuncCalls
import Derived.RangeFuncLeaves
import Derived.Shelf.Abstract
import Derived.Shelf.RegionOpen
import Derived.OwnWalkIn
import Derived.TacticsInMore
import Derived.LoopNIn
import Derived.LoopIn
import Derived.Laws.OwnMore
import Derived.Laws.AppendOwnNone
import Derived.Shelf.Spec.SlicesInsert
import Derived.Lib.AppendZerosOnto
import Derived.Lib.Overlaps
import Derived.Laws.CopyRow
import Derived.Laws.CopyOwn
import Derived.Maps.OwnIn

set_option maxHeartbeats 16000000
set_option maxRecDepth 1000000
set_option linter.unusedVariables false
set_option linter.unusedSimpArgs false
namespace Go.Proofs.YtikapeaodobkjaaGreat
open _root_.Go.Proofs.Tryz
section
open Go.RowKit Go.Sort
structure Rw where
 pr:Int
 v:Value
 q:List Od
instance : Inhabited Rw := ⟨⟨0, .slice none 0 0, []⟩⟩
def Rw.cs (r:Rw):List Value:=[.int .i64 r.pr,r.v]
def rl (R:List Rw):List Value:=R.flatMap Rw.cs
theorem YM (R:List Rw):(rl R).length=R.length*2:=by
 induction R with
 | nil=>rfl
 | cons r R ih=>unfold rl at *;rw[List.flatMap_cons,Su,ih,Wq];simp[Rw.cs];omega
theorem JQ:∀(R:List Rw) (i c:Nat),i<R.length->c<2->(rl R)[i*2+c]? = (R[i]!).cs[c]?
 | [],i,_,h,_=>absurd h (Ax _)
 | r :: R,0,c,_,hc=>by
  show (r.cs++rl R)[0*2+c]? = _;rw[List.getElem?_append_left (by simp[Rw.cs];omega),Nat.zero_mul,Nat.zero_add];rfl
 | r :: R,i+1,c,h,hc=>by
  show (r.cs++rl R)[(i+1)*2+c]? = _;rw[List.getElem?_append_right (by simp[Rw.cs];omega),show (i+1)*2+c-r.cs.length=i*2+c by simp[Rw.cs];omega];rw[JQ R i c (by simpa using h) hc];rfl
def RowsAt (w:World)(a:Option Addr)(n:Nat)(R:List Rw):Prop :=
 R.length=n/\(n=0∨∃g,a=some ⟨g,0,none⟩/\g<w.heap.size/\∀i,i<n->w.cell? ⟨g,i*2,none⟩=some (.int .i64 (R[i]!).pr)/\w.cell? ⟨g,i*2+1,none⟩=some (R[i]!).v)
theorem Kq {w:World}{base n:Nat}{T:TypeId}{v:Value}{R:List Rw}(h:w.ownsRow base T 2 v n (rl R)):∃A c,v=.slice A n c/\RowsAt w A n R:=by
 obtain⟨h1,h2⟩:=h
 rw[YM]at h1
 have hl:R.length=n:=by omega
 rcases h2 with ⟨hv,h0⟩ | ⟨k,cap,cur,hv,_,hk,hc,hm,hs,ht⟩
 ·subst h0;exact⟨none,0,hv,hl,.inl rfl⟩
 ·refine⟨_,_,hv,hl,.inr ⟨k,rfl,Qc hk,λi hi=>?_⟩⟩;have hcell:∀j v,(rl R)[j]? = some v->w.cell? ⟨k,j,none⟩=some v:=by
   intro j v hj;rw[<-ht,List.getElem?_take]at hj
   split at hj
   ·rw[Array.getElem?_toList]at hj;rw[cell_of_row _ _ _ _ _ _ hk,hj]
   ·cases hj
  exact⟨hcell (i*2+0) _ ((JQ R i 0 Oz Oz).trans rfl),hcell (i*2+1) _ ((JQ R i 1 Oz Oz).trans rfl)⟩
theorem qfI (s a b:Int)(w:World):Calls prog 85 #[.int .i64 s,.int .i64 a,.int .i64 b] w λe w'=>e=.returned (.bool (Qf s a b))/\w'=w:=(XQ s a b w).mono λ_ _ ⟨h1,h2⟩=>⟨h1,h2.symm⟩
theorem qfJ (W:World)(rb sb pb g n c i:Nat)(s p pr:Int)(hi:i<n)(h1:W.cell? ⟨sb,0,none⟩=some (.int .i64 s))(h2:W.cell? ⟨rb,0,none⟩=some (.slice (some ⟨g,0,none⟩) n c))(h3:W.cell? ⟨pb,0,none⟩=some (.int .i64 p))(h4:W.cell? ⟨g,i*2,none⟩=some (.int .i64 pr)) :
  Calls prog 189 #[.int .i64 i,.pointer (some ⟨sb,0,none⟩),.pointer (some ⟨rb,0,none⟩),.pointer (some ⟨pb,0,none⟩)] W λe w'=>e=.returned (.bool (!Qf s pr p))/\Gw W w':=by
 have mixed:prog.follows .mixedOrders=true:=by kernel_rfl
 have HB:=Ou qfI
 have q1:(i:Int)<(n:Int):=by omega
 go_enter func189,ntmps189
 go_wp2_with fail
 go_quiet ((go_at_call 85;with_reducible exact Ss (HB.out _ _ _ _)))
 go_wp2_with fail
 go_ret
 exact⟨rfl,⟨QI (Oq _ _) _,Nat.le_add_right _ _⟩⟩
theorem qfK (W:World)(qb ob g n c i:Nat)(o x:Od)(hi:i<n)(h1:W.heap[qb]? = some (.cells #[.slice (some ⟨g,0,none⟩) n c] 22 (0,0)))(h2:W.heap[ob]? = some (.cells (Qo o).toArray 38 (0,0)))(hg:g<W.heap.size)(h3:x.at W g (i*6)) :
  Calls prog 190 #[.int .i64 i,.pointer (some ⟨qb,0,none⟩),.pointer (some ⟨ob,0,none⟩)] W λe w'=>e=.returned (.bool (!Qt x o))/\Gw W w':=by
 have mixed:prog.follows .mixedOrders=true:=by kernel_rfl
 have HA:=Ou (KH x o)
 have q1:(i:Int)<(n:Int):=by omega
 have dK:∀W',Calls prog 82 #[(.agg #[.int .u64 x.id,.int .i64 x.acc,.int .i64 x.side,.int .i64 x.price,.int .i64 x.qty,.int .u64 x.seq]),(.agg #[.int .u64 o.id,.int .i64 o.acc,.int .i64 o.side,.int .i64 o.price,.int .i64 o.qty,.int .u64 o.seq])] W' λe w'=>e=.returned (.bool (Qt x o))/\∃q os',w'=grow (W'.drewN q) os':=λW'=>(KH x o W').mono λe w' ⟨h1,h2⟩=>⟨h1,h2.grow⟩
 obtain⟨x0,x1,x2,x3,x4,x5⟩:=h3
 have X0:=λn os=>cell_grown (a:=⟨g,_,none⟩) hg x0 n os
 have X1:=λn os=>cell_grown (a:=⟨g,_,none⟩) hg x1 n os
 have X2:=λn os=>cell_grown (a:=⟨g,_,none⟩) hg x2 n os
 have X3:=λn os=>cell_grown (a:=⟨g,_,none⟩) hg x3 n os
 have X4:=λn os=>cell_grown (a:=⟨g,_,none⟩) hg x4 n os
 have X5:=λn os=>cell_grown (a:=⟨g,_,none⟩) hg x5 n os
 have Q0:=λn os=>cell_grown (a:=⟨qb,0,none⟩) (Qc h1) (by rw[cell_of_row _ _ _ _ _ _ h1];rfl) n os
 have c0:W.cell? ⟨ob,0,none⟩=some (.int .u64 o.id):=by rw[cell_of_row _ _ _ _ _ _ h2];rfl
 have c1:W.cell? ⟨ob,1,none⟩=some (.int .i64 o.acc):=by rw[cell_of_row _ _ _ _ _ _ h2];rfl
 have c2:W.cell? ⟨ob,2,none⟩=some (.int .i64 o.side):=by rw[cell_of_row _ _ _ _ _ _ h2];rfl
 have c3:W.cell? ⟨ob,3,none⟩=some (.int .i64 o.price):=by rw[cell_of_row _ _ _ _ _ _ h2];rfl
 have c4:W.cell? ⟨ob,4,none⟩=some (.int .i64 o.qty):=by rw[cell_of_row _ _ _ _ _ _ h2];rfl
 have c5:W.cell? ⟨ob,5,none⟩=some (.int .u64 o.seq):=by rw[cell_of_row _ _ _ _ _ _ h2];rfl
 have O0:=λn os=>cell_grown (a:=⟨ob,0,none⟩) (Qc h2) c0 n os
 have O1:=λn os=>cell_grown (a:=⟨ob,1,none⟩) (Qc h2) c1 n os
 have O2:=λn os=>cell_grown (a:=⟨ob,2,none⟩) (Qc h2) c2 n os
 have O3:=λn os=>cell_grown (a:=⟨ob,3,none⟩) (Qc h2) c3 n os
 have O4:=λn os=>cell_grown (a:=⟨ob,4,none⟩) (Qc h2) c4 n os
 have O5:=λn os=>cell_grown (a:=⟨ob,5,none⟩) (Qc h2) c5 n os
 clear x0 x1 x2 x3 x4 x5 c0 c1 c2 c3 c4 c5 h1 h2
 go_enter func190,ntmps190
 go_wp2_with fail
 go_quiet_grown ((go_at_call 82;with_reducible refine Calls.grown_of (dK _)))
 go_wp2_with fail
 go_ret
 exact⟨rfl,⟨below_grown_sl _ _ _ _ (Sq _),Nat.le_add_right _ _⟩⟩
end
section
open Go.Sort Go.RowKit
def Qb (R:List Rw):List Od:=R.flatMap (·.q)
structure SideOk (s:Int) (R:List Rw):Prop where
 rows:R.Pairwise (λa b=>Qf s a.pr b.pr=true)
 some:∀r∈R,r.q≠[]
 mem:∀r∈R,∀x∈r.q,x.side=s/\x.price=r.pr
 que:∀r∈R,r.q.Pairwise (λx y=>Qt x y=true)
theorem JR (s a b:Int):Qf s a b=true↔(s=1/\b<a)∨(s=2/\a<b):=by
 unfold Qf
 simp only[Bool.or_eq_true,Bool.and_eq_true,beq_iff_eq,decide_eq_true_iff]
theorem CG {s a b c:Int}(h:Qf s a b=true)(k:Qf s b c=true):Qf s a c=true:=by
 rw[JR]at *;omega
theorem qfL {s a b:Int}(hs:s=1∨s=2)(h:¬a=b)(k:Qf s a b=false):Qf s b a=true:=by
 have k':¬Qf s a b=true:=by simp[k]
 rw[JR]at *;omega
theorem qfM {x y z:Od}(h:Qt x y=true)(k:Qt y z=true):Qt x z=true:=by
 rw[VI]at *;omega
theorem CH {x y:Od}(h:x.side=y.side)(hs:x.side=1∨x.side=2)(hp:x.price=y.price)(hi:¬x.id=y.id)(k:Qt x y=false):Qt y x=true:=by
 have k':¬Qt x y=true:=by simp[k]
 rw[VI]at *;omega
theorem VO {x y:Od}(h:Qt x y=true):ltO x y=true:=by
 unfold ltO
 have:=(VI x y).1 h
 rw[h,this.1];simp
theorem qfN {x y:Od}(h:x.side=y.side)(k:Qf x.side x.price y.price=true):ltO x y=true:=by
 refine VO ?_
 rw[JR]at k
 rw[VI];omega
theorem YN {α:Type}(f:α->Bool):∀(l:List α),l.Pairwise (λa b=>f b=true->f a=true) ->
  (∀x∈l.take (l.countP f),f x=true)/\(∀x∈l.drop (l.countP f),f x=false)
 | [],_=>by simp
 | x :: l,h=>by
  rw[List.pairwise_cons]at h;obtain⟨i1,i2⟩:=YN f l h.2
  cases hf:f x with
  | true =>
   rw[List.countP_cons_of_pos hf];simp only[List.take_succ_cons,List.drop_succ_cons,List.mem_cons];exact⟨λy hy=>by rcases hy with rfl|hy;exact hf;exact i1 y hy,i2⟩
  | false =>
   have h0:l.countP f=0:=by
    rw[List.countP_eq_zero];intro y hy hfy;have:=h.1 y hy hfy;rw[hf]at this;cases this
   rw[List.countP_cons_of_neg (by simp[hf]),h0];refine⟨by simp,λy hy=>?_⟩;rw[List.drop_zero]at hy;rcases List.mem_cons.1 hy with rfl|hy
   ·exact hf
   ·cases hy':f y with
    | false=>rfl
    | true=>have:=h.1 y hy hy';rw[hf]at this;cases this
theorem qfO {α:Type}(l:List α)(d:α)(f:α->Bool):(List.range l.length).countP (λi=>f (l.getD i d))=l.countP f:=by
 have h:(List.range l.length).map (λi=>l.getD i d)=l:=by
  apply List.ext_getElem
  ·simp
  ·intro i h1 h2;simp[List.getD_eq_getElem?_getD,h2]
 conv=>rhs;rw[<-h,List.countP_map]
 rfl
theorem CI {s:Int}{R:List Rw}(h:SideOk s R):(Qb R).Pairwise (λx y=>ltO x y=true):=by
 unfold Qb
 rw[List.pairwise_flatMap]
 refine⟨λr hr=>(h.que r hr).imp VO,?_⟩
 have:=h.rows
 rw[List.pairwise_iff_forall_sublist]at this ⊢
 intro a b hab x hx y hy
 have ha:a∈R:=hab.subset Oy
 have hb:b∈R:=hab.subset Oy
 have h1:=h.mem a ha x hx
 have h2:=h.mem b hb y hy
 have h3:=this hab
 refine qfN (by rw[h1.1,h2.1]) ?_
 rw[h1.1,h1.2,h2.2];exact h3
theorem Z7 {s:Int}{R:List Rw}(h:SideOk s R):∀x∈Qb R,x.side=s:=by
 intro x hx
 obtain⟨r,hr,hx⟩:=List.mem_flatMap.1 hx
 exact(h.mem r hr x hx).1
def Qa (R1 R2:List Rw):List Od:=Qb R1++Qb R2
theorem CJ {R1 R2:List Rw}(h1:SideOk 1 R1)(h2:SideOk 2 R2):(Qa R1 R2).Pairwise (λx y=>ltO x y=true):=by
 unfold Qa
 rw[Aw]
 refine⟨CI h1,CI h2,λx hx y hy=>?_⟩
 have e1:=Z7 h1 x hx
 have e2:=Z7 h2 y hy
 unfold ltO rkN
 rw[e1,e2]
 rfl
theorem Ux (x:Od):ltO x x=false:=swo_ltO.irrefl x
theorem CK {x y:Od}(h:ltO x y=true):ltO y x=false:=by
 cases k:ltO y x with
 | false=>rfl
 | true =>
  have:=swo_ltO.trans x y x h k;rw[Ux]at this;cases this
theorem Uy {A B:List Od}(h:A.Perm B)(ha:A.Pairwise (λx y=>ltO x y=true))(hb:B.Pairwise (λx y=>ltO x y=true)):A=B :=
 h.eq_of_pairwise (le:=λx y=>ltO x y=true) (λx y _ _ h1 h2=>by rw[CK h1]at h2;cases h2) ha hb
theorem qfP (L:List Od):(QY L).Perm L:=by
 have h:=(List.mergeSort_perm L.zipIdx (λx y=>!ltR ltO y x)).map Prod.fst
 rw[List.zipIdx_map_fst]at h
 exact h
theorem CL (L:List Od):(QY L).Pairwise (λx y=>ltO y x=false):=by
 have hR:=J4 swo_ltO
 have hm:(L.zipIdx.mergeSort (λx y=>!ltR ltO y x)).Pairwise (λx y=>ltR ltO y x=false):=by
  have:=List.pairwise_mergeSort (le:=λx y=>!ltR ltO y x) (λa b c h1 h2=>by
   simp only[Bool.not_eq_true']at *;exact hR.ntrans _ _ _ h2 h1) (λa b=>by
   cases h:ltR ltO b a with
   | true=>have:=hR.asymmA h;simp[this]
   | false=>simp) L.zipIdx
  exact this.imp (λh=>by simpa using h)
 unfold QY
 rw[List.pairwise_map]
 exact hm.imp (λh=>(ltR_no.1 h).1)
theorem YO {A L:List Od}(h:A.Perm L)(ha:A.Pairwise (λx y=>ltO x y=true)):QY L=A:=by
 have hp:=(qfP L).trans h.symm
 have hn:A.Nodup:=ha.imp (λh e=>by subst e;rw[Ux]at h;cases h)
 have ht:∀x∈A,∀y∈A,x≠y->ltO x y=true∨ltO y x=true:=by
  intro x hx y hy hne;obtain⟨i,hi,rfl⟩:=List.mem_iff_getElem.1 hx;obtain⟨j,hj,rfl⟩:=List.mem_iff_getElem.1 hy;rw[List.pairwise_iff_getElem]at ha;rcases Nat.lt_trichotomy i j with h|h|h
  ·exact .inl (ha i j hi hj h)
  ·subst h;exact absurd rfl hne
  ·exact .inr (ha j i hj hi h)
 refine Uy hp ?_ ha
 have hn':=hp.nodup_iff.2 hn
 have hw:=CL L
 rw[List.pairwise_iff_forall_sublist]at hw ⊢
 intro x y hxy
 have hx:=hp.mem_iff.1 (hxy.subset (by simp):x∈QY L)
 have hy:=hp.mem_iff.1 (hxy.subset (by simp):y∈QY L)
 have hne:x≠y:=by
  have:=List.pairwise_iff_forall_sublist.1 hn' hxy;exact this
 rcases ht x hx y hy hne with h|h
 ·exact h
 ·rw[hw hxy]at h;cases h
def atN (s p:Int)(R:List Rw):Nat:=R.countP (λr=>Qf s r.pr p)
def plN (o:Od)(q:List Od):Nat:=q.countP (λx=>Qt x o)
theorem YP (s p:Int)(R:List Rw):atN s p R<=R.length:=List.countP_le_length
theorem CM (o:Od)(q:List Od):plN o q<=q.length:=List.countP_le_length
theorem CN {s p:Int}{R:List Rw}(h:R.Pairwise (λa b=>Qf s a.pr b.pr=true)):R.Pairwise (λa b=>Qf s b.pr p=true->Qf s a.pr p=true) :=
 h.imp (λh k=>CG h k)
theorem YQ {o:Od}{q:List Od}(h:q.Pairwise (λx y=>Qt x y=true)):q.Pairwise (λx y=>Qt y o=true->Qt x o=true) :=
 h.imp (λh k=>qfM h k)
def QO (o:Od)(q:List Od):List Od:=q.take (plN o q)++o :: q.drop (plN o q)
theorem Uz (o:Od)(q:List Od):(QO o q).Perm (o :: q):=by
 unfold QO
 refine List.perm_middle.trans ?_
 rw[List.take_append_drop]
theorem qfQ {s:Int}(hs:s=1∨s=2){o:Od}{q:List Od}{p:Int}(ho:o.side=s/\o.price=p)(hm:∀x∈q,x.side=s/\x.price=p)(hq:q.Pairwise (λx y=>Qt x y=true))(hi:∀x∈q,¬x.id=o.id) :
  (QO o q).Pairwise (λx y=>Qt x y=true):=by
 obtain⟨h1,h2⟩:=YN (λx=>Qt x o) q (YQ hq)
 have hq':=hq
 rw[<-List.take_append_drop (plN o q) q,Aw]at hq'
 obtain⟨q1,q2,q3⟩:=hq'
 unfold QO
 rw[Aw,List.pairwise_cons]
 refine⟨q1,⟨λy hy=>?_,q2⟩,λx hx y hy=>?_⟩
 ·have hy':=List.mem_of_mem_drop hy;have:=hm y hy';exact CH (by rw[this.1,ho.1]) (by rw[this.1];exact hs) (by rw[this.2,ho.2]) (hi y hy') (h2 y hy)
 ·rcases List.mem_cons.1 hy with rfl|hy
  ·exact h1 x hx
  ·exact q3 x hx y hy
theorem Kr {s p:Int}(hs:s=1∨s=2){R:List Rw}(h:R.Pairwise (λa b=>Qf s a.pr b.pr=true)) :
  (∀r∈R.take (atN s p R),Qf s r.pr p=true)/\(∀r∈R.drop (atN s p R),Qf s r.pr p=false) /\
  (∀r R',R.drop (atN s p R)=r :: R'->¬r.pr=p->∀y∈r :: R',Qf s p y.pr=true) /\
  (∀r R',R.drop (atN s p R)=r :: R'->r.pr=p->∀y∈R',Qf s p y.pr=true):=by
 obtain⟨h1,h2⟩:=YN (λr:Rw=>Qf s r.pr p) R (CN h)
 refine⟨h1,h2,λr R' e hr y hy=>?_,λr R' e hr y hy=>?_⟩
 ·have hd:(R.drop (atN s p R)).Pairwise (λa b=>Qf s a.pr b.pr=true):=List.Pairwise.sublist (List.drop_sublist _ _) h;have hr':Qf s p r.pr=true:=qfL hs hr (h2 r (by unfold atN at e;rw[e];simp));rw[e,List.pairwise_cons]at hd;rcases List.mem_cons.1 hy with rfl|hy
  ·exact hr'
  ·exact CG hr' (hd.1 y hy)
 ·have hd:(R.drop (atN s p R)).Pairwise (λa b=>Qf s a.pr b.pr=true):=List.Pairwise.sublist (List.drop_sublist _ _) h;rw[e,List.pairwise_cons]at hd;rw[<-hr];exact hd.1 y hy
theorem KP {s p:Int}{A B:List Rw}{r:Rw}(hA:∀a∈A,Qf s a.pr p=true)(hB:∀b∈B,Qf s p b.pr=true){M:List Rw}(h:SideOk s (A++M++B))(hr:r.pr=p)(hq:r.q≠[])(hm:∀x∈r.q,x.side=s/\x.price=p)(hp:r.q.Pairwise (λx y=>Qt x y=true)) :
  SideOk s (A++r :: B):=by
 have hmem:∀y,y∈A++r :: B->y=r∨y∈A++M++B:=by
  intro y hy;simp only[List.mem_append,List.mem_cons]at hy ⊢;rcases hy with h|rfl|h
  ·exact .inr (.inl (.inl h))
  ·exact .inl rfl
  ·exact .inr (.inr h)
 refine⟨?_,λy hy=>?_,λy hy=>?_,λy hy=>?_⟩
 ·have:=h.rows;rw[St,Aw]at this;obtain⟨a1,a2,a3⟩:=this;rw[Aw]at a2;rw[Aw,List.pairwise_cons];refine⟨a1,⟨λb hb=>by rw[hr];exact hB b hb,a2.2.1⟩,λa ha b hb=>?_⟩;rcases List.mem_cons.1 hb with rfl|hb
  ·rw[hr];exact hA a ha
  ·exact a3 a ha b (by simp[hb])
 ·rcases hmem y hy with rfl|h';exact hq;exact h.some y h'
 ·rcases hmem y hy with rfl|h'
  ·rw[hr];exact hm
  ·exact h.mem y h'
 ·rcases hmem y hy with rfl|h';exact hp;exact h.que y h'
theorem UA {s:Int}{A M B:List Rw}(h:SideOk s (A++M++B)):SideOk s (A++B):=by
 have hmem:∀y,y∈A++B->y∈A++M++B:=by
  intro y hy;simp only[List.mem_append]at hy ⊢;rcases hy with h|h
  ·exact .inl (.inl h)
  ·exact .inr h
 refine⟨List.Pairwise.sublist ?_ h.rows,λy hy=>h.some y (hmem y hy),λy hy=>h.mem y (hmem y hy),λy hy=>h.que y (hmem y hy)⟩
 rw[St]
 exact(List.sublist_append_right M B).append_left A
end
section
open Go.RowKit Go.Sort Go.Shelf
def QueAt (w:World)(a:Option Addr)(n:Nat)(q:List Od):Prop :=
 q.length=n/\(n=0∨∃g,a=some ⟨g,0,none⟩/\g<w.heap.size/\∀i,i<n->(q[i]!).at w g (i*6))
theorem Z0 {w:World}{base n:Nat}{T:TypeId}{v:Value}{L:List Od}(h:w.ownsRow base T 6 v n (ol L)):∃A c,v=.slice A n c/\QueAt w A n L:=by
 obtain⟨h1,h2⟩:=h
 rw[Je]at h1
 have hl:L.length=n:=by omega
 rcases h2 with ⟨hv,h0⟩ | ⟨k,cap,cur,hv,_,hk,hc,hm,hs,ht⟩
 ·subst h0;exact⟨none,0,hv,hl,.inl rfl⟩
 ·refine⟨_,_,hv,hl,.inr ⟨k,rfl,Qc hk,λi hi=>?_⟩⟩;have hcell:∀j v,(ol L)[j]? = some v->w.cell? ⟨k,j,none⟩=some v:=by
   intro j v hj;rw[<-ht,List.getElem?_take]at hj
   split at hj
   ·rw[Array.getElem?_toList]at hj;rw[cell_of_row _ _ _ _ _ _ hk,hj]
   ·cases hj
  have g:∀c v,c<6->(Qo L[i]!)[c]? = some v->w.cell? ⟨k,i*6+c,none⟩=some v:=λc v hc hv =>
   hcell (i*6+c) v ((Km L i c Oz hc).trans hv)
  exact⟨g 0 _ Oz rfl,g 1 _ Oz rfl,g 2 _ Oz rfl,g 3 _ Oz rfl,g 4 _ Oz rfl,g 5 _ Oz rfl⟩
theorem YR {S:Nat->Prop}{w w':World}(hf:Fr S w w'){b:Nat}(hl:b<w.heap.size)(hn:¬S b)(o:Nat):w'.cell? ⟨b,o,none⟩=w.cell? ⟨b,o,none⟩:=World.cell?_of_block (w:=w) (hf.block b hl hn)
theorem Od.at_fr {S:Nat->Prop}{w w':World}{x:Od}{b o:Nat}(h:x.at w b o)(hl:b<w.heap.size)(hf:Fr S w w')(hn:¬S b):x.at w' b o:=by
 unfold Od.at at h ⊢
 simpa only[YR hf hl hn] using h
theorem QueAt.fr {S:Nat->Prop}{w w':World}{A:Option Addr}{n:Nat}{q:List Od}(h:QueAt w A n q)(hf:Fr S w w')(hn:∀g,A=some ⟨g,0,none⟩->¬S g):QueAt w' A n q:=by
 refine⟨h.1,?_⟩
 rcases h.2 with h0 | ⟨g,rfl,hg,hc⟩
 ·exact .inl h0
 ·exact .inr ⟨g,rfl,Ww hg hf.size,λi hi=>Od.at_fr (hc i hi) hg hf (hn g rfl)⟩
theorem QueAt.gw {w w':World}{A:Option Addr}{n:Nat}{q:List Od}(h:QueAt w A n q)(hf:Gw w w'):QueAt w' A n q :=
 h.fr (S:=λ_=>False) (Fr.of_below hf.b) (λ_ _ h=>h)
theorem RowsAt.fr {S:Nat->Prop}{w w':World}{A:Option Addr}{n:Nat}{R:List Rw}(h:RowsAt w A n R)(hf:Fr S w w')(hn:∀g,A=some ⟨g,0,none⟩->¬S g):RowsAt w' A n R:=by
 refine⟨h.1,?_⟩
 rcases h.2 with h0 | ⟨g,rfl,hg,hc⟩
 ·exact .inl h0
 ·exact .inr ⟨g,rfl,Ww hg hf.size,λi hi=>by
   rw[YR hf hg (hn g rfl),YR hf hg (hn g rfl)]
   exact hc i hi⟩
theorem RowsAt.gw {w w':World}{A:Option Addr}{n:Nat}{R:List Rw}(h:RowsAt w A n R)(hf:Gw w w'):RowsAt w' A n R :=
 h.fr (S:=λ_=>False) (Fr.of_below hf.b) (λ_ _ h=>h)
theorem Gw.of_grow (w:World)(m:Nat)(os:Array Obj):Gw w (Go.Sort.grow (w.drewN m) os):=⟨below_grown_sl _ _ _ _ (Sq _),Nat.le_add_right _ _⟩
theorem Ve:∀(fn:Fn) (first cap:Array Value) (w:World),(Instr.makeFunc fn first cap).run prog w=.ok (.func fn first cap) w:=λ_ _ _ _=>rfl
theorem UB {α:Type}[Inhabited α]{l:List α}{f:α->Bool}(h:l.Pairwise (λa b=>f b=true->f a=true)):∀a b,a<=b->b<l.length->(!f l[a]!)=true->(!f l[b]!)=true:=by
 intro a b hab hb ha
 rcases Nat.eq_or_lt_of_le hab with rfl|hlt
 ·exact ha
 ·rw[List.pairwise_iff_getElem]at h;rw[Sj l a (by omega)]at ha;rw[Sj l b hb];have:=h a b Oz hb hlt
  cases hf:f l[b] with
  | false=>rfl
  | true=>rw[this hf]at ha;cases ha
theorem UC {α:Type}[Inhabited α](l:List α)(f:α->Bool):(List.range l.length).countP (λi=>!!f l[i]!)=l.countP f:=by
 rw[<-qfO l default f]
 congr 1
 funext i
 rw[Bool.not_not,List.getElem!_eq_getElem?_getD,List.getD_eq_getElem?_getD]
theorem VP (A:Option Addr)(n c:Nat)(q:List Od)(o:Od)(w:World)(H:QueAt w A n q)(hs:q.Pairwise (λx y=>Qt x y=true))(hn:n<=1000) :
  Calls prog 182 #[.slice A n c,.agg #[.int .u64 o.id,.int .i64 o.acc,.int .i64 o.side,.int .i64 o.price,.int .i64 o.qty,.int .u64 o.seq]] w λe w'=>e=.returned (.int .i64 (plN o q:Nat))/\Gw w w':=by
 have uN:=Ve
 have hl:=H.1
 obtain⟨W,hW⟩:∃W,((w.alloc (.cells #[.slice A n c] 22)).alloc (.cells (Qo o).toArray 38))=W:=⟨_,rfl⟩
 have B1:Gw w W:=by rw[<-hW];exact((Gw.refl w).alloc _).alloc _
 have hq:W.heap[w.heap.size]? = some (.cells #[.slice A n c] 22 (0,0)):=by rw[<-hW];exact Qp Oy (Qe rfl)
 have ho:W.heap[w.heap.size+1]? = some (.cells (Qo o).toArray 38 (0,0)):=by rw[<-hW];exact Qe Oy
 have HS:=Any.sort_Search Tryz.searchL 190 #[.pointer (some ⟨w.heap.size,0,none⟩),.pointer (some ⟨w.heap.size+1,0,none⟩)] n (λi=>!Qt q[i]! o) W (enters_of func190 Ow rfl) Oz
  (λm os i hi=>by
   have hG:=Gw.of_grow W m os;rcases H.2 with h0 | ⟨g,rfl,hg,hc⟩
   ·omega
   have kD:=(H.gw B1).gw hG;rcases kD.2 with h0 | ⟨g',e',hg',hc'⟩
   ·omega
   injection e' with e';injection e' with e';subst e'
   exact(qfK _ _ _ g n c i o q[i]! hi (by rw[hG.b.block _ (Qc hq)];exact hq) (by rw[hG.b.block _ (Qc ho)];exact ho) hg' (hc' i hi)).mono λe w' ⟨h1,h2⟩=>⟨h1,h2.grow⟩)
  (by rw[<-hl];exact UB (YQ hs))
 rw[<-hl,UC q (λx=>Qt x o),hl]at HS
 have sP:Hid _:=Ou HS
 go_enter func182,ntmps182
 go_wp2_with fail
 rw[show ((w.alloc (.cells #[.slice A n c] 22)).alloc (.cells #[.int .u64 o.id,.int .i64 o.acc,.int .i64 o.side,.int .i64 o.price,.int .i64 o.qty,.int .u64 o.seq] 38))=W from hW]
 have c0:W.cell? ⟨w.heap.size,0,none⟩=some (.slice A n c):=by rw[cell_of_row _ _ _ _ _ _ hq];rfl
 go_wp2_with fail
 refine(sP.out).mono ?_
 rintro e w' ⟨rfl,nq,osq,rfl⟩
 go_wp2_with fail
 go_ret
 exact⟨rfl,B1.trans (Gw.of_grow _ _ _)⟩
theorem Vf (A:Option Addr)(n c:Nat)(R:List Rw)(s p:Int)(w:World)(H:RowsAt w A n R)(hs:R.Pairwise (λa b=>Qf s a.pr b.pr=true))(hn:n<=1000) :
  Calls prog 181 #[.slice A n c,.int .i64 s,.int .i64 p] w λe w'=>e=.returned (.tuple #[.int .i64 (atN s p R:Nat),.bool (decide (atN s p R<n)&&(R[atN s p R]!).pr==p)])/\Gw w w':=by
 have mixed:prog.follows .mixedOrders=true:=by kernel_rfl
 have uN:=Ve
 have hl:=H.1
 obtain⟨W,hW⟩:∃W,(((w.alloc (.cells #[.slice A n c] 248)).alloc (.cells #[.int .i64 s] 3)).alloc (.cells #[.int .i64 p] 2))=W:=⟨_,rfl⟩
 have B1:Gw w W:=by rw[<-hW];exact(((Gw.refl w).alloc _).alloc _).alloc _
 have hr:W.heap[w.heap.size]? = some (.cells #[.slice A n c] 248 (0,0)):=by rw[<-hW];exact Qp (by simp;omega) (Qp Oy (Qe rfl))
 have xS:W.heap[w.heap.size+1]? = some (.cells #[.int .i64 s] 3 (0,0)):=by rw[<-hW];exact Qp Oy (Qe Oy)
 have hpb:W.heap[w.heap.size+2]? = some (.cells #[.int .i64 p] 2 (0,0)):=by rw[<-hW];exact Qe Oy
 have HS:=Any.sort_Search Tryz.searchL 189 #[.pointer (some ⟨w.heap.size+1,0,none⟩),.pointer (some ⟨w.heap.size,0,none⟩),.pointer (some ⟨w.heap.size+2,0,none⟩)] n (λi=>!Qf s (R[i]!).pr p) W (enters_of func189 Ow rfl) Oz
  (λm os i hi=>by
   have hG:=Gw.of_grow W m os;rcases H.2 with h0 | ⟨g,rfl,hg,hc⟩
   ·omega
   have kD:=(H.gw B1).gw hG;rcases kD.2 with h0 | ⟨g',e',hg',hc'⟩
   ·omega
   injection e' with e';injection e' with e';subst e'
   exact(qfJ _ _ _ _ g n c i s p (R[i]!).pr hi (by rw[cell_of_row _ _ _ _ _ _ ((hG.b.block _ (Qc xS)).trans xS)];rfl) (by rw[cell_of_row _ _ _ _ _ _ ((hG.b.block _ (Qc hr)).trans hr)];rfl) (by rw[cell_of_row _ _ _ _ _ _ ((hG.b.block _ (Qc hpb)).trans hpb)];rfl) (hc' i hi).1).mono λe w' ⟨h1,h2⟩=>⟨h1,h2.grow⟩)
  (by rw[<-hl];exact UB (f:=λr:Rw=>Qf s r.pr p) (CN hs))
 rw[<-hl,UC R (λr=>Qf s r.pr p),hl]at HS
 have sP:Hid _:=Ou HS
 have HA:Aside (RowsAt W A n R):=H.gw B1
 obtain⟨k,hk⟩:∃k,atN s p R=k:=⟨_,rfl⟩
 rw[show R.countP (λr=>Qf s r.pr p)=k from hk]at sP
 rw[hk]
 have hkl:k<=n:=by rw[<-hk,<-hl];exact YP s p R
 obtain⟨bb,hbb⟩:∃bb,(decide (k<n)&&(R[k]!).pr==p)=bb:=⟨_,rfl⟩
 rw[hbb]
 clear hk HS hs
 have c0:W.cell? ⟨w.heap.size,0,none⟩=some (.slice A n c):=by rw[cell_of_row _ _ _ _ _ _ hr];rfl
 go_enter func181,ntmps181
 go_wp2_with fail
 refine(sP.out).mono ?_
 rintro e w' ⟨rfl,nq,osq,rfl⟩
 have G2:=Gw.of_grow W nq osq
 have jS:Aside (RowsAt (grow (W.drewN nq) osq) A n R):=HA.out.gw G2
 have B2:=Ou (B1.trans G2)
 have e0:(grow (W.drewN nq) osq).heap[w.heap.size]? = some (.cells #[.slice A n c] 248 (0,0)):=by rw[G2.b.block _ (Qc hr)];exact hr
 have e1:(grow (W.drewN nq) osq).heap[w.heap.size+2]? = some (.cells #[.int .i64 p] 2 (0,0)):=by rw[G2.b.block _ (Qc hpb)];exact hpb
 generalize grow (W.drewN nq) osq=W2 at *
 have d0:W2.cell? ⟨w.heap.size,0,none⟩=some (.slice A n c):=by rw[cell_of_row _ _ _ _ _ _ e0];rfl
 have d1:W2.cell? ⟨w.heap.size+2,0,none⟩=some (.int .i64 p):=by rw[cell_of_row _ _ _ _ _ _ e1];rfl
 clear e0 e1 c0 hr xS hpb hW sP G2 HA
 by_cases hkn:k<n
 ·have hd:decide ((k:Int)<(n:Int))=true:=by simp;omega
  have hd':decide (k<n)=true:=by simp[hkn]
  rw[hd',Bool.true_and]at hbb;obtain⟨_,h2⟩:=jS;rcases h2 with h0 | ⟨g,rfl,hg,hc⟩
  ·omega
  have hck:=(hc k hkn).1;have hkz:(k:Int)<(n:Int):=by omega
  obtain⟨pr,aH⟩:∃pr,(R[k]!).pr=pr:=⟨_,rfl⟩
  rw[aH]at hck hbb;subst hbb;clear aH hc hkn hd';go_wp2_with fail
  go_quiet (fail)
  go_wp2_with fail
  go_ret2;exact⟨rfl,B2.out.trans ⟨QI (Oq _ _) _,Nat.le_add_right _ _⟩⟩
 ·have hd:decide ((k:Int)<(n:Int))=false:=by simp;omega
  have hd':decide (k<n)=false:=by simp[hkn]
  rw[hd',Bool.false_and]at hbb;subst hbb;clear jS hkn hd;go_wp2_with fail
  go_quiet (fail)
  go_wp2_with fail
  go_ret2;exact⟨rfl,B2.out.trans ⟨QI (Oq _ _) _,Nat.le_add_right _ _⟩⟩
end
section
open Go.RowKit Go.Sort Go.Shelf Go.Maps
structure Sd where
 there:Bool
 v:Value
 rs:List Rw
abbrev v0:Value:=.slice none 0 0
def ZH:Sd:=⟨false,v0,[]⟩
def QC (s1 s2:Sd):DataW Value :=
 .map ((if s1.there then [(.int .i64 1,.held s1.v)] else [])++(if s2.there then [(.int .i64 2,.held s2.v)] else []))
def RV (v:Value):Option (DataW Value×List MemPlace):=some (.held v,[])
def Ze (s1 s2:Sd)(side:Int):Value:=if side=1 then s1.v else if side=2 then s2.v else v0
theorem Vg:Keyed prog 3:=int_keyed underlying3
theorem qfR (w:World):(zeroValue 248).run prog w=.ok v0 w:=by kernel_rfl
theorem qfS (s1 s2:Sd)(h1:s1.there=false->s1.v=v0)(h2:s2.there=false->s2.v=v0)(side:Int):(QC s1 s2).atKey (.int .i64 side) (.held v0)=.held (Ze s1 s2 side):=by
 obtain⟨t1,a1,r1⟩:=s1
 obtain⟨t2,a2,r2⟩:=s2
 simp only at h1 h2
 unfold Ze
 by_cases e1:side=1
 ·subst e1
  cases t1<;>cases t2<;>simp[QC,DataW.atKey,Lit.sameKey]<;>simp_all
 ·by_cases e2:side=2
  ·subst e2
   cases t1<;>cases t2<;>simp[QC,DataW.atKey,Lit.sameKey]<;>simp_all
  ·have wW:¬(1:Int)=side:=λh=>e1 h.symm;have e2':¬(2:Int)=side:=λh=>e2 h.symm
   cases t1<;>cases t2<;>simp[QC,DataW.atKey,Lit.sameKey,e1,e2,wW,e2']
theorem Vh {w:World}{m:Nat}{s1 s2:Sd}(h:w.ownsMap prog 3 RV m 2 (QC s1 s2))(h1:s1.there=false->s1.v=v0)(h2:s2.there=false->s2.v=v0)(side:Int)(hs:(Lit.int .i64 side).wf=true) :
  (Instr.lookup 130 (.map (some m)) (.int .i64 side) false).run prog w=.ok (Ze s1 s2 side) w:=by
 have hat:=qfS s1 s2 h1 h2 side
 obtain⟨es,clock,hb,F,_,hD⟩:=h
 rw[hD]at hat
 rcases Maps.fit_look false Vg underlying130 (qfR w) hb F (keyOf_int_mk underlying3 hs) with ⟨hrun,_,hz⟩ | ⟨e0,y,_,_,hrun,hR,hz,_⟩
 ·rw[hz]at hat;replace hat:=DataW.held.inj hat;simp only[Bool.false_eq_true,if_false]at hrun;exact hrun.trans (congrArg (λv=>Result.ok v w) hat)
 ·rw[hz]at hat;unfold RV at hR;replace hR:=Option.some.inj hR;rw[<-hR]at hat;replace hat:=DataW.held.inj hat;simp only[Bool.false_eq_true,if_false]at hrun;exact hrun.trans (congrArg (λv=>Result.ok v w) hat)
theorem CO (s1 s2:Sd)(v:Value)(rs:List Rw):(QC s1 s2).put (.int .i64 1) (.held v)=QC ⟨true,v,rs⟩ s2:=by
 obtain⟨t1,a1,r1⟩:=s1
 obtain⟨t2,a2,r2⟩:=s2
 cases t1<;>cases t2<;>simp[QC,DataW.put,DataW.insert,Lit.sameKey,Lit.before]
theorem CP (s1 s2:Sd)(v:Value)(rs:List Rw):(QC s1 s2).put (.int .i64 2) (.held v)=QC s1 ⟨true,v,rs⟩:=by
 obtain⟨t1,a1,r1⟩:=s1
 obtain⟨t2,a2,r2⟩:=s2
 cases t1<;>cases t2<;>simp[QC,DataW.put,DataW.insert,Lit.sameKey,Lit.before]
theorem qfT (s1 s2:Sd):Maps.size (QC s1 s2)<=2:=by
 obtain⟨t1,a1,r1⟩:=s1
 obtain⟨t2,a2,r2⟩:=s2
 cases t1<;>cases t2<;>simp[QC,Maps.size]
theorem YS {w:World}{m n:Nat}{s1 s2:Sd}(h:w.ownsMap prog 3 RV m n (QC s1 s2)):w.ownsMap prog 3 RV m 2 (QC s1 s2):=by
 have hz:=qfT s1 s2
 obtain⟨es,clock,hb,F,_,hD⟩:=h
 refine⟨es,clock,hb,F,?_,hD⟩
 rw[hD]at hz
 simpa [Maps.size,length_sorted] using hz
structure Bk (w:World) (b:Option Addr) (m:Option Nat) (s1 s2:Sd):Prop where
 shape:(b=none/\m=none)∨∃p,b=some ⟨p,0,none⟩/\w.heap[p]? = some (.cells #[.map m] 132 (0,0))
 un:m=none->s1=ZH/\s2=ZH
 mp:∀k,m=some k->w.ownsMap prog 3 RV k 2 (QC s1 s2)
 t1:s1.there=false->s1.v=v0
 t2:s2.there=false->s2.v=v0
 r1:w.ownsRow 0 247 2 s1.v s1.rs.length (rl s1.rs)
 r2:w.ownsRow 0 247 2 s2.v s2.rs.length (rl s2.rs)
 q:∀r∈s1.rs++s2.rs,w.ownsRow 0 38 6 r.v r.q.length (ol r.q)
def QH (b:Option Addr)(m:Option Nat)(s1 s2:Sd)(k:Nat):Prop :=
 b=some ⟨k,0,none⟩∨m=some k∨s1.v.ownBlock=some k∨s2.v.ownBlock=some k∨∃r∈s1.rs++s2.rs,r.v.ownBlock=some k
theorem QQ {S:Nat->Prop}{w w':World}{P:Program}{k:TypeId}{R:Value->Option (DataW Value×List MemPlace)}{b n:Nat}{D:DataW Value}(h:w.ownsMap P k R b n D)(hf:Fr S w w')(hn:¬S b):w'.ownsMap P k R b n D:=by
 have hlt:=h.lt
 obtain⟨es,clock,hb,F,hs,hD⟩:=h
 exact⟨es,clock,(hf.block b hlt hn).trans hb,F,hs,hD⟩
theorem Bk.fr {S:Nat->Prop}{w w':World}{b:Option Addr}{m:Option Nat}{s1 s2:Sd}(h:Bk w b m s1 s2)(hf:Fr S w w')(hn:∀k,QH b m s1 s2 k->¬S k):Bk w' b m s1 s2:=by
 refine⟨?_,h.un,λk hk=>QQ (h.mp k hk) hf (hn k (.inr (.inl hk))),h.t1,h.t2,Qh h.r1 hf (λk hk=>hn k (.inr (.inr (.inl hk)))),Qh h.r2 hf (λk hk=>hn k (.inr (.inr (.inr (.inl hk))))),λr hr=>Qh (h.q r hr) hf (λk hk=>hn k (.inr (.inr (.inr (.inr ⟨r,hr,hk⟩)))))⟩
 rcases h.shape with h0 | ⟨p,hb,hp⟩
 ·exact .inl h0
 ·exact .inr ⟨p,hb,hf.blk hp (hn p (.inl hb))⟩
theorem Bk.below {w w':World}{b:Option Addr}{m:Option Nat}{s1 s2:Sd}(h:Bk w b m s1 s2)(hf:Ok w w'):Bk w' b m s1 s2 :=
 h.fr (S:=λ_=>False) (Fr.of_below hf) (λ_ _ h=>h)
theorem Bk.lt {w:World}{b:Option Addr}{m:Option Nat}{s1 s2:Sd}(h:Bk w b m s1 s2){k:Nat}(hk:QH b m s1 s2 k):k<w.heap.size:=by
 rcases hk with hk|hk|hk|hk | ⟨r,hr,hk⟩
 ·rcases h.shape with ⟨h0,_⟩ | ⟨p,hb,hp⟩
  ·rw[h0]at hk;cases hk
  ·rw[hb]at hk;injection hk with hk;injection hk with hk;subst hk;exact Qc hp
 ·exact(h.mp k hk).lt
 ·exact(Zs h.r1 k hk).2
 ·exact(Zs h.r2 k hk).2
 ·exact(Zs (h.q r hr) k hk).2
theorem qfU (m:Option Nat)(w:World):(binOp .neq 130 (.map m) (.map none)).run prog w=.ok (.bool m.isSome) w:=by
 cases m<;>kernel_rfl
theorem JS (b:Option Addr)(m:Option Nat)(s1 s2:Sd)(w:World)(H:Bk w b m s1 s2) :
  Calls prog 177 #[.pointer b] w λe w'=>e=.returned (.bool m.isSome)/\w'=w:=by
 rcases H.shape with ⟨rfl,rfl⟩ | ⟨p,rfl,hp⟩
 ·clear H;go_enter func177,ntmps177;go_wp2_with fail
  go_ret;exact⟨rfl,rfl⟩
 ·have c0:w.cell? ⟨p,0,none⟩=some (.map m):=by rw[cell_of_row _ _ _ _ _ _ hp];rfl
  have hn:=qfU m w;generalize m.isSome=bb at hn ⊢;clear H hp;go_enter func177,ntmps177;go_wp2_with fail
  go_ret;exact⟨rfl,rfl⟩
theorem qfV (side:Int):Ze ZH ZH side=v0:=by
 unfold Ze ZH
 (repeat' split)<;>rfl
theorem UD (b:Option Addr)(m:Option Nat)(s1 s2:Sd)(side:Int)(w:World)(hs:(Lit.int .i64 side).wf=true)(H:Bk w b m s1 s2) :
  Calls prog 180 #[.pointer b,.int .i64 side] w λe w'=>e=.returned (Ze s1 s2 side)/\w'=w:=by
 have HM:=Ou (JS b m s1 s2 w H)
 cases m with
 | none =>
  obtain⟨rfl,rfl⟩:=H.un rfl;rw[qfV];clear H;go_enter func180,ntmps180;go_wp2_with ((with_reducible refine(HM.out).mono ?_);rintro e w' ⟨rfl,rfl⟩)
  go_ret;exact⟨rfl,rfl⟩
 | some m =>
  have hl:=Vh (H.mp m rfl) H.t1 H.t2 side hs;rcases H.shape with ⟨_,h0⟩ | ⟨p,rfl,hp⟩
  ·cases h0
  have c0:w.cell? ⟨p,0,none⟩=some (.map (some m)):=by rw[cell_of_row _ _ _ _ _ _ hp];rfl
  generalize Ze s1 s2 side=v at *;clear H hp;go_enter func180,ntmps180;go_wp2_with ((with_reducible refine(HM.out).mono ?_);rintro e w' ⟨rfl,rfl⟩)
  go_ret;exact⟨rfl,rfl⟩
theorem qfW (w:World):Calls prog 50 #[] w λe w'=>e=.returned (.pointer (some ⟨w.heap.size+1,0,none⟩))/\Hid (Bk w' (some ⟨w.heap.size+1,0,none⟩) (some w.heap.size) ZH ZH/\Ok w w'):=by
 have hmm:=@run_makeMap prog
 go_enter func50,ntmps50
 go_wp2_with fail
 go_ret
 refine⟨rfl,Ou ?_⟩
 refine⟨⟨.inr ⟨_,rfl,?_⟩,(λh=>by cases h),λk hk=>?_,λ_=>rfl,λ_=>rfl,?_,?_,λr hr=>by cases hr⟩,?_⟩
 ·exact Qe Oy
 ·injection hk with hk;subst hk;exact((World.ownsMap_made w prog 3 RV).mono (Nat.zero_le _)).alloc _
 ·exact⟨rfl,.inl ⟨rfl,rfl⟩⟩
 ·exact⟨rfl,.inl ⟨rfl,rfl⟩⟩
 ·exact((Oq _ _).alloc (Sq _) _).alloc Oy _
end
section
open Go.RowKit Go.Shelf
attribute [local go_sem] Oper.semAt_some
def Qu (s1 s2:Sd)(side:Int):List Rw:=if side=1 then s1.rs else if side=2 then s2.rs else []
abbrev Rx (s1 s2:Sd):={ r:Rw // r∈s1.rs++s2.rs }
def vals {s1 s2:Sd}(l:List (Rx s1 s2)):List Rw:=l.map Subtype.val
theorem JT {s1 s2:Sd}{side:Int}{r:Rw}(h:r∈Qu s1 s2 side):r∈s1.rs++s2.rs:=by
 unfold Qu at h
 split at h
 ·exact Ws _ h
 ·split at h
  ·exact Wx _ h
  ·cases h
theorem Bk.rows {w:World}{b:Option Addr}{m:Option Nat}{s1 s2:Sd}(h:Bk w b m s1 s2)(side:Int) :
  ∃A c,Ze s1 s2 side=.slice A (Qu s1 s2 side).length c/\RowsAt w A (Qu s1 s2 side).length (Qu s1 s2 side)/\∀g,A=some ⟨g,0,none⟩->0<(Qu s1 s2 side).length->QH b m s1 s2 g:=by
 unfold Ze Qu
 by_cases e1:side=1
 ·rw[Sx e1,Sx e1];obtain⟨A,c,hv,hR⟩:=Kq h.r1;exact⟨A,c,hv,hR,λg hg _=>.inr (.inr (.inl (by rw[hv,hg];rfl)))⟩
 ·rw[Sw e1,Sw e1];by_cases e2:side=2
  ·rw[Sx e2,Sx e2];obtain⟨A,c,hv,hR⟩:=Kq h.r2;exact⟨A,c,hv,hR,λg hg _=>.inr (.inr (.inr (.inl (by rw[hv,hg];rfl))))⟩
  ·rw[Sw e2,Sw e2];exact⟨none,0,rfl,⟨rfl,.inl rfl⟩,λg hg _=>by cases hg⟩
theorem CQ {n₀:Nat}{w w':World}(h:Below n₀ w w'):Fr (n₀<=·) w w':=⟨h.os,h.tape,h.output,h.size,λk _ hn=>h.block k Oz⟩
def Rw.val (r:Rw):Value:=.agg #[.int .i64 r.pr,r.v]
structure OvM (S:Nat->Prop) (w:World) (sb bb g:Nat) (sides:List Int) (b:Option Addr) (m:Option Nat) (s1 s2:Sd):Prop where
 c1:w.cell? ⟨sb,0,none⟩=some (.slice (some ⟨g,0,none⟩) sides.length sides.length)
 l1:¬S sb
 c2:w.cell? ⟨bb,0,none⟩=some (.pointer b)
 l2:¬S bb
 cs:∀k,k<sides.length->w.cell? ⟨g,k,none⟩=some (.int .i64 (sides[k]!))/\(Lit.int .i64 (sides[k]!)).wf=true
 lg:¬S g
 bk:Bk w b m s1 s2
 lb:∀k,QH b m s1 s2 k->¬S k
theorem J6 {S:Nat->Prop}{w w':World}(hf:Fr S w w'){b o:Nat}{v:Value}(hn:¬S b)(h:w.cell? ⟨b,o,none⟩=some v):w'.cell? ⟨b,o,none⟩=some v :=
 (YR hf (World.block_lt_of_cell? w ⟨b,o,none⟩ h) hn o).trans h
theorem OvM.keep {S:Nat->Prop}{w w':World}{sb bb g:Nat}{sides:List Int}{b:Option Addr}{m:Option Nat}{s1 s2:Sd}(h:OvM S w sb bb g sides b m s1 s2)(hf:Fr S w w'):OvM S w' sb bb g sides b m s1 s2 :=
 ⟨J6 hf h.l1 h.c1,h.l1,J6 hf h.l2 h.c2,h.l2,λk hk=>⟨J6 hf h.lg (h.cs k hk).1,(h.cs k hk).2⟩,h.lg,h.bk.fr hf h.lb,h.lb⟩
theorem Fr.t {S:Nat->Prop}{a b c:World}(h:Fr S a b)(k:Fr S b c):Fr S a c:=h.trans k (λ_ h=>.inl h)
theorem CR {s1 s2:Sd}{pre:List (Rx s1 s2)}{X Y:List Rw}{j:Nat}{r:Rw}(hr:r∈s1.rs++s2.rs)(h:vals pre=X++Y.take j)(hj:j<Y.length)(e:Y[j]! = r):vals (pre++[⟨r,hr⟩])=X++Y.take (j+1):=by
 unfold vals at h ⊢
 rw[List.map_append,h,List.take_succ_eq_append_getElem hj,St]
 rw[Sj Y j hj]at e
 rw[e]
 rfl
theorem CS {s1 s2:Sd}(l:List (Rx s1 s2)):(vals l).length=l.length:=List.length_map _
theorem CT (s1 s2:Sd)(sides:List Int)(k:Nat):(sides.take k).flatMap (Qu s1 s2) <+: sides.flatMap (Qu s1 s2):=by
 conv=>rhs;rw[<-List.take_append_drop k sides,Wv]
 exact List.prefix_append _ _
theorem UE (s1 s2:Sd)(sides:List Int)(k:Nat)(hk:k<sides.length):(sides.take (k+1)).flatMap (Qu s1 s2)=(sides.take k).flatMap (Qu s1 s2)++Qu s1 s2 (sides[k]!):=by
 rw[List.take_succ_eq_append_getElem hk,Wv,Sj sides k hk]
 simp
theorem qfX (n:Nat)(hn:1<=n)(ll:Nat)(S:Nat->Prop)(sb bb g:Nat)(sides:List Int)(b:Option Addr)(m:Option Nat)(s1 s2:Sd)(hL:sides.length<=1000)(dP:s1.rs.length<=1000)(cQ:s2.rs.length<=1000)(J Jx:List (Rx s1 s2)->World->Prop)
  (W:World) (N:Nat) (hN:(sides.flatMap (Qu s1 s2)).length<=N) (hJ:AbidesFrom W.heap.size J)
  (hY:∀pre x W1,J pre W1->pre.length<N->YieldAt Fence.wide (n-1) prog ll #[Rw.val x.1] W1 λe W' =>
   (e=.returned (.bool true)/\J (pre++[x]) W'/\Fr S W1 W')∨(e=.returned (.bool false)/\Jx (pre++[x]) W'))
  (hM:OvM S W sb bb g sides b m s1 s2) (h0:J [] W) :
  CallsIn Fence.wide n prog 187 #[.func (.yield ll) #[] #[],.pointer (some ⟨sb,0,none⟩),.pointer (some ⟨bb,0,none⟩)] W λe W'=>(∃v,e=.returned v) /\
   ((∃ys:List (Rx s1 s2),vals ys=sides.flatMap (Qu s1 s2)/\J ys W')∨(∃pre:List (Rx s1 s2),vals pre <+: sides.flatMap (Qu s1 s2)/\Jx pre W')):=by
 have HGr:Hid (∀pre W1 W2,J pre W1->Ok W1 W2->J pre W2):=λpre W1 W2 h hb =>
  hJ pre W1 W2 none h ⟨hb.os,hb.tape,hb.output,hb.size,λi hi _=>hb.block i hi⟩ (λr e=>by cases e)
 have HY:=Ou hY
 have H0:=Ou h0
 have HM:=Ou hM
 have HN:=Ou (Sv hN (Sv hL (Sv dP cQ)))
 have c1:=hM.c1
 clear hY h0 hM hJ hN hL dP cQ
 refine callsIn_of_wp func187 rfl trivial ?_ rfl
 simp only[ntmps187,Wu,Wq,List.length_nil,Nat.reduceAdd,Nat.reduceSub,Array.replicate_succ,Array.replicate_zero,List.push_toArray,List.append_toArray,List.nil_append,List.cons_append]
 gi_wp2_with fail
 gi_loopw [10] (λs wr=>∃(k:Nat) (pre:List (Rx s1 s2)),s=.int .i64 (k:Int)/\Hid (k<=sides.length/\vals pre=(sides.take k).flatMap (Qu s1 s2)/\J pre wr/\OvM S wr sb bb g sides b m s1 s2)) (λs _=>match s with | .int _ z=>sides.length-z.toNat|_=>0)
 case atStart=>exact⟨0,[],rfl,Nat.zero_le _,rfl,H0.out,HM.out⟩
 case round =>
  clear H0 HM c1;obtain⟨k,pre,rfl,hd⟩:=hrel;by_cases hk:k<sides.length
  ·have hO:=hd.out.2.2.2;have ck:=(hO.cs k hk).1;obtain⟨sd,dI⟩:∃sd,sides[k]! = sd:=⟨_,rfl⟩
   rw[dI]at ck;have c2:=hO.c2;obtain⟨A,c,hv,hR,hA⟩:=hO.bk.rows sd;have HS:=Ou ((callsIn_wide (n:=n-1)).2 (UD b m s1 s2 sd wr (by rw[<-dI];exact(hO.cs k hk).2) hO.bk));rw[hv]at HS;obtain⟨rs,hrs⟩:∃rs,Qu s1 s2 sd=rs:=⟨_,rfl⟩
   rw[hrs]at hR hA HS;have hkI:(k:Int)<(sides.length:Int):=by omega
   have gX:rs.length<=1000:=by
    rw[<-hrs];unfold Qu
    split
    ·exact HN.out.2.2.1
    ·split
     ·exact HN.out.2.2.2
     ·exact Nat.zero_le _
   have HA:=Ou (Sv hR.2 hA);have HX:=Ou (Sv dI (Sv hrs hk));clear hO dI hrs hk hR hA hv
   gi_wp2_with fail
   refine⟨trivial,?_⟩;((with_reducible refine HS.out.mono ?_);rintro e w1 ⟨rfl,rfl⟩);clear HS ck c2
   gi_wp2_with fail
   gi_loopw [18] (λs wq=>∃(j:Nat) (pre:List (Rx s1 s2)),s=.int .i64 (j:Int)/\Hid (j<=rs.length/\vals pre=(sides.take k).flatMap (Qu s1 s2)++rs.take j/\J pre wq/\OvM S wq sb bb g sides b m s1 s2/\Fr S w1 wq)) (λs _=>match s with | .int _ z=>rs.length-z.toNat|_=>0)
   case atStart=>exact⟨0,pre,rfl,Nat.zero_le _,by rw[hd.out.2.1];simp,hd.out.2.2.1,hd.out.2.2.2,Fr.refl _ _⟩
   case round =>
    clear hd;obtain⟨j,pre',rfl,hd⟩:=hrel;by_cases hj:j<rs.length
    ·have hO:=hd.out.2.2.2.1;have hB:=hd.out.2.2.2.2;obtain⟨g2,rfl,hg2⟩:∃g2,A=some ⟨g2,0,none⟩/\w1.cell? ⟨g2,j*2,none⟩=some (.int .i64 (rs[j]!).pr)/\w1.cell? ⟨g2,j*2+1,none⟩=some (rs[j]!).v:=by
      rcases HA.out.1 with h0 | ⟨g2,h1,_,h3⟩
      ·omega
      ·exact⟨g2,h1,h3 j hj⟩
     have hl2:¬S g2:=hO.lb g2 (HA.out.2 g2 rfl Oz);have hmem:rs[j]!∈s1.rs++s2.rs:=by
      rw[Sj rs j hj];exact JT (by rw[HX.out.2.1];exact Wt hj)
     have d0:=J6 hB hl2 hg2.1;have d1:=J6 hB hl2 hg2.2;obtain⟨r,hr⟩:∃r,rs[j]! = r:=⟨_,rfl⟩
     rw[hr]at d0 d1 hmem;have hpl:pre'.length<N:=by
      have e1:(vals pre').length=pre'.length:=CS pre';rw[hd.out.2.1,Su,Wy]at e1;have e2:=(CT s1 s2 sides (k+1)).length_le;rw[UE s1 s2 sides k HX.out.2.2,Su,HX.out.1,HX.out.2.1]at e2;have:=HN.out.1;omega
     obtain⟨pr,aH⟩:∃pr,r.pr=pr:=⟨_,rfl⟩
     obtain⟨qa,qc,cA,_⟩:=Z0 (hO.bk.q r hmem);obtain⟨qn,cE⟩:∃qn,r.q.length=qn:=⟨_,rfl⟩
     rw[cE]at cA;rw[aH]at d0;rw[cA]at d1;have hJa:J pre' (wr.alloc (.cells #[.int .i64 pr,.slice qa qn qc] 247)):=HGr.out _ _ _ hd.out.2.2.1 ((Oq _ _).alloc (Sq _) _);obtain⟨fn,tmps,assign,body,hy,hY⟩:=HY.out pre' ⟨r,hmem⟩ (wr.alloc (.cells #[.int .i64 pr,.slice qa qn qc] 247)) hJa hpl;have HV:Rw.val r=.agg #[.int .i64 pr,.slice qa qn qc]:=by unfold Rw.val;rw[aH,cA]
     simp only[HV]at hy;have HYY:=Ou hY;have hjI:(j:Int)<(rs.length:Int):=by omega
     have HF:=Ou (Sv hj (Sv hr (Sv hO hB)));have HP:=Ou hd.out.2.1;have vM:IntKind.i64.wrap ((j:Int)+1)=((j+1:Nat):Int):=by rw[Wz];omega
     clear hd hO hB hg2 hl2 hJa hY aH cA hj hr HV hpl
     gi_wp2_with fail
     refine HYY.out.mono ?_;rintro e W3 (⟨rfl,hJ3,hk3⟩ | ⟨rfl,hJx3⟩)
     ·have hb:Fr S wr W3:=((Fr.refl S wr).alloc _).t hk3;have yS:=Ou (Sv hJ3 hb);clear hJ3 hk3 hb HYY hy
      gi_wp2_with fail
      refine⟨⟨j+1,pre'++[⟨r,hmem⟩],?_,?_,CR hmem HP.out HF.out.1 HF.out.2.1,yS.out.1,HF.out.2.2.1.keep yS.out.2,HF.out.2.2.2.t yS.out.2⟩,?_⟩
      ·simp
      ·have:=HF.out.1;omega
      ·have:=HF.out.1;simp;omega
     ·gi_wp2_with fail
      refine bodyPost_ret (results_none rfl _ _ _) rfl ?_;refine⟨⟨_,rfl⟩,.inr ⟨pre'++[⟨r,hmem⟩],?_,hJx3⟩⟩;rw[CR hmem HP.out HF.out.1 HF.out.2.1];refine List.IsPrefix.trans ?_ (CT s1 s2 sides (k+1));rw[UE s1 s2 sides k HX.out.2.2,HX.out.1,HX.out.2.1];exact List.prefix_append_right_inj _ |>.2 (List.take_prefix _ _)
    ·have hjI:¬(j:Int)<(rs.length:Int):=by omega
     have HF:=Ou (Sv hj hd.out);have vM:IntKind.i64.wrap ((k:Int)+1)=((k+1:Nat):Int):=by rw[Wz];have:=HN.out.2.1;omega
     clear hd hj
     gi_wp2_with fail
     refine⟨⟨k+1,pre',?_,?_,?_,HF.out.2.2.2.1,HF.out.2.2.2.2.1⟩,?_⟩
     ·simp
     ·have:=HX.out.2.2;omega
     ·rw[UE s1 s2 sides k HX.out.2.2,HX.out.1,HX.out.2.1,HF.out.2.2.1,(List.take_of_length_le (by have:=HF.out.1;omega):rs.take j=rs)]
     ·have:=HX.out.2.2;simp;omega
  ·have hkI:¬(k:Int)<(sides.length:Int):=by omega
   gi_wp2_with fail
   go_end0;refine⟨⟨_,rfl⟩,.inl ⟨pre,?_,hd.out.2.2.1⟩⟩;rw[hd.out.2.1,List.take_of_length_le (by omega)]
theorem UF (b:Option Addr)(A:Option Addr)(n c:Nat)(w:World) :
  Calls prog 179 #[.pointer b,.slice A n c] w λe w'=>e=.returned (.func (.func 187) #[] #[.pointer (some ⟨w.heap.size+1,0,none⟩),.pointer (some ⟨w.heap.size,0,none⟩)])/\w'=(w.alloc (.cells #[.pointer b] 102)).alloc (.cells #[.slice A n c] 216):=by
 have uN:=Ve
 go_enter func179,ntmps179
 go_wp2_with fail
 go_ret
 exact⟨rfl,rfl⟩
theorem UG (n:Nat)(hn:1<=n)(S:Nat->Prop)(sb bb g:Nat)(sides:List Int)(b:Option Addr)(m:Option Nat)(s1 s2:Sd)(hL:sides.length<=1000)(dP:s1.rs.length<=1000)(cQ:s2.rs.length<=1000)(w:World)(N:Nat)(hN:(sides.flatMap (Qu s1 s2)).length<=N)
  (hM:OvM S w sb bb g sides b m s1 s2) :
  SeqStopsK Fence.wide n prog 187 #[.pointer (some ⟨sb,0,none⟩),.pointer (some ⟨bb,0,none⟩)] (λx:Rx s1 s2=>#[Rw.val x.1]) (Fr S) (λys=>vals ys=sides.flatMap (Qu s1 s2)) (λpre=>vals pre <+: sides.flatMap (Qu s1 s2)) N w:=λll J Jx W hW hJ _ hY h0 =>
 qfX n hn ll S sb bb g sides b m s1 s2 hL dP cQ J Jx W N hN hJ hY (hM.keep ((Fr.of_below hW).mono (λ_ h=>.inl h))) h0
end
section
open Go.RowKit Go.Shelf Go.Sort
attribute [local go_sem] Oper.semAt_some
def Cl (T:TypeId)(W:World)(c:Nat)(cs:Array Value):Prop:=W.heap[c]? = some (.cells cs T (0,0))
theorem Cl.own {T:TypeId}{c:Nat}{cs:Array Value}{X Y:World}{row:Option Nat}(h:Cl T X c cs)(hg:X.grownBy Y row)(hr:∀r,row=some r->∃o:Obj,X.heap[r]? = some o/\o.isCells=false):Cl T Y c cs :=
 (hg.block c (Qc h) (λe=>by obtain⟨o,ho,hc⟩:=hr c e.symm;rw[show X.heap[c]? = _ from h]at ho;cases ho;cases hc)).trans h
theorem Cl.c {T:TypeId}{c:Nat}{cs:Array Value}{X:World}(h:Cl T X c cs)(k:Nat):X.cell? ⟨c,k,none⟩=cs[k]?:=cell_of_row _ _ _ _ _ _ h
theorem Cl.f {T:TypeId}{c k:Nat}{cs:Array Value}{X:World}(h:Cl T X c cs):X.frozen? ⟨c,k,none⟩=false:=frozen_of_row _ _ _ _ _ h
theorem qfY (a b:Nat):wrap64 (wrap64 (a:Int)+(b:Int))=IntKind.i64.wrap ((a+b:Nat):Int):=by simp only[Wz,wrap64];omega
theorem qfZ {a:Nat}(h:a<=1000000):IntKind.i64.wrap (a:Int)=(a:Int):=by rw[Wz];omega
def Q4 (R:List Rw):Nat:=(R.map (λr=>r.q.length)).sum
theorem VQ (R:List Rw):Q4 R=(Qb R).length:=by
 unfold Q4 Qb
 rw[List.length_flatMap]
theorem qf0 {s1 s2:Sd}(pre:List (Rx s1 s2))(x:Rx s1 s2):Q4 (vals (pre++[x]))=Q4 (vals pre)+x.1.q.length:=by
 unfold Q4 vals
 simp
theorem KQ (s1 s2:Sd):[1,2].flatMap (Qu s1 s2)=s1.rs++s2.rs:=by
 show Qu s1 s2 1++(Qu s1 s2 2++[])=_
 rw[List.append_nil]
 rfl
theorem JU {s1 s2:Sd}{x:Rx s1 s2}:x.1.q.length<=Q4 (s1.rs++s2.rs):=by
 have h:∀(l:List Rw),x.1∈l->x.1.q.length<=Q4 l:=by
  intro l
  induction l with
  | nil=>intro h;cases h
  | cons y l ih =>
   intro h;unfold Q4 at ih ⊢;rw[List.map_cons,List.sum_cons];rcases List.mem_cons.1 h with h|h
   ·rw[h];omega
   ·have:=ih h;omega
 exact h _ x.2
theorem UH (S:Nat->Prop)(W1:World)(b:Option Addr)(m:Option Nat)(s1 s2:Sd)(H:Bk W1 b m s1 s2)(hf:∀k,QH b m s1 s2 k->¬S k)(h0:¬S W1.heap.size)(h1:¬S (W1.heap.size+1))(h2:¬S (W1.heap.size+2)) :
  OvM S (((W1.alloc (.cells #[.int .i64 1,.int .i64 2] 3)).alloc (.cells #[.pointer b] 102)).alloc (.cells #[.slice (some ⟨W1.heap.size,0,none⟩) 2 2] 216)) (W1.heap.size+2) (W1.heap.size+1) W1.heap.size [1,2] b m s1 s2:=by
 have e0:(((W1.alloc (.cells #[.int .i64 1,.int .i64 2] 3)).alloc (.cells #[.pointer b] 102)).alloc (.cells #[.slice (some ⟨W1.heap.size,0,none⟩) 2 2] 216)).heap[W1.heap.size]? = some (.cells #[.int .i64 1,.int .i64 2] 3):=Qp (by simp;omega) (Qp Oy (Qe rfl))
 have e1:(((W1.alloc (.cells #[.int .i64 1,.int .i64 2] 3)).alloc (.cells #[.pointer b] 102)).alloc (.cells #[.slice (some ⟨W1.heap.size,0,none⟩) 2 2] 216)).heap[W1.heap.size+1]? = some (.cells #[.pointer b] 102):=Qp Oy (Qe Oy)
 have e2:(((W1.alloc (.cells #[.int .i64 1,.int .i64 2] 3)).alloc (.cells #[.pointer b] 102)).alloc (.cells #[.slice (some ⟨W1.heap.size,0,none⟩) 2 2] 216)).heap[W1.heap.size+2]? = some (.cells #[.slice (some ⟨W1.heap.size,0,none⟩) 2 2] 216):=Qe Oy
 refine⟨by rw[cell_of_row _ _ _ _ _ _ e2];rfl,h2,by rw[cell_of_row _ _ _ _ _ _ e1];rfl,h1,λk hk=>?_,h0,?_,hf⟩
 ·have hk':k=0∨k=1:=by simp at hk;omega
  rcases hk' with rfl|rfl
  ·exact⟨by rw[cell_of_row _ _ _ _ _ _ e0];rfl,by decide⟩
  ·exact⟨by rw[cell_of_row _ _ _ _ _ _ e0];rfl,by decide⟩
 ·exact H.below ((((Oq _ _).alloc (Sq _) _).alloc Oy _).alloc (by simp;omega) _)
theorem VR {S:Nat->Prop}(W:World)(l:Nat)(o o':Obj)(hl:S l)(_:W.heap[l]? = some o):Fr S W (W.putObj l o') :=
 (Fr.refl S W).grown (grownBy_putObj' W l o') (λj e=>by cases e;exact .inl hl)
def AxR (n:Nat)(tm:Array Value)(k1 k2:Nat){s1 s2:Sd}(x:Rx s1 s2)(a':Act)(W:World):Prop :=
 ∃B A c,n<=B/\Cl 247 W B #[.int .i64 x.1.pr,.slice A x.1.q.length c]/\x.1.v=.slice A x.1.q.length c/\a'={ tmps:=(tm.setIfInBounds k1 (.pointer (some ⟨B,0,none⟩))).setIfInBounds k2 (Rw.val x.1),defers:=[] }
theorem YT (b:Option Addr)(m:Option Nat)(s1 s2:Sd)(w:World)(H:Bk w b m s1 s2)(dP:s1.rs.length<=1000)(cQ:s2.rs.length<=1000)(hQ:Q4 (s1.rs++s2.rs)<=1000) :
  Calls prog 173 #[.pointer b] w λe w'=>e=.returned (.int .i64 (Q4 (s1.rs++s2.rs):Nat))/\Hid (Ok w w'):=by
 refine(callsIn_wide (n:=5)).1 ?_
 refine callsIn_of_wp_marks func173 rfl trivial ?_ rfl
 simp only[ntmps173,Wu,Wq,List.length_nil,Nat.reduceAdd,Nat.reduceSub,Array.replicate_succ,Array.replicate_zero,List.push_toArray,List.append_toArray,List.nil_append,List.cons_append]
 gi_wp2_with (refine⟨trivial,?_⟩;refine((callsIn_wide (n:=5-1)).2 (UF _ _ _ _ _)).mono ?_;rintro e w' ⟨rfl,rfl⟩)
 have e1:w.heap.size+1+1+1=w.heap.size+3:=rfl
 obtain⟨W1,hW1⟩:∃W1,w.alloc (.cells #[.int .i64 0] 3)=W1:=⟨_,rfl⟩
 have hz1:W1.heap.size=w.heap.size+1:=by rw[<-hW1];simp
 have cY:Ok w W1:=by rw[<-hW1];exact(Oq _ _).alloc (Sq _) _
 have hM:=UH (λk=>k=w.heap.size∨w.heap.size+4<=k) W1 b m s1 s2 (H.below cY) (λk hk hS=>by have:=H.lt hk;omega) Oz Oz Oz
 obtain⟨W0,hW0⟩:∃W0,(((W1.alloc (.cells #[.int .i64 1,.int .i64 2] 3)).alloc (.cells #[.pointer b] 102)).alloc (.cells #[.slice (some ⟨W1.heap.size,0,none⟩) 2 2] 216))=W0:=⟨_,rfl⟩
 have hc0:Cl 3 W0 w.heap.size #[.int .i64 0]:=by
  rw[<-hW0,<-hW1];exact Qp (by simp;omega) (Qp (by simp;omega) (Qp Oy (Qe rfl)))
 have tD:Ok w W0:=by rw[<-hW0,<-hW1];exact((((Oq _ _).alloc (Sq _) _).alloc Oy _).alloc (by simp;omega) _).alloc (by simp;omega) _
 have hsz:W0.heap.size=w.heap.size+4:=by rw[<-hW0];simp;omega
 rw[hW0]at hM
 rw[hz1]at hM hW0
 have tP:(((w.alloc (.cells #[.int .i64 0] 3)).alloc (.cells #[.int .i64 1,.int .i64 2] 3)).alloc (.cells #[.pointer b] 102)).alloc (.cells #[.slice (some ⟨w.heap.size+1,0,none⟩) 2 2] 216)=W0:=by rw[hW1];exact hW0
 rw[tP]
 clear tP hW0 hW1 hz1 cY
 refine wpIn_rangeFunc_ownH rfl Oz (gf:=187) (lb:=#[.pointer (some ⟨w.heap.size+3,0,none⟩),.pointer (some ⟨w.heap.size+2,0,none⟩)]) rfl trivial (enters_of func187 Ow rfl)
  (UG (5-1) Oz (λk=>k=w.heap.size∨w.heap.size+4<=k) (w.heap.size+3) (w.heap.size+2) (w.heap.size+1) [1,2] b m s1 s2 Oy dP cQ W0 (s1.rs++s2.rs).length (by rw[KQ];exact Sq _) hM) Fr.t (λW l o o' hl ho _ _=>VR W l o o' (.inr Oz) ho) (Oq _ _) (λ_=>rfl)
  (λpre W=>Cl 3 W w.heap.size #[.int .i64 (IntKind.i64.wrap (Q4 (vals pre):Nat))]/\Ok w W)
  (λ_ _ _=>False)
  (OwnFrom.and (Own.from (λs A B row hs hg hr=>hs.own hg hr) _) (ownFrom_below (Sq _) Oz))
  (λ_ _ _ _ _ hs _ _=>hs)
  ⟨hc0,tD⟩
  (AxR (w.heap.size+1) #[.pointer b,undef,.int .i64 0,.pointer (some ⟨w.heap.size,0,none⟩),undef,.pointer b,.slice (some ⟨w.heap.size+1,0,none⟩) 2 2,.func (.func 187) #[] #[.pointer (some ⟨w.heap.size+3,0,none⟩),.pointer (some ⟨w.heap.size+2,0,none⟩)],undef,undef,undef,undef,undef,undef,undef] 4 8)
  (λx a' _ X Y row hs hg hr=>by obtain⟨B,A,c,h1,h2,h3⟩:=hs;exact⟨B,A,c,h1,h2.own hg (λr e=>(hr r e).2),h3⟩)
  ?assign ?body ?done ?stop
 case assign =>
  rintro l0 pre x W K ⟨hc,hB⟩ hK;obtain⟨A,c,hv,_⟩:=Z0 (H.q x.1 x.2);have hval:Rw.val x.1=.agg #[.int .i64 x.1.pr,.slice A x.1.q.length c]:=by unfold Rw.val;rw[hv]
  unfold AxR at hK;simp only[hval]at hK ⊢;have hlt:=hB.size;have hsz':=hc
  gi_wp2
  refine hK _ _ ((KeepsOthers.alloc _ _).from _) ((Fr.refl _ W).alloc _) ⟨Qp (Qc hc) hc,hB.alloc hB.size _⟩ ⟨W.heap.size,A,c,?_,Qe rfl,hv,rfl⟩;have:=Qc hc;omega
 case body =>
  rintro l0 pre x a' W hl ⟨r,hr⟩ ⟨hc,hB⟩ ⟨Bx,A,c,zT,bX,hv,rfl⟩ hlt;have p0:W.cell? ⟨w.heap.size,0,none⟩=some (.int .i64 (IntKind.i64.wrap (Q4 (vals pre):Nat))):=(hc.c 0).trans rfl;have p1:W.cell? ⟨Bx,1,none⟩=some (.slice A x.1.q.length c):=(bX.c 1).trans rfl;have f0:=hc.f (k:=0);have hval:Rw.val x.1=.agg #[.int .i64 x.1.pr,.slice A x.1.q.length c]:=by unfold Rw.val;rw[hv]
  simp only[hval]
  gi_wp2
  refine⟨(KeepsOthers.setCell _ _ _).from _,(Fr.refl _ W).set (.inl (.inl rfl)) _,?_,hB.setCell (p:=⟨w.heap.size,0,none⟩) (Sq _) _⟩;show (W.setCell _ _).heap[_]? = _;rw[QK hc,qf0];simp only[Array.setIfInBounds,Wu,Wq,List.length_nil,Nat.zero_add,Nat.lt_add_one,dif_pos];rw[qfY];rfl
 case done =>
  rintro D ys W hD hys ⟨hc,hB⟩ hK;have e2:Q4 (vals ys)=Q4 (s1.rs++s2.rs):=by rw[hys,KQ]
  rw[e2]at hc;have e3:=qfZ (Sk hQ (by decide:1000<=1000000));rw[e3]at hc;have p0:W.cell? ⟨w.heap.size,0,none⟩=some (.int .i64 (Q4 (s1.rs++s2.rs):Nat)):=(hc.c 0).trans rfl;clear hys e2 e3 hc hM hc0
  gi_wp2_with fail
  refine⟨by simp,.inl ⟨_,_,rfl,run_takeDeferred hK,?_⟩⟩;exact⟨_,results_tmp rfl _ _ _,rfl,Ou (hB.trans (belowK_b (w:=w) (Sq _) W D _ _ Oz hK rfl rfl))⟩
 case stop =>
  rintro D c pre W _ _ h _;exact h.elim
attribute [local go_sem] Oper.semAt_some
def YU (id:Int)(L:List Od):Option Od->Prop
 | some x=>x∈L/\x.id=id
 | none=>∀x∈L,¬x.id=id
def QF:Option Od->Value
 | some x=>.agg (OC x)
 | none=>.agg (OC ⟨0,0,0,0,0,0⟩)
theorem Cl.put {T:TypeId}{X:World}{c:Nat}{cs:Array Value}(h:Cl T X c cs)(D:Nat){o o':Obj}(hD:X.heap[D]? = some o)(ho:o.isCells=false):Cl T (X.putObj D o') c cs :=
 (World.putObj_heap_other (λe=>by rw[<-e,show X.heap[c]? = _ from h]at hD;cases hD;cases ho)).trans h
theorem Ks (R1 R2:List Rw):Qb (R1++R2)=Qa R1 R2:=by
 unfold Qb Qa Qb
 rw[Wv]
theorem CU {B:Nat}{W wr:World}(h:Ok W wr):KeepsFrom B W wr :=
 KeepsFrom.of_grownBy (row:=none) ⟨h.os,h.tape,h.output,h.size,λi hi _=>h.block i hi⟩ (λj e=>by cases e)
def Zm (X:World)(c:Nat)(o:Od):World:=(((((X.setCell ⟨c,0,none⟩ (.int .u64 o.id)).setCell ⟨c,1,none⟩ (.int .i64 o.acc)).setCell ⟨c,2,none⟩ (.int .i64 o.side)).setCell ⟨c,3,none⟩ (.int .i64 o.price)).setCell ⟨c,4,none⟩ (.int .i64 o.qty)).setCell ⟨c,5,none⟩ (.int .u64 o.seq)
theorem JV {T:TypeId}{X:World}{c:Nat}{z:Od}(o:Od)(h:Cl T X c (OC z)):Cl T (Zm X c o) c (OC o):=by
 have h0:X.heap[c]? = some (.cells (OC z) T (0,0)):=h
 unfold Cl Zm
 rw[QK (QK (QK (QK (QK (QK h0)))))]
 rfl
theorem YV (X:World){c k:Nat}(o:Od)(h:k≠c):(Zm X c o).heap[k]? = X.heap[k]?:=by
 unfold Zm
 rw[QJ (by exact h),QJ (by exact h),QJ (by exact h),QJ (by exact h),QJ (by exact h),QJ (by exact h)]
theorem VS {X:World}{B c:Nat}{w:World}(o:Od)(hc:B<=c)(h:Below B w X):Below B w (Zm X c o):=by
 unfold Zm
 exact(((((h.setCell (p:=⟨c,0,none⟩) hc _).setCell (p:=⟨c,1,none⟩) hc _).setCell (p:=⟨c,2,none⟩) hc _).setCell (p:=⟨c,3,none⟩) hc _).setCell (p:=⟨c,4,none⟩) hc _).setCell (p:=⟨c,5,none⟩) hc _
theorem qf1 (X:World)(B c:Nat)(o:Od):KeepsFrom B X (Zm X c o):=by
 unfold Zm
 exact((((((KeepsOthers.setCell _ _ _).trans (KeepsOthers.setCell _ _ _)).trans (KeepsOthers.setCell _ _ _)).trans (KeepsOthers.setCell _ _ _)).trans (KeepsOthers.setCell _ _ _)).trans (KeepsOthers.setCell _ _ _)).from B
theorem CV {fn:Func}{p q:Tmp}(h:fn.results=#[.cell p 38,.cell q 4])(tmps:Array Value)(w:World)(g k:Nat)(hp:tmps.getD p undef=.pointer (some ⟨g,0,none⟩))(hq:tmps.getD q undef=.pointer (some ⟨k,0,none⟩))(z:Od)(t t':TypeId)(bb:Bool)
  (hg:Cl t w g (OC z)) (hk:Cl t' w k #[.bool bb]):(results fn tmps).run prog w=.ok (.tuple #[.agg (OC z),.bool bb]) w:=by
 have hp':tmps[p]?.getD undef=.pointer (some ⟨g,0,none⟩):=by simpa using hp
 have hq':tmps[q]?.getD undef=.pointer (some ⟨k,0,none⟩):=by simpa using hq
 have hc:w.cell? ⟨k,0,none⟩=some (.bool bb):=(hk.c 0).trans rfl
 have hl:(loadVar 4 ⟨k,0,none⟩).run prog w=.ok (.bool bb) w:=by
  simp[loadVar,go_sem,hc,Tryz.isAgg4]
 simp[results,h,hp',hq',asAddr,run_loadVar_row w g _ _ _ (0,0) _ hg underlying38 rfl Yx,hl]
theorem qf2 {q:List Od}{j:Nat}{o:Od}(hj:j<q.length)(h:q[j]! = o):o∈q:=by
 rw[<-h,Sj q j hj];exact Wt hj
theorem CW {q:List Od}{id:Int}{n j:Nat}(hn:q.length=n)(hj:¬j<n)(h:∀k,k<j->¬(q[k]!).id=id):∀x∈q,¬x.id=id:=by
 intro x hx
 obtain⟨k,hk,rfl⟩:=List.mem_iff_getElem.1 hx
 have:=h k Oz
 rwa [Sj q k hk]at this
theorem qf3 {q:List Od}{id:Int}{j:Nat}{o:Od}(h:∀k,k<j->¬(q[k]!).id=id)(ho:q[j]! = o)(he:¬o.id=id):∀k,k<j+1->¬(q[k]!).id=id:=by
 intro k hk
 rcases Nat.lt_succ_iff_lt_or_eq.1 hk with h'|h'
 ·exact h k h'
 ·rw[h',ho];exact he
theorem KR {n j:Nat}(hj:j<n):n-((j:Int)+1).toNat<n-j:=by omega
theorem CX {s1 s2:Sd}(pre:List (Rx s1 s2))(x:Rx s1 s2):Qb (vals (pre++[x]))=Qb (vals pre)++x.1.q:=by
 unfold Qb vals
 simp
theorem Kt (b:Option Addr)(m:Option Nat)(s1 s2:Sd)(id:Int)(w:World)(H:Bk w b m s1 s2)(dP:s1.rs.length<=1000)(cQ:s2.rs.length<=1000)(hQ:Q4 (s1.rs++s2.rs)<=1000) :
  Calls prog 172 #[.pointer b,.int .u64 id] w λe w'=>∃r,e=.returned (.tuple #[QF r,.bool r.isSome])/\Hid (YU id (Qa s1.rs s2.rs) r/\Ok w w'):=by
 refine(callsIn_wide (n:=5)).1 ?_
 refine callsIn_of_wp_marks func172 rfl trivial ?_ rfl
 simp only[ntmps172,Wu,Wq,List.length_nil,Nat.reduceAdd,Nat.reduceSub,Array.replicate_succ,Array.replicate_zero,List.push_toArray,List.append_toArray,List.nil_append,List.cons_append]
 gi_wp2_with (refine⟨trivial,?_⟩;refine((callsIn_wide (n:=5-1)).2 (UF _ _ _ _ _)).mono ?_;rintro e w' ⟨rfl,rfl⟩)
 obtain⟨W1,hW1⟩:∃W1,((w.alloc (.cells #[.int .u64 id] 35)).alloc (.cells (OC ⟨0,0,0,0,0,0⟩) 38)).alloc (.cells #[.bool false] 4)=W1:=⟨_,rfl⟩
 have hz1:W1.heap.size=w.heap.size+3:=by rw[<-hW1];simp
 have cY:Ok w W1:=by rw[<-hW1];exact(((Oq _ _).alloc (Sq _) _).alloc Oy _).alloc (by simp;omega) _
 have hM:=UH (λk=>k=w.heap.size+1∨k=w.heap.size+2∨w.heap.size+6<=k) W1 b m s1 s2 (H.below cY) (λk hk hS=>by have:=H.lt hk;omega) Oz Oz Oz
 obtain⟨W0,hW0⟩:∃W0,(((W1.alloc (.cells #[.int .i64 1,.int .i64 2] 3)).alloc (.cells #[.pointer b] 102)).alloc (.cells #[.slice (some ⟨W1.heap.size,0,none⟩) 2 2] 216))=W0:=⟨_,rfl⟩
 have jD:Ok W1 W0:=by rw[<-hW0];exact(((Oq _ _).alloc (Sq _) _).alloc Oy _).alloc (by simp;omega) _
 have hc0:Cl 35 W0 w.heap.size #[.int .u64 id]:=by
  refine(jD.block _ Oz).trans ?_;rw[<-hW1];exact Qp (by simp;omega) (Qp Oy (Qe rfl))
 have hc1:Cl 38 W0 (w.heap.size+1) (OC ⟨0,0,0,0,0,0⟩):=by
  refine(jD.block _ Oz).trans ?_;rw[<-hW1];exact Qp Oy (Qe Oy)
 have hc2:Cl 4 W0 (w.heap.size+2) #[.bool false]:=by
  refine(jD.block _ Oz).trans ?_;rw[<-hW1];exact Qe Oy
 have tD:Ok w W0:=cY.trans (jD.mono Oz)
 have hsz:W0.heap.size=w.heap.size+6:=by rw[<-hW0];simp;omega
 rw[hW0]at hM
 rw[hz1]at hM hW0
 rw[show (((((w.alloc (.cells #[.int .u64 id] 35)).alloc (.cells #[.int .u64 0,.int .i64 0,.int .i64 0,.int .i64 0,.int .i64 0,.int .u64 0] 38)).alloc (.cells #[.bool false] 4)).alloc (.cells #[.int .i64 1,.int .i64 2] 3)).alloc (.cells #[.pointer b] 102)).alloc (.cells #[.slice (some ⟨w.heap.size+1+1+1,0,none⟩) 2 2] 216)=W0 from by rw[hW1];exact hW0]
 clear hW0 hW1 hz1 cY jD
 have hQq:∀x:Rx s1 s2,x.1.q.length<=1000:=λx=>Sk JU hQ
 have HQ:Aside (∀x:Rx s1 s2,∃A c,x.1.v=.slice A x.1.q.length c/\QueAt w A x.1.q.length x.1.q):=λx=>Z0 (H.q x.1 x.2)
 refine wpIn_rangeFunc_ownH rfl Oz (gf:=187) (lb:=#[.pointer (some ⟨w.heap.size+5,0,none⟩),.pointer (some ⟨w.heap.size+4,0,none⟩)]) rfl trivial (enters_of func187 Ow rfl)
  (UG (5-1) Oz (λk=>k=w.heap.size+1∨k=w.heap.size+2∨w.heap.size+6<=k) (w.heap.size+5) (w.heap.size+4) (w.heap.size+3) [1,2] b m s1 s2 Oy dP cQ W0 (s1.rs++s2.rs).length (by rw[KQ];exact Sq _) hM) Fr.t (λW l o o' hl ho _ _=>VR W l o o' (.inr (.inr Oz)) ho) (Oq _ _) (λ_=>rfl)
  (λpre W=>((Cl 35 W w.heap.size #[.int .u64 id]/\Cl 38 W (w.heap.size+1) (OC ⟨0,0,0,0,0,0⟩)/\Cl 4 W (w.heap.size+2) #[.bool false])/\∀x∈Qb (vals pre),¬x.id=id)/\Ok w W)
  (λc pre W=>(c=.ret/\∃x:Od,x∈Qb (vals pre)/\x.id=id/\Cl 38 W (w.heap.size+1) (OC x)/\Cl 4 W (w.heap.size+2) #[.bool true])/\Ok w W)
  (OwnFrom.and (Own.from (λs A B row hs hg hr=>⟨⟨hs.1.1.own hg hr,hs.1.2.1.own hg hr,hs.1.2.2.own hg hr⟩,hs.2⟩) _) (ownFrom_below (Sq _) Oz))
  (λc=>OwnFrom.and (Own.from (λs A B row hs hg hr=>by
   obtain⟨h1,x,h2,h3,h4,h5⟩:=hs
   exact⟨h1,x,h2,h3,h4.own hg hr,h5.own hg hr⟩) _) (ownFrom_below (Sq _) Oz))
  ⟨⟨⟨hc0,hc1,hc2⟩,λx hx=>by cases hx⟩,tD⟩
  (AxR (w.heap.size+3) #[.pointer b,.int .u64 id,undef,.pointer (some ⟨w.heap.size,0,none⟩),.pointer (some ⟨w.heap.size+1,0,none⟩),.pointer (some ⟨w.heap.size+2,0,none⟩),undef,undef,undef,.pointer b,.slice (some ⟨w.heap.size+3,0,none⟩) 2 2,.func (.func 187) #[] #[.pointer (some ⟨w.heap.size+5,0,none⟩),.pointer (some ⟨w.heap.size+4,0,none⟩)],undef,undef,undef,undef,undef,undef,undef,undef,undef,undef,undef,undef,undef,undef,undef] 6 12)
  (λx a' _ X Y row hs hg hr=>by obtain⟨B,A,c,h1,h2,h3⟩:=hs;exact⟨B,A,c,h1,h2.own hg (λr e=>(hr r e).2),h3⟩)
  ?assign ?body ?done ?stop
 case assign =>
  rintro l0 pre x W K ⟨⟨⟨hc,hc',hc''⟩,hn⟩,hB⟩ hK;obtain⟨A,c,hv,_⟩:=HQ.out x;have hval:Rw.val x.1=.agg #[.int .i64 x.1.pr,.slice A x.1.q.length c]:=by unfold Rw.val;rw[hv]
  unfold AxR at hK;simp only[hval]at hK ⊢
  gi_wp2
  refine hK _ _ ((KeepsOthers.alloc _ _).from _) ((Fr.refl _ W).alloc _) ⟨⟨⟨Qp (Qc hc) hc,Qp (Qc hc') hc',Qp (Qc hc'') hc''⟩,hn⟩,hB.alloc hB.size _⟩ ⟨W.heap.size,A,c,?_,Qe rfl,hv,rfl⟩;have:=Qc hc'';omega
 case body =>
  rintro l0 pre x a' W hl ⟨r,hr⟩ ⟨⟨⟨hc,hc',hc''⟩,hn⟩,hB⟩ ⟨Bx,A,c,zT,bX,hv,rfl⟩ hlt;have p0:W.cell? ⟨w.heap.size,0,none⟩=some (.int .u64 id):=(hc.c 0).trans rfl;have p1:W.cell? ⟨Bx,1,none⟩=some (.slice A x.1.q.length c):=(bX.c 1).trans rfl;have hval:Rw.val x.1=.agg #[.int .i64 x.1.pr,.slice A x.1.q.length c]:=by unfold Rw.val;rw[hv]
  simp only[hval];have hQW:Aside (QueAt W A x.1.q.length x.1.q):=by
   obtain⟨A',c',hv',hq⟩:=HQ.out x;rw[hv]at hv';injection hv' with hv';rw[<-hv']at hq
   exact hq.fr (CQ hB) (λg hg=>by
    intro hle;have:=H.lt (.inr (.inr (.inr (.inr ⟨x.1,x.2,by rw[hv,hg];rfl⟩))):QH b m s1 s2 g)
    omega)
  have hq1:=hQq x;have jB:=Ou (CX pre x);obtain⟨q,hq⟩:∃q,x.1.q=q:=⟨_,rfl⟩
  obtain⟨pr,aH⟩:∃pr,x.1.pr=pr:=⟨_,rfl⟩
  obtain⟨n,uP⟩:∃n,q.length=n:=⟨_,rfl⟩
  rw[hq,uP]at hQW p1 bX;rw[hq]at jB;rw[hq]at hq1;rw[uP]at hq1;rw[aH]at bX;simp only[hq,uP,aH];have HW:=Ou (Sv hc (Sv hc' (Sv hc'' (Sv hn (Sv hB (Sv bX (Sv hl uP)))))));clear hc hc' hc'' hn hB bX hl hval hv aH uP zT
  gi_wp2_with fail
  gi_loopw [16] (λs wq=>∃j:Nat,s=.int .i64 (j:Int)/\Hid (j<=n/\(∀k,k<j->¬(q[k]!).id=id)/\Ok W wq)) (λs _=>match s with | .int _ z=>n-z.toNat|_=>0)
  case atStart=>exact⟨0,rfl,Nat.zero_le _,λk hk=>absurd hk (Ax _),Below.refl _ _⟩
  case round =>
   clear p0 p1;obtain⟨j,rfl,hd⟩:=hrel;have hb:=hd.out.2.2;have p0:wr.cell? ⟨w.heap.size,0,none⟩=some (.int .u64 id):=((Cl.c (HW.out.1) 0).trans rfl:W.cell? ⟨w.heap.size,0,none⟩=some (.int .u64 id)) |> J6 (S:=λ_=>False) (Fr.of_below hb) (λh=>h);have r0:Cl 38 wr (w.heap.size+1) (OC ⟨0,0,0,0,0,0⟩):=(hb.block _ (Qc HW.out.2.1)).trans HW.out.2.1;have r1:Cl 4 wr (w.heap.size+2) #[.bool false]:=(hb.block _ (Qc HW.out.2.2.1)).trans HW.out.2.2.1;by_cases hj:j<n
   ·obtain⟨g,rfl,hg,hcs⟩:∃g,A=some ⟨g,0,none⟩/\g<W.heap.size/\(q[j]!).at W g (j*6):=by
     rcases hQW.2 with h0 | ⟨g,h1,h2,h3⟩
     ·omega
     ·exact⟨g,h1,h2,h3 j hj⟩
    obtain⟨x0,x1,x2,x3,x4,x5⟩:=Od.at_fr hcs hg (Fr.of_below (S:=λ_=>False) hb) (λh=>h);obtain⟨o,ho⟩:∃o,q[j]! = o:=⟨_,rfl⟩
    rw[ho]at x0 x1 x2 x3 x4 x5;have hjI:(j:Int)<(n:Int):=by omega
    have HJ:=Ou (Sv hj (Sv ho hd.out));have ra0:∀ob,Cl 38 (wr.alloc ob) (w.heap.size+1) (OC ⟨0,0,0,0,0,0⟩):=λob=>Qp (Qc r0) r0;have ra1:∀ob,Cl 4 (wr.alloc ob) (w.heap.size+2) #[.bool false]:=λob=>Qp (Qc r1) r1;have pa0:∀ob,(wr.alloc ob).cell? ⟨w.heap.size,0,none⟩=some (.int .u64 id):=λob=>cell_alloc_sl ob p0;have rb0:=λob=>(ra0 ob).f (k:=0);have rb1:=λob=>(ra0 ob).f (k:=1);have rb2:=λob=>(ra0 ob).f (k:=2);have rb3:=λob=>(ra0 ob).f (k:=3);have rb4:=λob=>(ra0 ob).f (k:=4);have rb5:=λob=>(ra0 ob).f (k:=5);have rc0:=λob=>(ra1 ob).f (k:=0);have k0:∀ob,(wr.alloc ob).cell? ⟨w.heap.size+1,0,none⟩=some (.int .u64 0):=λob=>((ra0 ob).c 0).trans rfl
    have k1:∀ob,(wr.alloc ob).cell? ⟨w.heap.size+1,1,none⟩=some (.int .i64 0):=λob=>((ra0 ob).c 1).trans rfl;have k2:∀ob,(wr.alloc ob).cell? ⟨w.heap.size+1,2,none⟩=some (.int .i64 0):=λob=>((ra0 ob).c 2).trans rfl;have k3:∀ob,(wr.alloc ob).cell? ⟨w.heap.size+1,3,none⟩=some (.int .i64 0):=λob=>((ra0 ob).c 3).trans rfl;have k4:∀ob,(wr.alloc ob).cell? ⟨w.heap.size+1,4,none⟩=some (.int .i64 0):=λob=>((ra0 ob).c 4).trans rfl;have k5:∀ob,(wr.alloc ob).cell? ⟨w.heap.size+1,5,none⟩=some (.int .u64 0):=λob=>((ra0 ob).c 5).trans rfl;have kc:∀ob,(wr.alloc ob).cell? ⟨w.heap.size+2,0,none⟩=some (.bool false):=λob=>((ra1 ob).c 0).trans rfl
    clear hcs hg hd hb ho hj;by_cases he:o.id=id
    ·have eb:(o.id==id)=true:=by simp[he]
     have He:=Ou he;clear he
     gi_wp2_with fail
     have hb2:Ok W (wr.alloc (.cells (OC o) 38)):=HJ.out.2.2.2.2.alloc HJ.out.2.2.2.2.size _;have pC:Ok w (wr.alloc (.cells (OC o) 38)):=HW.out.2.2.2.2.1.trans (hb2.mono HW.out.2.2.2.2.1.size);have hcl:=JV o (ra0 (.cells (OC o) 38));refine⟨((CU hb2).trans (qf1 _ _ (w.heap.size+1) o)).trans ((KeepsOthers.setCell _ _ _).from _),⟨rfl,o,by rw[jB.out];exact Wx _ (qf2 (by rw[HW.out.2.2.2.2.2.2.2];exact HJ.out.1) HJ.out.2.1),He.out,?_,?_⟩,(VS o (Nat.le_succ _) pC).setCell (p:=⟨w.heap.size+2,0,none⟩) (Nat.le_add_right _ _) _⟩
     ·exact(QJ (a:=⟨w.heap.size+2,0,none⟩) (Nat.ne_of_lt (Nat.lt_succ_self _))).trans hcl
     ·exact(QK ((YV _ o (Nat.ne_of_gt (Nat.lt_succ_self _))).trans (ra1 _))).trans rfl
    ·have eb:(o.id==id)=false:=by simp[he]
     have He:=Ou he;have vM:IntKind.i64.wrap ((j:Int)+1)=((j+1:Nat):Int):=by rw[Wz];omega
     clear he
     gi_wp2_with fail
     exact⟨⟨j+1,rfl,HJ.out.1,qf3 HJ.out.2.2.2.1 HJ.out.2.1 He.out,HJ.out.2.2.2.2.alloc HJ.out.2.2.2.2.size _⟩,KR HJ.out.1⟩
   ·have hjI:¬(j:Int)<(n:Int):=by omega
    have HJ:=Ou (Sv hj hd.out);clear hd hj
    gi_wp2_with fail
    have hb2:=HJ.out.2.2.2;refine⟨CU hb2,Fr.of_below hb2,⟨⟨(hb2.block _ (Qc HW.out.1)).trans HW.out.1,r0,r1⟩,λy hy=>?_⟩,HW.out.2.2.2.2.1.trans (hb2.mono HW.out.2.2.2.2.1.size)⟩;rw[jB.out]at hy;rcases List.mem_append.1 hy with hy|hy
    ·exact HW.out.2.2.2.1 y hy
    ·exact CW HW.out.2.2.2.2.2.2.2 HJ.out.1 HJ.out.2.2.1 y hy
 case done =>
  rintro D ys W hD hys ⟨⟨⟨hc,hc',hc''⟩,hn⟩,hB⟩ hK;rw[KQ]at hys;rw[hys]at hn;have k0:W.cell? ⟨w.heap.size+1,0,none⟩=some (.int .u64 0):=(hc'.c 0).trans rfl;have f0:=hc'.f (k:=0);have k1:W.cell? ⟨w.heap.size+1,1,none⟩=some (.int .i64 0):=(hc'.c 1).trans rfl;have f1:=hc'.f (k:=1);have k2:W.cell? ⟨w.heap.size+1,2,none⟩=some (.int .i64 0):=(hc'.c 2).trans rfl;have f2:=hc'.f (k:=2);have k3:W.cell? ⟨w.heap.size+1,3,none⟩=some (.int .i64 0):=(hc'.c 3).trans rfl;have f3:=hc'.f (k:=3);have k4:W.cell? ⟨w.heap.size+1,4,none⟩=some (.int .i64 0):=(hc'.c 4).trans rfl;have f4:=hc'.f (k:=4);have k5:W.cell? ⟨w.heap.size+1,5,none⟩=some (.int .u64 0):=(hc'.c 5).trans rfl
  have f5:=hc'.f (k:=5);have k6:W.cell? ⟨w.heap.size+2,0,none⟩=some (.bool false):=(hc''.c 0).trans rfl;have f6:=hc''.f (k:=0)
  gi_wp2_with fail
  have hK6:(Zm W (w.heap.size+1) ⟨0,0,0,0,0,0⟩).heap[D]? = some (.deferred (some [])):=(YV W _ Oz).trans hK;have xC:((Zm W (w.heap.size+1) ⟨0,0,0,0,0,0⟩).setCell ⟨w.heap.size+2,0,none⟩ (.bool false)).heap[D]? = some (.deferred (some [])):=(QJ (a:=⟨w.heap.size+2,0,none⟩) (by show D≠w.heap.size+2;omega)).trans hK6;have hB7:Ok w ((Zm W (w.heap.size+1) ⟨0,0,0,0,0,0⟩).setCell ⟨w.heap.size+2,0,none⟩ (.bool false)):=(VS _ (Nat.le_succ _) hB).setCell (p:=⟨w.heap.size+2,0,none⟩) (Nat.le_add_right _ _) _;have hc7:Cl 38 ((Zm W (w.heap.size+1) ⟨0,0,0,0,0,0⟩).setCell ⟨w.heap.size+2,0,none⟩ (.bool false)) (w.heap.size+1) (OC ⟨0,0,0,0,0,0⟩):=(QJ (a:=⟨w.heap.size+2,0,none⟩) (Nat.ne_of_lt (Nat.lt_succ_self _))).trans (JV _ hc')
  have hd7:Cl 4 ((Zm W (w.heap.size+1) ⟨0,0,0,0,0,0⟩).setCell ⟨w.heap.size+2,0,none⟩ (.bool false)) (w.heap.size+2) #[.bool false]:=(QK ((YV W _ (Nat.ne_of_gt (Nat.lt_succ_self _))).trans hc'')).trans rfl;refine⟨by simp,.inl ⟨_,_,rfl,run_takeDeferred xC,?_⟩⟩;refine⟨_,CV rfl _ _ _ _ rfl rfl _ _ _ _ (hc7.put D xC rfl) (hd7.put D xC rfl),none,rfl,Ou ⟨?_,hB7.trans (belowK_b (w:=w) (Sq _) _ D _ _ Oz xC rfl rfl)⟩⟩;intro x hx;exact hn x (by rwa [Ks])
 case stop =>
  rintro D c pre W hD hS ⟨⟨rfl,x,hx,hid,hat,hbo⟩,hB⟩ hK
  gi_wp2_with fail
  refine⟨by simp,.inl ⟨_,_,rfl,run_takeDeferred hK,?_⟩⟩;refine⟨_,CV rfl _ _ _ _ rfl rfl _ _ _ _ (hat.put D hK rfl) (hbo.put D hK rfl),some x,rfl,Ou ⟨⟨?_,hid⟩,hB.trans (belowK_b (w:=w) (Sq _) _ D _ _ Oz hK rfl rfl)⟩⟩;rw[KQ]at hS;rw[<-Ks];obtain⟨r,hr,kF⟩:=List.mem_flatMap.1 hx;exact List.mem_flatMap.2 ⟨r,hS.subset hr,kF⟩
end
section
open Go.RowKit Go.Sort Go.Lib Go.Shelf
theorem Js {w:World}{b b' n size:Nat}{e:TypeId}{v:Value}{xs:List Value}(h:w.ownsRow b e size v n xs)(hb:b'<=b):w.ownsRow b' e size v n xs:=by
 obtain⟨h1,h2⟩:=h
 refine⟨h1,?_⟩
 rcases h2 with h | ⟨g,cp,cur,hv,hg,rest⟩
 ·exact .inl h
 ·exact .inr ⟨g,cp,cur,hv,Sk hb hg,rest⟩
theorem Jt (w:World)(dT sT ty elem:TypeId)(k g o dLen dCap:Nat)(a:Addr)(sLen sCap:Nat)(cur:Array Value)(t:TypeId)(cs:List Value)
  (hu:prog.underlying dT=some (.slice elem)) (hs:(prog.info? elem).map (·.size)=some k)
  (hg:w.heap[g]? = some (.cells cur t (0,0))) (m:Nat) (hm:Nat.min sLen dLen=m) (hn:cs.length=m*k)
  (hsrc:∀j v,cs[j]? = some v->w.cell? (a.add j)=some v) (hfit:o+cs.length<=cur.size) (h1:∀v∈cs,v.oneCell'=true) :
  (Builtin.copy_ #[dT,sT] ty #[.slice (some ⟨g,o,none⟩) dLen dCap,.slice (some a) sLen sCap]).run prog w =
   .ok (goInt m) (w.setRow g (cur.toList.take o++cs++cur.toList.drop (o+cs.length)).toArray):=by
 have hl:=run_loadCells_list (P:=prog) w a cs hsrc
 have hst:=run_storeCells_at prog g o t cs 0 cur w hg (by simpa using hfit) h1
 cases hq:prog.info? elem with
 | none=>simp[hq]at hs
 | some i =>
  have hi:i.size=k:=by simpa [hq] using hs
  simp[Builtin.copy_,run_underlying hu,Builtin.lenOf,Builtin.firstCells,sizeOf,typeInfo,hq,hi,hm,<-hn,hl,hst]
def Zo (cur ys:List Value)(n i k:Nat):List Value:=cur.take (i*k)++ys++(cur.drop (i*k)).take ((n-i)*k)++cur.drop ((n+1)*k)
theorem UI {cur ys:List Value}{n i k c:Nat}(hi:i<=n)(hc:n+1<=c)(hl:cur.length=c*k)(hy:ys.length=k) :
  (cur.take ((i+1)*k)++(cur.drop (i*k)).take ((n-i)*k)++cur.drop ((i+1)*k+((cur.drop (i*k)).take ((n-i)*k)).length)).take (i*k)++ys ++
   (cur.take ((i+1)*k)++(cur.drop (i*k)).take ((n-i)*k)++cur.drop ((i+1)*k+((cur.drop (i*k)).take ((n-i)*k)).length)).drop (i*k+ys.length)=Zo cur ys n i k:=by
 have e1:(i+1)*k=i*k+k:=Nat.succ_mul i k
 have e2:(n+1)*k=n*k+k:=Nat.succ_mul n k
 have e3:(n-i)*k=n*k-i*k:=Nat.sub_mul n i k
 have h1:i*k<=n*k:=Nat.mul_le_mul_right k hi
 have h2:n*k+k<=c*k:=by rw[<-e2];exact Nat.mul_le_mul_right k hc
 have lx:((cur.drop (i*k)).take ((n-i)*k)).length=n*k-i*k:=by rw[Wy,Az];omega
 have lt:(cur.take ((i+1)*k)).length=i*k+k:=by rw[Wy];omega
 rw[lx]
 have a1:(cur.take ((i+1)*k)++(cur.drop (i*k)).take ((n-i)*k)++cur.drop ((i+1)*k+(n*k-i*k))).take (i*k)=cur.take (i*k):=by
  rw[St,List.take_append_of_le_length Oz,List.take_take,Nat.min_eq_left (by omega)]
 have a2:(cur.take ((i+1)*k)++(cur.drop (i*k)).take ((n-i)*k)++cur.drop ((i+1)*k+(n*k-i*k))).drop (i*k+ys.length)=(cur.drop (i*k)).take ((n-i)*k)++cur.drop ((n+1)*k):=by
  rw[St,List.drop_append,lt,hy];have z:(cur.take ((i+1)*k)).drop (i*k+k)=[]:=List.drop_eq_nil_of_le Oz;rw[z,Nat.sub_self,List.drop_zero,List.nil_append,show (i+1)*k+(n*k-i*k)=(n+1)*k by omega]
 rw[a1,a2]
 unfold Zo
 simp only[St]
theorem UJ {cur ys xs:List Value}{n i k c:Nat}(hi:i<=n)(hc:n+1<=c)(hl:cur.length=c*k)(hy:ys.length=k)(hx:cur.take (n*k)=xs) :
  (Zo cur ys n i k).length=c*k/\(Zo cur ys n i k).take ((n+1)*k)=xs.take (i*k)++ys++xs.drop (i*k):=by
 have e2:(n+1)*k=n*k+k:=Nat.succ_mul n k
 have e3:(n-i)*k=n*k-i*k:=Nat.sub_mul n i k
 have h1:i*k<=n*k:=Nat.mul_le_mul_right k hi
 have h2:n*k+k<=c*k:=by rw[<-e2];exact Nat.mul_le_mul_right k hc
 have lx:((cur.drop (i*k)).take ((n-i)*k)).length=n*k-i*k:=by rw[Wy,Az];omega
 have ly:(cur.take (i*k)).length=i*k:=by rw[Wy];omega
 refine⟨?_,?_⟩
 ·unfold Zo;simp only[Su,lx,ly,hy,Az];omega
 ·unfold Zo;rw[List.take_append_of_le_length (by simp only[Su,lx,ly,hy];omega),List.take_of_length_le (by simp only[Su,lx,ly,hy];omega)];rw[<-hx,List.take_take,Nat.min_eq_left h1,List.drop_take,e3]
theorem UK {R xs ys:List Value}{n i k G:Nat}(hR:R.take (i*k)=xs.take (i*k))(lR:R.length=G*k)(hG:n+1<=G)(hx:xs.length=n*k)(hy:ys.length=k)(hi:i<=n){R1 R2:List Value}(e1:R1=R.take (i*k)++ys++R.drop (i*k+ys.length))(e2:R2=R1.take ((i+1)*k)++xs.drop (i*k)++R1.drop ((i+1)*k+(xs.drop (i*k)).length)) :
  R1.length=G*k/\R2.length=G*k/\R2.take ((n+1)*k)=xs.take (i*k)++ys++xs.drop (i*k):=by
 have a1:(i+1)*k=i*k+k:=Nat.succ_mul i k
 have a2:(n+1)*k=n*k+k:=Nat.succ_mul n k
 have h1:i*k<=n*k:=Nat.mul_le_mul_right k hi
 have h2:n*k+k<=G*k:=by rw[<-a2];exact Nat.mul_le_mul_right k hG
 have lt:(R.take (i*k)).length=i*k:=by rw[Wy];omega
 have l1:R1.length=G*k:=by rw[e1];simp only[Su,lt,hy,Az];omega
 have t1:R1.take ((i+1)*k)=xs.take (i*k)++ys:=by
  rw[e1,List.take_append_of_le_length (by simp only[Su,lt,hy];omega),List.take_of_length_le (by simp only[Su,lt,hy];omega),hR]
 have lx:(xs.take (i*k)).length=i*k:=by rw[Wy];omega
 have ld:(xs.drop (i*k)).length=n*k-i*k:=by rw[Az,hx]
 refine⟨l1,?_,?_⟩
 ·rw[e2,t1];simp only[Su,lx,hy,ld,Az,l1];omega
 ·rw[e2,t1,List.take_append_of_le_length (by simp only[Su,lx,hy,ld];omega),List.take_of_length_le (by simp only[Su,lx,hy,ld];omega)]
def ZN (w:World)(g:Nat)(E:TypeId)(cs:List Value)(w':World):Prop:=w.grownBy w' (some g)/\w'.heap[g]? = some (.cells cs.toArray E (0,0))
theorem JW {w:World}{g:Nat}{E:TypeId}{cur cs:List Value}(h:w.heap[g]? = some (.cells cur.toArray E (0,0))):ZN w g E cs (w.setRow g cs.toArray) :=
 ⟨⟨rfl,rfl,rfl,by rw[size_setRow];exact Sq _,λj _ hj=>setRow_other _ _ _ _ (λe=>hj (by rw[e]))⟩,setRow_heap _ _ _ _ _ _ h⟩
theorem JX {w w1 w2:World}{g:Nat}{E:TypeId}{cs cs':List Value}(h:ZN w g E cs w1)(k:ZN w1 g E cs' w2):ZN w g E cs' w2:=⟨h.1.trans k.1,k.2⟩
theorem VT {w:World}{g:Nat}{E:TypeId}{cs:List Value}(h:w.heap[g]? = some (.cells cs.toArray E (0,0))):ZN w g E cs w.drew:=⟨⟨rfl,rfl,rfl,Sq _,λ_ _ _=>rfl⟩,h⟩
theorem UL:(prog.info? 247).map (λi=>(i.zero,i.size,i.bytes))=some (some (.agg #[.int .i64 0,.slice none 0 0]),2,32):=by kernel_rfl
theorem YW:(prog.info? 247).map (·.size)=some 2:=by kernel_rfl
theorem qf4 (w:World):(sizeOf 247).run prog w=.ok 2 w:=by kernel_rfl
theorem qf5 (w:World)(g vb a b c d n m:Nat)(hne:vb≠g)(cs ys:Array Value)(hg:w.heap[g]? = some (.cells cs 247 (0,0)))(hv:w.heap[vb]? = some (.cells ys 247 (0,0)))(h0:0<cs.size) :
  (callFunc 191 #[.slice (some ⟨vb,a,none⟩) n c,.slice (some ⟨g,b,none⟩) m d]).run prog w=.ok (.value (.bool false)) w:=by
 rw[run_callFunc_extern func191 Ow Ow Ow (e:=Extern.SlicesOverlaps.overlaps #[248,248] #[4]) Ow,
  Lib.run_overlaps_apart w 248 4 247 underlying248 2 qf4 ⟨vb,a,none⟩ ⟨g,b,none⟩ n c m d hne 247 247 ys.size cs.size (by unfold World.shape?;rw[hv]) (by unfold World.shape?;rw[hg]) Oz (frozen_of_row _ _ _ _ _ hv) (frozen_of_row _ _ _ _ _ hv)]
 rfl
theorem qf6 (w:World)(g n c i vb:Nat)(cur ys:List Value)(hg:w.heap[g]? = some (.cells cur.toArray 247 (0,0)))(hl:cur.length=c*2)(hc:n+1<=c)(hi:i<n)(hcm:c<=maxLen)(hvb:vb≠g)(hv:w.heap[vb]? = some (.cells ys.toArray 247 (0,0)))(hy:ys.length=2)(h1:∀v∈cur.take (n*2),v.oneCell'=true)(h2:∀v∈ys,v.oneCell'=true) :
  Calls prog 185 #[.slice (some ⟨g,0,none⟩) n c,.int .i64 i,.slice (some ⟨vb,0,none⟩) 1 1] w λe w'=>e=.returned (.slice (some ⟨g,0,none⟩) (n+1) c)/\Hid (ZN w g 247 (Zo cur ys n i 2) w'):=by
 have mixed:prog.follows .mixedOrders=true:=by kernel_rfl
 have lH:c<=9223372036854775807:=by unfold maxLen at hcm;omega
 have hov:=λW (h:W.heap[g]? = some (.cells cur.toArray 247 (0,0))) (h':W.heap[vb]? = some (.cells ys.toArray 247 (0,0))) b n c m d=>qf5 W g vb 0 b c d n m hvb cur.toArray ys.toArray h h' (by simp;omega)
 have hov:=hov w hg hv
 have q1:¬((i:Int)=(n:Int)):=by omega
 have q2:¬((c:Int)<(n:Int)+1):=by omega
 have q3:(0:Int)<=(i:Int)+1:=by omega
 have q4:¬(c=i+1):=by omega
 have q5:¬(c=i):=by omega
 have q6:(i:Int)<=(n:Int):=by omega
 have q7:(n:Int)+1<=(c:Int):=by omega
 have q8:IntKind.i64.wrap ((i:Int)+1)=(i:Int)+1:=by rw[Wz];omega
 have q9:IntKind.i64.wrap ((n:Int)+1)=(n:Int)+1:=by rw[Wz];omega
 have lT:((i:Int)+1).toNat=i+1:=by omega
 have rI:((n:Int)+1).toNat=n+1:=by omega
 have qB:(i:Int)<=(n:Int)+1:=by omega
 have vV:(i:Int)+1<=(n:Int)+1:=by omega
 have vW:(c:Int)<=9223372036854775807:=by omega
 have hik:(i+1)*2=i*2+2:=by omega
 have hni:(n-i)*2=n*2-i*2:=by omega
 have pV:(n+1)*2<=c*2:=by omega
 obtain⟨X,eX⟩:∃X,X=(cur.drop (i*2)).take ((n-i)*2):=⟨_,rfl⟩
 have lX:X.length=(n-i)*2:=by rw[eX,Wy,Az];omega
 obtain⟨A1,e1⟩:∃A1,A1=(cur.take ((i+1)*2)++X++cur.drop ((i+1)*2+X.length)):=⟨_,rfl⟩
 have l1:A1.length=c*2:=by rw[e1];simp only[Su,Wy,Az,lX];omega
 have e2:A1.take (i*2)++ys++A1.drop (i*2+ys.length)=Zo cur ys n i 2:=by rw[e1,eX];exact UI Oz hc hl hy
 have C1:Hid (∀ty dl dc sl sc,Nat.min sl dl=n-i->(Builtin.copy_ #[248,248] ty #[.slice (some ⟨g,(i+1)*2,none⟩) dl dc,.slice (some ⟨g,i*2,none⟩) sl sc]).run prog w.drew=.ok (goInt ((n-i:Nat):Int)) (w.drew.setRow g A1.toArray)):=Ou (λty dl dc sl sc hm=>by
  have:=Jt w.drew 248 248 ty 247 2 g ((i+1)*2) dl dc ⟨g,i*2,none⟩ sl sc cur.toArray 247 X underlying248 YW (Qk hg) (n-i) hm lX (λj v hj=>by
   rw[QN,cell_of_row _ _ _ _ _ _ (Qk hg)];rw[eX,List.getElem?_take]at hj
   split at hj
   ·rw[List.getElem?_drop]at hj;rw[List.getElem?_toArray];exact hj
   ·cases hj) (by rw[lX];simp only[Wu];omega) (λv hv=>h1 v (by rw[eX,hni,<-List.drop_take]at hv;exact List.mem_of_mem_drop hv))
  rw[e1]
  exact this)
 have G1:(w.drew.setRow g A1.toArray).heap[g]? = some (.cells A1.toArray 247 (0,0)):=setRow_heap _ _ _ _ _ _ (Qk hg)
 have C2:Hid (∀ty dl dc sc,Nat.min 1 dl=1->(Builtin.copy_ #[248,248] ty #[.slice (some ⟨g,i*2,none⟩) dl dc,.slice (some ⟨vb,0,none⟩) 1 sc]).run prog (w.drew.setRow g A1.toArray)=.ok (goInt 1) ((w.drew.setRow g A1.toArray).setRow g (Zo cur ys n i 2).toArray)):=Ou (λty dl dc sc hm=>by
  have:=Jt (w.drew.setRow g A1.toArray) 248 248 ty 247 2 g (i*2) dl dc ⟨vb,0,none⟩ 1 sc A1.toArray 247 ys underlying248 YW G1 1 hm Oz (λj v hj=>by
   rw[QN,Nat.zero_add,cell_of_row _ _ _ _ _ _ ((setRow_other _ _ _ _ hvb).trans (Qk hv)),List.getElem?_toArray];exact hj) (by simp only[Wu];omega) h2
  rw[<-e2]
  exact this)
 have F:Hid (ZN w g 247 (Zo cur ys n i 2) ((w.drew.setRow g A1.toArray).setRow g (Zo cur ys n i 2).toArray)):=JX (JX (VT hg) (JW (Qk hg))) (JW G1)
 clear eX lX e1 l1 e2 G1 hik hni pV
 have HX:=Ou (Sv hl (Sv hc (Sv hi (Sv hy (Sv h1 h2)))))
 clear hg hv hl hc hy h1 h2 hcm
 go_enter func185,ntmps185
 go_wp2_with (simp only[hov])
 refine wp_region_held_drew (S:=λ_=>True) Ow trivial (λhHeld=>?_)
 clear hHeld
 refine tkA 0 ?_
 refine tkA 1 ?_
 refine tkA 2 ?_
 refine tkA 3 ?_
 refine tkA 4 ?_
 refine tkA 5 ?_
 refine tkA 6 ?_
 refine tkA 7 ?_
 (try simp only[zz])
 refine rdH 8 (λK hK=>?_)
 refine step_copy_runI rfl _ _ 248 248 rfl _ _ rfl rfl (C1.out _ _ _ _ _ (by simp only[Nat.min_def];split<;>omega)) ?_
 refine hK.out _ _ trivial (λhHeld=>?_)
 clear hK K hHeld
 (try simp only[zz])
 refine wpAnyH_done Ow ?_ _
 clear C1
 go_wp2_with fail
 rw[C2.out _ _ _ _ (by simp only[Nat.min_def];split<;>omega)]
 go_wp2_with fail
 go_ret
 exact⟨rfl,F.out⟩
theorem qf7 (w:World)(base n:Nat)(v:Value)(xs ys:List Value)(vb:Nat)(hown:w.ownsRow base 247 2 v n xs)(hb:base<=w.heap.size)(hn:n<=1000)(hv:w.heap[vb]? = some (.cells ys.toArray 247 (0,0)))(hy:ys.length=2)(h2:∀v∈ys,v.oneCell'=true) :
  Calls prog 185 #[v,.int .i64 n,.slice (some ⟨vb,0,none⟩) 1 1] w λe w'=>∃v',e=.returned v'/\Hid (w'.ownsRow base 247 2 v' (n+1) (xs++ys)/\w.grownBy w' v.ownBlock/\(v'.ownBlock=v.ownBlock∨v'.ownBlock=some w.heap.size)):=by
 obtain⟨i0,hi0,hz0,hz1,hz2⟩:=info_parts UL
 have HO:=Ou hown
 have jQ:Hid (∀(j:Nat) (u:Value),ys[j]? = some u->w.cell? ((⟨vb,0,none⟩:Addr).add j)=some u):=Ou (λj u hj=>by
  rw[QN,Nat.zero_add,cell_of_row _ _ _ _ _ _ hv,List.getElem?_toArray];exact hj)
 have q1:IntKind.i64.wrap ((n:Int)+1)=(n:Int)+1:=by rw[Wz];omega
 rcases hown.2 with ⟨rfl,rfl⟩ | ⟨g,c,cur,rfl,_,_,hc,hm,_,_⟩
 ·clear hown hv;go_enter func185,ntmps185;go_wp2_with (at_builtin;refine wpList_append_own_at _ rfl _ _ 248 rfl base 247 i0 (.agg #[.int .i64 0,.slice none 0 0]) 2 32 underlying248 hi0 hz0 hz1 hz2 rfl Ox _ _ _ rfl HO.out ⟨vb,0,none⟩ 1 1 ys rfl Oz jQ.out h2 (by unfold maxLen;omega) Oz hb ?_)
  intro v1 w1 k1 k2 _ k3;have HR:Hid (w1.ownsRow base 247 2 v1 (0+1) (xs++ys)/\w.grownBy w1 (Value.slice none 0 0).ownBlock/\(v1.ownBlock=(Value.slice none 0 0).ownBlock∨v1.ownBlock=some w.heap.size)):=⟨k1,k2,k3⟩
  clear k1 k2 k3;go_wp2_with fail
  go_ret;exact⟨_,rfl,HR.out⟩
 ·have hcm:c<=9223372036854775807:=by unfold maxLen at hm;omega
  have q2:(n:Int)<=(c:Int):=by omega
  have q3:(c:Int)<=9223372036854775807:=by omega
  clear hown hv hm;by_cases hcn:c=n
  ·subst hcn;go_enter func185,ntmps185;go_wp2_with (at_builtin;refine wpList_append_own_at _ rfl _ _ 248 rfl base 247 i0 (.agg #[.int .i64 0,.slice none 0 0]) 2 32 underlying248 hi0 hz0 hz1 hz2 rfl Ox _ _ _ rfl HO.out ⟨vb,0,none⟩ 1 1 ys rfl Oz jQ.out h2 (by unfold maxLen;omega) Oz hb ?_)
   intro v1 w1 k1 k2 _ k3;have HR:Hid (w1.ownsRow base 247 2 v1 (c+1) (xs++ys)/\w.grownBy w1 (Value.slice (some ⟨g,0,none⟩) c c).ownBlock/\(v1.ownBlock=(Value.slice (some ⟨g,0,none⟩) c c).ownBlock∨v1.ownBlock=some w.heap.size)):=⟨k1,k2,k3⟩
   clear k1 k2 k3;go_wp2_with fail
   go_ret;exact⟨_,rfl,HR.out⟩
  ·go_enter func185,ntmps185;go_wp2_with (at_builtin;refine wpList_append_own_at _ rfl _ _ 248 rfl base 247 i0 (.agg #[.int .i64 0,.slice none 0 0]) 2 32 underlying248 hi0 hz0 hz1 hz2 rfl Ox _ _ _ rfl HO.out ⟨vb,0,none⟩ 1 1 ys rfl Oz jQ.out h2 (by unfold maxLen;omega) Oz hb ?_)
   intro v1 w1 k1 k2 _ k3;have HR:Hid (w1.ownsRow base 247 2 v1 (n+1) (xs++ys)/\w.grownBy w1 (Value.slice (some ⟨g,0,none⟩) n c).ownBlock/\(v1.ownBlock=(Value.slice (some ⟨g,0,none⟩) n c).ownBlock∨v1.ownBlock=some w.heap.size)):=⟨k1,k2,k3⟩
   clear k1 k2 k3;go_wp2_with fail
   go_ret;exact⟨_,rfl,HR.out⟩
theorem qf8 (w:World)(g n i vb:Nat)(xs ys:List Value)(hg:w.heap[g]? = some (.cells xs.toArray 247 (0,0)))(hl:xs.length=n*2)(hn:n<=1000)(hi:i<n)(hv:w.heap[vb]? = some (.cells ys.toArray 247 (0,0)))(hy:ys.length=2)(h1:∀v∈xs,v.oneCell'=true)(h2:∀v∈ys,v.oneCell'=true) :
  Calls prog 185 #[.slice (some ⟨g,0,none⟩) n n,.int .i64 i,.slice (some ⟨vb,0,none⟩) 1 1] w λe w'=>∃v',e=.returned v'/\Hid (w'.ownsRow w.heap.size 247 2 v' (n+1) (xs.take (i*2)++ys++xs.drop (i*2))/\Ok w w'/\v'.ownBlock=some w.heap.size):=by
 have mixed:prog.follows .mixedOrders=true:=by kernel_rfl
 obtain⟨i0,hi0,hz0,hz1,hz2⟩:=info_parts UL
 have hgl:=Qc hg
 have hvl:=Qc hv
 have q0:(n:Int)<(n:Int)+1:=by omega
 have q1:¬((i:Int)=(n:Int)):=by omega
 have q3:(0:Int)<=(i:Int)+1:=by omega
 have q5:¬(n=i):=by omega
 have q6:(i:Int)<=(n:Int):=by omega
 have q8:IntKind.i64.wrap ((i:Int)+1)=(i:Int)+1:=by rw[Wz];omega
 have q9:IntKind.i64.wrap ((n:Int)+1)=(n:Int)+1:=by rw[Wz];omega
 have lT:((i:Int)+1).toNat=i+1:=by omega
 have qB:(i:Int)<=(n:Int)+1:=by omega
 have vV:(i:Int)+1<=(n:Int)+1:=by omega
 have vW:(n:Int)<=9223372036854775807:=by omega
 have xX:IntKind.i64.wrap ((n:Int)+1-(i:Int))=((n+1-i:Nat):Int):=by rw[Wz];omega
 have hik:(i+1)*2=i*2+2:=by omega
 have fK:(xs.take (i*2)).length=i*2:=by rw[Wy];omega
 have hold:(Builtin.firstCells i0.size i (.slice (some ⟨g,0,none⟩) i n)).run prog w.drew=.ok (xs.take (i*2)).toArray w.drew:=by
  rw[hz1]
  exact run_firstCells_some w.drew 2 i ⟨g,0,none⟩ i n (xs.take (i*2)) fK (λj v hj=>by
   rw[QN,Nat.zero_add,cell_of_row _ _ _ _ _ _ (Qk hg),List.getElem?_toArray];rw[List.getElem?_take]at hj
   split at hj
   ·exact hj
   ·cases hj)
 have hin:i+(n+1-i)=n+1:=by omega
 have i5:∀ty,(Builtin.append_ #[248,3] ty #[.slice (some ⟨g,0,none⟩) i n,.int .i64 ((n+1-i:Nat):Int)]).run prog w=.ok (.slice (some ⟨w.heap.size,0,none⟩) (n+1) (grownCap w (n+1) n 247)) (w.drew.alloc (.cells ((xs.take (i*2)).toArray++Builtin.zeroCells ((.agg #[.int .i64 0,.slice none 0 0]):Value).cells (n+1-i)++Builtin.zeroCells ((.agg #[.int .i64 0,.slice none 0 0]):Value).cells (grownCap w (n+1) n 247-(n+1))) 247)):=λty=>by
  have h:=Lib.run_append_grow_zeros w 248 3 ty 247 i0 _ .i64 .i64 underlying248 underlying3 hi0 hz0 (some ⟨g,0,none⟩) i n (xs.take (i*2)) hold (n+1-i) Oz Oz Oz Oz (by rw[hz2];omega) (by rw[hz2,hin];exact growslice_fits Oz Oz);rw[hin]at h;exact h
 obtain⟨G,hG⟩:∃G,G=grownCap w (n+1) n 247:=⟨_,rfl⟩
 have jF:n+1<=G:=by rw[hG];exact grownCap_ge w _ _ _
 have jE:G<=maxLen:=by rw[hG];exact grownCap_le_maxLen w (n+1) n 247 (by unfold maxLen;omega)
 have tH:(G:Int)<=9223372036854775807:=by unfold maxLen at jE;omega
 rw[<-hG]at i5
 obtain⟨R,hR⟩:∃R:List Value,R.toArray=(xs.take (i*2)).toArray++Builtin.zeroCells ((.agg #[.int .i64 0,.slice none 0 0]):Value).cells (n+1-i)++Builtin.zeroCells ((.agg #[.int .i64 0,.slice none 0 0]):Value).cells (G-(n+1)):=⟨_,Array.toArray_toList⟩
 rw[<-hR]at i5
 have lR:R.length=G*2:=by
  have:=congrArg Array.size hR;simp only[Wu,Array.size_append,fK]at this;simp[Builtin.zeroCells,Value.cells]at this;omega
 have tR:R.take (i*2)=xs.take (i*2):=by
  have:=congrArg Array.toList hR;rw[Array.toList_append,Array.toList_append]at this;rw[show R=R.toArray.toList from rfl,this,St,List.take_append_of_le_length (by show _<=(xs.take (i*2)).length;omega)];exact List.take_of_length_le (by show (xs.take (i*2)).length<=_;omega)
 obtain⟨R1,e1⟩:∃R1,R1=R.take (i*2)++ys++R.drop (i*2+ys.length):=⟨_,rfl⟩
 obtain⟨R2,e2⟩:∃R2,R2=R1.take ((i+1)*2)++xs.drop (i*2)++R1.drop ((i+1)*2+(xs.drop (i*2)).length):=⟨_,rfl⟩
 obtain⟨l1,l2,t2⟩:=UK tR lR jF hl hy Oz e1 e2
 have HW:Hid (∀W,W=(w.alloc (.cells R.toArray 247)).drew->W.heap[w.heap.size]? = some (.cells R.toArray 247 (0,0))/\W.heap[vb]? = some (.cells ys.toArray 247 (0,0))/\W.heap[g]? = some (.cells xs.toArray 247 (0,0))/\Ok w W):=Ou (λW hW=>by
  rw[hW]
  exact⟨Qk (Qe rfl),Qk (Qp hvl hv),Qk (Qp hgl hg),((Oq _ _).alloc (Sq _) _).drew⟩)
 have ldx:(xs.drop (i*2)).length=(n-i)*2:=by rw[Az,hl];omega
 have C1:Hid (∀W,W.heap[w.heap.size]? = some (.cells R.toArray 247 (0,0))->W.heap[vb]? = some (.cells ys.toArray 247 (0,0))->∀ty dl dc sc,Nat.min 1 dl=1->(Builtin.copy_ #[248,248] ty #[.slice (some ⟨w.heap.size,i*2,none⟩) dl dc,.slice (some ⟨vb,0,none⟩) 1 sc]).run prog W=.ok (goInt 1) (W.setRow w.heap.size R1.toArray)):=Ou (λW k1 k2 ty dl dc sc hm=>by
  have:=Jt W 248 248 ty 247 2 w.heap.size (i*2) dl dc ⟨vb,0,none⟩ 1 sc R.toArray 247 ys underlying248 YW k1 1 hm Oz (λj v hj=>by
   rw[QN,Nat.zero_add,cell_of_row _ _ _ _ _ _ k2,List.getElem?_toArray];exact hj) (by simp only[Wu];omega) h2
  rw[e1]
  exact this)
 have C2:Hid (∀W,W.heap[w.heap.size]? = some (.cells R1.toArray 247 (0,0))->W.heap[g]? = some (.cells xs.toArray 247 (0,0))->∀ty dl dc sl sc,Nat.min sl dl=n-i->(Builtin.copy_ #[248,248] ty #[.slice (some ⟨w.heap.size,(i+1)*2,none⟩) dl dc,.slice (some ⟨g,i*2,none⟩) sl sc]).run prog W=.ok (goInt ((n-i:Nat):Int)) (W.setRow w.heap.size R2.toArray)):=Ou (λW k1 k2 ty dl dc sl sc hm=>by
  have:=Jt W 248 248 ty 247 2 w.heap.size ((i+1)*2) dl dc ⟨g,i*2,none⟩ sl sc R1.toArray 247 (xs.drop (i*2)) underlying248 YW k1 (n-i) hm ldx (λj v hj=>by
   rw[QN,cell_of_row _ _ _ _ _ _ k2,List.getElem?_toArray];rw[List.getElem?_drop]at hj
   exact hj) (by simp only[Wu];omega) (λv hv=>h1 v (List.mem_of_mem_drop hv))
  rw[e2]
  exact this)
 have HE:=Ou (Sv l2 (Sv t2 (Sv jF jE)))
 have HX:=Ou (Sv hgl hy)
 have mJ:=Ou (show (xs.take (i*2)++ys++xs.drop (i*2)).length=(n+1)*2 by simp only[Su,fK,hy,ldx];omega)
 have xY:¬(G=i):=by omega
 have xZ:¬(G=i+1):=by omega
 clear e1 e2 l1 l2 t2 tR lR hR hG hold hin hg hv hl hy hz0 hz1 hz2 hi0 jF jE ldx fK h1 h2 hik
 go_enter func185,ntmps185
 go_wp2_with (at_builtin;refine Lib.wpList_append_run _ rfl _ _ _ _ rfl _ _ rfl rfl _ _ (i5 _) ?_)
 clear i5
 generalize hW1:World.drew (w.alloc (.cells R.toArray 247))=W1
 obtain⟨k1,k2,k3,k4⟩:=HW.out W1 hW1.symm
 have K:=Ou (Sv k1 (Sv k2 (Sv k3 k4)))
 clear hW1 HW k1 k2 k3 k4
 rw[C1.out W1 K.out.1 K.out.2.1 _ _ _ _ (by simp only[Nat.min_def];split<;>omega)]
 go_wp2_with fail
 refine wp_region_held_drew (S:=λ_=>True) Ow trivial (λhHeld=>?_)
 clear hHeld
 refine tkA 0 ?_
 refine tkA 1 ?_
 refine tkA 2 ?_
 refine tkA 3 ?_
 refine tkA 4 ?_
 refine tkA 5 ?_
 refine tkA 6 ?_
 refine tkA 7 ?_
 (try simp only[zz])
 have G1:(W1.setRow w.heap.size R1.toArray).drew.heap[w.heap.size]? = some (.cells R1.toArray 247 (0,0)):=Qk (setRow_heap _ _ _ _ _ _ K.out.1)
 have G2:(W1.setRow w.heap.size R1.toArray).drew.heap[g]? = some (.cells xs.toArray 247 (0,0)):=Qk ((setRow_other _ _ _ _ (by have:=HX.out.1;omega)).trans K.out.2.2.1)
 refine rdH 8 (λK hK=>?_)
 refine step_copy_runI rfl _ _ 248 248 rfl _ _ rfl rfl (C2.out _ G1 G2 _ _ _ _ _ (by simp only[Nat.min_def];split<;>omega)) ?_
 refine hK.out _ _ trivial (λhHeld=>?_)
 clear hK K hHeld
 (try simp only[zz])
 refine wpAnyH_done Ow ?_ _
 have F:Hid (((W1.setRow w.heap.size R1.toArray).drew.setRow w.heap.size R2.toArray).ownsRow w.heap.size 247 2 (.slice (some ⟨w.heap.size,0,none⟩) (n+1) G) (n+1) (xs.take (i*2)++ys++xs.drop (i*2))/\Ok w ((W1.setRow w.heap.size R1.toArray).drew.setRow w.heap.size R2.toArray)):=by
  refine⟨⟨mJ.out,.inr ⟨w.heap.size,G,R2.toArray,rfl,Sq _,setRow_heap _ _ _ _ _ _ G1,HE.out.2.2.1,HE.out.2.2.2,by rw[Wu];exact HE.out.1,HE.out.2.1⟩⟩,?_⟩;exact below_setRow ((below_setRow K.out.2.2.2 (Sq _) _).drew) (Sq _) _
 clear G1 G2 C1 C2 K HE mJ HX
 go_wp2_with fail
 go_ret
 exact⟨_,rfl,F.out.1,F.out.2,rfl⟩
theorem qf9 (w:World)(base n i:Nat)(v:Value)(xs ys:List Value)(vb:Nat)(hown:w.ownsRow base 247 2 v n xs)(hb:base<=w.heap.size)(hn:n<=1000)(hi:i<=n)(hvb:v.ownBlock≠some vb)(hv:w.heap[vb]? = some (.cells ys.toArray 247 (0,0)))(hy:ys.length=2)(h1:∀u∈xs,u.oneCell'=true)(h2:∀u∈ys,u.oneCell'=true) :
  Calls prog 185 #[v,.int .i64 i,.slice (some ⟨vb,0,none⟩) 1 1] w λe w'=>∃v',e=.returned v'/\Hid (w'.ownsRow base 247 2 v' (n+1) (xs.take (i*2)++ys++xs.drop (i*2))/\w.grownBy w' v.ownBlock/\(v'.ownBlock=v.ownBlock∨v'.ownBlock=some w.heap.size)):=by
 have hl:=hown.1
 by_cases hin:i=n
 ·subst hin;refine(qf7 w base i v xs ys vb hown hb hn hv hy h2).mono λe w' ⟨v',he,h⟩=>⟨v',he,?_⟩
  rw[List.take_of_length_le Oz,List.drop_eq_nil_of_le Oz,List.append_nil];exact h
 rcases hown.2 with ⟨_,h0⟩ | ⟨g,c,cur,rfl,hbg,hg,hc,hm,hs,ht⟩
 ·omega
 have vG:vb≠g:=λe=>hvb (by rw[e];rfl)
 have hll:cur.toList.length=c*2:=by rw[Array.length_toList];exact hs
 by_cases hcn:n+1<=c
 ·refine(qf6 w g n c i vb cur.toList ys (by rw[Array.toArray_toList];exact hg) hll hcn Oz hm vG hv hy (by rw[ht];exact h1) h2).mono λe w' ⟨he,h⟩=>⟨_,he,?_⟩
  obtain⟨k1,k2⟩:=UJ (xs:=xs) (i:=i) Oz hcn hll hy ht;refine⟨⟨?_,.inr ⟨g,c,_,rfl,hbg,h.out.2,hcn,hm,by rw[Wu];exact k1,k2⟩⟩,h.out.1,.inl rfl⟩;simp only[Su,Wy,Az,hy];omega
 ·obtain rfl:c=n:=by omega
  have ex:cur=xs.toArray:=by rw[<-ht,List.take_of_length_le Oz,Array.toArray_toList]
  rw[ex]at hg;refine(qf8 w g c i vb xs ys hg hl hn Oz hv hy h1 h2).mono λe w' ⟨v',he,h⟩=>⟨v',he,Js h.out.1 hb,?_,.inr h.out.2.2⟩
  exact⟨h.out.2.1.os,h.out.2.1.tape,h.out.2.1.output,h.out.2.1.size,λj hj _=>h.out.2.1.block j hj⟩
theorem YX:(prog.info? 38).map (λi=>(i.zero,i.size,i.bytes))=some (some (.agg (OC ⟨0,0,0,0,0,0⟩)),6,48):=by kernel_rfl
theorem YY:(prog.info? 38).map (·.size)=some 6:=by kernel_rfl
theorem qga (w:World):(sizeOf 38).run prog w=.ok 6 w:=by kernel_rfl
theorem qgb (w:World)(g vb a b c d n m:Nat)(hne:vb≠g)(cs ys:Array Value)(hg:w.heap[g]? = some (.cells cs 38 (0,0)))(hv:w.heap[vb]? = some (.cells ys 38 (0,0)))(h0:0<cs.size) :
  (callFunc 193 #[.slice (some ⟨vb,a,none⟩) n c,.slice (some ⟨g,b,none⟩) m d]).run prog w=.ok (.value (.bool false)) w:=by
 rw[run_callFunc_extern func193 Ow Ow Ow (e:=Extern.SlicesOverlaps.overlaps #[22,22] #[4]) Ow,
  Lib.run_overlaps_apart w 22 4 38 underlying22 6 qga ⟨vb,a,none⟩ ⟨g,b,none⟩ n c m d hne 38 38 ys.size cs.size (by unfold World.shape?;rw[hv]) (by unfold World.shape?;rw[hg]) Oz (frozen_of_row _ _ _ _ _ hv) (frozen_of_row _ _ _ _ _ hv)]
 rfl
theorem qgc (w:World)(g n c i vb:Nat)(cur ys:List Value)(hg:w.heap[g]? = some (.cells cur.toArray 38 (0,0)))(hl:cur.length=c*6)(hc:n+1<=c)(hi:i<n)(hcm:c<=maxLen)(hvb:vb≠g)(hv:w.heap[vb]? = some (.cells ys.toArray 38 (0,0)))(hy:ys.length=6)(h1:∀v∈cur.take (n*6),v.oneCell'=true)(h2:∀v∈ys,v.oneCell'=true) :
  Calls prog 186 #[.slice (some ⟨g,0,none⟩) n c,.int .i64 i,.slice (some ⟨vb,0,none⟩) 1 1] w λe w'=>e=.returned (.slice (some ⟨g,0,none⟩) (n+1) c)/\Hid (ZN w g 38 (Zo cur ys n i 6) w'):=by
 have mixed:prog.follows .mixedOrders=true:=by kernel_rfl
 have lH:c<=9223372036854775807:=by unfold maxLen at hcm;omega
 have hov:=λW (h:W.heap[g]? = some (.cells cur.toArray 38 (0,0))) (h':W.heap[vb]? = some (.cells ys.toArray 38 (0,0))) b n c m d=>qgb W g vb 0 b c d n m hvb cur.toArray ys.toArray h h' (by simp;omega)
 have hov:=hov w hg hv
 have q1:¬((i:Int)=(n:Int)):=by omega
 have q2:¬((c:Int)<(n:Int)+1):=by omega
 have q3:(0:Int)<=(i:Int)+1:=by omega
 have q4:¬(c=i+1):=by omega
 have q5:¬(c=i):=by omega
 have q6:(i:Int)<=(n:Int):=by omega
 have q7:(n:Int)+1<=(c:Int):=by omega
 have q8:IntKind.i64.wrap ((i:Int)+1)=(i:Int)+1:=by rw[Wz];omega
 have q9:IntKind.i64.wrap ((n:Int)+1)=(n:Int)+1:=by rw[Wz];omega
 have lT:((i:Int)+1).toNat=i+1:=by omega
 have rI:((n:Int)+1).toNat=n+1:=by omega
 have qB:(i:Int)<=(n:Int)+1:=by omega
 have vV:(i:Int)+1<=(n:Int)+1:=by omega
 have vW:(c:Int)<=9223372036854775807:=by omega
 have hik:(i+1)*6=i*6+6:=by omega
 have hni:(n-i)*6=n*6-i*6:=by omega
 have pV:(n+1)*6<=c*6:=by omega
 obtain⟨X,eX⟩:∃X,X=(cur.drop (i*6)).take ((n-i)*6):=⟨_,rfl⟩
 have lX:X.length=(n-i)*6:=by rw[eX,Wy,Az];omega
 obtain⟨A1,e1⟩:∃A1,A1=(cur.take ((i+1)*6)++X++cur.drop ((i+1)*6+X.length)):=⟨_,rfl⟩
 have l1:A1.length=c*6:=by rw[e1];simp only[Su,Wy,Az,lX];omega
 have e2:A1.take (i*6)++ys++A1.drop (i*6+ys.length)=Zo cur ys n i 6:=by rw[e1,eX];exact UI Oz hc hl hy
 have C1:Hid (∀ty dl dc sl sc,Nat.min sl dl=n-i->(Builtin.copy_ #[22,22] ty #[.slice (some ⟨g,(i+1)*6,none⟩) dl dc,.slice (some ⟨g,i*6,none⟩) sl sc]).run prog w.drew=.ok (goInt ((n-i:Nat):Int)) (w.drew.setRow g A1.toArray)):=Ou (λty dl dc sl sc hm=>by
  have:=Jt w.drew 22 22 ty 38 6 g ((i+1)*6) dl dc ⟨g,i*6,none⟩ sl sc cur.toArray 38 X underlying22 YY (Qk hg) (n-i) hm lX (λj v hj=>by
   rw[QN,cell_of_row _ _ _ _ _ _ (Qk hg)];rw[eX,List.getElem?_take]at hj
   split at hj
   ·rw[List.getElem?_drop]at hj;rw[List.getElem?_toArray];exact hj
   ·cases hj) (by rw[lX];simp only[Wu];omega) (λv hv=>h1 v (by rw[eX,hni,<-List.drop_take]at hv;exact List.mem_of_mem_drop hv))
  rw[e1]
  exact this)
 have G1:(w.drew.setRow g A1.toArray).heap[g]? = some (.cells A1.toArray 38 (0,0)):=setRow_heap _ _ _ _ _ _ (Qk hg)
 have C2:Hid (∀ty dl dc sc,Nat.min 1 dl=1->(Builtin.copy_ #[22,22] ty #[.slice (some ⟨g,i*6,none⟩) dl dc,.slice (some ⟨vb,0,none⟩) 1 sc]).run prog (w.drew.setRow g A1.toArray)=.ok (goInt 1) ((w.drew.setRow g A1.toArray).setRow g (Zo cur ys n i 6).toArray)):=Ou (λty dl dc sc hm=>by
  have:=Jt (w.drew.setRow g A1.toArray) 22 22 ty 38 6 g (i*6) dl dc ⟨vb,0,none⟩ 1 sc A1.toArray 38 ys underlying22 YY G1 1 hm Oz (λj v hj=>by
   rw[QN,Nat.zero_add,cell_of_row _ _ _ _ _ _ ((setRow_other _ _ _ _ hvb).trans (Qk hv)),List.getElem?_toArray];exact hj) (by simp only[Wu];omega) h2
  rw[<-e2]
  exact this)
 have F:Hid (ZN w g 38 (Zo cur ys n i 6) ((w.drew.setRow g A1.toArray).setRow g (Zo cur ys n i 6).toArray)):=JX (JX (VT hg) (JW (Qk hg))) (JW G1)
 clear eX lX e1 l1 e2 G1 hik hni pV
 have HX:=Ou (Sv hl (Sv hc (Sv hi (Sv hy (Sv h1 h2)))))
 clear hg hv hl hc hy h1 h2 hcm
 go_enter func186,ntmps186
 go_wp2_with (simp only[hov])
 refine wp_region_held_drew (S:=λ_=>True) Ow trivial (λhHeld=>?_)
 clear hHeld
 refine tkA 0 ?_
 refine tkA 1 ?_
 refine tkA 2 ?_
 refine tkA 3 ?_
 refine tkA 4 ?_
 refine tkA 5 ?_
 refine tkA 6 ?_
 refine tkA 7 ?_
 (try simp only[zz])
 refine rdH 8 (λK hK=>?_)
 refine step_copy_runI rfl _ _ 22 22 rfl _ _ rfl rfl (C1.out _ _ _ _ _ (by simp only[Nat.min_def];split<;>omega)) ?_
 refine hK.out _ _ trivial (λhHeld=>?_)
 clear hK K hHeld
 (try simp only[zz])
 refine wpAnyH_done Ow ?_ _
 clear C1
 go_wp2_with fail
 rw[C2.out _ _ _ _ (by simp only[Nat.min_def];split<;>omega)]
 go_wp2_with fail
 go_ret
 exact⟨rfl,F.out⟩
theorem qgd (w:World)(base n:Nat)(v:Value)(xs ys:List Value)(vb:Nat)(hown:w.ownsRow base 38 6 v n xs)(hb:base<=w.heap.size)(hn:n<=1000)(hv:w.heap[vb]? = some (.cells ys.toArray 38 (0,0)))(hy:ys.length=6)(h2:∀v∈ys,v.oneCell'=true) :
  Calls prog 186 #[v,.int .i64 n,.slice (some ⟨vb,0,none⟩) 1 1] w λe w'=>∃v',e=.returned v'/\Hid (w'.ownsRow base 38 6 v' (n+1) (xs++ys)/\w.grownBy w' v.ownBlock/\(v'.ownBlock=v.ownBlock∨v'.ownBlock=some w.heap.size)):=by
 obtain⟨i0,hi0,hz0,hz1,hz2⟩:=info_parts YX
 have HO:=Ou hown
 have jQ:Hid (∀(j:Nat) (u:Value),ys[j]? = some u->w.cell? ((⟨vb,0,none⟩:Addr).add j)=some u):=Ou (λj u hj=>by
  rw[QN,Nat.zero_add,cell_of_row _ _ _ _ _ _ hv,List.getElem?_toArray];exact hj)
 have q1:IntKind.i64.wrap ((n:Int)+1)=(n:Int)+1:=by rw[Wz];omega
 rcases hown.2 with ⟨rfl,rfl⟩ | ⟨g,c,cur,rfl,_,_,hc,hm,_,_⟩
 ·clear hown hv;go_enter func186,ntmps186;go_wp2_with (at_builtin;refine wpList_append_own_at _ rfl _ _ 22 rfl base 38 i0 (.agg (OC ⟨0,0,0,0,0,0⟩)) 6 48 underlying22 hi0 hz0 hz1 hz2 rfl Ox _ _ _ rfl HO.out ⟨vb,0,none⟩ 1 1 ys rfl Oz jQ.out h2 (by unfold maxLen;omega) Oz hb ?_)
  intro v1 w1 k1 k2 _ k3;have HR:Hid (w1.ownsRow base 38 6 v1 (0+1) (xs++ys)/\w.grownBy w1 (Value.slice none 0 0).ownBlock/\(v1.ownBlock=(Value.slice none 0 0).ownBlock∨v1.ownBlock=some w.heap.size)):=⟨k1,k2,k3⟩
  clear k1 k2 k3;go_wp2_with fail
  go_ret;exact⟨_,rfl,HR.out⟩
 ·have hcm:c<=9223372036854775807:=by unfold maxLen at hm;omega
  have q2:(n:Int)<=(c:Int):=by omega
  have q3:(c:Int)<=9223372036854775807:=by omega
  clear hown hv hm;by_cases hcn:c=n
  ·subst hcn;go_enter func186,ntmps186;go_wp2_with (at_builtin;refine wpList_append_own_at _ rfl _ _ 22 rfl base 38 i0 (.agg (OC ⟨0,0,0,0,0,0⟩)) 6 48 underlying22 hi0 hz0 hz1 hz2 rfl Ox _ _ _ rfl HO.out ⟨vb,0,none⟩ 1 1 ys rfl Oz jQ.out h2 (by unfold maxLen;omega) Oz hb ?_)
   intro v1 w1 k1 k2 _ k3;have HR:Hid (w1.ownsRow base 38 6 v1 (c+1) (xs++ys)/\w.grownBy w1 (Value.slice (some ⟨g,0,none⟩) c c).ownBlock/\(v1.ownBlock=(Value.slice (some ⟨g,0,none⟩) c c).ownBlock∨v1.ownBlock=some w.heap.size)):=⟨k1,k2,k3⟩
   clear k1 k2 k3;go_wp2_with fail
   go_ret;exact⟨_,rfl,HR.out⟩
  ·go_enter func186,ntmps186;go_wp2_with (at_builtin;refine wpList_append_own_at _ rfl _ _ 22 rfl base 38 i0 (.agg (OC ⟨0,0,0,0,0,0⟩)) 6 48 underlying22 hi0 hz0 hz1 hz2 rfl Ox _ _ _ rfl HO.out ⟨vb,0,none⟩ 1 1 ys rfl Oz jQ.out h2 (by unfold maxLen;omega) Oz hb ?_)
   intro v1 w1 k1 k2 _ k3;have HR:Hid (w1.ownsRow base 38 6 v1 (n+1) (xs++ys)/\w.grownBy w1 (Value.slice (some ⟨g,0,none⟩) n c).ownBlock/\(v1.ownBlock=(Value.slice (some ⟨g,0,none⟩) n c).ownBlock∨v1.ownBlock=some w.heap.size)):=⟨k1,k2,k3⟩
   clear k1 k2 k3;go_wp2_with fail
   go_ret;exact⟨_,rfl,HR.out⟩
theorem qge (w:World)(g n i vb:Nat)(xs ys:List Value)(hg:w.heap[g]? = some (.cells xs.toArray 38 (0,0)))(hl:xs.length=n*6)(hn:n<=1000)(hi:i<n)(hv:w.heap[vb]? = some (.cells ys.toArray 38 (0,0)))(hy:ys.length=6)(h1:∀v∈xs,v.oneCell'=true)(h2:∀v∈ys,v.oneCell'=true) :
  Calls prog 186 #[.slice (some ⟨g,0,none⟩) n n,.int .i64 i,.slice (some ⟨vb,0,none⟩) 1 1] w λe w'=>∃v',e=.returned v'/\Hid (w'.ownsRow w.heap.size 38 6 v' (n+1) (xs.take (i*6)++ys++xs.drop (i*6))/\Ok w w'/\v'.ownBlock=some w.heap.size):=by
 have mixed:prog.follows .mixedOrders=true:=by kernel_rfl
 obtain⟨i0,hi0,hz0,hz1,hz2⟩:=info_parts YX
 have hgl:=Qc hg
 have hvl:=Qc hv
 have q0:(n:Int)<(n:Int)+1:=by omega
 have q1:¬((i:Int)=(n:Int)):=by omega
 have q3:(0:Int)<=(i:Int)+1:=by omega
 have q5:¬(n=i):=by omega
 have q6:(i:Int)<=(n:Int):=by omega
 have q8:IntKind.i64.wrap ((i:Int)+1)=(i:Int)+1:=by rw[Wz];omega
 have q9:IntKind.i64.wrap ((n:Int)+1)=(n:Int)+1:=by rw[Wz];omega
 have lT:((i:Int)+1).toNat=i+1:=by omega
 have qB:(i:Int)<=(n:Int)+1:=by omega
 have vV:(i:Int)+1<=(n:Int)+1:=by omega
 have vW:(n:Int)<=9223372036854775807:=by omega
 have xX:IntKind.i64.wrap ((n:Int)+1-(i:Int))=((n+1-i:Nat):Int):=by rw[Wz];omega
 have hik:(i+1)*6=i*6+6:=by omega
 have fK:(xs.take (i*6)).length=i*6:=by rw[Wy];omega
 have hold:(Builtin.firstCells i0.size i (.slice (some ⟨g,0,none⟩) i n)).run prog w.drew=.ok (xs.take (i*6)).toArray w.drew:=by
  rw[hz1]
  exact run_firstCells_some w.drew 6 i ⟨g,0,none⟩ i n (xs.take (i*6)) fK (λj v hj=>by
   rw[QN,Nat.zero_add,cell_of_row _ _ _ _ _ _ (Qk hg),List.getElem?_toArray];rw[List.getElem?_take]at hj
   split at hj
   ·exact hj
   ·cases hj)
 have hin:i+(n+1-i)=n+1:=by omega
 have i5:∀ty,(Builtin.append_ #[22,3] ty #[.slice (some ⟨g,0,none⟩) i n,.int .i64 ((n+1-i:Nat):Int)]).run prog w=.ok (.slice (some ⟨w.heap.size,0,none⟩) (n+1) (grownCap w (n+1) n 38)) (w.drew.alloc (.cells ((xs.take (i*6)).toArray++Builtin.zeroCells ((.agg (OC ⟨0,0,0,0,0,0⟩)):Value).cells (n+1-i)++Builtin.zeroCells ((.agg (OC ⟨0,0,0,0,0,0⟩)):Value).cells (grownCap w (n+1) n 38-(n+1))) 38)):=λty=>by
  have h:=Lib.run_append_grow_zeros w 22 3 ty 38 i0 _ .i64 .i64 underlying22 underlying3 hi0 hz0 (some ⟨g,0,none⟩) i n (xs.take (i*6)) hold (n+1-i) Oz Oz Oz Oz (by rw[hz2];omega) (by rw[hz2,hin];exact growslice_fits Oz Oz);rw[hin]at h;exact h
 obtain⟨G,hG⟩:∃G,G=grownCap w (n+1) n 38:=⟨_,rfl⟩
 have jF:n+1<=G:=by rw[hG];exact grownCap_ge w _ _ _
 have jE:G<=maxLen:=by rw[hG];exact grownCap_le_maxLen w (n+1) n 38 (by unfold maxLen;omega)
 have tH:(G:Int)<=9223372036854775807:=by unfold maxLen at jE;omega
 rw[<-hG]at i5
 obtain⟨R,hR⟩:∃R:List Value,R.toArray=(xs.take (i*6)).toArray++Builtin.zeroCells ((.agg (OC ⟨0,0,0,0,0,0⟩)):Value).cells (n+1-i)++Builtin.zeroCells ((.agg (OC ⟨0,0,0,0,0,0⟩)):Value).cells (G-(n+1)):=⟨_,Array.toArray_toList⟩
 rw[<-hR]at i5
 have lR:R.length=G*6:=by
  have:=congrArg Array.size hR;simp only[Wu,Array.size_append,fK]at this;simp[Builtin.zeroCells,Value.cells,OC]at this;omega
 have tR:R.take (i*6)=xs.take (i*6):=by
  have:=congrArg Array.toList hR;rw[Array.toList_append,Array.toList_append]at this;rw[show R=R.toArray.toList from rfl,this,St,List.take_append_of_le_length (by show _<=(xs.take (i*6)).length;omega)];exact List.take_of_length_le (by show (xs.take (i*6)).length<=_;omega)
 obtain⟨R1,e1⟩:∃R1,R1=R.take (i*6)++ys++R.drop (i*6+ys.length):=⟨_,rfl⟩
 obtain⟨R2,e2⟩:∃R2,R2=R1.take ((i+1)*6)++xs.drop (i*6)++R1.drop ((i+1)*6+(xs.drop (i*6)).length):=⟨_,rfl⟩
 obtain⟨l1,l2,t2⟩:=UK tR lR jF hl hy Oz e1 e2
 have HW:Hid (∀W,W=(w.alloc (.cells R.toArray 38)).drew->W.heap[w.heap.size]? = some (.cells R.toArray 38 (0,0))/\W.heap[vb]? = some (.cells ys.toArray 38 (0,0))/\W.heap[g]? = some (.cells xs.toArray 38 (0,0))/\Ok w W):=Ou (λW hW=>by
  rw[hW]
  exact⟨Qk (Qe rfl),Qk (Qp hvl hv),Qk (Qp hgl hg),((Oq _ _).alloc (Sq _) _).drew⟩)
 have ldx:(xs.drop (i*6)).length=(n-i)*6:=by rw[Az,hl];omega
 have C1:Hid (∀W,W.heap[w.heap.size]? = some (.cells R.toArray 38 (0,0))->W.heap[vb]? = some (.cells ys.toArray 38 (0,0))->∀ty dl dc sc,Nat.min 1 dl=1->(Builtin.copy_ #[22,22] ty #[.slice (some ⟨w.heap.size,i*6,none⟩) dl dc,.slice (some ⟨vb,0,none⟩) 1 sc]).run prog W=.ok (goInt 1) (W.setRow w.heap.size R1.toArray)):=Ou (λW k1 k2 ty dl dc sc hm=>by
  have:=Jt W 22 22 ty 38 6 w.heap.size (i*6) dl dc ⟨vb,0,none⟩ 1 sc R.toArray 38 ys underlying22 YY k1 1 hm Oz (λj v hj=>by
   rw[QN,Nat.zero_add,cell_of_row _ _ _ _ _ _ k2,List.getElem?_toArray];exact hj) (by simp only[Wu];omega) h2
  rw[e1]
  exact this)
 have C2:Hid (∀W,W.heap[w.heap.size]? = some (.cells R1.toArray 38 (0,0))->W.heap[g]? = some (.cells xs.toArray 38 (0,0))->∀ty dl dc sl sc,Nat.min sl dl=n-i->(Builtin.copy_ #[22,22] ty #[.slice (some ⟨w.heap.size,(i+1)*6,none⟩) dl dc,.slice (some ⟨g,i*6,none⟩) sl sc]).run prog W=.ok (goInt ((n-i:Nat):Int)) (W.setRow w.heap.size R2.toArray)):=Ou (λW k1 k2 ty dl dc sl sc hm=>by
  have:=Jt W 22 22 ty 38 6 w.heap.size ((i+1)*6) dl dc ⟨g,i*6,none⟩ sl sc R1.toArray 38 (xs.drop (i*6)) underlying22 YY k1 (n-i) hm ldx (λj v hj=>by
   rw[QN,cell_of_row _ _ _ _ _ _ k2,List.getElem?_toArray];rw[List.getElem?_drop]at hj
   exact hj) (by simp only[Wu];omega) (λv hv=>h1 v (List.mem_of_mem_drop hv))
  rw[e2]
  exact this)
 have HE:=Ou (Sv l2 (Sv t2 (Sv jF jE)))
 have HX:=Ou (Sv hgl hy)
 have mJ:=Ou (show (xs.take (i*6)++ys++xs.drop (i*6)).length=(n+1)*6 by simp only[Su,fK,hy,ldx];omega)
 have xY:¬(G=i):=by omega
 have xZ:¬(G=i+1):=by omega
 clear e1 e2 l1 l2 t2 tR lR hR hG hold hin hg hv hl hy hz0 hz1 hz2 hi0 jF jE ldx fK h1 h2 hik
 go_enter func186,ntmps186
 go_wp2_with (at_builtin;refine Lib.wpList_append_run _ rfl _ _ _ _ rfl _ _ rfl rfl _ _ (i5 _) ?_)
 clear i5
 generalize hW1:World.drew (w.alloc (.cells R.toArray 38))=W1
 obtain⟨k1,k2,k3,k4⟩:=HW.out W1 hW1.symm
 have K:=Ou (Sv k1 (Sv k2 (Sv k3 k4)))
 clear hW1 HW k1 k2 k3 k4
 rw[C1.out W1 K.out.1 K.out.2.1 _ _ _ _ (by simp only[Nat.min_def];split<;>omega)]
 go_wp2_with fail
 refine wp_region_held_drew (S:=λ_=>True) Ow trivial (λhHeld=>?_)
 clear hHeld
 refine tkA 0 ?_
 refine tkA 1 ?_
 refine tkA 2 ?_
 refine tkA 3 ?_
 refine tkA 4 ?_
 refine tkA 5 ?_
 refine tkA 6 ?_
 refine tkA 7 ?_
 (try simp only[zz])
 have G1:(W1.setRow w.heap.size R1.toArray).drew.heap[w.heap.size]? = some (.cells R1.toArray 38 (0,0)):=Qk (setRow_heap _ _ _ _ _ _ K.out.1)
 have G2:(W1.setRow w.heap.size R1.toArray).drew.heap[g]? = some (.cells xs.toArray 38 (0,0)):=Qk ((setRow_other _ _ _ _ (by have:=HX.out.1;omega)).trans K.out.2.2.1)
 refine rdH 8 (λK hK=>?_)
 refine step_copy_runI rfl _ _ 22 22 rfl _ _ rfl rfl (C2.out _ G1 G2 _ _ _ _ _ (by simp only[Nat.min_def];split<;>omega)) ?_
 refine hK.out _ _ trivial (λhHeld=>?_)
 clear hK K hHeld
 (try simp only[zz])
 refine wpAnyH_done Ow ?_ _
 have F:Hid (((W1.setRow w.heap.size R1.toArray).drew.setRow w.heap.size R2.toArray).ownsRow w.heap.size 38 6 (.slice (some ⟨w.heap.size,0,none⟩) (n+1) G) (n+1) (xs.take (i*6)++ys++xs.drop (i*6))/\Ok w ((W1.setRow w.heap.size R1.toArray).drew.setRow w.heap.size R2.toArray)):=by
  refine⟨⟨mJ.out,.inr ⟨w.heap.size,G,R2.toArray,rfl,Sq _,setRow_heap _ _ _ _ _ _ G1,HE.out.2.2.1,HE.out.2.2.2,by rw[Wu];exact HE.out.1,HE.out.2.1⟩⟩,?_⟩;exact below_setRow ((below_setRow K.out.2.2.2 (Sq _) _).drew) (Sq _) _
 clear G1 G2 C1 C2 K HE mJ HX
 go_wp2_with fail
 go_ret
 exact⟨_,rfl,F.out.1,F.out.2,rfl⟩
theorem CY (w:World)(base n i:Nat)(v:Value)(xs ys:List Value)(vb:Nat)(hown:w.ownsRow base 38 6 v n xs)(hb:base<=w.heap.size)(hn:n<=1000)(hi:i<=n)(hvb:v.ownBlock≠some vb)(hv:w.heap[vb]? = some (.cells ys.toArray 38 (0,0)))(hy:ys.length=6)(h1:∀u∈xs,u.oneCell'=true)(h2:∀u∈ys,u.oneCell'=true) :
  Calls prog 186 #[v,.int .i64 i,.slice (some ⟨vb,0,none⟩) 1 1] w λe w'=>∃v',e=.returned v'/\Hid (w'.ownsRow base 38 6 v' (n+1) (xs.take (i*6)++ys++xs.drop (i*6))/\w.grownBy w' v.ownBlock/\(v'.ownBlock=v.ownBlock∨v'.ownBlock=some w.heap.size)):=by
 have hl:=hown.1
 by_cases hin:i=n
 ·subst hin;refine(qgd w base i v xs ys vb hown hb hn hv hy h2).mono λe w' ⟨v',he,h⟩=>⟨v',he,?_⟩
  rw[List.take_of_length_le Oz,List.drop_eq_nil_of_le Oz,List.append_nil];exact h
 rcases hown.2 with ⟨_,h0⟩ | ⟨g,c,cur,rfl,hbg,hg,hc,hm,hs,ht⟩
 ·omega
 have vG:vb≠g:=λe=>hvb (by rw[e];rfl)
 have hll:cur.toList.length=c*6:=by rw[Array.length_toList];exact hs
 by_cases hcn:n+1<=c
 ·refine(qgc w g n c i vb cur.toList ys (by rw[Array.toArray_toList];exact hg) hll hcn Oz hm vG hv hy (by rw[ht];exact h1) h2).mono λe w' ⟨he,h⟩=>⟨_,he,?_⟩
  obtain⟨k1,k2⟩:=UJ (xs:=xs) (i:=i) Oz hcn hll hy ht;refine⟨⟨?_,.inr ⟨g,c,_,rfl,hbg,h.out.2,hcn,hm,by rw[Wu];exact k1,k2⟩⟩,h.out.1,.inl rfl⟩;simp only[Su,Wy,Az,hy];omega
 ·obtain rfl:c=n:=by omega
  have ex:cur=xs.toArray:=by rw[<-ht,List.take_of_length_le Oz,Array.toArray_toList]
  rw[ex]at hg;refine(qge w g c i vb xs ys hg hl hn Oz hv hy h1 h2).mono λe w' ⟨v',he,h⟩=>⟨v',he,Js h.out.1 hb,?_,.inr h.out.2.2⟩
  exact⟨h.out.2.1.os,h.out.2.1.tape,h.out.2.1.output,h.out.2.1.size,λj hj _=>h.out.2.1.block j hj⟩
end
section
open Go.RowKit Go.Shelf Go.Sort
attribute [local go_sem] Oper.semAt_some
theorem UM {w w':World}{base n size:Nat}{e:TypeId}{v:Value}{xs:List Value}{row:Option Nat}(h:w.ownsRow base e size v n xs)(hg:w.grownBy w' row)(hr:∀r,row=some r->∃o:Obj,w.heap[r]? = some o/\o.isCells=false):w'.ownsRow base e size v n xs:=by
 obtain⟨h1,h2⟩:=h
 refine⟨h1,?_⟩
 rcases h2 with hn | ⟨k,cap,cur,rfl,hb,hk,rest⟩
 ·exact .inl hn
 ·exact .inr ⟨k,cap,cur,rfl,hb,(Cl.own (T:=e) (cs:=cur) hk hg hr),rest⟩
theorem qgf {S:Nat->Prop}{w W:World}{base:Nat}{T:TypeId}{v:Value}{A:Option Addr}{n c:Nat}{q:List Od}(h:w.ownsRow base T 6 v q.length (ol q))(hv:v=.slice A n c)(hne:q≠[])(hf:Fr S w W)(hS:∀k,v.ownBlock=some k->¬S k) :
  ∃ad,A=some ad/\∀j u,(ol q)[j]? = some u->W.cell? (ad.add j)=some u:=by
 rcases h.2 with ⟨_,h0⟩ | ⟨k,cap,cur,hv',_,hk,_,_,_,ht⟩
 ·exact absurd (List.length_eq_zero_iff.1 h0) hne
 ·rw[hv]at hv';injection hv' with e1 e2 e3;refine⟨⟨k,0,none⟩,e1,λj u hj=>?_⟩;have hk':=hf.blk hk (hS k (by rw[hv,e1];rfl));rw[QN,Nat.zero_add,cell_of_row _ _ _ _ _ _ hk'];rw[<-ht,List.getElem?_take]at hj
  split at hj
  ·rw[Array.getElem?_toList]at hj;exact hj
  ·cases hj
theorem ZO {w:World}{base n size:Nat}{T:TypeId}{v:Value}{xs:List Value}(h:w.ownsRow base T size v n xs):∃A c,v=.slice A n c/\True:=by
 rcases h.2 with ⟨hv,h0⟩ | ⟨k,cap,cur,hv,_⟩
 ·subst h0;exact⟨none,0,hv,trivial⟩
 ·exact⟨_,_,hv,trivial⟩
theorem qgg {T T':TypeId}{W w1:World}{B base n size:Nat}{cs:Array Value}{v:Value}{xs:List Value}(h:Cl T W B cs)(ho:W.ownsRow base T' size v n xs)(hg:W.grownBy w1 v.ownBlock)(hB:B<base):Cl T w1 B cs :=
 (hg.block _ (Qc h) (λe=>by have:=(Zs ho B e.symm).1;omega)).trans h
theorem qgh {T:TypeId}{W w1:World}(B:Nat){base n size:Nat}{v:Value}{xs:List Value}(ho:W.ownsRow base T size v n xs)(hg:W.grownBy w1 v.ownBlock):KeepsFrom B W w1:=by
 refine⟨hg.size,λi o _ hi hc=>?_⟩
 refine(hg.block i (Qc hi) (λe=>?_)).trans hi
 rcases ho.2 with ⟨hv,_⟩ | ⟨k,cap,cur,hv,_,hk,_⟩
 ·rw[hv]at e;cases e
 ·rw[hv]at e;injection e with e;subst e;rw[hk]at hi;cases hi;cases hc
theorem UN {T:TypeId}{X:World}{base n size:Nat}{v:Value}{xs:List Value}(h:X.ownsRow base T size v n xs)(D:Nat){o o':Obj}(hD:X.heap[D]? = some o)(hc:o.isCells=false):(X.putObj D o').ownsRow base T size v n xs:=by
 obtain⟨h1,h2⟩:=h
 refine⟨h1,?_⟩
 rcases h2 with hn | ⟨k,cap,cur,rfl,hb,hk,rest⟩
 ·exact .inl hn
 ·exact .inr ⟨k,cap,cur,rfl,hb,Cl.put (T:=T) (cs:=cur) hk D hD hc,rest⟩
theorem Ku (a b:List Od):ol (a++b)=ol a++ol b:=by unfold ol;rw[Wv]
theorem qgi {s1 s2:Sd}(pre:List (Rx s1 s2))(x:Rx s1 s2):vals (pre++[x])=vals pre++[x.1]:=by unfold vals;simp
theorem CZ:∀(l:List Rw),(∀r∈l,r.q.length<=1000)->(Qb l).length<=l.length*1000
 | [],_=>Sq _
 | r :: l,h=>by
  have h1:=h r Oy;have h2:=CZ l (λr hr=>h r (by simp[hr]));unfold Qb at *;rw[List.flatMap_cons,Su,Wq];omega
theorem qgj {s1 s2:Sd}{pre:List (Rx s1 s2)}{s:Rx s1 s2}(hQ:Q4 (s1.rs++s2.rs)<=1000)(hp:pre.length<(s1.rs++s2.rs).length)(h1:s1.rs.length<=1000)(h2:s2.rs.length<=1000):(Qb (vals pre)).length+s.1.q.length<=2001000:=by
 have hb:=CZ (vals pre) (λr hr=>by
  obtain⟨x,_,rfl⟩:=List.mem_map.1 hr
  exact Sk JU hQ)
 have hs:=Sk (JU (x:=s)) hQ
 rw[CS]at hb
 rw[Su]at hp
 omega
theorem qgk (b:Option Addr)(m:Option Nat)(s1 s2:Sd)(w:World)(H:Bk w b m s1 s2)(dP:s1.rs.length<=1000)(cQ:s2.rs.length<=1000)(hQ:Q4 (s1.rs++s2.rs)<=1000)(hne:∀r∈s1.rs++s2.rs,r.q≠[]) :
  Calls prog 169 #[.pointer b] w λe w'=>∃v,e=.returned v/\Hid (w'.ownsRow w.heap.size 38 6 v (Qa s1.rs s2.rs).length (ol (Qa s1.rs s2.rs))/\Ok w w'):=by
 obtain⟨i0,hi0,hz0,hz1,hz2⟩:=info_parts YX
 refine(callsIn_wide (n:=5)).1 ?_
 refine callsIn_of_wp_marks func169 rfl trivial ?_ rfl
 simp only[ntmps169,Wu,Wq,List.length_nil,Nat.reduceAdd,Nat.reduceSub,Array.replicate_succ,Array.replicate_zero,List.push_toArray,List.append_toArray,List.nil_append,List.cons_append]
 gi_wp2_with (refine⟨trivial,?_⟩;refine((callsIn_wide (n:=5-1)).2 (UF _ _ _ _ _)).mono ?_;rintro e w' ⟨rfl,rfl⟩)
 have e1:w.heap.size+1+1+1=w.heap.size+3:=rfl
 obtain⟨W1,hW1⟩:∃W1,w.alloc (.cells #[.slice none 0 0] 22)=W1:=⟨_,rfl⟩
 have hz1:W1.heap.size=w.heap.size+1:=by rw[<-hW1];simp
 have cY:Ok w W1:=by rw[<-hW1];exact(Oq _ _).alloc (Sq _) _
 have hM:=UH (λk=>k=w.heap.size∨w.heap.size+4<=k) W1 b m s1 s2 (H.below cY) (λk hk hS=>by have:=H.lt hk;omega) Oz Oz Oz
 obtain⟨W0,hW0⟩:∃W0,(((W1.alloc (.cells #[.int .i64 1,.int .i64 2] 3)).alloc (.cells #[.pointer b] 102)).alloc (.cells #[.slice (some ⟨W1.heap.size,0,none⟩) 2 2] 216))=W0:=⟨_,rfl⟩
 have hc0:Cl 22 W0 w.heap.size #[.slice none 0 0]:=by
  rw[<-hW0,<-hW1];exact Qp (by simp;omega) (Qp (by simp;omega) (Qp Oy (Qe rfl)))
 have tD:Ok w W0:=by rw[<-hW0,<-hW1];exact((((Oq _ _).alloc (Sq _) _).alloc Oy _).alloc (by simp;omega) _).alloc (by simp;omega) _
 have hsz:W0.heap.size=w.heap.size+4:=by rw[<-hW0];simp;omega
 rw[hW0]at hM
 rw[hz1]at hM hW0
 have tP:(((w.alloc (.cells #[.slice none 0 0] 22)).alloc (.cells #[.int .i64 1,.int .i64 2] 3)).alloc (.cells #[.pointer b] 102)).alloc (.cells #[.slice (some ⟨w.heap.size+1,0,none⟩) 2 2] 216)=W0:=by rw[hW1];exact hW0
 rw[tP]
 clear tP hW0 hW1 hz1 cY
 refine wpIn_rangeFunc_ownH rfl Oz (gf:=187) (lb:=#[.pointer (some ⟨w.heap.size+3,0,none⟩),.pointer (some ⟨w.heap.size+2,0,none⟩)]) rfl trivial (enters_of func187 Ow rfl)
  (UG (5-1) Oz (λk=>k=w.heap.size∨w.heap.size+4<=k) (w.heap.size+3) (w.heap.size+2) (w.heap.size+1) [1,2] b m s1 s2 Oy dP cQ W0 (s1.rs++s2.rs).length (by rw[KQ];exact Sq _) hM) Fr.t (λW l o o' hl ho _ _=>VR W l o o' (.inr Oz) ho) (Oq _ _) (λ_=>rfl)
  (λpre W=>(∃v,Cl 22 W w.heap.size #[v]/\W.ownsRow (w.heap.size+4) 38 6 v (Qb (vals pre)).length (ol (Qb (vals pre)))/\w.heap.size+4<=W.heap.size/\∀r∈vals pre,r∈s1.rs++s2.rs)/\Ok w W)
  (λ_ _ _=>False)
  (OwnFrom.and (Own.from (λs A B row hs hg hr=>by obtain⟨v,h1,h2,h3,h4⟩:=hs;exact⟨v,h1.own hg hr,UM h2 hg hr,Sk h3 hg.size,h4⟩) _) (ownFrom_below (Sq _) Oz))
  (λ_ _ _ _ _ hs _ _=>hs)
  ⟨⟨_,hc0,⟨rfl,.inl ⟨rfl,rfl⟩⟩,by omega,λr hr=>by cases hr⟩,tD⟩
  (AxR (w.heap.size+1) #[.pointer b,undef,.slice none 0 0,.pointer (some ⟨w.heap.size,0,none⟩),undef,.pointer b,.slice (some ⟨w.heap.size+1,0,none⟩) 2 2,.func (.func 187) #[] #[.pointer (some ⟨w.heap.size+3,0,none⟩),.pointer (some ⟨w.heap.size+2,0,none⟩)],undef,undef,undef,undef,undef,undef] 4 8)
  (λx a' _ X Y row hs hg hr=>by obtain⟨B,A,c,h1,h2,h3⟩:=hs;exact⟨B,A,c,h1,h2.own hg (λr e=>(hr r e).2),h3⟩)
  ?assign ?body ?done ?stop
 case assign =>
  rintro l0 pre x W K ⟨⟨v,hc,ho,h4,hm⟩,hB⟩ hK;obtain⟨A,c,hv,_⟩:=Z0 (H.q x.1 x.2);have hval:Rw.val x.1=.agg #[.int .i64 x.1.pr,.slice A x.1.q.length c]:=by unfold Rw.val;rw[hv]
  unfold AxR at hK;simp only[hval]at hK ⊢
  gi_wp2
  refine hK _ _ ((KeepsOthers.alloc _ _).from _) ((Fr.refl _ W).alloc _) ⟨⟨v,Qp (Qc hc) hc,ho.alloc _,by rw[World.size_alloc];omega,hm⟩,hB.alloc hB.size _⟩ ⟨W.heap.size,A,c,?_,Qe rfl,hv,rfl⟩;have:=Qc hc;omega
 case body =>
  rintro l0 pre x a' W hl ⟨r,hr⟩ ⟨⟨v,hc,ho,h4,hm⟩,hB⟩ ⟨Bx,A,c,zT,bX,hv,rfl⟩ hlt;obtain⟨A0,c0,rfl,_⟩:=Z0 ho;have p0:W.cell? ⟨w.heap.size,0,none⟩=some (.slice A0 (Qb (vals pre)).length c0):=(hc.c 0).trans rfl;have p1:W.cell? ⟨Bx,1,none⟩=some (.slice A x.1.q.length c):=(bX.c 1).trans rfl;have f0:=hc.f (k:=0);have hval:Rw.val x.1=.agg #[.int .i64 x.1.pr,.slice A x.1.q.length c]:=by unfold Rw.val;rw[hv]
  simp only[hval]
  obtain⟨ad,rfl,hnews⟩:=qgf (H.q x.1 x.2) hv (hne x.1 x.2) (CQ hB) (λk hk=>by
   intro hle;have:=H.lt (.inr (.inr (.inr (.inr ⟨x.1,x.2,hk⟩))):QH b m s1 s2 k)
   omega)
  have cU:=qgj hQ (s:=x) hlt dP cQ;have HW:=Ou (Sv hc (Sv ho (Sv h4 (Sv hm hB))));clear hc h4 hm hB hl hval bX
  gi_wp2_with (gi_at_builtin;refine wpListIn_append_own_at _ rfl _ _ _ rfl (w.heap.size+4) _ i0 (.agg (OC ⟨0,0,0,0,0,0⟩)) 6 48 underlying22 hi0 hz0 hz1 hz2 rfl Ox _ _ _ rfl ho ad _ _ (ol x.1.q) rfl (Je _) hnews (Kn _) (by unfold maxLen;omega) Oz HW.out.2.2.1 ?_;intro v' w1 hown' hgrow hnil hloc;obtain⟨A1,c1,rfl,_⟩:=ZO hown';have hc1:Cl 22 w1 w.heap.size #[.slice A0 (Qb (vals pre)).length c0]:=qgg HW.out.1 ho hgrow (Ww (Nat.lt_succ_self _) (Nat.le_add_right (w.heap.size+1) 3));have p2:w1.cell? ⟨w.heap.size,0,none⟩=some (.slice A0 (Qb (vals pre)).length c0):=(hc1.c 0).trans rfl;have f2:=hc1.f (k:=0);clear p0 p1 f0)
  have bK:Fr (λk=>k=w.heap.size∨w.heap.size+4<=k) W w1:=(Fr.refl _ W).grown hgrow (λj e=>.inl (.inr (Zs ho j e).1));refine⟨(qgh _ ho hgrow).trans ((KeepsOthers.setCell _ _ _).from _),bK.set (.inl (.inl rfl)) _,⟨.slice A1 ((Qb (vals pre)).length+x.1.q.length) c1,(QK hc1).trans rfl,?_,(by rw[show (w1.setCell ⟨w.heap.size,0,none⟩ _).heap.size=w1.heap.size by simp[World.setCell]];exact Sk HW.out.2.2.1 hgrow.size),?_⟩,(HW.out.2.2.2.2.trans (bK.below (λk hk=>by rcases hk with h|h<;>omega) HW.out.2.2.2.2.size)).setCell (p:=⟨w.heap.size,0,none⟩) (Sq _) _⟩
  ·rw[CX,Su,Ku];refine Qh (S:=λk=>k=w.heap.size) hown' ((Fr.refl (λk=>k=w.heap.size) w1).set (p:=⟨w.heap.size,0,none⟩) (.inl rfl) _) (λk hk e=>?_);have:=(Zs hown' k hk).1;omega
  ·intro y hy;rw[qgi]at hy;rcases List.mem_append.1 hy with hy|hy
   ·exact List.mem_append.1 (HW.out.2.2.2.1 y hy)
   ·rw[List.mem_singleton.1 hy];exact List.mem_append.1 x.2
 case done =>
  rintro D ys W hD hys ⟨⟨v,hc,ho,h4,hm⟩,hB⟩ hK;rw[KQ]at hys;rw[hys,Ks]at ho;obtain⟨A0,c0,rfl,_⟩:=ZO ho;have p0:W.cell? ⟨w.heap.size,0,none⟩=some (.slice A0 (Qa s1.rs s2.rs).length c0):=(hc.c 0).trans rfl;clear hys hm hM hc0
  gi_wp2_with fail
  refine⟨by simp,.inl ⟨_,_,rfl,run_takeDeferred hK,?_⟩⟩;exact⟨_,results_tmp rfl _ _ _,_,rfl,Ou ⟨Js (UN ho D hK rfl) Oz,hB.trans (belowK_b (w:=w) (Sq _) W D _ _ Oz hK rfl rfl)⟩⟩
 case stop =>
  rintro D c pre W _ _ h _;exact h.elim
attribute [local go_sem] Oper.semAt_some
theorem qgl {s1 s2:Sd}(sd:Int)(h1:s1.rs.length<=1000)(h2:s2.rs.length<=1000):(Qu s1 s2 sd).length<=1000:=by
 unfold Qu
 (repeat' split)
 ·exact h1
 ·exact h2
 ·exact Nat.zero_le _
def VU:List Rw->Option Od
 | []=>none
 | r :: _=>r.q.head?
theorem ZP {fn:Func}{p q:Tmp}(h:fn.results=#[.cell p 38,.tmp q])(tmps:Array Value)(w:World)(g:Nat)(hp:tmps.getD p undef=.pointer (some ⟨g,0,none⟩))(z:Od)(t:TypeId)
  (hg:Cl t w g (OC z)) (v:Value) (hq:tmps.getD q undef=v):(results fn tmps).run prog w=.ok (.tuple #[.agg (OC z),v]) w:=by
 have hp':tmps[p]?.getD undef=.pointer (some ⟨g,0,none⟩):=by simpa using hp
 have hq':tmps[q]?.getD undef=v:=by simpa using hq
 simp[results,h,hp',hq',asAddr,run_loadVar_row w g _ _ _ (0,0) _ hg underlying38 rfl Yx]
theorem qgm {w:World}{b:Option Addr}{m:Option Nat}{s1 s2:Sd}(H:Bk w b m s1 s2)(hne:∀r∈s1.rs++s2.rs,r.q≠[])(sd:Int){R:List Rw}(hR:Qu s1 s2 sd=R)(h0:0<R.length) :
  ∃g n c g2 n2 c2 x,Ze s1 s2 sd=.slice (some ⟨g,0,none⟩) n c/\0<n/\w.cell? ⟨g,1,none⟩=some (.slice (some ⟨g2,0,none⟩) n2 c2)/\0<n2/\x.at w g2 0/\g2<w.heap.size/\VU R=some x:=by
 obtain⟨A,c,hv,hr,_⟩:=H.rows sd
 rw[hR]at hv hr
 rcases hr.2 with h | ⟨g,rfl,_,hc⟩
 ·omega
 have hm:R[0]!∈s1.rs++s2.rs:=by
  rw[Sj R 0 h0];exact JT (by rw[hR];exact Wt h0)
 obtain⟨A2,c2,hv2,hq⟩:=Z0 (H.q _ hm)
 have hn:=hne _ hm
 have hl:0<(R[0]!).q.length:=List.length_pos_iff.2 hn
 rcases hq.2 with h | ⟨g2,rfl,hg2,hc2⟩
 ·omega
 refine⟨g,R.length,c,g2,(R[0]!).q.length,c2,(R[0]!).q[0]!,hv,h0,by have:=(hc 0 h0).2;rw[hv2]at this;simpa using this,hl,by have:=hc2 0 hl;simpa using this,hg2,?_⟩
 cases R with
 | nil=>exact absurd h0 (Ay 0)
 | cons r R =>
  show r.q.head? = some (r.q[0]!);have:0<r.q.length:=hl;rw[Sj r.q 0 this,List.head?_eq_getElem?,List.getElem?_eq_getElem this]
theorem qgn (b:Option Addr)(m:Option Nat)(s1 s2:Sd)(sd:Int)(dI:(Lit.int .i64 sd).wf=true)(w:World)(H:Bk w b m s1 s2)(hne:∀r∈s1.rs++s2.rs,r.q≠[]) :
  Calls prog 170 #[.pointer b,.int .i64 sd] w λe w'=>e=.returned (.tuple #[QF (VU (Qu s1 s2 sd)),.bool (VU (Qu s1 s2 sd)).isSome])/\Hid (Ok w w'):=by
 obtain⟨R,hR⟩:∃R,Qu s1 s2 sd=R:=⟨_,rfl⟩
 rw[hR]
 have HA:=H.below ((Oq _ _).alloc (Sq _) (.cells (OC ⟨0,0,0,0,0,0⟩) 38))
 have HS:=Ou (UD b m s1 s2 sd (w.alloc (.cells (OC ⟨0,0,0,0,0,0⟩) 38)) dI HA)
 have hB:Ok w (w.alloc (.cells (OC ⟨0,0,0,0,0,0⟩) 38)):=(Oq _ _).alloc (Sq _) _
 have hC:Cl 38 (w.alloc (.cells (OC ⟨0,0,0,0,0,0⟩) 38)) w.heap.size (OC ⟨0,0,0,0,0,0⟩):=Qe rfl
 by_cases h0:R.length=0
 ·obtain rfl:=List.length_eq_zero_iff.1 h0;obtain⟨A,c,hv,_⟩:=H.rows sd;rw[hR]at hv;rw[hv]at HS;clear H HA hB hC hv hR h0;go_enter func170,ntmps170;go_wp2_with ((with_reducible refine HS.out.mono ?_);rintro e w1 ⟨rfl,rfl⟩)
  refine bodyPost_ret (ZP rfl _ _ _ rfl ⟨0,0,0,0,0,0⟩ _ (Qe rfl) _ rfl) rfl ?_;exact⟨rfl,Ou ((Oq _ _).alloc (Sq _) _)⟩
 ·obtain⟨g,n,c,g2,n2,c2,x,hv,hn,h1,hn2,h2,hg2,hx⟩:=qgm HA hne sd hR Oz;rw[hv]at HS;rw[hx];obtain⟨x0,x1,x2,x3,x4,x5⟩:=h2;have hnI:¬((n:Int)=0):=by omega
  have hnJ:(0:Int)<(n:Int):=by omega
  have hnK:(0:Int)<(n2:Int):=by omega
  clear H HA hB hC hv hR h0 hx;go_enter func170,ntmps170;go_wp2_with ((with_reducible refine HS.out.mono ?_);rintro e w1 ⟨rfl,rfl⟩)
  refine bodyPost_ret (ZP rfl _ _ _ rfl x _ (Qe rfl) _ rfl) rfl ?_;exact⟨rfl,Ou ((Oq _ _).alloc (Sq _) _)⟩
theorem VV (a b:List Rw):rl (a++b)=rl a++rl b:=by unfold rl;rw[Wv]
theorem UO (R:List Rw)(i:Nat)(h:i<=R.length):(rl R).take (i*2)=rl (R.take i)/\(rl R).drop (i*2)=rl (R.drop i):=by
 have e:rl R=rl (R.take i)++rl (R.drop i):=by rw[<-VV,List.take_append_drop]
 have hl:(rl (R.take i)).length=i*2:=by rw[YM,Wy,Nat.min_eq_left h]
 constructor
 ·rw[e,<-hl,List.take_left'];rfl
 ·rw[e,<-hl,List.drop_left'];rfl
theorem UP (q:List Od)(i:Nat)(h:i<=q.length):(ol q).take (i*6)=ol (q.take i)/\(ol q).drop (i*6)=ol (q.drop i):=by
 have e:ol q=ol (q.take i)++ol (q.drop i):=by rw[<-Ku,List.take_append_drop]
 have hl:(ol (q.take i)).length=i*6:=by rw[Je,Wy,Nat.min_eq_left h]
 constructor
 ·rw[e,<-hl,List.take_left'];rfl
 ·rw[e,<-hl,List.drop_left'];rfl
theorem qgo (o:Od)(q:List Od):(ol q).take (plN o q*6)++Qo o++(ol q).drop (plN o q*6)=ol (QO o q):=by
 obtain⟨h1,h2⟩:=UP q (plN o q) (CM o q)
 rw[h1,h2]
 unfold QO
 rw[Ku]
 show _=ol (q.take (plN o q))++(Qo o++ol (q.drop (plN o q)))
 rw[St]
theorem YZ (o:Od)(q:List Od):(QO o q).length=q.length+1:=(Uz o q).length_eq
theorem qgp (R:List Rw)(k:Nat)(hk:k<=R.length)(r:Rw):(rl R).take (k*2)++r.cs++(rl R).drop (k*2)=rl (R.take k++r :: R.drop k):=by
 obtain⟨h1,h2⟩:=UO R k hk
 rw[h1,h2,VV]
 show _=rl (R.take k)++(r.cs++rl (R.drop k))
 rw[St]
theorem Y0 (R:List Rw)(k:Nat)(hk:k<R.length)(r':Rw)(hp:r'.pr=(R[k]!).pr):rl (R.take k++r' :: R.drop (k+1))=(rl R).set (k*2+1) r'.v:=by
 have e:R=R.take k++R[k]! :: R.drop (k+1):=by
  rw[Sj R k hk,<-List.drop_eq_getElem_cons hk,List.take_append_drop]
 have hl:(rl (R.take k)).length=k*2:=by rw[YM,Wy,Nat.min_eq_left (Nat.le_of_lt hk)]
 conv=>rhs;rw[e]
 rw[VV,VV,List.set_append,Sw (by omega)]
 congr 1
 rw[hl,show k*2+1-k*2=1 by omega]
 show r'.cs++rl _=(((R[k]!).cs++rl _)).set 1 _
 unfold Rw.cs
 rw[hp]
 rfl
theorem KS (R:List Rw)(k:Nat)(hk:k<R.length)(r':Rw):(R.take k++r' :: R.drop (k+1)).length=R.length:=by
 rw[Su,Wy,Wq,Az];omega
theorem JE {w:World}{base n size j:Nat}{T:TypeId}{v u:Value}{xs:List Value}{g:Nat}(h:w.ownsRow base T size v n xs)(hv:v.ownBlock=some g):(w.setCell ⟨g,j,none⟩ u).ownsRow base T size v n (xs.set j u):=by
 obtain⟨h1,h2⟩:=h
 refine⟨by rw[Wk];exact h1,?_⟩
 rcases h2 with ⟨e,_⟩ | ⟨k,cap,cur,e,hb,hk,hc,hm,hs,ht⟩
 ·rw[e]at hv;cases hv
 ·rw[e]at hv;injection hv with hv;subst hv;refine .inr ⟨k,cap,cur.setIfInBounds j u,e,hb,QK hk,hc,hm,by simpa using hs,?_⟩;rw[Array.toList_setIfInBounds,List.take_set,ht]
theorem Jg {w:World}{base n size j:Nat}{T:TypeId}{v u:Value}{xs:List Value}{g:Nat}(h:w.ownsRow base T size v n xs)(hv:v.ownBlock=some g)(hj:xs[j]? = some u):w.cell? ⟨g,j,none⟩=some u/\w.frozen? ⟨g,j,none⟩=false:=by
 rcases h.2 with ⟨e,_⟩ | ⟨k,cap,cur,e,hb,hk,hc,hm,hs,ht⟩
 ·rw[e]at hv;cases hv
 ·rw[e]at hv;injection hv with hv;subst hv;refine⟨?_,frozen_of_row _ _ _ _ _ hk⟩;rw[cell_of_row _ _ _ _ _ _ hk];rw[<-ht,List.getElem?_take]at hj
  split at hj
  ·rw[Array.getElem?_toList]at hj;exact hj
  ·cases hj
def KT (s:Int)(o:Od)(R R':List Rw):Prop :=
 ∃A B r' M,R=A++M++B/\R'=A++r' :: B/\r'.pr=o.price/\(∀a∈A,Qf s a.pr o.price=true)/\(∀b∈B,Qf s o.price b.pr=true) /\
  ((M=[]/\r'.q=[o])∨∃r,M=[r]/\r.pr=o.price/\r'.q=QO o r.q)
theorem Y3 {s:Int}(hs:s=1∨s=2){o:Od}(ho:o.side=s){R R':List Rw}(h:SideOk s R)(hi:∀x∈Qb R,¬x.id=o.id)(hp:KT s o R R'):SideOk s R'/\(Qb R').Perm (o :: Qb R):=by
 obtain⟨A,B,r',M,rfl,rfl,aH,hA,hB,hM⟩:=hp
 rcases hM with ⟨rfl,hq⟩ | ⟨r,rfl,hr,hq⟩
 ·refine⟨KP hA hB h aH (by rw[hq];simp) (λx hx=>by rw[hq,List.mem_singleton]at hx;subst hx;exact⟨ho,rfl⟩) (by rw[hq];simp),?_⟩;unfold Qb;rw[List.append_nil,Wv,List.flatMap_cons,hq,Wv];exact List.perm_middle
 ·have hr':r∈A++[r]++B:=by simp
  have hm:=h.mem r hr';refine⟨KP hA hB h aH ?_ (λx hx=>?_) ?_,?_⟩
  ·rw[hq];intro e;have:=YZ o r.q;rw[e]at this
   cases this
  ·rw[hq]at hx;rcases List.mem_cons.1 ((Uz o r.q).mem_iff.1 hx) with rfl|hx
   ·exact⟨ho,rfl⟩
   ·rw[<-hr];exact hm x hx
  ·rw[hq];exact qfQ hs ⟨ho,rfl⟩ (λx hx=>by rw[<-hr];exact hm x hx) (h.que r hr') (λx hx=>hi x (List.mem_flatMap.2 ⟨r,hr',hx⟩))
  ·unfold Qb;rw[Wv,List.flatMap_cons,Wv,Wv,hq];simp only[List.flatMap_cons,List.flatMap_nil,List.append_nil,St];refine((Uz o r.q).append_right _).append_left _ |>.trans ?_;exact List.perm_middle
theorem C9 {s:Int}{o:Od}{R:List Rw}(hs:s=1∨s=2)(h:R.Pairwise (λa b=>Qf s a.pr b.pr=true))(hk:atN s o.price R<R.length)(hp:(R[atN s o.price R]!).pr=o.price)(v:Value) :
  KT s o R (R.take (atN s o.price R)++⟨o.price,v,QO o (R[atN s o.price R]!).q⟩ :: R.drop (atN s o.price R+1)):=by
 obtain⟨h1,h2,h3,h4⟩:=Kr (p:=o.price) hs h
 have e:R.drop (atN s o.price R)=R[atN s o.price R]! :: R.drop (atN s o.price R+1):=by
  rw[Sj R _ hk,<-List.drop_eq_getElem_cons hk]
 refine⟨R.take (atN s o.price R),R.drop (atN s o.price R+1),_,[R[atN s o.price R]!],?_,rfl,rfl,h1,h4 _ _ e hp,.inr ⟨_,rfl,hp,rfl⟩⟩
 rw[St,List.singleton_append,<-e,List.take_append_drop]
theorem Ta {s:Int}{o:Od}{R:List Rw}(hs:s=1∨s=2)(h:R.Pairwise (λa b=>Qf s a.pr b.pr=true))(hp:¬(atN s o.price R<R.length/\(R[atN s o.price R]!).pr=o.price))(v:Value) :
  KT s o R (R.take (atN s o.price R)++⟨o.price,v,[o]⟩ :: R.drop (atN s o.price R)):=by
 obtain⟨h1,h2,h3,h4⟩:=Kr (p:=o.price) hs h
 refine⟨R.take (atN s o.price R),R.drop (atN s o.price R),_,[],by rw[List.append_nil,List.take_append_drop],rfl,rfl,h1,?_,.inl ⟨rfl,rfl⟩⟩
 by_cases hk:atN s o.price R<R.length
 ·have e:R.drop (atN s o.price R)=R[atN s o.price R]! :: R.drop (atN s o.price R+1):=by
   rw[Sj R _ hk,<-List.drop_eq_getElem_cons hk]
  have:=h3 _ _ e (λhq=>hp ⟨hk,hq⟩)
  rwa [<-e]at this
 ·rw[List.drop_eq_nil_of_le (by omega)];intro b hb;cases hb
theorem Bk.gw {w w':World}{b:Option Addr}{m:Option Nat}{s1 s2:Sd}(h:Bk w b m s1 s2)(hf:Gw w w'):Bk w' b m s1 s2:=h.below hf.b
theorem Cl.gw {T:TypeId}{X Y:World}{c:Nat}{cs:Array Value}(h:Cl T X c cs)(hf:Gw X Y):Cl T Y c cs:=(hf.b.block _ (Qc h)).trans h
theorem Bk.own {w:World}{b:Option Addr}{m:Option Nat}{s1 s2:Sd}(h:Bk w b m s1 s2)(sd:Int):w.ownsRow 0 247 2 (Ze s1 s2 sd) (Qu s1 s2 sd).length (rl (Qu s1 s2 sd)):=by
 unfold Ze Qu
 (repeat' split)
 ·exact h.r1
 ·exact h.r2
 ·exact⟨rfl,.inl ⟨rfl,rfl⟩⟩
theorem Q5 {w:World}{base n size g:Nat}{T:TypeId}{v:Value}{xs:List Value}(h:w.ownsRow base T size v n xs)(hv:v.ownBlock=some g):∃cs,w.heap[g]? = some (.cells cs T (0,0)):=by
 rcases h.2 with ⟨e,_⟩ | ⟨k,cap,cur,e,hb,hk,_⟩
 ·rw[e]at hv;cases hv
 ·rw[e]at hv;injection hv with hv;subst hv;exact⟨cur,hk⟩
def VW (W4 w5:World)(qv v':Value)(qn:Nat)(q':List Od):Prop :=
 w5.ownsRow 0 38 6 v' (qn+1) (ol q')/\W4.grownBy w5 qv.ownBlock/\(v'.ownBlock=qv.ownBlock∨v'.ownBlock=some W4.heap.size)
theorem VX {w2 W4 w5:World}{g n c:Nat}{qv v':Value}{qn:Nat}{q q':List Od}{xs:List Value}(hR:w2.ownsRow 0 247 2 (.slice (some ⟨g,0,none⟩) n c) n xs)(hq:w2.ownsRow 0 38 6 qv qn (ol q))(G:Gw w2 W4)(hI:VW W4 w5 qv v' qn q') :
  w5.ownsRow 0 247 2 (.slice (some ⟨g,0,none⟩) n c) n xs:=by
 refine Qh hR (S:=λj=>qv.ownBlock=some j) ?_ (λk hk e=>?_)
 ·exact((Fr.of_below G.b).grown hI.2.1 (λj e=>.inl e))
 ·injection hk with hk;subst hk;obtain⟨cs,hcs⟩:=Q5 hR rfl;exact Qn hq hcs Ox e
theorem Y4 {W4 w5:World}{qv v':Value}{qn ob:Nat}{q':List Od}{o:Od}(hO:Cl 38 W4 ob (OC o))(hq:∀j,qv.ownBlock=some j->j<ob)(hI:VW W4 w5 qv v' qn q'):Cl 38 w5 ob (OC o) :=
 (hI.2.1.block _ (Qc hO) (λe=>by have:=hq ob e.symm;omega)).trans hO
theorem Y6 {w w2 W4 w5:World}{g c:Nat}{qv v':Value}{R:List Rw}{qn k:Nat}{q q':List Od}{p:Int}(hk:k<R.length)(hp:(R[k]!).pr=p)(hR:w2.ownsRow 0 247 2 (.slice (some ⟨g,0,none⟩) R.length c) R.length (rl R))(hq:w2.ownsRow 0 38 6 qv qn (ol q))(G2:Gw w w2)(G:Gw w2 W4)(hI:VW W4 w5 qv v' qn q') :
  (w5.setCell ⟨g,k*2+1,none⟩ v').ownsRow 0 38 6 v' (qn+1) (ol q')/\(w5.setCell ⟨g,k*2+1,none⟩ v').ownsRow 0 247 2 (.slice (some ⟨g,0,none⟩) R.length c) R.length (rl (R.take k++⟨p,v',q'⟩ :: R.drop (k+1))) /\
   Fr (λj=>(Value.slice (some ⟨g,0,none⟩) R.length c).ownBlock=some j∨qv.ownBlock=some j) w (w5.setCell ⟨g,k*2+1,none⟩ v')/\(v'.ownBlock=qv.ownBlock∨∃j,v'.ownBlock=some j/\w.heap.size<=j):=by
 have fC:=VX hR hq G hI
 obtain⟨cs,hcs⟩:=Q5 fC rfl
 refine⟨?_,?_,?_,?_⟩
 ·exact Qh hI.1 (S:=λj=>j=g) ((Fr.refl (λj=>j=g) w5).set (p:=⟨g,k*2+1,none⟩) (.inl rfl) _) (λj hj e=>by subst e;exact Qn hI.1 hcs Ox hj)
 ·rw[Y0 R k hk ⟨p,v',q'⟩ hp.symm];exact JE fC rfl
 ·refine Fr.set ?_ (p:=⟨g,k*2+1,none⟩) (.inl (.inl rfl)) _;exact(Fr.of_below (G2.trans G).b).grown hI.2.1 (λj e=>.inl (.inr e))
 ·rcases hI.2.2 with e|e
  ·exact .inl e
  ·exact .inr ⟨_,e,(G2.trans G).b.size⟩
theorem Qm {T:TypeId}{W:World}{c:Nat}{o:Od}(h:Cl T W c (OC o)):W.cell? ⟨c,0,none⟩=some (.int .u64 o.id)/\W.cell? ⟨c,1,none⟩=some (.int .i64 o.acc)/\W.cell? ⟨c,2,none⟩=some (.int .i64 o.side)/\W.cell? ⟨c,3,none⟩=some (.int .i64 o.price)/\W.cell? ⟨c,4,none⟩=some (.int .i64 o.qty)/\W.cell? ⟨c,5,none⟩=some (.int .u64 o.seq) :=
 ⟨(h.c 0).trans rfl,(h.c 1).trans rfl,(h.c 2).trans rfl,(h.c 3).trans rfl,(h.c 4).trans rfl,(h.c 5).trans rfl⟩
theorem Kv {w:World}{v:Value}{R:List Rw}(h:w.ownsRow 0 247 2 v R.length (rl R)){k:Nat}(hk:k<R.length):∃g c,v=.slice (some ⟨g,0,none⟩) R.length c/\w.cell? ⟨g,k*2,none⟩=some (.int .i64 (R[k]!).pr)/\w.cell? ⟨g,k*2+1,none⟩=some (R[k]!).v:=by
 obtain⟨A,c,hv,hr⟩:=Kq h
 rcases hr.2 with h0 | ⟨g,rfl,_,hc⟩
 ·omega
 ·exact⟨g,c,hv,hc k hk⟩
theorem Tb (p m:Nat)(s1 s2:Sd)(sd:Int)(o:Od)(w:World)(H:Bk w (some ⟨p,0,none⟩) (some m) s1 s2)(dI:o.side=sd)(hwf:(Lit.int .i64 sd).wf=true)(R:List Rw)(hR:Qu s1 s2 sd=R)(hs:R.Pairwise (λa b=>Qf sd a.pr b.pr=true))
  (hn:R.length<=1000) (k:Nat) (hk:atN sd o.price R=k) (hkl:k<R.length) (hp:(R[k]!).pr=o.price) (hq:(R[k]!).q.Pairwise (λx y=>Qt x y=true)) (aU:(R[k]!).q.length<=1000) :
  Calls prog 178 #[.pointer (some ⟨p,0,none⟩),.agg #[.int .u64 o.id,.int .i64 o.acc,.int .i64 o.side,.int .i64 o.price,.int .i64 o.qty,.int .u64 o.seq]] w λe w'=>e=.returned (.tuple #[])/\∃v',Hid (w'.ownsRow 0 38 6 v' ((R[k]!).q.length+1) (ol (QO o (R[k]!).q)) /\
   w'.ownsRow 0 247 2 (Ze s1 s2 sd) R.length (rl (R.take k++⟨o.price,v',QO o (R[k]!).q⟩ :: R.drop (k+1)))/\Fr (λj=>(Ze s1 s2 sd).ownBlock=some j∨(R[k]!).v.ownBlock=some j) w w'/\(v'.ownBlock=(R[k]!).v.ownBlock∨∃j,v'.ownBlock=some j/\w.heap.size<=j)):=by
 have mixed:prog.follows .mixedOrders=true:=by kernel_rfl
 subst dI
 have hmem:R[k]!∈s1.rs++s2.rs:=by
  rw[Sj R k hkl];exact JT (by rw[hR];exact Wt hkl)
 obtain⟨Q,f9⟩:∃Q,(R[k]!).q=Q:=⟨_,rfl⟩
 obtain⟨V,cZ⟩:∃V,(R[k]!).v=V:=⟨_,rfl⟩
 rw[f9]at hq aU ⊢
 rw[cZ]
 obtain⟨w0,hw0⟩:∃w0,w.alloc (.cells #[.int .u64 o.id,.int .i64 o.acc,.int .i64 o.side,.int .i64 o.price,.int .i64 o.qty,.int .u64 o.seq] 38)=w0:=⟨_,rfl⟩
 have G0:Gw w w0:=by rw[<-hw0];exact(Gw.refl w).alloc _
 have cH:Cl 38 w0 w.heap.size (OC o):=by rw[<-hw0];exact Qe rfl
 obtain⟨x0,x1,x2,x3,x4,x5⟩:=Qm cH
 obtain⟨pp,bG,hpc⟩:∃pp,some (⟨p,0,none⟩:Addr)=some ⟨pp,0,none⟩/\w0.cell? ⟨p,0,none⟩=some (.map (some m)):=by
  rcases(H.gw G0).shape with ⟨h,_⟩ | ⟨pp,hb,hp⟩
  ·cases h
  ·injection hb with hb';injection hb' with hb'';subst hb'';exact⟨p,rfl,by rw[cell_of_row _ _ _ _ _ _ hp];rfl⟩
 clear bG
 have hlk:=λq=>Vh ((H.gw (G0.trans ⟨QI (Oq _ _) q,Nat.le_add_right _ _⟩)).mp m rfl) H.t1 H.t2 o.side hwf
 have hown:=(H.gw G0).own o.side
 rw[hR]at hown
 obtain⟨g,c,hv,hc1,hc2⟩:=Kv hown hkl
 rw[hv]at hown hlk
 have HF:∀q,Calls prog 181 #[.slice (some ⟨g,0,none⟩) R.length c,.int .i64 o.side,.int .i64 o.price] (w0.drewN q) λe w'=>e=.returned (.tuple #[.int .i64 (k:Nat),.bool true])/\Gw (w0.drewN q) w':=λq=>by
  have:=Vf (some ⟨g,0,none⟩) R.length c R o.side o.price (w0.drewN q) ?_ hs hn
  ·rw[hk,Sy hkl,hp]at this;simpa using this
  ·obtain⟨A,c',hv',hr⟩:=Kq hown;injection hv' with e1 e2 e3;rw[e1];exact hr
 have yM:=Ou HF
 have HH:=Ou H
 have H2:Hid (∀{k:Nat},QH (some ⟨p,0,none⟩) (some m) s1 s2 k->k<w.heap.size):=λhk=>H.lt hk
 have HGf:Hid (g<w.heap.size):=by
  obtain⟨A,c',hv',_,hf⟩:=H.rows o.side;rw[hR]at hv' hf;rw[hv]at hv';injection hv' with e1 e2 e3;exact H.lt (hf g e1.symm Oz)
 have fU:=(H.gw G0).q _ hmem
 rw[f9,cZ]at fU
 obtain⟨qa,qc,cA,uW⟩:=Z0 fU
 clear fU
 obtain⟨qn,cE⟩:∃qn,Q.length=qn:=⟨_,rfl⟩
 rw[cE]at cA uW aU
 rw[cZ,cA]at hc2
 obtain⟨ob,dM⟩:∃ob,w.heap.size=ob:=⟨_,rfl⟩
 rw[dM]at cH x0 x1 x2 x3 x4 x5
 clear H HF
 go_enter func178,ntmps178
 go_wp2_with fail
 go_quiet (fail)
 go_wp2_with ((with_reducible refine(yM.out _).mono ?_);rintro e w2 ⟨rfl,k2⟩;have G2:Hid (Gw w w2):=(G0.trans ⟨QI (Oq _ _) _,Nat.le_add_right _ _⟩).trans k2;have G02:Gw w0 w2:=Gw.trans ⟨QI (Oq _ _) _,Nat.le_add_right _ _⟩ k2;obtain⟨y0,y1,y2,y3,y4,y5⟩:=Qm (cH.gw G02);have iD:w2.cell? ⟨g,k*2+1,none⟩=some (.slice qa qn qc):=J6 (S:=λ_=>False) (Fr.of_below G02.b) (λh=>h) hc2;have hO:Cl 38 w2 ob (OC o):=cH.gw G02;have HR:Hid (w2.ownsRow 0 247 2 (.slice (some ⟨g,0,none⟩) R.length c) R.length (rl R)):=(by have:=(HH.out.gw G2.out).own o.side;rw[hR,hv]at this;exact this);have HQ:Hid (w2.ownsRow 0 38 6 (.slice qa qn qc) qn (ol Q)):=(by have:=(HH.out.gw G2.out).q _ hmem;rw[f9,cZ,cA,cE]at this;exact this);clear x0 x1 x2 x3 x4 x5 hpc hlk hc1 hc2 k2)
 obtain⟨J,hJ⟩:∃J,plN o Q=J:=⟨_,rfl⟩
 obtain⟨Q',hQ'⟩:∃Q',QO o Q=Q':=⟨_,rfl⟩
 have HP:Hid (∀W,Gw w2 W->Calls prog 182 #[.slice qa qn qc,.agg #[.int .u64 o.id,.int .i64 o.acc,.int .i64 o.side,.int .i64 o.price,.int .i64 o.qty,.int .u64 o.seq]] W λe w'=>e=.returned (.int .i64 (J:Nat))/\Gw W w'):=λW hW=>by rw[<-hJ];exact VP qa qn qc _ o W (by obtain⟨A,c',hv',hq'⟩:=Z0 (Qh HQ.out (S:=λ_=>False) (Fr.of_below hW.b) (λ_ _ h=>h));injection hv' with e1 e2 e3;rw[e1];exact hq') hq aU
 have HI:Hid (∀W4 vb,Gw w2 W4->w2.heap.size<=vb->Cl 38 W4 vb (OC o)->Calls prog 186 #[.slice qa qn qc,.int .i64 (J:Nat),.slice (some ⟨vb,0,none⟩) 1 1] W4 λe w5=>∃v',e=.returned v'/\Hid (VW W4 w5 (.slice qa qn qc) v' qn Q')):=λW4 vb hG hle hvb=>by
  have uV:W4.ownsRow 0 38 6 (.slice qa qn qc) qn (ol Q):=Qh HQ.out (S:=λ_=>False) (Fr.of_below hG.b) (λ_ _ h=>h);rw[<-hJ];refine(CY W4 0 qn (plN o Q) (.slice qa qn qc) (ol Q) (Qo o) vb uV (Nat.zero_le _) aU (by rw[<-cE];exact CM o Q) (λe=>by have:=(Zs HQ.out vb e).2;omega) hvb rfl (Kn Q) (JC o)).mono λe w5 ⟨v',he,h⟩=>⟨v',he,Ou ⟨?_,h.out.2.1,h.out.2.2⟩⟩
  have:=h.out.1;rw[qgo,hQ']at this;exact this
 have HV:=Ou (Sv hv (Sv cA (Sv cE hQ')))
 have HB:Hid (∀j,(Value.slice qa qn qc).ownBlock=some j->j<ob):=λj hj=>by
  rw[<-dM];exact H2.out (.inr (.inr (.inr (.inr ⟨_,hmem,by rw[cZ,cA];exact hj⟩))))
 have HK:=Ou (Sv hkl hp)
 have HC:Hid ((rl R)[k*2+1]? = some (.slice qa qn qc)):=by
  have:=JQ R k 1 hkl Oz;rw[show k*2+1=k*2+1 from rfl,this,<-cA,<-cZ];rfl
 have HG:Hid (ob≠g):=by
  have:=HGf.out;show ob≠g;omega
 refine wp_region_held_drew (S:=λW=>Cl 38 W ob (OC o)) Ow (Qk hO) (λhHeld=>?_)
 refine tkH 0 ?_ ?_ Ov ?_
 rotate_left
 ·(intro w hSw;obtain⟨hs0,hs1,hs2,hs3,hs4,hs5⟩:=Qm hSw;clear hSw;go_simp;try with_reducible rfl)
 (try simp only[zz])
 refine tkH 1 ?_ ?_ Ov ?_
 rotate_left
 ·(intro w hSw;obtain⟨hs0,hs1,hs2,hs3,hs4,hs5⟩:=Qm hSw;clear hSw;go_simp;try with_reducible rfl)
 (try simp only[zz])
 refine tkH 2 ?_ ?_ Ov ?_
 rotate_left
 ·(intro w hSw;obtain⟨hs0,hs1,hs2,hs3,hs4,hs5⟩:=Qm hSw;clear hSw;go_simp;try with_reducible rfl)
 (try simp only[zz])
 refine tkH 3 ?_ ?_ Ov ?_
 rotate_left
 ·(intro w hSw;obtain⟨hs0,hs1,hs2,hs3,hs4,hs5⟩:=Qm hSw;clear hSw;go_simp;try with_reducible rfl)
 (try simp only[zz])
 refine tkH 4 ?_ ?_ Ov ?_
 rotate_left
 ·(intro w hSw;obtain⟨hs0,hs1,hs2,hs3,hs4,hs5⟩:=Qm hSw;clear hSw;go_simp;try with_reducible rfl)
 (try simp only[zz])
 refine tkH 6 ?_ ?_ Ov ?_
 rotate_left
 ·(intro w hSw;obtain⟨hs0,hs1,hs2,hs3,hs4,hs5⟩:=Qm hSw;clear hSw;go_simp;try with_reducible rfl)
 (try simp only[zz])
 refine wpAnyH_ready (rs:=[5,7]) Ow Oy ?_
 refine AllReadyH.cons (o:=⟨some 50,_,_,_,_,_⟩) rfl (λK hK=>?_) (AllReadyH.cons (o:=⟨some 52,_,_,_,_,_⟩) rfl (λK hK=>?_) AllReadyH.nil)
 ·go_simp;have hg0:Gw w2 w2.drew:=⟨(Oq _ _).drew,Nat.le_succ _⟩
  refine(HP.out _ hg0).mono ?_;rintro e w3 ⟨rfl,k3⟩;have bM:=Cl.gw hHeld k3;have hg3:=hg0.trans k3;refine hK.out _ _ (by exact bM) (λhHeld=>?_);clear hK K;(try simp only[zz]);refine rdH 7 (λK hK=>?_);go_simp;(try go_wp2_with fail);refine hK.out _ _ (by exact Qp (Qc bM) bM) (λhHeld=>?_);clear hK K;(try simp only[zz]);refine rdH 8 (λK hK=>?_);go_simp;have gI:Gw w2 (w3.alloc (.cells (OC o) 38)):=hg3.alloc _;refine(HI.out (w3.alloc (.cells (OC o) 38)) w3.heap.size gI (hg3.b.size) (Qe rfl)).mono ?_;rintro e w5 ⟨v',rfl,hI⟩;have eK:=Y4 hHeld HB.out hI.out;obtain⟨va,vc,rfl,_⟩:=ZO hI.out.1
  have fC:=VX HR.out HQ.out gI hI.out;obtain⟨z0,f0⟩:=Jg fC rfl HC.out
  skip
  refine hK.out _ _ (by exact eK) (λhHeld=>?_);clear hK K;(try simp only[zz]);refine tkH 9 ?_ ?_ Ov ?_;rotate_left
  ·(intro w hSw;obtain⟨hs0,hs1,hs2,hs3,hs4,hs5⟩:=Qm hSw;clear hSw;go_simp;try with_reducible rfl)
  (try simp only[zz]);refine tkH 10 ?_ ?_ Ov ?_;rotate_left
  ·(intro w hSw;obtain⟨hs0,hs1,hs2,hs3,hs4,hs5⟩:=Qm hSw;clear hSw;go_simp;try with_reducible rfl)
  (try simp only[zz]);refine rdH 11 (λK hK=>?_);go_simp;(try go_wp2_with fail);refine hK.out _ _ (by exact(QJ (a:=⟨g,k*2+1,none⟩) HG.out).trans eK) (λhHeld=>?_);clear hK K;(try simp only[zz]);refine wpAnyH_done Ow ?_ _;have HF:=Ou (Y6 HK.out.1 HK.out.2 HR.out HQ.out G2.out gI hI.out);clear eK fC z0 f0 hI hHeld;go_wp2_with fail
  go_end0;refine⟨rfl,.slice va (qn+1) vc,Ou ?_⟩;rw[HV.out.1,HV.out.2.1,HV.out.2.2.1,HV.out.2.2.2];exact HF.out
 ·go_simp;have hg0:Gw w2 w2.drew:=⟨(Oq _ _).drew,Nat.le_succ _⟩
  have bM:Cl 38 (w2.drew.alloc (.cells (OC o) 38)) ob (OC o):=Qp (Qc hHeld) hHeld;(try go_wp2_with fail);refine hK.out _ _ (by exact bM) (λhHeld=>?_);clear hK K;(try simp only[zz]);refine rdH 5 (λK hK=>?_);go_simp;refine(HP.out _ (hg0.alloc _)).mono ?_;rintro e w3 ⟨rfl,k3⟩;have hO4:=Cl.gw hHeld k3;have hv3:Cl 38 w3 w2.heap.size (OC o):=Cl.gw (X:=w2.drew.alloc (.cells (OC o) 38)) (Qe rfl) k3;refine hK.out _ _ (by exact hO4) (λhHeld=>?_);clear hK K;(try simp only[zz]);refine rdH 8 (λK hK=>?_);go_simp;have gI:Gw w2 w3:=(hg0.alloc _).trans k3;refine(HI.out w3 w2.heap.size gI (Sq _) (hv3)).mono ?_
  rintro e w5 ⟨v',rfl,hI⟩;have eK:=Y4 hHeld HB.out hI.out;obtain⟨va,vc,rfl,_⟩:=ZO hI.out.1;have fC:=VX HR.out HQ.out gI hI.out;obtain⟨z0,f0⟩:=Jg fC rfl HC.out
  skip
  refine hK.out _ _ (by exact eK) (λhHeld=>?_);clear hK K;(try simp only[zz]);refine tkH 9 ?_ ?_ Ov ?_;rotate_left
  ·(intro w hSw;obtain⟨hs0,hs1,hs2,hs3,hs4,hs5⟩:=Qm hSw;clear hSw;go_simp;try with_reducible rfl)
  (try simp only[zz]);refine tkH 10 ?_ ?_ Ov ?_;rotate_left
  ·(intro w hSw;obtain⟨hs0,hs1,hs2,hs3,hs4,hs5⟩:=Qm hSw;clear hSw;go_simp;try with_reducible rfl)
  (try simp only[zz]);refine rdH 11 (λK hK=>?_);go_simp;(try go_wp2_with fail);refine hK.out _ _ (by exact(QJ (a:=⟨g,k*2+1,none⟩) HG.out).trans eK) (λhHeld=>?_);clear hK K;(try simp only[zz]);refine wpAnyH_done Ow ?_ _;have HF:=Ou (Y6 HK.out.1 HK.out.2 HR.out HQ.out G2.out gI hI.out);clear eK fC z0 f0 hI hHeld;go_wp2_with fail
  go_end0;refine⟨rfl,.slice va (qn+1) vc,Ou ?_⟩;rw[HV.out.1,HV.out.2.1,HV.out.2.2.1,HV.out.2.2.2];exact HF.out
end
section
open Go.RowKit Go.Shelf Go.Sort Go.Maps
theorem Tc (r:Rw):∀u∈r.cs,r.v.oneCell'=true->u.oneCell'=true:=by
 intro u hu hv
 rcases List.mem_cons.1 hu with rfl|hu
 ·rfl
 ·rw[List.mem_singleton.1 hu];exact hv
theorem qgq {w:World}{R:List Rw}(h:∀r∈R,w.ownsRow 0 38 6 r.v r.q.length (ol r.q)):∀u∈rl R,u.oneCell'=true:=by
 intro u hu
 obtain⟨r,hr,hu⟩:=List.mem_flatMap.1 hu
 obtain⟨A,c,hv,_⟩:=ZO (h r hr)
 exact Tc r u hu (by rw[hv];rfl)
def Td (W w3:World)(v v2:Value)(N:Nat)(R2:List Rw):Prop :=
 w3.ownsRow 0 247 2 v2 N (rl R2)/\W.grownBy w3 v.ownBlock/\(v2.ownBlock=v.ownBlock∨v2.ownBlock=some W.heap.size)
theorem UQ {W w3:World}{v:Value}{base n:Nat}{xs:List Value}(hr:W.ownsRow base 247 2 v n xs)(hg:W.grownBy w3 v.ownBlock){j:Nat}{o:Obj}(h:W.heap[j]? = some o)(hne:∀cs,o≠.cells cs 247 (0,0)):w3.heap[j]? = some o :=
 (hg.block j (Qc h) (λe=>by
  obtain⟨cs,hcs⟩:=Q5 hr e.symm;rw[h]at hcs
  exact hne cs (Option.some.inj hcs))).trans h
theorem qgr {W w3:World}{v:Value}{base n b k:Nat}{xs:List Value}{D:DataW Value}(hr:W.ownsRow base 247 2 v n xs)(hg:W.grownBy w3 v.ownBlock)(h:W.ownsMap prog 3 RV b k D):w3.ownsMap prog 3 RV b k D:=by
 obtain⟨es,clock,hb,F,hs,hD⟩:=h
 exact⟨es,clock,UQ hr hg hb (λcs e=>by cases e),F,hs,hD⟩
theorem VY {W w4:World}{m j:Nat}(ht:W.mapTurned w4 m){cs:Array Value}{T:TypeId}(h:W.heap[j]? = some (.cells cs T (0,0))):w4.heap[j]? = some (.cells cs T (0,0)):=by
 refine(ht.grown.block j (Qc h) (λe=>?_)).trans h
 injection e with e
 subst e
 obtain⟨es,clock,_,_,hb,_⟩:=ht
 rw[h]at hb;cases hb
theorem Te {W w4:World}{m j k:Nat}{u:Value}(ht:W.mapTurned w4 m)(h:W.cell? ⟨j,k,none⟩=some u):w4.cell? ⟨j,k,none⟩=some u:=by
 cases e:W.heap[j]? with
 | none=>simp[World.cell?,e]at h
 | some ob =>
  cases ob with
  | cells cs T fz =>
   have hj:=World.block_lt_of_cell? W ⟨j,k,none⟩ h
   have:w4.heap[j]? = W.heap[j]?:=ht.grown.block j hj (λe'=>by
    injection e' with e';subst e';obtain⟨es,clock,_,_,hb,_⟩:=ht
    rw[e]at hb;cases hb)
   rw[World.cell?_of_block (w:=W) (a:=⟨j,k,none⟩) this];exact h
  | _=>simp[World.cell?,e]at h
theorem UR {W w4:World}{m base n size:Nat}{T:TypeId}{v:Value}{xs:List Value}(ht:W.mapTurned w4 m)(h:W.ownsRow base T size v n xs):w4.ownsRow base T size v n xs:=by
 obtain⟨h1,h2⟩:=h
 refine⟨h1,?_⟩
 rcases h2 with hn | ⟨k,cap,cur,rfl,hb,hk,rest⟩
 ·exact .inl hn
 ·exact .inr ⟨k,cap,cur,rfl,hb,VY ht hk,rest⟩
def US (w w':World)(m:Nat)(D:DataW Value)(v v2 v':Value)(R:List Rw)(k:Nat)(o:Od):Prop :=
 w'.ownsRow 0 38 6 v' 1 (ol [o])/\w'.ownsRow 0 247 2 v2 (R.length+1) (rl (R.take k++⟨o.price,v',[o]⟩ :: R.drop k)) /\
  w'.ownsMap prog 3 RV m 3 (D.put (.int .i64 o.side) (.held v2))/\Fr (λj=>j=m∨v.ownBlock=some j) w w'/\(∃j,v'.ownBlock=some j/\w.heap.size<=j)/\(v2.ownBlock=v.ownBlock∨∃j,v2.ownBlock=some j/\w.heap.size<=j)
theorem qgs {w w1 w3 w2 W6:World}{m g c k:Nat}{D:DataW Value}{v v':Value}{R R2:List Rw}{o:Od}(G:Gw w w1)(hI:Td w1 w3 v (.slice (some ⟨g,0,none⟩) R2.length c) R2.length R2)(hturn:w3.drew.mapTurned w2 m)
  (hown2:w2.ownsMap prog 3 RV m 3 (D.put (.int .i64 o.side) (.held (.slice (some ⟨g,0,none⟩) R2.length c)))) (cQ:R.take k++(⟨o.price,v0,[]⟩:Rw) :: R.drop k=R2) (hk:k<=R.length)
  (F:W6.ownsRow 0 38 6 v' (0+1) (ol [o])/\W6.ownsRow 0 247 2 (.slice (some ⟨g,0,none⟩) R2.length c) R2.length (rl (R2.take k++⟨o.price,v',[o]⟩ :: R2.drop (k+1))) /\
   Fr (λj=>(Value.slice (some ⟨g,0,none⟩) R2.length c).ownBlock=some j∨v0.ownBlock=some j) w2 W6/\(v'.ownBlock=v0.ownBlock∨∃j,v'.ownBlock=some j/\w2.heap.size<=j)) :
  US w W6 m D v (.slice (some ⟨g,0,none⟩) R2.length c) v' R k o:=by
 obtain⟨f1,f2,f3,f4⟩:=F
 have hl2:R2.length=R.length+1:=by rw[<-cQ,Su,Wy,Wq,Az];omega
 have ht:R2.take k=R.take k:=by
  rw[<-cQ,List.take_append_of_le_length (by rw[Wy];omega),List.take_take,Nat.min_self]
 have hd:R2.drop (k+1)=R.drop k:=by
  have:(R.take k).length=k:=by rw[Wy];omega
  rw[<-cQ,List.drop_append,this,List.drop_eq_nil_of_le Oz,List.nil_append,show k+1-k=1 by omega];rfl
 rw[ht,hd]at f2
 have hr2:w2.ownsRow 0 247 2 (.slice (some ⟨g,0,none⟩) R2.length c) R2.length (rl R2):=UR hturn (show w3.drew.ownsRow _ _ _ _ _ _ from hI.1)
 have hgm:m≠g:=by
  intro e;obtain⟨cs,hcs⟩:=Q5 hr2 (show _=some g from rfl);obtain⟨es,clock,hb,_⟩:=hown2;rw[e,hcs]at hb;cases hb
 have h23:w1.heap.size<=w2.heap.size:=Sk hI.2.1.size hturn.grown.size
 refine⟨f1,by rw[<-hl2];exact f2,QQ hown2 f3 (λh=>by rcases h with h|h;injection h with h;exact hgm h.symm;cases h),?_,?_,?_⟩
 ·have a1:Fr (λj=>j=m∨v.ownBlock=some j) w w3:=(Fr.of_below G.b).grown hI.2.1 (λj e=>.inl (.inr e));have a2:Fr (λj=>j=m∨v.ownBlock=some j) w w2:=a1.drew.grown hturn.grown (λj e=>by injection e with e;exact .inl (.inl e.symm));refine a2.trans f3 (λj h=>?_);rcases h with h|h
  ·rcases hI.2.2 with e|e
   ·rw[e]at h;exact .inl (.inr h)
   ·rw[e]at h;injection h with h;exact .inr (by have:=G.b.size;omega)
  ·cases h
 ·rcases f4 with e | ⟨j,e,hj⟩
  ·rcases f1.2 with ⟨_,h0⟩ | ⟨q,cap,cur,hv,_⟩
   ·cases h0
   ·rw[hv]at e;cases e
  ·exact⟨j,e,by have:=G.b.size;omega⟩
 ·rcases hI.2.2 with e|e
  ·exact .inl e
  ·exact .inr ⟨_,e,G.b.size⟩
theorem Tf (p m:Nat)(s1 s2:Sd)(o:Od)(w:World)(H:Bk w (some ⟨p,0,none⟩) (some m) s1 s2)(hwf:(Lit.int .i64 o.side).wf=true)(R:List Rw)(hR:Qu s1 s2 o.side=R)(hs:R.Pairwise (λa b=>Qf o.side a.pr b.pr=true))
  (hn:R.length<=1000) (k:Nat) (hk:atN o.side o.price R=k) (hno:¬(k<R.length/\(R[k]!).pr=o.price)) :
  Calls prog 178 #[.pointer (some ⟨p,0,none⟩),.agg #[.int .u64 o.id,.int .i64 o.acc,.int .i64 o.side,.int .i64 o.price,.int .i64 o.qty,.int .u64 o.seq]] w λe w'=>e=.returned (.tuple #[])/\∃v2 v',Hid (US w w' m (QC s1 s2) (Ze s1 s2 o.side) v2 v' R k o):=by
 have mixed:prog.follows .mixedOrders=true:=by kernel_rfl
 have hkl:k<=R.length:=by rw[<-hk];exact YP _ _ _
 obtain⟨w0,hw0⟩:∃w0,w.alloc (.cells #[.int .u64 o.id,.int .i64 o.acc,.int .i64 o.side,.int .i64 o.price,.int .i64 o.qty,.int .u64 o.seq] 38)=w0:=⟨_,rfl⟩
 have G0:Gw w w0:=by rw[<-hw0];exact(Gw.refl w).alloc _
 have cH:Cl 38 w0 w.heap.size (OC o):=by rw[<-hw0];exact Qe rfl
 obtain⟨x0,x1,x2,x3,x4,x5⟩:=Qm cH
 obtain⟨hpl,hpc⟩:p<w.heap.size/\w0.cell? ⟨p,0,none⟩=some (.map (some m)):=by
  refine⟨H.lt (.inl rfl),?_⟩;rcases(H.gw G0).shape with ⟨h,_⟩ | ⟨pp,hb,hp⟩
  ·cases h
  ·injection hb with hb';injection hb' with hb'';subst hb'';rw[cell_of_row _ _ _ _ _ _ hp];rfl
 have hlk:=λq=>Vh ((H.gw (G0.trans ⟨QI (Oq _ _) q,Nat.le_add_right _ _⟩)).mp m rfl) H.t1 H.t2 o.side hwf
 have hown:=(H.gw G0).own o.side
 rw[hR]at hown
 obtain⟨A,c0,hv,hra⟩:=Kq hown
 rw[hv]at hown hlk
 have HF:∀q,Calls prog 181 #[.slice A R.length c0,.int .i64 o.side,.int .i64 o.price] (w0.drewN q) λe w'=>e=.returned (.tuple #[.int .i64 (k:Nat),.bool false])/\Gw (w0.drewN q) w':=λq=>by
  have:=Vf A R.length c0 R o.side o.price (w0.drewN q) hra hs hn;rw[hk]at this;have e:(decide (k<R.length)&&(R[k]!).pr==o.price)=false:=by
   by_cases h1:k<R.length
   ·have h2:¬(R[k]!).pr=o.price:=λh=>hno ⟨h1,h⟩;have h3:((R[k]!).pr==o.price)=false:=by
     cases h4:((R[k]!).pr==o.price) with
     | false=>rfl
     | true=>exact absurd (by simpa using h4) (by simpa using h2)
    rw[h3,Bool.and_false]
   ·simp[h1]
  rw[e]at this;exact this
 have yM:=Ou HF
 have HH:=Ou H
 have mG:=Ou hown
 have HRw:Hid (w.ownsRow 0 247 2 (.slice A R.length c0) R.length (rl R)):=by have:=H.own o.side;rw[hR,hv]at this;exact this
 have H1:Hid (∀u∈rl R,u.oneCell'=true):=qgq (λr hr=>H.q r (JT (by rw[hR];exact hr)))
 have nA:m<w.heap.size:=H.lt (.inr (.inl rfl))
 obtain⟨ob,dM⟩:∃ob,w.heap.size=ob:=⟨_,rfl⟩
 rw[dM]at cH x0 x1 x2 x3 x4 x5 hpl nA
 have sK:=Ou (Sv hpl nA)
 have HV:=Ou hv
 clear H HF hra hno hown hv hpl nA
 go_enter func178,ntmps178
 go_wp2_with fail
 go_quiet (fail)
 go_wp2_with ((with_reducible refine(yM.out _).mono ?_);rintro e w1 ⟨rfl,k1⟩;have G1:Hid (Gw w w1):=(G0.trans ⟨QI (Oq _ _) _,Nat.le_add_right _ _⟩).trans k1;have G01:Gw w0 w1:=Gw.trans ⟨QI (Oq _ _) _,Nat.le_add_right _ _⟩ k1;obtain⟨y0,y1,y2,y3,y4,y5⟩:=Qm (cH.gw G01);have aT:Cl 38 w1 ob (OC o):=cH.gw G01;have hp1:w1.cell? ⟨p,0,none⟩=some (.map (some m)):=J6 (S:=λ_=>False) (Fr.of_below G01.b) (λh=>h) hpc;clear x0 x1 x2 x3 x4 x5 hpc hlk k1)
 have HIR:Hid (Calls prog 185 #[.slice A R.length c0,.int .i64 (k:Nat),.slice (some ⟨w1.heap.size,0,none⟩) 1 1] (w1.alloc (.cells #[.int .i64 o.price,.slice none 0 0] 247)) λe w3=>∃v2,e=.returned v2/\Hid (Td (w1.alloc (.cells #[.int .i64 o.price,.slice none 0 0] 247)) w3 (.slice A R.length c0) v2 (R.length+1) (R.take k++⟨o.price,v0,[]⟩ :: R.drop k))):=by
  have hr:(w1.alloc (.cells #[.int .i64 o.price,.slice none 0 0] 247)).ownsRow 0 247 2 (.slice A R.length c0) R.length (rl R):=Qh mG.out (S:=λ_=>False) (Fr.of_below (G01.alloc _).b) (λ_ _ h=>h);have hlt:=λj hj=>(Zs mG.out j hj).2;refine(qf9 _ 0 R.length k (.slice A R.length c0) (rl R) [.int .i64 o.price,.slice none 0 0] w1.heap.size hr (Nat.zero_le _) hn hkl (λe=>by have:=hlt _ e;have:=G01.b.size;omega) (Qe rfl) rfl H1.out (λu hu=>by rcases List.mem_cons.1 hu with rfl|hu;rfl;rw[List.mem_singleton.1 hu];rfl)).mono λe w3 ⟨v2,he,h⟩=>⟨v2,he,Ou ⟨?_,h.out.2.1,h.out.2.2⟩⟩
  rw[<-qgp R k hkl];exact h.out.1
 obtain⟨R2,cQ⟩:∃R2,R.take k++(⟨o.price,v0,[]⟩:Rw) :: R.drop k=R2:=⟨_,rfl⟩
 have hl2:R2.length=R.length+1:=by rw[<-cQ,Su,Wy,Wq,Az];omega
 have hk2:k<R2.length:=by omega
 have pA:R2[k]! = ⟨o.price,v0,[]⟩:=by
  rw[<-cQ,Sj _ k (by rw[cQ];exact hk2),List.getElem_append_right (by rw[Wy];omega)];simp only[Wy,Nat.min_eq_left hkl,Nat.sub_self,List.getElem_cons_zero]
 rw[cQ,<-hl2]at HIR
 have bU:Hid ((w1.alloc (.cells #[.int .i64 o.price,.slice none 0 0] 247)).ownsRow 0 247 2 (.slice A R.length c0) R.length (rl R)):=Qh mG.out (S:=λ_=>False) (Fr.of_below (G01.alloc _).b) (λ_ _ h=>h)
 have HOa:Hid (Cl 38 (w1.alloc (.cells #[.int .i64 o.price,.slice none 0 0] 247)) ob (OC o)):=Qp (Qc aT) aT
 have HBa:Hid (Bk (w1.alloc (.cells #[.int .i64 o.price,.slice none 0 0] 247)) (some ⟨p,0,none⟩) (some m) s1 s2):=HH.out.gw (G1.out.alloc (.cells #[.int .i64 o.price,.slice none 0 0] 247))
 have HGa:Hid (Gw w (w1.alloc (.cells #[.int .i64 o.price,.slice none 0 0] 247))):=G1.out.alloc _
 have HK:Hid (k<R2.length/\(R2[k]!).pr=o.price):=⟨hk2,by rw[pA]⟩
 have HC:Hid ((rl R2)[k*2+1]? = some v0):=by
  have:=JQ R2 k 1 hk2 Oz;rw[this,pA];rfl
 have qP:=Ou (Sv cQ hkl)
 have hk2I:(k:Int)<(R2.length:Int):=by omega
 clear hk pA cQ hl2 y0 y1 y2 y3 y4 y5 hp1 aT hkl
 refine(HIR.out).mono ?_
 rintro e w3 ⟨v2,rfl,hI⟩
 obtain⟨g,c,hv2,_,_⟩:=Kv hI.out.1 HK.out.1
 subst hv2
 have bM:Cl 38 w3 ob (OC o):=UQ bU.out hI.out.2.1 HOa.out (λcs e=>by injection e with _ h;exact absurd h Ox)
 have hp3:w3.cell? ⟨p,0,none⟩=some (.map (some m)):=by
  rcases HBa.out.shape with ⟨h,_⟩ | ⟨pp,hb,hp⟩
  ·cases h
  ·injection hb with hb';injection hb' with hb'';subst hb'';have:=UQ bU.out hI.out.2.1 hp (λcs e=>by injection e with _ h;exact absurd h Ox);rw[cell_of_row _ _ _ _ _ _ this];rfl
 have xK:w3.drew.ownsMap prog 3 RV m 2 (QC s1 s2):=(qgr bU.out hI.out.2.1 (HBa.out.mp m rfl)).drew
 obtain⟨w2,hrun,hown2,hturn⟩:=xK.store Vg underlying130 Ox (keyOf_int_mk underlying3 hwf) (show RV (.slice (some ⟨g,0,none⟩) R2.length c)=some (.held (.slice (some ⟨g,0,none⟩) R2.length c),[]) from rfl)
 have HT:=Ou (Sv hown2 hturn)
 have HO3:=Ou bM
 clear hown2 hturn
 obtain⟨z0,z1,z2,z3,z4,z5⟩:=Qm bM
 go_wp2_with fail
 refine wp_region_held_drew (S:=λW=>Cl 38 W ob (OC o)/\W.cell? ⟨p,0,none⟩=some (.map (some m))) Ow ⟨Qk bM,hp3⟩ (λhHeld=>?_)
 refine tkH 0 ?_ ?_ Ov ?_
 rotate_left
 ·(intro w hSw;obtain⟨hsw,rH⟩:=hSw;obtain⟨hs0,hs1,hs2,hs3,hs4,hs5⟩:=Qm hsw;clear hsw;go_simp;try with_reducible rfl)
 (try simp only[zz])
 refine tkH 1 ?_ ?_ Ov ?_
 rotate_left
 ·(intro w hSw;obtain⟨hsw,rH⟩:=hSw;obtain⟨hs0,hs1,hs2,hs3,hs4,hs5⟩:=Qm hsw;clear hsw;go_simp;try with_reducible rfl)
 (try simp only[zz])
 refine tkH 2 ?_ ?_ Ov ?_
 rotate_left
 ·(intro w hSw;obtain⟨hsw,rH⟩:=hSw;obtain⟨hs0,hs1,hs2,hs3,hs4,hs5⟩:=Qm hsw;clear hsw;go_simp;try with_reducible rfl)
 (try simp only[zz])
 refine tkH 3 ?_ ?_ Ov ?_
 rotate_left
 ·(intro w hSw;obtain⟨hsw,rH⟩:=hSw;obtain⟨hs0,hs1,hs2,hs3,hs4,hs5⟩:=Qm hsw;clear hsw;go_simp;try with_reducible rfl)
 (try simp only[zz])
 refine tkH 4 ?_ ?_ Ov ?_
 rotate_left
 ·(intro w hSw;obtain⟨hsw,rH⟩:=hSw;obtain⟨hs0,hs1,hs2,hs3,hs4,hs5⟩:=Qm hsw;clear hsw;go_simp;try with_reducible rfl)
 (try simp only[zz])
 refine tkH 5 ?_ ?_ Ov ?_
 rotate_left
 ·(intro w hSw;obtain⟨hsw,rH⟩:=hSw;obtain⟨hs0,hs1,hs2,hs3,hs4,hs5⟩:=Qm hsw;clear hsw;go_simp;try with_reducible rfl)
 (try simp only[zz])
 refine tkH 6 ?_ ?_ Ov ?_
 rotate_left
 ·(intro w hSw;obtain⟨hsw,rH⟩:=hSw;obtain⟨hs0,hs1,hs2,hs3,hs4,hs5⟩:=Qm hsw;clear hsw;go_simp;try with_reducible rfl)
 (try simp only[zz])
 refine rdH 7 (λK hK=>?_)
 go_simp
 skip
 refine hK.out _ _ (by exact⟨VY HT.out.2 (Qk HO3.out),Te HT.out.2 hHeld.2⟩) (λhHeld=>?_)
 clear hK K
 (try simp only[zz])
 refine wpAnyH_done Ow ?_ _
 clear z0 z1 z2 z3 z4 z5 hp3 bM hrun hHeld
 have hO:Cl 38 w2 ob (OC o):=VY HT.out.2 (Qk HO3.out)
 have HR:Hid (w2.ownsRow 0 247 2 (.slice (some ⟨g,0,none⟩) R2.length c) R2.length (rl R2)):=UR HT.out.2 (show w3.drew.ownsRow _ _ _ _ _ _ from hI.out.1)
 have iD:w2.cell? ⟨g,k*2+1,none⟩=some (.slice none 0 0):=(Jg HR.out rfl HC.out).1
 go_wp2_with fail
 have HQ:Hid (w2.ownsRow 0 38 6 (.slice none 0 0) 0 (ol [])):=⟨rfl,.inl ⟨rfl,rfl⟩⟩
 have HP:Hid (∀W,Gw w2 W->Calls prog 182 #[.slice none 0 0,.agg #[.int .u64 o.id,.int .i64 o.acc,.int .i64 o.side,.int .i64 o.price,.int .i64 o.qty,.int .u64 o.seq]] W λe w'=>e=.returned (.int .i64 0)/\Gw W w'):=λW hW=>VP none 0 0 [] o W ⟨rfl,.inl rfl⟩ List.Pairwise.nil (Nat.zero_le _)
 have HI:Hid (∀W4 vb,Gw w2 W4->w2.heap.size<=vb->Cl 38 W4 vb (OC o)->Calls prog 186 #[.slice none 0 0,.int .i64 0,.slice (some ⟨vb,0,none⟩) 1 1] W4 λe w5=>∃v',e=.returned v'/\Hid (VW W4 w5 (.slice none 0 0) v' 0 [o])):=λW4 vb hG hle hvb=>by
  refine(CY W4 0 0 0 (.slice none 0 0) [] (Qo o) vb ⟨rfl,.inl ⟨rfl,rfl⟩⟩ (Nat.zero_le _) (Nat.zero_le _) (Nat.zero_le _) (λe=>by cases e) hvb rfl (λu hu=>by cases hu) (JC o)).mono λe w5 ⟨v',he,h⟩=>⟨v',he,Ou ⟨?_,h.out.2.1,h.out.2.2⟩⟩
  have:=h.out.1;simpa [ol] using this
 have HB:Hid (∀j,(Value.slice none 0 0).ownBlock=some j->j<ob):=λj hj=>by cases hj
 have HG:Hid (ob≠g):=by
  rcases hI.out.2.2 with e|e
  ·have h1:=(Zs mG.out g (by rw[<-e];rfl)).2;have h2:=(Zs HRw.out g (by rw[<-e];rfl)).2;show ob≠g;omega
  ·have e':g=_:=Option.some.inj (show some g=_ from e);have h3:=Qc HOa.out;show ob≠g;rw[e'];exact Nat.ne_of_lt h3
 have eO:Hid (∀v' W6,_->US w W6 m (QC s1 s2) (Ze s1 s2 o.side) (.slice (some ⟨g,0,none⟩) R2.length c) v' R k o):=λv' W6 hF=>by
  rw[HV.out];exact qgs HGa.out hI.out HT.out.2 HT.out.1 qP.out.1 qP.out.2 hF
 refine wp_region_held_drew (S:=λW=>Cl 38 W ob (OC o)) Ow (Qk hO) (λhHeld=>?_)
 refine tkH 0 ?_ ?_ Ov ?_
 rotate_left
 ·(intro w hSw;obtain⟨hs0,hs1,hs2,hs3,hs4,hs5⟩:=Qm hSw;clear hSw;go_simp;try with_reducible rfl)
 (try simp only[zz])
 refine tkH 1 ?_ ?_ Ov ?_
 rotate_left
 ·(intro w hSw;obtain⟨hs0,hs1,hs2,hs3,hs4,hs5⟩:=Qm hSw;clear hSw;go_simp;try with_reducible rfl)
 (try simp only[zz])
 refine tkH 2 ?_ ?_ Ov ?_
 rotate_left
 ·(intro w hSw;obtain⟨hs0,hs1,hs2,hs3,hs4,hs5⟩:=Qm hSw;clear hSw;go_simp;try with_reducible rfl)
 (try simp only[zz])
 refine tkH 3 ?_ ?_ Ov ?_
 rotate_left
 ·(intro w hSw;obtain⟨hs0,hs1,hs2,hs3,hs4,hs5⟩:=Qm hSw;clear hSw;go_simp;try with_reducible rfl)
 (try simp only[zz])
 refine tkH 4 ?_ ?_ Ov ?_
 rotate_left
 ·(intro w hSw;obtain⟨hs0,hs1,hs2,hs3,hs4,hs5⟩:=Qm hSw;clear hSw;go_simp;try with_reducible rfl)
 (try simp only[zz])
 refine tkH 6 ?_ ?_ Ov ?_
 rotate_left
 ·(intro w hSw;obtain⟨hs0,hs1,hs2,hs3,hs4,hs5⟩:=Qm hSw;clear hSw;go_simp;try with_reducible rfl)
 (try simp only[zz])
 refine wpAnyH_ready (rs:=[5,7]) Ow Oy ?_
 refine AllReadyH.cons (o:=⟨some 50,_,_,_,_,_⟩) rfl (λK hK=>?_) (AllReadyH.cons (o:=⟨some 52,_,_,_,_,_⟩) rfl (λK hK=>?_) AllReadyH.nil)
 ·go_simp;have hg0:Gw w2 w2.drew:=⟨(Oq _ _).drew,Nat.le_succ _⟩
  refine(HP.out _ hg0).mono ?_;rintro e w3 ⟨rfl,k3⟩;have bM:=Cl.gw hHeld k3;have hg3:=hg0.trans k3;refine hK.out _ _ (by exact bM) (λhHeld=>?_);clear hK K;(try simp only[zz]);refine rdH 7 (λK hK=>?_);go_simp;(try go_wp2_with fail);refine hK.out _ _ (by exact Qp (Qc bM) bM) (λhHeld=>?_);clear hK K;(try simp only[zz]);refine rdH 8 (λK hK=>?_);go_simp;have gI:Gw w2 (w3.alloc (.cells (OC o) 38)):=hg3.alloc _;refine(HI.out (w3.alloc (.cells (OC o) 38)) w3.heap.size gI (hg3.b.size) (Qe rfl)).mono ?_;rintro e w5 ⟨v',rfl,hI⟩;have eK:=Y4 hHeld HB.out hI.out;obtain⟨va,vc,rfl,_⟩:=ZO hI.out.1
  have fC:=VX HR.out HQ.out gI hI.out;obtain⟨z0,f0⟩:=Jg fC rfl HC.out;refine hK.out _ _ (by exact eK) (λhHeld=>?_);clear hK K;(try simp only[zz]);refine tkH 9 ?_ ?_ Ov ?_;rotate_left
  ·(intro w hSw;obtain⟨hs0,hs1,hs2,hs3,hs4,hs5⟩:=Qm hSw;clear hSw;go_simp;try with_reducible rfl)
  (try simp only[zz]);refine tkH 10 ?_ ?_ Ov ?_;rotate_left
  ·(intro w hSw;obtain⟨hs0,hs1,hs2,hs3,hs4,hs5⟩:=Qm hSw;clear hSw;go_simp;try with_reducible rfl)
  (try simp only[zz]);refine rdH 11 (λK hK=>?_);go_simp;(try go_wp2_with fail);refine hK.out _ _ (by exact(QJ (a:=⟨g,k*2+1,none⟩) HG.out).trans eK) (λhHeld=>?_);clear hK K;(try simp only[zz]);refine wpAnyH_done Ow ?_ _;have HF:=Ou (Y6 HK.out.1 HK.out.2 HR.out HQ.out (Gw.refl w2) gI hI.out);clear eK fC z0 f0 hI hHeld;go_wp2_with fail
  go_end0;exact⟨rfl,.slice (some ⟨g,0,none⟩) R2.length c,.slice va (0+1) vc,Ou (eO.out _ _ HF.out)⟩
 ·go_simp;have hg0:Gw w2 w2.drew:=⟨(Oq _ _).drew,Nat.le_succ _⟩
  have bM:Cl 38 (w2.drew.alloc (.cells (OC o) 38)) ob (OC o):=Qp (Qc hHeld) hHeld;(try go_wp2_with fail);refine hK.out _ _ (by exact bM) (λhHeld=>?_);clear hK K;(try simp only[zz]);refine rdH 5 (λK hK=>?_);go_simp;refine(HP.out _ (hg0.alloc _)).mono ?_;rintro e w3 ⟨rfl,k3⟩;have hO4:=Cl.gw hHeld k3;have hv3:Cl 38 w3 w2.heap.size (OC o):=Cl.gw (X:=w2.drew.alloc (.cells (OC o) 38)) (Qe rfl) k3;refine hK.out _ _ (by exact hO4) (λhHeld=>?_);clear hK K;(try simp only[zz]);refine rdH 8 (λK hK=>?_);go_simp;have gI:Gw w2 w3:=(hg0.alloc _).trans k3;refine(HI.out w3 w2.heap.size gI (Sq _) (hv3)).mono ?_
  rintro e w5 ⟨v',rfl,hI⟩;have eK:=Y4 hHeld HB.out hI.out;obtain⟨va,vc,rfl,_⟩:=ZO hI.out.1;have fC:=VX HR.out HQ.out gI hI.out;obtain⟨z0,f0⟩:=Jg fC rfl HC.out;refine hK.out _ _ (by exact eK) (λhHeld=>?_);clear hK K;(try simp only[zz]);refine tkH 9 ?_ ?_ Ov ?_;rotate_left
  ·(intro w hSw;obtain⟨hs0,hs1,hs2,hs3,hs4,hs5⟩:=Qm hSw;clear hSw;go_simp;try with_reducible rfl)
  (try simp only[zz]);refine tkH 10 ?_ ?_ Ov ?_;rotate_left
  ·(intro w hSw;obtain⟨hs0,hs1,hs2,hs3,hs4,hs5⟩:=Qm hSw;clear hSw;go_simp;try with_reducible rfl)
  (try simp only[zz]);refine rdH 11 (λK hK=>?_);go_simp;(try go_wp2_with fail);refine hK.out _ _ (by exact(QJ (a:=⟨g,k*2+1,none⟩) HG.out).trans eK) (λhHeld=>?_);clear hK K;(try simp only[zz]);refine wpAnyH_done Ow ?_ _;have HF:=Ou (Y6 HK.out.1 HK.out.2 HR.out HQ.out (Gw.refl w2) gI hI.out);clear eK fC z0 f0 hI hHeld;go_wp2_with fail
  go_end0;exact⟨rfl,.slice (some ⟨g,0,none⟩) R2.length c,.slice va (0+1) vc,Ou (eO.out _ _ HF.out)⟩
def Kw (l:List Rw):Prop:=l.Pairwise (λa b=>∀j,a.v.ownBlock=some j->b.v.ownBlock≠some j)
def J7 (n:Nat)(M X:List Rw):Prop:=(M=[]∨∃r,M=[r])/\(X=[]∨∃x,X=[x]/\((∃r,M=[r]/\x.v.ownBlock=r.v.ownBlock)∨∃j,x.v.ownBlock=some j/\n<=j))
theorem Tg {P M X T:List Rw}{n:Nat}(h:Kw (P++M++T))(hl:∀r∈P++M++T,∀j,r.v.ownBlock=some j->j<n)(hX:J7 n M X):Kw (P++X++T):=by
 unfold Kw at *
 rw[St,Aw,Aw]at h ⊢
 obtain⟨h1,⟨h2,h3,h4⟩,h5⟩:=h
 have hp:∀r∈P,∀j,r.v.ownBlock=some j->j<n:=λr hr=>hl r (by simp[hr])
 have ht:∀r∈T,∀j,r.v.ownBlock=some j->j<n:=λr hr=>hl r (by simp[hr])
 have h5t:∀a∈P,∀b∈T,∀j,a.v.ownBlock=some j->b.v.ownBlock≠some j:=λa ha b hb=>h5 a ha b (Wx _ hb)
 rcases hX.2 with rfl | ⟨x,rfl,hx⟩
 ·refine⟨h1,⟨List.Pairwise.nil,h3,λa ha=>by cases ha⟩,λa ha b hb=>?_⟩;rw[List.nil_append]at hb;exact h5t a ha b hb
 ·have hxp:∀a∈P,∀j,a.v.ownBlock=some j->x.v.ownBlock≠some j:=by
   rcases hx with ⟨r,rfl,e⟩ | ⟨i,e,hi⟩
   ·intro a ha j hj;rw[e];exact h5 a ha r Oy j hj
   ·intro a ha j hj;have:=hp a ha j hj;rw[e];intro e';injection e' with e';omega
  have fK:∀b∈T,∀j,x.v.ownBlock=some j->b.v.ownBlock≠some j:=by
   rcases hx with ⟨r,rfl,e⟩ | ⟨i,e,hi⟩
   ·intro b hb j hj;rw[e]at hj;exact h4 r Oy b hb j hj
   ·intro b hb j hj e';have:=ht b hb j e';rw[e]at hj;injection hj with hj;omega
  refine⟨h1,⟨List.pairwise_singleton _ _,h3,λa ha b hb=>?_⟩,λa ha b hb=>?_⟩
  ·rw[List.mem_singleton.1 ha];exact fK b hb
  ·rcases List.mem_append.1 hb with hb|hb
   ·rw[List.mem_singleton.1 hb];exact hxp a ha
   ·exact h5t a ha b hb
def J8 (m:Nat)(v:Value)(M:List Rw)(j:Nat):Prop:=j=m∨v.ownBlock=some j∨∃r∈M,r.v.ownBlock=some j
theorem Th {w w':World}{m:Nat}{v:Value}{P M X T:List Rw}{n':Nat}{xs:List Value}{D:DataW Value}{nn:Nat}(h:Kw (P++M++T))(hq:∀r∈P++M++T,w.ownsRow 0 38 6 r.v r.q.length (ol r.q))(hv:w.ownsRow 0 247 2 v n' xs)(hm:w.ownsMap prog 3 RV m nn D)
  (hx:∀r∈X,w'.ownsRow 0 38 6 r.v r.q.length (ol r.q)) (hF:Fr (J8 m v M) w w'):∀r∈P++X++T,w'.ownsRow 0 38 6 r.v r.q.length (ol r.q):=by
 have key:∀r∈P++M++T,(∀y∈M,∀j,r.v.ownBlock=some j->y.v.ownBlock≠some j)->w'.ownsRow 0 38 6 r.v r.q.length (ol r.q):=by
  intro r hr hd;refine Qh (hq r hr) hF (λj hj hS=>?_);obtain⟨cs,hcs⟩:=Q5 (hq r hr) hj;rcases hS with rfl|e | ⟨y,hy,e⟩
  ·obtain⟨es,clock,hb,_⟩:=hm;rw[hb]at hcs;cases hcs
  ·exact Qn hv hcs Ox e
  ·exact hd y hy j hj e
 unfold Kw at h
 rw[St,Aw,Aw]at h
 obtain⟨h1,⟨h2,h3,h4⟩,h5⟩:=h
 intro r hr
 rw[St]at hr
 rcases List.mem_append.1 hr with hr|hr
 ·exact key r (by simp[hr]) (λy hy j hj e=>h5 r hr y (Ws _ hy) j hj e)
 ·rcases List.mem_append.1 hr with hr|hr
  ·exact hx r hr
  ·exact key r (by simp[hr]) (λy hy j hj e=>h4 y hy r hr j e hj)
structure Whole (w:World) (p m:Nat) (s1 s2:Sd):Prop where
 bk:Bk w (some ⟨p,0,none⟩) (some m) s1 s2
 ok1:SideOk 1 s1.rs
 ok2:SideOk 2 s2.rs
 dq:Kw (s1.rs++s2.rs)
 dv:∀j,s1.v.ownBlock=some j->s2.v.ownBlock≠some j
 ids:(Qa s1.rs s2.rs).Pairwise (λx y=>¬x.id=y.id)
 len:(Qa s1.rs s2.rs).length<=64
 ok:∀x∈Qa s1.rs s2.rs,Od.ok w x/\Qj x=true
theorem ZE {w:World}{m nn:Nat}{D:DataW Value}{cs:Array Value}{T:TypeId}{j:Nat}(hm:w.ownsMap prog 3 RV m nn D)(h:w.heap[j]? = some (.cells cs T (0,0))):j≠m:=by
 rintro rfl
 obtain⟨es,clock,hb,_⟩:=hm
 rw[hb]at h;cases h
theorem Tj {w w':World}{p m:Nat}{s1 s2:Sd}{A B M X:List Rw}{v2:Value}(H:Whole w p m s1 s2)(hR:s1.rs=A++M++B)(hX:J7 w.heap.size M X)(hv2:v2.ownBlock=s1.v.ownBlock∨∃j,v2.ownBlock=some j/\w.heap.size<=j)
  (hx:∀r∈X,w'.ownsRow 0 38 6 r.v r.q.length (ol r.q)) (hr:w'.ownsRow 0 247 2 v2 (A++X++B).length (rl (A++X++B))) (hm:w'.ownsMap prog 3 RV m 2 (QC ⟨true,v2,A++X++B⟩ s2)) (hF:Fr (J8 m s1.v M) w w') :
  Bk w' (some ⟨p,0,none⟩) (some m) ⟨true,v2,A++X++B⟩ s2/\Kw (A++X++B++s2.rs)/\(∀j,v2.ownBlock=some j->s2.v.ownBlock≠some j):=by
 have hl:A++M++(B++s2.rs)=s1.rs++s2.rs:=by rw[hR];simp only[St]
 have hl':A++X++(B++s2.rs)=A++X++B++s2.rs:=by simp only[St]
 have pU:=H.bk.mp m rfl
 refine⟨⟨?_,(λh=>by cases h),(λk hk=>by injection hk with hk;subst hk;exact hm),(λh=>by cases h),H.bk.t2,hr,?_,?_⟩,?_,?_⟩
 ·rcases H.bk.shape with ⟨h,_⟩ | ⟨q,hb,hq⟩
  ·cases h
  ·refine .inr ⟨q,hb,hF.blk hq (λhS=>?_)⟩;rcases hS with e|e | ⟨y,hy,e⟩
   ·exact ZE pU hq e
   ·exact Qn H.bk.r1 hq Ox e
   ·exact Qn (H.bk.q y (by rw[<-hl];simp[hy])) hq Ox e
 ·refine Qh H.bk.r2 hF (λj hj hS=>?_);obtain⟨cs,hcs⟩:=Q5 H.bk.r2 hj;rcases hS with e|e | ⟨y,hy,e⟩
  ·exact ZE pU hcs e
  ·exact H.dv j e hj
  ·exact Qn (H.bk.q y (by rw[<-hl];simp[hy])) hcs Ox e
 ·show ∀r∈A++X++B++s2.rs,_;rw[<-hl'];exact Th (by rw[hl];exact H.dq) (by rw[hl];exact H.bk.q) H.bk.r1 pU hx hF
 ·rw[<-hl'];exact Tg (by rw[hl];exact H.dq) (by rw[hl];exact λr hr j hj=>(Zs (H.bk.q r hr) j hj).2) hX
 ·intro j hj e;rcases hv2 with e' | ⟨i,e',hi⟩
  ·exact H.dv j (by rw[<-e'];exact hj) e
  ·have:=(Zs H.bk.r2 j e).2;rw[e']at hj;injection hj with hj;omega
theorem Tk {w w':World}{p m:Nat}{s1 s2:Sd}{A B M X:List Rw}{v2:Value}(H:Whole w p m s1 s2)(hR:s2.rs=A++M++B)(hX:J7 w.heap.size M X)(hv2:v2.ownBlock=s2.v.ownBlock∨∃j,v2.ownBlock=some j/\w.heap.size<=j)
  (hx:∀r∈X,w'.ownsRow 0 38 6 r.v r.q.length (ol r.q)) (hr:w'.ownsRow 0 247 2 v2 (A++X++B).length (rl (A++X++B))) (hm:w'.ownsMap prog 3 RV m 2 (QC s1 ⟨true,v2,A++X++B⟩)) (hF:Fr (J8 m s2.v M) w w') :
  Bk w' (some ⟨p,0,none⟩) (some m) s1 ⟨true,v2,A++X++B⟩/\Kw (s1.rs++(A++X++B))/\(∀j,s1.v.ownBlock=some j->v2.ownBlock≠some j):=by
 have hl:(s1.rs++A)++M++B=s1.rs++s2.rs:=by rw[hR];simp only[St]
 have hl':(s1.rs++A)++X++B=s1.rs++(A++X++B):=by simp only[St]
 have pU:=H.bk.mp m rfl
 refine⟨⟨?_,(λh=>by cases h),(λk hk=>by injection hk with hk;subst hk;exact hm),H.bk.t1,(λh=>by cases h),?_,hr,?_⟩,?_,?_⟩
 ·rcases H.bk.shape with ⟨h,_⟩ | ⟨q,hb,hq⟩
  ·cases h
  ·refine .inr ⟨q,hb,hF.blk hq (λhS=>?_)⟩;rcases hS with e|e | ⟨y,hy,e⟩
   ·exact ZE pU hq e
   ·exact Qn H.bk.r2 hq Ox e
   ·exact Qn (H.bk.q y (by rw[<-hl];simp[hy])) hq Ox e
 ·refine Qh H.bk.r1 hF (λj hj hS=>?_);obtain⟨cs,hcs⟩:=Q5 H.bk.r1 hj;rcases hS with e|e | ⟨y,hy,e⟩
  ·exact ZE pU hcs e
  ·exact H.dv j hj e
  ·exact Qn (H.bk.q y (by rw[<-hl];simp[hy])) hcs Ox e
 ·show ∀r∈s1.rs++(A++X++B),_;rw[<-hl'];exact Th (by rw[hl];exact H.dq) (by rw[hl];exact H.bk.q) H.bk.r2 pU hx hF
 ·rw[<-hl'];exact Tg (by rw[hl];exact H.dq) (by rw[hl];exact λr hr j hj=>(Zs (H.bk.q r hr) j hj).2) hX
 ·intro j e hj;rcases hv2 with e' | ⟨i,e',hi⟩
  ·exact H.dv j e (by rw[<-e'];exact hj)
  ·have:=(Zs H.bk.r1 j e).2;rw[e']at hj;injection hj with hj;omega
theorem UT:∀(R:List Rw),(∀r∈R,r.q≠[])->R.length<=(Qb R).length
 | [],_=>Nat.zero_le _
 | r :: R,h=>by
  have h1:=List.length_pos_iff.2 (h r Oy);have h2:=UT R (λr hr=>h r (by simp[hr]));unfold Qb at *;rw[List.flatMap_cons,Su,Wq];omega
theorem Whole.ne {w:World}{p m:Nat}{s1 s2:Sd}(H:Whole w p m s1 s2):∀r∈s1.rs++s2.rs,r.q≠[]:=by
 intro r hr
 rcases List.mem_append.1 hr with hr|hr
 ·exact H.ok1.some r hr
 ·exact H.ok2.some r hr
theorem Whole.n1 {w:World}{p m:Nat}{s1 s2:Sd}(H:Whole w p m s1 s2):s1.rs.length<=64/\s2.rs.length<=64/\Q4 (s1.rs++s2.rs)<=64:=by
 have h:=H.len
 have h1:=UT _ H.ok1.some
 have h2:=UT _ H.ok2.some
 unfold Qa at h
 rw[Su]at h
 refine⟨by omega,by omega,?_⟩
 rw[VQ,Ks]
 unfold Qa
 rw[Su];omega
theorem Whole.fr {S:Nat->Prop}{w w':World}{p m:Nat}{s1 s2:Sd}(H:Whole w p m s1 s2)(hf:Fr S w w')(hn:∀k,QH (some ⟨p,0,none⟩) (some m) s1 s2 k->¬S k):Whole w' p m s1 s2 :=
 ⟨H.bk.fr hf hn,H.ok1,H.ok2,H.dq,H.dv,H.ids,H.len,H.ok⟩
theorem Whole.below {w w':World}{p m:Nat}{s1 s2:Sd}(H:Whole w p m s1 s2)(hf:Ok w w'):Whole w' p m s1 s2 :=
 H.fr (S:=λ_=>False) (Fr.of_below hf) (λ_ _ h=>h)
theorem Whole.pw {w:World}{p m:Nat}{s1 s2:Sd}(H:Whole w p m s1 s2):(Qa s1.rs s2.rs).Pairwise (λx y=>ltO x y=true):=CJ H.ok1 H.ok2
structure PutIs (w w':World) (p m:Nat) (s1 s2 s1' s2':Sd) (o:Od):Prop where
 wh:Whole w' p m s1' s2'
 perm:(Qa s1'.rs s2'.rs).Perm (o :: Qa s1.rs s2.rs)
 fr:Fr (QH (some ⟨p,0,none⟩) (some m) s1 s2) w w'
 ft:∀k,QH (some ⟨p,0,none⟩) (some m) s1' s2' k->QH (some ⟨p,0,none⟩) (some m) s1 s2 k∨w.heap.size<=k
 e2:o.side=1->s2'=s2
 e1:o.side=2->s1'=s1
theorem Vi {o:Od}(h:Qj o=true):o.side=1∨o.side=2:=by
 unfold Qj at h
 simp only[Bool.and_eq_true]at h
 have h2:=h.2.2.1
 unfold rkN at h2
 by_cases h3:o.side=1
 ·exact .inl h3
 ·rw[Sw h3]at h2;by_cases h4:o.side=2
  ·exact .inr h4
  ·rw[Sw h4]at h2;cases h2
theorem Y7 {A B:List Od}(h:A.Perm B)(hb:B.Pairwise (λx y=>¬x.id=y.id)):A.Pairwise (λx y=>¬x.id=y.id) :=
 h.symm.pairwise hb (λh e=>h e.symm)
theorem Vj {w:World}{p m:Nat}{s1 s2:Sd}(H:Whole w p m s1 s2):(s1.rs≠[]->s1.there=true)/\(s2.rs≠[]->s2.there=true):=by
 constructor
 ·intro hne
  cases h:s1.there with
  | true=>rfl
  | false =>
   have:=H.bk.r1;rw[H.bk.t1 h]at this;rcases this.2 with ⟨_,h0⟩ | ⟨k,cap,cur,hv,_⟩
   ·exact absurd (List.length_eq_zero_iff.1 h0) hne
   ·cases hv
 ·intro hne
  cases h:s2.there with
  | true=>rfl
  | false =>
   have:=H.bk.r2;rw[H.bk.t2 h]at this;rcases this.2 with ⟨_,h0⟩ | ⟨k,cap,cur,hv,_⟩
   ·exact absurd (List.length_eq_zero_iff.1 h0) hne
   ·cases hv
theorem Vk (R:List Rw)(k:Nat)(h:k<R.length):R=R.take k++[R[k]!]++R.drop (k+1):=by
 rw[Sj R k h,St,List.singleton_append,<-List.drop_eq_getElem_cons h,List.take_append_drop]
theorem Tl {w w':World}{p m:Nat}{s1 s2:Sd}{A B M X:List Rw}{v2:Value}{o:Od}(H:Whole w p m s1 s2)(ho:Od.ok w o/\Qj o=true)(hs:o.side=1)(hid:∀x∈Qa s1.rs s2.rs,¬x.id=o.id)(hlen:(Qa s1.rs s2.rs).length<64)
  (hR:s1.rs=A++M++B) (hX:J7 w.heap.size M X) (hv2:v2.ownBlock=s1.v.ownBlock∨∃j,v2.ownBlock=some j/\w.heap.size<=j)
  (hx:∀r∈X,w'.ownsRow 0 38 6 r.v r.q.length (ol r.q)) (hr:w'.ownsRow 0 247 2 v2 (A++X++B).length (rl (A++X++B))) (hm:w'.ownsMap prog 3 RV m 2 (QC ⟨true,v2,A++X++B⟩ s2)) (hF:Fr (J8 m s1.v M) w w')
  (hP:KT 1 o s1.rs (A++X++B)):PutIs w w' p m s1 s2 ⟨true,v2,A++X++B⟩ s2 o:=by
 obtain⟨b1,b2,b3⟩:=Tj H hR hX hv2 hx hr hm hF
 have pK:∀x∈Qb s1.rs,¬x.id=o.id:=λx hx=>hid x (by unfold Qa;exact Ws _ hx)
 obtain⟨c1,c2⟩:=Y3 (.inl rfl) hs H.ok1 pK hP
 have hperm:(Qa (A++X++B) s2.rs).Perm (o :: Qa s1.rs s2.rs):=by
  unfold Qa;exact c2.append_right _
 refine⟨⟨b1,c1,H.ok2,b2,b3,Y7 hperm (List.pairwise_cons.2 ⟨λx hx e=>hid x hx e.symm,H.ids⟩),by rw[hperm.length_eq,Wq];omega,λx hx=>?_⟩,hperm,?_,?_,λ_=>rfl,(λh=>by rw[hs]at h;cases h)⟩
 ·rcases List.mem_cons.1 (hperm.mem_iff.1 hx) with rfl|hx
  ·exact ho
  ·exact H.ok x hx
 ·refine hF.mono (λk hk=>.inl ?_);rcases hk with rfl|e | ⟨r,hr,e⟩
  ·exact .inr (.inl rfl)
  ·exact .inr (.inr (.inl e))
  ·exact .inr (.inr (.inr (.inr ⟨r,Ws _ (by rw[hR];simp[hr]),e⟩)))
 ·intro k hk;have hn:∀u:Value,(u.ownBlock=s1.v.ownBlock∨∃j,u.ownBlock=some j/\w.heap.size<=j)->u.ownBlock=some k->QH (some ⟨p,0,none⟩) (some m) s1 s2 k∨w.heap.size<=k:=by
   intro u hu e;rcases hu with e' | ⟨j,e',hj⟩
   ·rw[e']at e;exact .inl (.inr (.inr (.inl e)))
   ·rw[e']at e;injection e with e;exact .inr Oz
  rcases hk with e|e|e|e | ⟨r,hr,e⟩
  ·exact .inl (.inl e)
  ·exact .inl (.inr (.inl e))
  ·exact hn v2 hv2 e
  ·exact .inl (.inr (.inr (.inr (.inl e))))
  ·have hr':r∈X∨r∈s1.rs++s2.rs:=by
    have hr2:r∈A++X++B++s2.rs:=hr;rw[hR];simp only[List.mem_append]at hr2 ⊢;rcases hr2 with ((h|h)|h)|h
    ·exact .inr (.inl (.inl (.inl h)))
    ·exact .inl h
    ·exact .inr (.inl (.inr h))
    ·exact .inr (.inr h)
   rcases hr' with h|h
   ·rcases hX.2 with rfl | ⟨x,rfl,hx'⟩
    ·cases h
    ·obtain rfl:=List.mem_singleton.1 h;rcases hx' with ⟨y,rfl,e'⟩ | ⟨j,e',hj⟩
     ·rw[e']at e;exact .inl (.inr (.inr (.inr (.inr ⟨y,Ws _ (by rw[hR];simp),e⟩))))
     ·rw[e']at e;injection e with e;exact .inr Oz
   ·exact .inl (.inr (.inr (.inr (.inr ⟨r,h,e⟩))))
theorem Tm {w w':World}{p m:Nat}{s1 s2:Sd}{A B M X:List Rw}{v2:Value}{o:Od}(H:Whole w p m s1 s2)(ho:Od.ok w o/\Qj o=true)(hs:o.side=2)(hid:∀x∈Qa s1.rs s2.rs,¬x.id=o.id)(hlen:(Qa s1.rs s2.rs).length<64)
  (hR:s2.rs=A++M++B) (hX:J7 w.heap.size M X) (hv2:v2.ownBlock=s2.v.ownBlock∨∃j,v2.ownBlock=some j/\w.heap.size<=j)
  (hx:∀r∈X,w'.ownsRow 0 38 6 r.v r.q.length (ol r.q)) (hr:w'.ownsRow 0 247 2 v2 (A++X++B).length (rl (A++X++B))) (hm:w'.ownsMap prog 3 RV m 2 (QC s1 ⟨true,v2,A++X++B⟩)) (hF:Fr (J8 m s2.v M) w w')
  (hP:KT 2 o s2.rs (A++X++B)):PutIs w w' p m s1 s2 s1 ⟨true,v2,A++X++B⟩ o:=by
 obtain⟨b1,b2,b3⟩:=Tk H hR hX hv2 hx hr hm hF
 have pK:∀x∈Qb s2.rs,¬x.id=o.id:=λx hx=>hid x (by unfold Qa;exact Wx _ hx)
 obtain⟨c1,c2⟩:=Y3 (.inr rfl) hs H.ok2 pK hP
 have hperm:(Qa s1.rs (A++X++B)).Perm (o :: Qa s1.rs s2.rs):=by
  unfold Qa;exact(c2.append_left _).trans List.perm_middle
 refine⟨⟨b1,H.ok1,c1,b2,b3,Y7 hperm (List.pairwise_cons.2 ⟨λx hx e=>hid x hx e.symm,H.ids⟩),by rw[hperm.length_eq,Wq];omega,λx hx=>?_⟩,hperm,?_,?_,(λh=>by rw[hs]at h;cases h),λ_=>rfl⟩
 ·rcases List.mem_cons.1 (hperm.mem_iff.1 hx) with rfl|hx
  ·exact ho
  ·exact H.ok x hx
 ·refine hF.mono (λk hk=>.inl ?_);rcases hk with rfl|e | ⟨r,hr,e⟩
  ·exact .inr (.inl rfl)
  ·exact .inr (.inr (.inr (.inl e)))
  ·exact .inr (.inr (.inr (.inr ⟨r,Wx _ (by rw[hR];simp[hr]),e⟩)))
 ·intro k hk;have hn:∀u:Value,(u.ownBlock=s2.v.ownBlock∨∃j,u.ownBlock=some j/\w.heap.size<=j)->u.ownBlock=some k->QH (some ⟨p,0,none⟩) (some m) s1 s2 k∨w.heap.size<=k:=by
   intro u hu e;rcases hu with e' | ⟨j,e',hj⟩
   ·rw[e']at e;exact .inl (.inr (.inr (.inr (.inl e))))
   ·rw[e']at e;injection e with e;exact .inr Oz
  rcases hk with e|e|e|e | ⟨r,hr,e⟩
  ·exact .inl (.inl e)
  ·exact .inl (.inr (.inl e))
  ·exact .inl (.inr (.inr (.inl e)))
  ·exact hn v2 hv2 e
  ·have hr':r∈X∨r∈s1.rs++s2.rs:=by
    have hr2:r∈s1.rs++(A++X++B):=hr;rw[hR];simp only[List.mem_append]at hr2 ⊢;rcases hr2 with h|(h|h)|h
    ·exact .inr (.inl h)
    ·exact .inr (.inr (.inl (.inl h)))
    ·exact .inl h
    ·exact .inr (.inr (.inr h))
   rcases hr' with h|h
   ·rcases hX.2 with rfl | ⟨x,rfl,hx'⟩
    ·cases h
    ·obtain rfl:=List.mem_singleton.1 h;rcases hx' with ⟨y,rfl,e'⟩ | ⟨j,e',hj⟩
     ·rw[e']at e;exact .inl (.inr (.inr (.inr (.inr ⟨y,Wx _ (by rw[hR];simp),e⟩))))
     ·rw[e']at e;injection e with e;exact .inr Oz
   ·exact .inl (.inr (.inr (.inr (.inr ⟨r,h,e⟩))))
theorem qgt (p m:Nat)(s1 s2:Sd)(o:Od)(w:World)(H:Whole w p m s1 s2)(ho:Od.ok w o/\Qj o=true)(hs:o.side=1)(hid:∀x∈Qa s1.rs s2.rs,¬x.id=o.id)(hlen:(Qa s1.rs s2.rs).length<64) :
  Calls prog 178 #[.pointer (some ⟨p,0,none⟩),.agg #[.int .u64 o.id,.int .i64 o.acc,.int .i64 o.side,.int .i64 o.price,.int .i64 o.qty,.int .u64 o.seq]] w λe w'=>e=.returned (.tuple #[])/\∃s1' s2',Hid (PutIs w w' p m s1 s2 s1' s2' o):=by
 have hwf:(Lit.int .i64 o.side).wf=true:=by rw[hs];decide
 have hR:Qu s1 s2 o.side=s1.rs:=by rw[hs];rfl
 have hv:Ze s1 s2 o.side=s1.v:=by rw[hs];rfl
 have hpw:s1.rs.Pairwise (λa b=>Qf o.side a.pr b.pr=true):=by rw[hs];exact H.ok1.rows
 have hn:=H.n1
 obtain⟨k,hk⟩:∃k,atN o.side o.price s1.rs=k:=⟨_,rfl⟩
 by_cases h:k<s1.rs.length/\(s1.rs[k]!).pr=o.price
 ·obtain⟨hkl,hp⟩:=h;have hmem:s1.rs[k]!∈s1.rs:=by rw[Sj s1.rs k hkl];exact Wt hkl
  have aU:(s1.rs[k]!).q.length<=1000:=by
   have h1:(s1.rs[k]!).q.length<=Q4 (s1.rs++s2.rs):=JU (x:=⟨s1.rs[k]!,Ws _ hmem⟩);omega
  refine(Tb p m s1 s2 o.side o w H.bk rfl hwf s1.rs hR hpw Oz k hk hkl hp (H.ok1.que _ hmem) aU).mono λe w' ⟨he,v',hh⟩=>⟨he,?_⟩
  obtain⟨h1,h2,h3,h4⟩:=hh.out;rw[hv]at h2 h3;have hsp:=Vk s1.rs k hkl;have bY:s1.rs.take k++(⟨o.price,v',QO o (s1.rs[k]!).q⟩:Rw) :: s1.rs.drop (k+1)=s1.rs.take k++[⟨o.price,v',QO o (s1.rs[k]!).q⟩]++s1.rs.drop (k+1):=by rw[St];rfl
  have aS:s1.there=true:=(Vj H).1 (λe=>by rw[e]at hkl;exact absurd hkl (Ax _))
  have hmm:w'.ownsMap prog 3 RV m 2 (QC s1 s2):=QQ (H.bk.mp m rfl) h3 (λhS=>by
   rcases hS with e|e
   ·obtain⟨cs,hcs⟩:=Q5 H.bk.r1 e;exact ZE (H.bk.mp m rfl) hcs rfl
   ·obtain⟨cs,hcs⟩:=Q5 (H.bk.q _ (Ws _ hmem)) e
    exact ZE (H.bk.mp m rfl) hcs rfl)
  rw[bY]at h2;have hP:=C9 (o:=o) (s:=1) (.inl rfl) (R:=s1.rs) H.ok1.rows (by rw[<-hs,hk];exact hkl) (by rw[<-hs,hk];exact hp) v';rw[<-hs,hk,bY,hs]at hP;refine⟨_,_,Ou (Tl (v2:=s1.v) H ho hs hid hlen hsp ⟨.inr ⟨_,rfl⟩,.inr ⟨_,rfl,h4.imp (λe=>⟨_,rfl,e⟩) id⟩⟩ (.inl rfl) (λr hr=>?_) ?_ ?_ ?_ hP)⟩
  ·rw[List.mem_singleton.1 hr];show w'.ownsRow 0 38 6 v' (QO o _).length _;rw[YZ];exact h1
  ·rw[<-bY,KS _ _ hkl,bY];exact h2
  ·have:QC ⟨true,s1.v,s1.rs.take k++[⟨o.price,v',QO o (s1.rs[k]!).q⟩]++s1.rs.drop (k+1)⟩ s2=QC s1 s2:=by
    unfold QC;rw[aS]
   rw[this];exact hmm
  ·refine h3.mono (λj hj=>.inl ?_);rcases hj with e|e
   ·exact .inr (.inl e)
   ·exact .inr (.inr ⟨_,List.mem_singleton.2 rfl,e⟩)
 ·refine(Tf p m s1 s2 o w H.bk hwf s1.rs hR hpw Oz k hk h).mono λe w' ⟨he,v2,v',hh⟩=>⟨he,?_⟩
  obtain⟨h1,h2,h3,h4,h5,h6⟩:=hh.out;rw[hv]at h4 h6;have bY:s1.rs.take k++(⟨o.price,v',[o]⟩:Rw) :: s1.rs.drop k=s1.rs.take k++[⟨o.price,v',[o]⟩]++s1.rs.drop k:=by rw[St];rfl
  have hkl:k<=s1.rs.length:=by rw[<-hk];exact YP _ _ _
  have gX:(s1.rs.take k++[(⟨o.price,v',[o]⟩:Rw)]++s1.rs.drop k).length=s1.rs.length+1:=by
   rw[Su,Su,Wy,Az,List.length_singleton];omega
  rw[bY]at h2;have hP:=Ta (o:=o) (s:=1) (.inl rfl) (R:=s1.rs) H.ok1.rows (by rw[<-hs,hk];exact h) v';rw[<-hs,hk,bY,hs]at hP;rw[hs,CO s1 s2 v2 (s1.rs.take k++[⟨o.price,v',[o]⟩]++s1.rs.drop k)]at h3;refine⟨_,_,Ou (Tl (M:=[]) H ho hs hid hlen (by rw[List.append_nil,List.take_append_drop]) ⟨.inl rfl,.inr ⟨_,rfl,.inr h5⟩⟩ h6 (λr hr=>?_) ?_ (YS h3) ?_ hP)⟩
  ·rw[List.mem_singleton.1 hr];exact h1
  ·rw[gX];exact h2
  ·refine h4.mono (λj hj=>.inl ?_);rcases hj with e|e
   ·exact .inl e
   ·exact .inr (.inl e)
theorem qgu (p m:Nat)(s1 s2:Sd)(o:Od)(w:World)(H:Whole w p m s1 s2)(ho:Od.ok w o/\Qj o=true)(hs:o.side=2)(hid:∀x∈Qa s1.rs s2.rs,¬x.id=o.id)(hlen:(Qa s1.rs s2.rs).length<64) :
  Calls prog 178 #[.pointer (some ⟨p,0,none⟩),.agg #[.int .u64 o.id,.int .i64 o.acc,.int .i64 o.side,.int .i64 o.price,.int .i64 o.qty,.int .u64 o.seq]] w λe w'=>e=.returned (.tuple #[])/\∃s1' s2',Hid (PutIs w w' p m s1 s2 s1' s2' o):=by
 have hwf:(Lit.int .i64 o.side).wf=true:=by rw[hs];decide
 have hR:Qu s1 s2 o.side=s2.rs:=by rw[hs];rfl
 have hv:Ze s1 s2 o.side=s2.v:=by rw[hs];rfl
 have hpw:s2.rs.Pairwise (λa b=>Qf o.side a.pr b.pr=true):=by rw[hs];exact H.ok2.rows
 have hn:=H.n1
 obtain⟨k,hk⟩:∃k,atN o.side o.price s2.rs=k:=⟨_,rfl⟩
 by_cases h:k<s2.rs.length/\(s2.rs[k]!).pr=o.price
 ·obtain⟨hkl,hp⟩:=h;have hmem:s2.rs[k]!∈s2.rs:=by rw[Sj s2.rs k hkl];exact Wt hkl
  have aU:(s2.rs[k]!).q.length<=1000:=by
   have h1:(s2.rs[k]!).q.length<=Q4 (s1.rs++s2.rs):=JU (x:=⟨s2.rs[k]!,Wx _ hmem⟩);omega
  refine(Tb p m s1 s2 o.side o w H.bk rfl hwf s2.rs hR hpw Oz k hk hkl hp (H.ok2.que _ hmem) aU).mono λe w' ⟨he,v',hh⟩=>⟨he,?_⟩
  obtain⟨h1,h2,h3,h4⟩:=hh.out;rw[hv]at h2 h3;have hsp:=Vk s2.rs k hkl;have bY:s2.rs.take k++(⟨o.price,v',QO o (s2.rs[k]!).q⟩:Rw) :: s2.rs.drop (k+1)=s2.rs.take k++[⟨o.price,v',QO o (s2.rs[k]!).q⟩]++s2.rs.drop (k+1):=by rw[St];rfl
  have aS:s2.there=true:=(Vj H).2 (λe=>by rw[e]at hkl;exact absurd hkl (Ax _))
  have hmm:w'.ownsMap prog 3 RV m 2 (QC s1 s2):=QQ (H.bk.mp m rfl) h3 (λhS=>by
   rcases hS with e|e
   ·obtain⟨cs,hcs⟩:=Q5 H.bk.r2 e;exact ZE (H.bk.mp m rfl) hcs rfl
   ·obtain⟨cs,hcs⟩:=Q5 (H.bk.q _ (Wx _ hmem)) e
    exact ZE (H.bk.mp m rfl) hcs rfl)
  rw[bY]at h2;have hP:=C9 (o:=o) (s:=2) (.inr rfl) (R:=s2.rs) H.ok2.rows (by rw[<-hs,hk];exact hkl) (by rw[<-hs,hk];exact hp) v';rw[<-hs,hk,bY,hs]at hP;refine⟨_,_,Ou (Tm (v2:=s2.v) H ho hs hid hlen hsp ⟨.inr ⟨_,rfl⟩,.inr ⟨_,rfl,h4.imp (λe=>⟨_,rfl,e⟩) id⟩⟩ (.inl rfl) (λr hr=>?_) ?_ ?_ ?_ hP)⟩
  ·rw[List.mem_singleton.1 hr];show w'.ownsRow 0 38 6 v' (QO o _).length _;rw[YZ];exact h1
  ·rw[<-bY,KS _ _ hkl,bY];exact h2
  ·have:QC s1 ⟨true,s2.v,s2.rs.take k++[⟨o.price,v',QO o (s2.rs[k]!).q⟩]++s2.rs.drop (k+1)⟩=QC s1 s2:=by
    unfold QC;rw[aS]
   rw[this];exact hmm
  ·refine h3.mono (λj hj=>.inl ?_);rcases hj with e|e
   ·exact .inr (.inl e)
   ·exact .inr (.inr ⟨_,List.mem_singleton.2 rfl,e⟩)
 ·refine(Tf p m s1 s2 o w H.bk hwf s2.rs hR hpw Oz k hk h).mono λe w' ⟨he,v2,v',hh⟩=>⟨he,?_⟩
  obtain⟨h1,h2,h3,h4,h5,h6⟩:=hh.out;rw[hv]at h4 h6;have bY:s2.rs.take k++(⟨o.price,v',[o]⟩:Rw) :: s2.rs.drop k=s2.rs.take k++[⟨o.price,v',[o]⟩]++s2.rs.drop k:=by rw[St];rfl
  have hkl:k<=s2.rs.length:=by rw[<-hk];exact YP _ _ _
  have gX:(s2.rs.take k++[(⟨o.price,v',[o]⟩:Rw)]++s2.rs.drop k).length=s2.rs.length+1:=by
   rw[Su,Su,Wy,Az,List.length_singleton];omega
  rw[bY]at h2;have hP:=Ta (o:=o) (s:=2) (.inr rfl) (R:=s2.rs) H.ok2.rows (by rw[<-hs,hk];exact h) v';rw[<-hs,hk,bY,hs]at hP;rw[hs,CP s1 s2 v2 (s2.rs.take k++[⟨o.price,v',[o]⟩]++s2.rs.drop k)]at h3;refine⟨_,_,Ou (Tm (M:=[]) H ho hs hid hlen (by rw[List.append_nil,List.take_append_drop]) ⟨.inl rfl,.inr ⟨_,rfl,.inr h5⟩⟩ h6 (λr hr=>?_) ?_ (YS h3) ?_ hP)⟩
  ·rw[List.mem_singleton.1 hr];exact h1
  ·rw[gX];exact h2
  ·refine h4.mono (λj hj=>.inl ?_);rcases hj with e|e
   ·exact .inl e
   ·exact .inr (.inl e)
theorem qgv (p m:Nat)(s1 s2:Sd)(o:Od)(w:World)(H:Whole w p m s1 s2)(ho:Od.ok w o/\Qj o=true)(hid:∀x∈Qa s1.rs s2.rs,¬x.id=o.id)(hlen:(Qa s1.rs s2.rs).length<64) :
  Calls prog 178 #[.pointer (some ⟨p,0,none⟩),.agg #[.int .u64 o.id,.int .i64 o.acc,.int .i64 o.side,.int .i64 o.price,.int .i64 o.qty,.int .u64 o.seq]] w λe w'=>e=.returned (.tuple #[])/\∃s1' s2',Hid (PutIs w w' p m s1 s2 s1' s2' o):=by
 rcases Vi ho.2 with h|h
 ·exact qgt p m s1 s2 o w H ho h hid hlen
 ·exact qgu p m s1 s2 o w H ho h hid hlen
def VZ (w w':World)(p m:Nat)(s1 s2 s1' s2':Sd)(o:Od)(c:Int):Prop :=
 (c=2/\Qj o=false/\s1'=s1/\s2'=s2/\Ok w w') ∨
 (Qj o=true/\c=52/\(∃x∈Qa s1.rs s2.rs,x.id=o.id)/\s1'=s1/\s2'=s2/\Ok w w') ∨
 (Qj o=true/\(∀x∈Qa s1.rs s2.rs,¬x.id=o.id)/\((c=50/\(Qa s1.rs s2.rs).length=64/\s1'=s1/\s2'=s2/\Ok w w')∨(c=0/\(Qa s1.rs s2.rs).length<64/\PutIs w w' p m s1 s2 s1' s2' o)))
theorem qgw {w W w':World}{p m:Nat}{s1 s2 s1' s2':Sd}{o:Od}(hb:Ok w W)(h:PutIs W w' p m s1 s2 s1' s2' o):PutIs w w' p m s1 s2 s1' s2' o :=
 ⟨h.wh,h.perm,(Fr.of_below hb:Fr (QH (some ⟨p,0,none⟩) (some m) s1 s2) w W).t h.fr,λk hk=>(h.ft k hk).imp id (λh'=>Sk hb.size h'),h.e2,h.e1⟩
theorem qgx (p m:Nat)(s1 s2:Sd)(o:Od)(w:World)(H:Whole w p m s1 s2)(ho:Od.ok w o)(hg:Qj o=false) :
  Calls prog 168 #[.pointer (some ⟨p,0,none⟩),.agg #[.int .u64 o.id,.int .i64 o.acc,.int .i64 o.side,.int .i64 o.price,.int .i64 o.qty,.int .u64 o.seq]] w λe w'=>∃c s1' s2',e=.returned (.int .i64 c)/\Hid (VZ w w' p m s1 s2 s1' s2' o c):=by
 have hn:=H.n1
 obtain⟨w0,hw0⟩:∃w0,w.alloc (.cells #[.int .u64 o.id,.int .i64 o.acc,.int .i64 o.side,.int .i64 o.price,.int .i64 o.qty,.int .u64 o.seq] 38)=w0:=⟨_,rfl⟩
 have B0:Ok w w0:=by rw[<-hw0];exact(Oq _ _).alloc (Sq _) _
 have cH:Cl 38 w0 w.heap.size (OC o):=by rw[<-hw0];exact Qe rfl
 have HH:=Ou H
 have HO:=Ou ho
 have HN:=Ou hn
 have HM:=Ou (JS (some ⟨p,0,none⟩) (some m) s1 s2 w0 (H.below B0).bk)
 have HG:Hid (∀W,Calls prog 65 #[.agg #[.int .u64 o.id,.int .i64 o.acc,.int .i64 o.side,.int .i64 o.price,.int .i64 o.qty,.int .u64 o.seq]] W λe w'=>e=.returned (.bool (Qj o))/\Gw W w'):=λW=>KI o W
 obtain⟨x0,x1,x2,x3,x4,x5⟩:=Qm cH
 obtain⟨ob,dM⟩:∃ob,w.heap.size=ob:=⟨_,rfl⟩
 rw[dM]at cH x0 x1 x2 x3 x4 x5
 have bO:=Ou B0
 rw[hg]at HG
 clear H ho hn B0
 go_enter func168,ntmps168
 go_wp2_with (first|((with_reducible refine HM.out.mono ?_);rintro e w1' ⟨rfl,rfl⟩;clear HM)|((with_reducible refine(HG.out _).mono ?_);rintro e w1 ⟨rfl,k1⟩;have aT:Cl 38 w1 ob (OC o):=cH.gw k1;have aP:Hid (Ok w w1):=bO.out.trans (k1.b.mono bO.out.size);obtain⟨y0,y1,y2,y3,y4,y5⟩:=Qm aT;clear x0 x1 x2 x3 x4 x5 HG bO k1 cH))
 go_ret
 exact⟨2,s1,s2,rfl,Ou (.inl ⟨rfl,hg,rfl,rfl,aP.out⟩)⟩
theorem qgy (p m:Nat)(s1 s2:Sd)(o:Od)(w:World)(H:Whole w p m s1 s2)(ho:Od.ok w o)(hg:Qj o=true)(x:Od)(hx:x∈Qa s1.rs s2.rs)(dJ:x.id=o.id) :
  Calls prog 168 #[.pointer (some ⟨p,0,none⟩),.agg #[.int .u64 o.id,.int .i64 o.acc,.int .i64 o.side,.int .i64 o.price,.int .i64 o.qty,.int .u64 o.seq]] w λe w'=>∃c s1' s2',e=.returned (.int .i64 c)/\Hid (VZ w w' p m s1 s2 s1' s2' o c):=by
 have hn:=H.n1
 obtain⟨w0,hw0⟩:∃w0,w.alloc (.cells #[.int .u64 o.id,.int .i64 o.acc,.int .i64 o.side,.int .i64 o.price,.int .i64 o.qty,.int .u64 o.seq] 38)=w0:=⟨_,rfl⟩
 have B0:Ok w w0:=by rw[<-hw0];exact(Oq _ _).alloc (Sq _) _
 have cH:Cl 38 w0 w.heap.size (OC o):=by rw[<-hw0];exact Qe rfl
 have HH:=Ou H
 have HO:=Ou ho
 have HN:=Ou hn
 have HM:=Ou (JS (some ⟨p,0,none⟩) (some m) s1 s2 w0 (H.below B0).bk)
 have HG:Hid (∀W,Calls prog 65 #[.agg #[.int .u64 o.id,.int .i64 o.acc,.int .i64 o.side,.int .i64 o.price,.int .i64 o.qty,.int .u64 o.seq]] W λe w'=>e=.returned (.bool (Qj o))/\Gw W w'):=λW=>KI o W
 obtain⟨x0,x1,x2,x3,x4,x5⟩:=Qm cH
 obtain⟨ob,dM⟩:∃ob,w.heap.size=ob:=⟨_,rfl⟩
 rw[dM]at cH x0 x1 x2 x3 x4 x5
 have bO:=Ou B0
 rw[hg]at HG
 have aC:Hid (∀W,Ok w W->Calls prog 172 #[.pointer (some ⟨p,0,none⟩),.int .u64 o.id] W λe w'=>∃r,e=.returned (.tuple #[QF r,.bool r.isSome])/\Hid (YU o.id (Qa s1.rs s2.rs) r/\Ok W w')):=λW hW=>Kt _ _ s1 s2 o.id W (HH.out.below hW).bk (by have:=HN.out;omega) (by have:=HN.out;omega) (by have:=HN.out;omega)
 have eQ:Hid (∀W,Ok w W->Calls prog 173 #[.pointer (some ⟨p,0,none⟩)] W λe w'=>e=.returned (.int .i64 ((Qa s1.rs s2.rs).length:Nat))/\Hid (Ok W w')):=λW hW=>by
  have:=YT _ _ s1 s2 W (HH.out.below hW).bk (by have:=HN.out;omega) (by have:=HN.out;omega) (by have:=HN.out;omega)
  rwa [VQ,Ks]at this
 clear H ho hn B0
 go_enter func168,ntmps168
 go_wp2_with (first|((with_reducible refine HM.out.mono ?_);rintro e w1' ⟨rfl,rfl⟩;clear HM)|((with_reducible refine(HG.out _).mono ?_);rintro e w1 ⟨rfl,k1⟩;have aT:Cl 38 w1 ob (OC o):=cH.gw k1;have aP:Hid (Ok w w1):=bO.out.trans (k1.b.mono bO.out.size);obtain⟨y0,y1,y2,y3,y4,y5⟩:=Qm aT;clear x0 x1 x2 x3 x4 x5 HG bO k1 cH)|((with_reducible refine(aC.out _ aP.out).mono ?_);rintro e w2 ⟨r,rfl,hr⟩;obtain⟨y,rfl⟩:∃y,r=some y:=(by cases r with|none=>exact absurd dJ (hr.out.1 x hx)|some y=>exact⟨y,rfl⟩);dsimp only[QF,Option.isSome]))
 go_ret
 exact⟨52,s1,s2,rfl,Ou (.inr (.inl ⟨hg,rfl,⟨x,hx,dJ⟩,rfl,rfl,(aP.out.trans (hr.out.2.mono aP.out.size)).alloc (Sk aP.out.size hr.out.2.size) _⟩))⟩
theorem qgz (p m:Nat)(s1 s2:Sd)(o:Od)(w:World)(H:Whole w p m s1 s2)(ho:Od.ok w o)(hg:Qj o=true)(hid:∀x∈Qa s1.rs s2.rs,¬x.id=o.id)(hl:(Qa s1.rs s2.rs).length=64) :
  Calls prog 168 #[.pointer (some ⟨p,0,none⟩),.agg #[.int .u64 o.id,.int .i64 o.acc,.int .i64 o.side,.int .i64 o.price,.int .i64 o.qty,.int .u64 o.seq]] w λe w'=>∃c s1' s2',e=.returned (.int .i64 c)/\Hid (VZ w w' p m s1 s2 s1' s2' o c):=by
 have hn:=H.n1
 obtain⟨w0,hw0⟩:∃w0,w.alloc (.cells #[.int .u64 o.id,.int .i64 o.acc,.int .i64 o.side,.int .i64 o.price,.int .i64 o.qty,.int .u64 o.seq] 38)=w0:=⟨_,rfl⟩
 have B0:Ok w w0:=by rw[<-hw0];exact(Oq _ _).alloc (Sq _) _
 have cH:Cl 38 w0 w.heap.size (OC o):=by rw[<-hw0];exact Qe rfl
 have HH:=Ou H
 have HO:=Ou ho
 have HN:=Ou hn
 have HM:=Ou (JS (some ⟨p,0,none⟩) (some m) s1 s2 w0 (H.below B0).bk)
 have HG:Hid (∀W,Calls prog 65 #[.agg #[.int .u64 o.id,.int .i64 o.acc,.int .i64 o.side,.int .i64 o.price,.int .i64 o.qty,.int .u64 o.seq]] W λe w'=>e=.returned (.bool (Qj o))/\Gw W w'):=λW=>KI o W
 obtain⟨x0,x1,x2,x3,x4,x5⟩:=Qm cH
 obtain⟨ob,dM⟩:∃ob,w.heap.size=ob:=⟨_,rfl⟩
 rw[dM]at cH x0 x1 x2 x3 x4 x5
 have bO:=Ou B0
 rw[hg]at HG
 have aC:Hid (∀W,Ok w W->Calls prog 172 #[.pointer (some ⟨p,0,none⟩),.int .u64 o.id] W λe w'=>∃r,e=.returned (.tuple #[QF r,.bool r.isSome])/\Hid (YU o.id (Qa s1.rs s2.rs) r/\Ok W w')):=λW hW=>Kt _ _ s1 s2 o.id W (HH.out.below hW).bk (by have:=HN.out;omega) (by have:=HN.out;omega) (by have:=HN.out;omega)
 have eQ:Hid (∀W,Ok w W->Calls prog 173 #[.pointer (some ⟨p,0,none⟩)] W λe w'=>e=.returned (.int .i64 ((Qa s1.rs s2.rs).length:Nat))/\Hid (Ok W w')):=λW hW=>by
  have:=YT _ _ s1 s2 W (HH.out.below hW).bk (by have:=HN.out;omega) (by have:=HN.out;omega) (by have:=HN.out;omega)
  rwa [VQ,Ks]at this
 rw[hl]at eQ
 clear H ho hn B0
 go_enter func168,ntmps168
 go_wp2_with (first|((with_reducible refine HM.out.mono ?_);rintro e w1' ⟨rfl,rfl⟩;clear HM)|((with_reducible refine(HG.out _).mono ?_);rintro e w1 ⟨rfl,k1⟩;have aT:Cl 38 w1 ob (OC o):=cH.gw k1;have aP:Hid (Ok w w1):=bO.out.trans (k1.b.mono bO.out.size);obtain⟨y0,y1,y2,y3,y4,y5⟩:=Qm aT;clear x0 x1 x2 x3 x4 x5 HG bO k1 cH)|((with_reducible refine(aC.out _ aP.out).mono ?_);rintro e w2 ⟨r,rfl,hr⟩;obtain rfl:r=none:=(by cases r with|none=>rfl|some y=>exact absurd hr.out.1.2 (hid y hr.out.1.1));dsimp only[QF,Option.isSome];have aG:Hid (Ok w (w2.alloc (.cells (OC ⟨0,0,0,0,0,0⟩) 38))):=(aP.out.trans (hr.out.2.mono aP.out.size)).alloc (Sk aP.out.size hr.out.2.size) _;have eJ:Cl 38 (w2.alloc (.cells (OC ⟨0,0,0,0,0,0⟩) 38)) ob (OC o):=Qp (Ww (Qc aT) hr.out.2.size) ((hr.out.2.block _ (Qc aT)).trans aT);clear aC y0 y1 y2 y3 y4 y5 aT hr)|((with_reducible refine(eQ.out _ aG.out).mono ?_);rintro e w3 ⟨rfl,hb3⟩;have bQ:Hid (Ok w w3):=aG.out.trans (hb3.out.mono aG.out.size);have bM:Cl 38 w3 ob (OC o):=(hb3.out.block _ (Qc eJ)).trans eJ;obtain⟨z0,z1,z2,z3,z4,z5⟩:=Qm bM;clear eQ aG eJ hb3))
 go_ret
 exact⟨50,s1,s2,rfl,Ou (.inr (.inr ⟨hg,hid,.inl ⟨rfl,hl,rfl,rfl,bQ.out⟩⟩))⟩
theorem qgA (p m:Nat)(s1 s2:Sd)(o:Od)(w:World)(H:Whole w p m s1 s2)(ho:Od.ok w o)(hg:Qj o=true)(hid:∀x∈Qa s1.rs s2.rs,¬x.id=o.id)(hl:(Qa s1.rs s2.rs).length<64) :
  Calls prog 168 #[.pointer (some ⟨p,0,none⟩),.agg #[.int .u64 o.id,.int .i64 o.acc,.int .i64 o.side,.int .i64 o.price,.int .i64 o.qty,.int .u64 o.seq]] w λe w'=>∃c s1' s2',e=.returned (.int .i64 c)/\Hid (VZ w w' p m s1 s2 s1' s2' o c):=by
 have hn:=H.n1
 obtain⟨w0,hw0⟩:∃w0,w.alloc (.cells #[.int .u64 o.id,.int .i64 o.acc,.int .i64 o.side,.int .i64 o.price,.int .i64 o.qty,.int .u64 o.seq] 38)=w0:=⟨_,rfl⟩
 have B0:Ok w w0:=by rw[<-hw0];exact(Oq _ _).alloc (Sq _) _
 have cH:Cl 38 w0 w.heap.size (OC o):=by rw[<-hw0];exact Qe rfl
 have HH:=Ou H
 have HO:=Ou ho
 have HN:=Ou hn
 have HM:=Ou (JS (some ⟨p,0,none⟩) (some m) s1 s2 w0 (H.below B0).bk)
 have HG:Hid (∀W,Calls prog 65 #[.agg #[.int .u64 o.id,.int .i64 o.acc,.int .i64 o.side,.int .i64 o.price,.int .i64 o.qty,.int .u64 o.seq]] W λe w'=>e=.returned (.bool (Qj o))/\Gw W w'):=λW=>KI o W
 obtain⟨x0,x1,x2,x3,x4,x5⟩:=Qm cH
 obtain⟨ob,dM⟩:∃ob,w.heap.size=ob:=⟨_,rfl⟩
 rw[dM]at cH x0 x1 x2 x3 x4 x5
 have bO:=Ou B0
 rw[hg]at HG
 have aC:Hid (∀W,Ok w W->Calls prog 172 #[.pointer (some ⟨p,0,none⟩),.int .u64 o.id] W λe w'=>∃r,e=.returned (.tuple #[QF r,.bool r.isSome])/\Hid (YU o.id (Qa s1.rs s2.rs) r/\Ok W w')):=λW hW=>Kt _ _ s1 s2 o.id W (HH.out.below hW).bk (by have:=HN.out;omega) (by have:=HN.out;omega) (by have:=HN.out;omega)
 have eQ:Hid (∀W,Ok w W->Calls prog 173 #[.pointer (some ⟨p,0,none⟩)] W λe w'=>e=.returned (.int .i64 ((Qa s1.rs s2.rs).length:Nat))/\Hid (Ok W w')):=λW hW=>by
  have:=YT _ _ s1 s2 W (HH.out.below hW).bk (by have:=HN.out;omega) (by have:=HN.out;omega) (by have:=HN.out;omega)
  rwa [VQ,Ks]at this
 obtain⟨nL,hnL⟩:∃nL,(Qa s1.rs s2.rs).length=nL:=⟨_,rfl⟩
 rw[hnL]at eQ
 have hnI:¬((nL:Int)=64):=by omega
 have sL:Hid (∀W,Ok w W->Calls prog 178 #[.pointer (some ⟨p,0,none⟩),.agg #[.int .u64 o.id,.int .i64 o.acc,.int .i64 o.side,.int .i64 o.price,.int .i64 o.qty,.int .u64 o.seq]] W λe w'=>e=.returned (.tuple #[])/\∃s1' s2',Hid (PutIs W w' p m s1 s2 s1' s2' o)):=λW hW=>qgv p m s1 s2 o W (HH.out.below hW) ⟨HO.out,hg⟩ hid hl
 clear H ho hn B0
 go_enter func168,ntmps168
 go_wp2_with (first|((with_reducible refine HM.out.mono ?_);rintro e w1' ⟨rfl,rfl⟩;clear HM)|((with_reducible refine(HG.out _).mono ?_);rintro e w1 ⟨rfl,k1⟩;have aT:Cl 38 w1 ob (OC o):=cH.gw k1;have aP:Hid (Ok w w1):=bO.out.trans (k1.b.mono bO.out.size);obtain⟨y0,y1,y2,y3,y4,y5⟩:=Qm aT;clear x0 x1 x2 x3 x4 x5 HG bO k1 cH)|((with_reducible refine(aC.out _ aP.out).mono ?_);rintro e w2 ⟨r,rfl,hr⟩;obtain rfl:r=none:=(by cases r with|none=>rfl|some y=>exact absurd hr.out.1.2 (hid y hr.out.1.1));dsimp only[QF,Option.isSome];have aG:Hid (Ok w (w2.alloc (.cells (OC ⟨0,0,0,0,0,0⟩) 38))):=(aP.out.trans (hr.out.2.mono aP.out.size)).alloc (Sk aP.out.size hr.out.2.size) _;have eJ:Cl 38 (w2.alloc (.cells (OC ⟨0,0,0,0,0,0⟩) 38)) ob (OC o):=Qp (Ww (Qc aT) hr.out.2.size) ((hr.out.2.block _ (Qc aT)).trans aT);clear aC y0 y1 y2 y3 y4 y5 aT hr)|((with_reducible refine(eQ.out _ aG.out).mono ?_);rintro e w3 ⟨rfl,hb3⟩;have bQ:Hid (Ok w w3):=aG.out.trans (hb3.out.mono aG.out.size);have bM:Cl 38 w3 ob (OC o):=(hb3.out.block _ (Qc eJ)).trans eJ;obtain⟨z0,z1,z2,z3,z4,z5⟩:=Qm bM;clear eQ aG eJ hb3)|((with_reducible refine(sL.out _ bQ.out).mono ?_);rintro e w4 ⟨rfl,s1',s2',hp⟩;have yF:=bQ;clear sL bQ z0 z1 z2 z3 z4 z5 bM))
 go_ret
 exact⟨0,s1',s2',rfl,Ou (.inr (.inr ⟨hg,hid,.inr ⟨rfl,hl,qgw yF.out hp.out⟩⟩))⟩
theorem qgB (p m:Nat)(s1 s2:Sd)(o:Od)(w:World)(H:Whole w p m s1 s2)(ho:Od.ok w o) :
  Calls prog 168 #[.pointer (some ⟨p,0,none⟩),.agg #[.int .u64 o.id,.int .i64 o.acc,.int .i64 o.side,.int .i64 o.price,.int .i64 o.qty,.int .u64 o.seq]] w λe w'=>∃c s1' s2',e=.returned (.int .i64 c)/\Hid (VZ w w' p m s1 s2 s1' s2' o c):=by
 cases hg:Qj o with
 | false=>exact qgx p m s1 s2 o w H ho hg
 | true =>
  by_cases hx:∃x∈Qa s1.rs s2.rs,x.id=o.id
  ·obtain⟨x,h1,h2⟩:=hx;exact qgy p m s1 s2 o w H ho hg x h1 h2
  ·have hid:∀x∈Qa s1.rs s2.rs,¬x.id=o.id:=λx h1 h2=>hx ⟨x,h1,h2⟩;by_cases hl:(Qa s1.rs s2.rs).length=64
   ·exact qgz p m s1 s2 o w H ho hg hid hl
   ·exact qgA p m s1 s2 o w H ho hg hid (by have:=H.len;omega)
end
section
open Go.RowKit Go.Shelf Go.Sort
def Zu (sd:Int)(L:List Od):List Od:=L.filter (λx=>x.side==sd)
theorem Y8 {s:Int}{L:List Od}(h:∀x∈L,x.side=s):Zu s L=L:=by
 unfold Zu
 rw[List.filter_eq_self]
 intro x hx
 simp[h x hx]
theorem Kx {s sd:Int}{L:List Od}(h:∀x∈L,x.side=s)(hn:¬s=sd):Zu sd L=[]:=by
 unfold Zu
 rw[List.filter_eq_nil_iff]
 intro x hx
 rw[h x hx]
 simp[hn]
theorem Tn {w:World}{p m:Nat}{s1 s2:Sd}(H:Whole w p m s1 s2)(sd:Int):Zu sd (Qa s1.rs s2.rs)=Qb (Qu s1 s2 sd):=by
 have h1:=Z7 H.ok1
 have h2:=Z7 H.ok2
 unfold Qa
 rw[show Zu sd (Qb s1.rs++Qb s2.rs)=Zu sd (Qb s1.rs)++Zu sd (Qb s2.rs) from List.filter_append _ _]
 unfold Qu
 by_cases e1:sd=1
 ·subst e1;rw[Sx rfl,Y8 h1,Kx h2 Ox,List.append_nil]
 ·rw[Sw e1];by_cases e2:sd=2
  ·subst e2;rw[Sx rfl,Y8 h2,Kx h1 Ox,List.nil_append]
  ·rw[Sw e2,Kx h1 (λe=>e1 e.symm),Kx h2 (λe=>e2 e.symm)];rfl
theorem qgC {w:World}{p m:Nat}{s1 s2:Sd}(H:Whole w p m s1 s2)(sd:Int):Qu s1 s2 sd=[]∨((sd=1∨sd=2)/\SideOk sd (Qu s1 s2 sd)):=by
 unfold Qu
 by_cases e1:sd=1
 ·subst e1;exact .inr ⟨.inl rfl,by rw[Sx rfl];exact H.ok1⟩
 ·rw[Sw e1];by_cases e2:sd=2
  ·subst e2;exact .inr ⟨.inr rfl,by rw[Sx rfl];exact H.ok2⟩
  ·rw[Sw e2];exact .inl rfl
theorem qgD:∀(R:List Rw),(∀r∈R,r.q≠[])->VU R=(Qb R).head?
 | [],_=>rfl
 | r :: R,h=>by
  show r.q.head? = (r.q++Qb R).head?;have:=h r Oy
  cases hq:r.q with
  | nil=>exact absurd hq this
  | cons x q=>rfl
def QW (sd:Int)(L:List Od):Option Od:=(Zu sd L).head?
theorem qgE {w:World}{p m:Nat}{s1 s2:Sd}(H:Whole w p m s1 s2)(sd:Int):VU (Qu s1 s2 sd)=QW sd (Qa s1.rs s2.rs):=by
 unfold QW
 rw[Tn H sd]
 exact qgD _ (λr hr=>H.ne r (JT hr))
theorem To (s:Int):SideOk s []:=⟨List.Pairwise.nil,λ_ h=>(by cases h),λ_ h=>(by cases h),λ_ h=>(by cases h)⟩
theorem qgF {w:World}{p m:Nat}(hb:Bk w (some ⟨p,0,none⟩) (some m) ZH ZH):Whole w p m ZH ZH :=
 ⟨hb,To 1,To 2,List.Pairwise.nil,λj h=>(by cases h),List.Pairwise.nil,Nat.zero_le _,λx h=>(by cases h)⟩
theorem qgG {p m k:Nat}(h:QH (some ⟨p,0,none⟩) (some m) ZH ZH k):k=p∨k=m:=by
 rcases h with h|h|h|h | ⟨r,h,_⟩
 ·injection h with h;injection h with h;exact .inl h.symm
 ·injection h with h;exact .inr h.symm
 ·cases h
 ·cases h
 ·cases h
end
end Go.Proofs.YtikapeaodobkjaaGreat
