/- What the laws lean on, in a few texts (by shake.py): number 8 of 16. -/
import Derived.Test.YtikapeaodobkjaaGreatZr1
import Derived.Test.YtikapeaodobkjaaGreatZr2
import Derived.Test.YtikapeaodobkjaaGreatZr5
import Derived.Test.YtikapeaodobkjaaGreatZr3
import Derived.Maps.AppendAt
import Derived.Shelf.SlSortCmp.QuietGrown
import Derived.Laws.OwnMore
import Derived.Laws.AppendOwnNone
import Derived.Deep.OwnRows
import Derived.Deep.LoopGhost
import Derived.Sort.Grow
import Derived.Laws.StructEq
import Derived.Laws.CopyRow
import Derived.Laws.CopyOwn

set_option maxHeartbeats 16000000
set_option maxRecDepth 1000000
set_option linter.unusedVariables false
set_option linter.unusedSimpArgs false
namespace Go.Proofs.YtikapeaodobkjaaGreat
open _root_.Go.Proofs.Tryz
section
open Go.RowKit Go.Lib
theorem Jt (lot qty:Int)(hq:InR qty)(hl:InR lot)(w:World) :
  Calls prog 59 #[.int .i64 lot,.int .i64 qty] w λe w'=>e=.returned (.int .i64 (Qj lot qty))/\w=w':=by
 by_cases h1:lot<1
 ·have h:Hid (Qj lot qty=0):=by show _=_;unfold Qj;rw[Sx (.inl h1)]
  go_enter func59,ntmps59;go_wp2_with fail
  go_ret;rw[h.out];exact⟨rfl,rfl⟩
 by_cases h2:qty<1
 ·have h:Hid (Qj lot qty=0):=by show _=_;unfold Qj;rw[Sx (.inr h2)]
  go_enter func59,ntmps59;go_wp2_with fail
  go_ret;rw[h.out];exact⟨rfl,rfl⟩
 have ht:=Ua (lot:=lot) (qty:=qty) Oz Oz
 obtain⟨t,vT⟩:∃t,t=Qj lot qty:=⟨_,rfl⟩
 rw[<-vT]at ht ⊢
 obtain⟨t0,t1,_,_,t4⟩:=ht
 have H5:Hid (qty-qty % lot=t):=t4.symm
 have hq2:qty / lot<=qty:=Int.ediv_le_self _ Oz
 have hq3:0<=qty / lot:=Ex Oz Oz
 have g1:1<=lot:=by omega
 have g3:1<=qty:=by omega
 have g5:(lot==0)=false:=by simp;omega
 have g6:0<=qty:=by omega
 have g7:qty<=9223372036854775807:=hq.2
 have g8:lot<=9223372036854775807:=hl.2
 have e1:IntKind.i64.wrap (qty / lot*lot)=qty-qty % lot:=by
  have hm:=Int.mul_ediv_add_emod qty lot;rw[Int.mul_comm]at hm;have h0:=H5.out;generalize qty / lot*lot=y at *;generalize qty % lot=z at *;rw[Wz];omega
 clear h1 h2 hq hl vT t4
 go_enter func59,ntmps59
 go_wp2_with fail
 go_ret
 refine⟨?_,rfl⟩
 show Ending.returned (Value.int IntKind.i64 (qty-qty % lot))=_
 rw[H5.out]
theorem Us (A:Option Addr)(n c:Nat)(L:List Od)(lot:Int)(aD:InR lot)(w:World)(H:Ods w A n L)(hn:n<=1000) :
  Calls prog 75 #[.slice A n c,.int .i64 lot] w λe w'=>e=.returned (.int .i64 (ZA (qs L) lot))/\w=w':=by
 have HO:Aside (Ods w A n L):=H
 have aJ:=Ou H.1
 clear H
 obtain⟨T,hT⟩:∃T,T=ZA (qs L) lot:=⟨_,rfl⟩
 rw[<-hT]
 have HT:=Ou hT
 clear hT
 by_cases h1:lot<1
 ·have h:Hid (T=0):=Ou (HT.out.trans (Sx (.inl h1)));clear HT;go_enter func75,ntmps75;go_wp2_with fail
  go_ret;rw[h.out];exact⟨rfl,rfl⟩
 by_cases h2:1099511627776<lot
 ·have h:Hid (T=0):=Ou (HT.out.trans (Sx (.inr (.inl h2))));clear HT;go_enter func75,ntmps75;go_wp2_with fail
  go_ret;rw[h.out];exact⟨rfl,rfl⟩
 by_cases h3:64<n
 ·have h:Hid (T=0):=Ou (HT.out.trans (Sx (.inr (.inr (.inl (by rw[Zw,aJ.out];exact h3))))));clear HT;have h3I:(64:Int)<(n:Int):=by omega
  go_enter func75,ntmps75;go_wp2_with fail
  go_ret;rw[h.out];exact⟨rfl,rfl⟩
 have g1:1<=lot:=by omega
 have g2:lot<=1099511627776:=by omega
 have g3:¬(64:Int)<(n:Int):=by omega
 have g4:n<=64:=by omega
 clear h1 h2 h3
 go_enter func75,ntmps75
 go_wp2_with fail
 go_loopg [5,6] n (λkx s5 qJ wr=>∃k:Nat,qJ=.int .i64 k/\k<=n/\n-k<=kx/\s5=.int .i64 (Qd lot ((qs L).take k))/\Hid (OkQ ((qs L).take k))/\wr=w)
 case atStart=>exact⟨0,rfl,by omega,by omega,rfl,Ou (λq h=>by simp at h),rfl⟩
 case round =>
  obtain⟨k,rfl,hk,aP,rfl,hok,rfl⟩:=hrel;by_cases hlt:k<n
  ·have aF:(k:Int)<(n:Int):=by omega
   have h1:=HO.out.2.2.2;rcases h1 with h1 | ⟨b,off,rfl,_,hc⟩
   ·omega
   have hx:=hc k hlt;clear hc;have hxk:=HO.out.2.2.1;have HQ:=Ou (JC L k (by rw[aJ.out];exact hlt));obtain⟨x,ex⟩:∃x,L[k]! = x:=⟨_,rfl⟩
   rw[ex]at hx HQ;clear ex hxk;obtain⟨x0,x1,x2,x3,x4,x5⟩:=hx;by_cases q1:x.qty<0
   ·have h:Hid (T=0):=Ou (HT.out.trans (Ys (k:=k) (by rw[Zw,aJ.out];exact hlt) (by rw[HQ.out];omega)));clear hok HT HQ;go_wp2_with fail
    go_ret;rw[h.out];exact⟨rfl,rfl⟩
   by_cases q2:1099511627776<x.qty
   ·have h:Hid (T=0):=Ou (HT.out.trans (Ys (k:=k) (by rw[Zw,aJ.out];exact hlt) (by rw[HQ.out];omega)));clear hok HT HQ;go_wp2_with fail
    go_ret;rw[h.out];exact⟨rfl,rfl⟩
   have q3:0<=x.qty:=by omega
   have q4:x.qty<=1099511627776:=by omega
   have hst:=DK (lot:=lot) (Q:=qs L) (k:=k) g1 (by rw[Zw,aJ.out];exact hlt) (by rw[Zw,aJ.out];exact g4) hok.out (by rw[HQ.out];exact⟨q3,q4⟩);rw[HQ.out]at hst;obtain⟨⟨s1,s2⟩,⟨t1,t2⟩,hs⟩:=hst;have qB:Hid (OkQ ((qs L).take (k+1))):=Ou (DI hok.out (by rw[Zw,aJ.out];exact hlt) (by rw[HQ.out];exact⟨q3,q4⟩));have cM:Hid (∀w,Calls prog 59 #[.int .i64 lot,.int .i64 x.qty] w λe w'=>e=.returned (.int .i64 (Qj lot x.qty))/\w=w'):=Ou (λw=>Jt lot x.qty ⟨by omega,by omega⟩ aD w);generalize Qd lot ((qs L).take k)=S at *;generalize Qj lot x.qty=t at *;have HS:=Ou hs
   clear hok HQ hs aD;go_wp2_with ((with_reducible refine(cM.out _).mono ?_);rintro e w' ⟨rfl,rfl⟩)
   go_roundg (n-(k+1))
   case measure=>omega
   case rel=>exact⟨k+1,by go_num,by omega,by omega,by rw[HS.out],qB,rfl⟩
  ·have aF:¬(k:Int)<(n:Int):=by omega
   obtain rfl:k=n:=by omega
   have h:Hid (T=Qd lot ((qs L).take k)):=by
    have e:(qs L).take k=qs L:=Fs (by rw[Zw,aJ.out];exact Sq _);have ho:=hok.out;rw[e]at ho ⊢;exact Ou (HT.out.trans (DJ g1 g2 (by rw[Zw,aJ.out];exact g4) ho))
   generalize Qd lot ((qs L).take k)=S at *;clear hok HT;go_wp2_with fail
   go_ret;rw[h.out];exact⟨rfl,rfl⟩
theorem qfu (mode:Int)(A:Option Addr)(n c:Nat)(L:List Od)(qty lot:Int)(aD:InR lot)(w:World)(HO:Ods w A n L)(hn:n<=1000)(hno:Jf mode (qs L) qty lot) :
  Calls prog 60 #[.int .i64 mode,.slice A n c,.int .i64 qty,.int .i64 lot] w λe w'=>e=.returned (.slice none 0 0)/\Ok w w':=by
 obtain⟨T,hT⟩:∃T,T=ZA (qs L) lot:=⟨_,rfl⟩
 have aO:Hid (Calls prog 75 #[.slice A n c,.int .i64 lot] w λe w'=>e=.returned (.int .i64 T)/\w=w'):=Ou (by rw[hT];exact Us A n c L lot aD w HO hn)
 unfold Jf at hno
 rw[<-hT]at hno
 clear HO aD hT
 by_cases m1:mode<1
 ·have m2:decide (mode<1)=true:=Sy m1;clear hno;go_enter func60,ntmps60;go_wp2_with ((with_reducible refine aO.out.mono ?_);rintro e w2 ⟨rfl,rfl⟩)
  go_ret;exact⟨rfl,Below.refl _ _⟩
 have m2:decide (mode<1)=false:=Sz m1
 by_cases m3:2<mode
 ·have m4:decide (2<mode)=true:=Sy m3;clear hno;go_enter func60,ntmps60;go_wp2_with ((with_reducible refine aO.out.mono ?_);rintro e w2 ⟨rfl,rfl⟩)
  go_ret;exact⟨rfl,Below.refl _ _⟩
 have m4:decide (2<mode)=false:=Sz m3
 by_cases z:T=0
 ·subst z;clear hno;go_enter func60,ntmps60;go_wp2_with ((with_reducible refine aO.out.mono ?_);rintro e w2 ⟨rfl,rfl⟩)
  go_ret;exact⟨rfl,Below.refl _ _⟩
 have z1:(T==0)=false:=by simp[z]
 by_cases q1:qty<1
 ·have q2:decide (qty<1)=true:=Sy q1;clear hno z;go_enter func60,ntmps60;go_wp2_with ((with_reducible refine aO.out.mono ?_);rintro e w2 ⟨rfl,rfl⟩)
  go_ret;exact⟨rfl,Below.refl _ _⟩
 have q2:decide (qty<1)=false:=Sz q1
 have q3:4611686018427387904<qty:=by omega
 have q4:decide (4611686018427387904<qty)=true:=Sy q3
 clear hno z
 go_enter func60,ntmps60
 go_wp2_with ((with_reducible refine aO.out.mono ?_);rintro e w2 ⟨rfl,rfl⟩)
 go_ret
 exact⟨rfl,Below.refl _ _⟩
theorem qfv (A:Option Addr)(n c:Nat)(L:List Od)(qty lot:Int)(aD:InR lot)(w:World)(HO:Ods w A n L)(hn:n<=1000)(hok:ShOk (qs L) qty lot) :
  Calls prog 60 #[.int .i64 1,.slice A n c,.int .i64 qty,.int .i64 lot] w (Shd w n (QA 1 (Zk lot qty (Qd lot (qs L))) (Qd lot (qs L)) lot (qs L))):=by
 have aU:(qs L).length=n:=by rw[Zw];exact HO.1
 obtain⟨T,hT⟩:∃T,T=Qd lot (qs L):=⟨_,rfl⟩
 obtain⟨tq,gM⟩:∃t,t=Qj lot qty:=⟨_,rfl⟩
 obtain⟨all,hall⟩:∃a,a=Zk lot qty T:=⟨_,rfl⟩
 have aO:Hid (Calls prog 75 #[.slice A n c,.int .i64 lot] w λe w'=>e=.returned (.int .i64 T)/\w=w'):=Ou (by rw[hT,<-hok.t];exact Us A n c L lot aD w HO hn)
 have hab:=Yv hok
 rw[<-hT,<-hall]at hab
 have gB:Hid (∀w,Calls prog 59 #[.int .i64 lot,.int .i64 qty] w λe w'=>e=.returned (.int .i64 tq)/\w=w'):=Ou (λw=>by rw[gM];exact Jt lot qty ⟨by have:=hok.y1;omega,by have:=hok.y2;omega⟩ aD w)
 have dC:min tq T=all:=by rw[hall,gM];rfl
 have aK:Hid (ShOk (qs L) qty lot):=Ou hok
 have HQ:Hid (T=Qd lot (qs L)/\all=Zk lot qty T/\(qs L).length=n):=Ou ⟨hT,hall,aU⟩
 have h64:n<=64:=by have:=hok.n;omega
 have hz1:(T==0)=false:=by have:=hok.t1;simp;omega
 have hz2:decide (qty<1)=false:=Sz (by have:=hok.y1;omega)
 have hz3:decide (4611686018427387904<qty)=false:=Sz (by have:=hok.y2;omega)
 have fG:0<T/\T<=70368744177664:=by rw[hT];exact⟨hok.t1,hok.t2⟩
 have iN:Aside (Ods w A n L):=HO
 rw[<-hT,<-hall]
 have hmk:=run_make_row' (P:=prog) 60 2 (.int .i64 0) 8 underlying60 Yu rfl .i64 .i64 n Oz Oz
 have R0:Hid ((w.alloc (.cells (madeCells #[.int .i64 0] n) 2)).rowIs w.heap.size 2 n (λ_=>.int .i64 0)):=Ou (World.rowIs_made w (.int .i64 0) n _)
 have B0:Hid (Ok w (w.alloc (.cells (madeCells #[.int .i64 0] n) 2))):=Ou ((Oq _ _).alloc (Sq _) _)
 clear hT gM hall aU hok HO
 by_cases hsw:T<tq
 ·have eT:T=all:=by rw[<-dC,Int.min_eq_right (by omega)]
  clear dC;subst eT;have qD:decide (T<tq)=true:=Sy hsw;clear hsw;go_enter func60,ntmps60;go_wp2_with (first|((with_reducible refine aO.out.mono ?_);rintro e w2 ⟨rfl,rfl⟩)|((with_reducible refine(gB.out _).mono ?_);rintro e w2 ⟨rfl,rfl⟩))
  generalize w.alloc (.cells (madeCells #[.int .i64 0] n) 2)=w0 at R0 B0 ⊢;clear aO gB hmk hz1 hz2 hz3;have fZ:Hid (w0.rowIs w.heap.size 2 n (λj=>.int .i64 (p1 1 T T lot ((qs L).getD j 0)))):=Ou (R0.out.congr (λj hj=>by unfold p1;rw[Sw (by omega)]));clear R0;go_loopg [13] 1 (λkx gP wr=>gP=.int .i64 0/\wr=w0)
  case atStart=>exact⟨rfl,rfl⟩
  case round =>
  obtain⟨rfl,rfl⟩:=hrel;obtain⟨w1,jE⟩:∃w1,w1=wr:=⟨_,rfl⟩
  rw[<-jE]at fZ B0 ⊢;have j4:=fZ;clear fZ jE;have bU:Hid (w1.rowIs w.heap.size 2 n (λj=>.int .i64 (p1 1 T T lot ((qs L).getD j 0)))):=j4;clear j4;go_wp2_with fail
  go_loopg [10,16] n (λkx cQ i7 wr=>∃k:Nat,i7=.int .i64 k/\k<=n/\n-k<=kx/\cQ=.int .i64 (Qs 1 T T lot (qs L) k)/\wr=w1)
  case atStart=>exact⟨0,rfl,by omega,by omega,rfl,rfl⟩
  case round =>
   obtain⟨k,rfl,hk,aP,rfl,rfl⟩:=hrel;have aR:T<=Qd lot (qs L):=by rw[<-HQ.out.1];exact hab.2
   have bC:0<Qd lot (qs L):=by rw[<-HQ.out.1];exact fG.1
   by_cases hlt:k<n
   ·have aF:(k:Int)<(n:Int):=by omega
    have d8:(0:Int)<=(k:Int):=by omega
    have hf:=KI (mode:=1) (all:=T) aK.out.l1 aK.out.q hab.1 aR bC k (by rw[HQ.out.2.2];exact hk);rw[<-HQ.out.1]at hf;obtain⟨⟨f1,f2,_⟩,f3⟩:=hf;obtain⟨f4,f5,_,_⟩:=f3 (by rw[HQ.out.2.2];exact hlt);clear f3 aR bC;have c1:=bU.out.cell hlt;have HST:=Ou (show Qs 1 T T lot (qs L) (k+1)=Qs 1 T T lot (qs L) k-p1 1 T T lot ((qs L).getD k 0) from rfl);generalize Qs 1 T T lot (qs L) k=S at *;generalize p1 1 T T lot ((qs L).getD k 0)=p at *;go_wp2_with fail
    go_roundg (n-(k+1))
    case measure=>omega
    case rel=>exact⟨k+1,by go_num,by omega,by omega,by rw[HST.out],rfl⟩
   ·have aF:¬(k:Int)<(n:Int):=by omega
    have gV:k=n:=by omega
    have fY:Hid (wr.rowIs w.heap.size 2 n (λj=>.int .i64 (if j<0 then QA 1 T T lot (qs L) j else p1 1 T T lot ((qs L).getD j 0)))):=Ou (bU.out.congr (λj hj=>by rw[Sw (by omega)]));have HL:Hid (Qs 1 T T lot (qs L) k=QD 1 T T lot (qs L) 0):=Ou (by show _=Qs 1 T T lot (qs L) (qs L).length;rw[HQ.out.2.2,gV]);rw[HL.out];clear bU hlt gV aR bC aP;go_wp2_with fail
    go_loopg [10,17] n (λkx cQ iJ wr=>∃k:Nat,iJ=.int .i64 k/\k<=n/\n-k<=kx/\cQ=.int .i64 (QD 1 T T lot (qs L) k)/\Hid (wr.rowIs w.heap.size 2 n (λj=>.int .i64 (if j<k then QA 1 T T lot (qs L) j else p1 1 T T lot ((qs L).getD j 0))))/\Hid (Ok w wr))
    case atStart=>exact⟨0,rfl,by omega,by omega,rfl,fY,B0⟩
    case round =>
     clear fY B0;obtain⟨k,rfl,hk,aP,rfl,HR,HB⟩:=hrel;by_cases hlt:k<n
     ·have aF:(k:Int)<(n:Int):=by omega
      have d8:(0:Int)<=(k:Int):=by omega
      have aM:Aside (Ods wr A n L):=iN.out.below HB.out;obtain⟨b,off,rfl,hb,hc⟩:∃b off,A=some ⟨b,off,none⟩/\b<wr.heap.size/\∀i,i<n->(L[i]!).at wr b (off+i*6):=by
       rcases aM.out.2.2.2 with h|h
       ·omega
       ·exact h
      have kq:=(hc k hlt).2.2.2.2.1;have bV:InR L[k]!.qty:=by
       have:=aM.out.2.2.1 L[k]! (by rw[Sj L k (by rw[aM.out.1];exact hlt)];exact Wt _);exact this.2.2.2.2.1
      have aZ:=JC L k (by rw[aM.out.1];exact hlt);have hg:=JB aK.out.q k;have htr:=ZJ (lot:=lot) aK.out.l1 hg.1;have aR:T<=Qd lot (qs L):=by rw[<-HQ.out.1];exact hab.2
      have bC:0<Qd lot (qs L):=by rw[<-HQ.out.1];exact fG.1
      have hp:=J4 (mode:=1) (all:=T) aK.out.l1 aK.out.q hab.1 aR bC k (by rw[HQ.out.2.2];exact hlt);have hf:=J5 (mode:=1) (all:=T) aK.out.l1 aK.out.q hab.1 aR bC k (by rw[HQ.out.2.2];exact hk);rw[<-HQ.out.1]at hp hf;have HST:=Ou (show QD 1 T T lot (qs L) (k+1)=QD 1 T T lot (qs L) k-min (QD 1 T T lot (qs L) k) (Qj lot ((qs L).getD k 0)-p1 1 T T lot ((qs L).getD k 0)) from rfl);have dA:=Ou (show QA 1 T T lot (qs L) k=p1 1 T T lot ((qs L).getD k 0)+min (QD 1 T T lot (qs L) k) (Qj lot ((qs L).getD k 0)-p1 1 T T lot ((qs L).getD k 0)) from rfl);have c1:wr.cell? ⟨w.heap.size,k,none⟩=some (.int .i64 (p1 1 T T lot ((qs L).getD k 0))):=(HR.out.cell hlt).trans (by rw[Sw (by omega)])
      have f5:=HR.out.frozen k;have cM:Hid (∀w,Calls prog 59 #[.int .i64 lot,.int .i64 L[k]!.qty] w λe w'=>e=.returned (.int .i64 (Qj lot L[k]!.qty))/\w'=w):=Ou (λw=>(Jt lot _ bV aD w).mono λ_ _ h=>⟨h.1,h.2.symm⟩);rw[aZ]at hg htr hp HST dA c1;have hsz:=hb;clear bV aZ hc aM aR bC
      have dV:Hid (∀j,j<n->(if j=k then Value.int .i64 (QA 1 T T lot (qs L) k) else .int .i64 (if j<k then QA 1 T T lot (qs L) j else p1 1 T T lot ((qs L).getD j 0)))=.int .i64 (if j<k+1 then QA 1 T T lot (qs L) j else p1 1 T T lot ((qs L).getD j 0))):=Ou (λj hj=>by
       by_cases e1:j=k
       ·subst e1;rw[Sx rfl,Sx (by omega)]
       ·rw[Sw e1];by_cases e2:j<k
        ·rw[Sx e2,Sx (by omega)]
        ·rw[Sw e2,Sw (by omega)])
      obtain⟨lf,aQ⟩:∃x,x=QD 1 T T lot (qs L) k:=⟨_,rfl⟩
      obtain⟨o,ho⟩:∃x,x=QA 1 T T lot (qs L) k:=⟨_,rfl⟩
      obtain⟨p,bH⟩:∃x,x=p1 1 T T lot L[k]!.qty:=⟨_,rfl⟩
      rw[<-aQ,<-bH]at HST dA;rw[<-ho]at dA dV;rw[<-aQ]at hf ⊢;rw[<-bH]at hp c1;have zC:=Ou aQ;clear aQ ho bH;generalize L[k]!.qty=q at *;generalize Qj lot q=t at *;obtain⟨d,hd⟩:∃d,min lf (t-p)=d:=⟨_,rfl⟩
      have hd2:0<=d/\d<=lf/\d<=t-p:=by omega
      rw[hd]at HST dA
      have iZ:Hid (∀nq,((wr.drewN nq).setCell ⟨w.heap.size,k,none⟩ (.int .i64 (p+d))).rowIs w.heap.size 2 n (λj=>.int .i64 (if j<k+1 then QA 1 T T lot (qs L) j else p1 1 T T lot ((qs L).getD j 0)))):=Ou (λnq=>by
       have h:(wr.drewN nq).rowIs w.heap.size 2 n (λj=>.int .i64 (if j<k then QA 1 T T lot (qs L) j else p1 1 T T lot ((qs L).getD j 0))):=HR.out;rw[<-dA.out]
       exact(h.set k _).congr dV.out)
      have iU:Hid (∀nq,Ok w ((wr.drewN nq).setCell ⟨w.heap.size,k,none⟩ (.int .i64 (p+d)))):=Ou (λnq=>(QJ HB.out nq).setCell (Sq _) _);clear dV HR HB;go_wp2_with fail
      go_quiet (((with_reducible exact Ss (cM.out _))))
      have eK:=Ou (iZ.out nq);have bO:=Ou (iU.out nq);clear iZ iU cM;clear hd;go_wp2_with fail
      generalize (wr.drewN nq).setCell ⟨w.heap.size,k,none⟩ (.int .i64 (p+d))=w5 at eK bO ⊢;go_wp2_with fail
      go_roundg (n-(k+1))
      case measure=>omega
      case rel=>exact⟨k+1,by go_num,by omega,by omega,by rw[HST.out],eK,bO⟩
     ·have aF:¬(k:Int)<(n:Int):=by omega
      have HE:Hid (Shd w n (QA 1 T T lot (qs L)) (.returned (.slice (some ⟨w.heap.size,0,none⟩) n n)) wr):=Ou ⟨_,rfl,Sq _,HB.out,HR.out.congr (λj hj=>by
       show Value.int .i64 (if j<k then _ else _)=_
       rw[Sx (by omega)])⟩
      clear HR HB;go_wp2_with fail
      go_ret;exact HE.out
 ·have eT:all=tq:=by rw[<-dC,Int.min_eq_left (by omega)]
  clear dC;subst eT;have qD:decide (T<all)=false:=Sz hsw;clear hsw;go_enter func60,ntmps60;go_wp2_with (first|((with_reducible refine aO.out.mono ?_);rintro e w2 ⟨rfl,rfl⟩)|((with_reducible refine(gB.out _).mono ?_);rintro e w2 ⟨rfl,rfl⟩))
  generalize w.alloc (.cells (madeCells #[.int .i64 0] n) 2)=w0 at R0 B0 ⊢;clear aO gB hmk hz1 hz2 hz3;have fZ:Hid (w0.rowIs w.heap.size 2 n (λj=>.int .i64 (p1 1 all T lot ((qs L).getD j 0)))):=Ou (R0.out.congr (λj hj=>by unfold p1;rw[Sw (by omega)]));clear R0;go_loopg [13] 1 (λkx gP wr=>gP=.int .i64 0/\wr=w0)
  case atStart=>exact⟨rfl,rfl⟩
  case round =>
  obtain⟨rfl,rfl⟩:=hrel;obtain⟨w1,jE⟩:∃w1,w1=wr:=⟨_,rfl⟩
  rw[<-jE]at fZ B0 ⊢;have j4:=fZ;clear fZ jE;have bU:Hid (w1.rowIs w.heap.size 2 n (λj=>.int .i64 (p1 1 all T lot ((qs L).getD j 0)))):=j4;clear j4;go_wp2_with fail
  go_loopg [10,16] n (λkx cQ i7 wr=>∃k:Nat,i7=.int .i64 k/\k<=n/\n-k<=kx/\cQ=.int .i64 (Qs 1 all T lot (qs L) k)/\wr=w1)
  case atStart=>exact⟨0,rfl,by omega,by omega,rfl,rfl⟩
  case round =>
   obtain⟨k,rfl,hk,aP,rfl,rfl⟩:=hrel;have aR:all<=Qd lot (qs L):=by rw[<-HQ.out.1];exact hab.2
   have bC:0<Qd lot (qs L):=by rw[<-HQ.out.1];exact fG.1
   by_cases hlt:k<n
   ·have aF:(k:Int)<(n:Int):=by omega
    have d8:(0:Int)<=(k:Int):=by omega
    have hf:=KI (mode:=1) (all:=all) aK.out.l1 aK.out.q hab.1 aR bC k (by rw[HQ.out.2.2];exact hk);rw[<-HQ.out.1]at hf;obtain⟨⟨f1,f2,_⟩,f3⟩:=hf;obtain⟨f4,f5,_,_⟩:=f3 (by rw[HQ.out.2.2];exact hlt);clear f3 aR bC;have c1:=bU.out.cell hlt;have HST:=Ou (show Qs 1 all T lot (qs L) (k+1)=Qs 1 all T lot (qs L) k-p1 1 all T lot ((qs L).getD k 0) from rfl);generalize Qs 1 all T lot (qs L) k=S at *;generalize p1 1 all T lot ((qs L).getD k 0)=p at *;go_wp2_with fail
    go_roundg (n-(k+1))
    case measure=>omega
    case rel=>exact⟨k+1,by go_num,by omega,by omega,by rw[HST.out],rfl⟩
   ·have aF:¬(k:Int)<(n:Int):=by omega
    have gV:k=n:=by omega
    have fY:Hid (wr.rowIs w.heap.size 2 n (λj=>.int .i64 (if j<0 then QA 1 all T lot (qs L) j else p1 1 all T lot ((qs L).getD j 0)))):=Ou (bU.out.congr (λj hj=>by rw[Sw (by omega)]));have HL:Hid (Qs 1 all T lot (qs L) k=QD 1 all T lot (qs L) 0):=Ou (by show _=Qs 1 all T lot (qs L) (qs L).length;rw[HQ.out.2.2,gV]);rw[HL.out];clear bU hlt gV aR bC aP;go_wp2_with fail
    go_loopg [10,17] n (λkx cQ iJ wr=>∃k:Nat,iJ=.int .i64 k/\k<=n/\n-k<=kx/\cQ=.int .i64 (QD 1 all T lot (qs L) k)/\Hid (wr.rowIs w.heap.size 2 n (λj=>.int .i64 (if j<k then QA 1 all T lot (qs L) j else p1 1 all T lot ((qs L).getD j 0))))/\Hid (Ok w wr))
    case atStart=>exact⟨0,rfl,by omega,by omega,rfl,fY,B0⟩
    case round =>
     clear fY B0;obtain⟨k,rfl,hk,aP,rfl,HR,HB⟩:=hrel;by_cases hlt:k<n
     ·have aF:(k:Int)<(n:Int):=by omega
      have d8:(0:Int)<=(k:Int):=by omega
      have aM:Aside (Ods wr A n L):=iN.out.below HB.out;obtain⟨b,off,rfl,hb,hc⟩:∃b off,A=some ⟨b,off,none⟩/\b<wr.heap.size/\∀i,i<n->(L[i]!).at wr b (off+i*6):=by
       rcases aM.out.2.2.2 with h|h
       ·omega
       ·exact h
      have kq:=(hc k hlt).2.2.2.2.1;have bV:InR L[k]!.qty:=by
       have:=aM.out.2.2.1 L[k]! (by rw[Sj L k (by rw[aM.out.1];exact hlt)];exact Wt _);exact this.2.2.2.2.1
      have aZ:=JC L k (by rw[aM.out.1];exact hlt);have hg:=JB aK.out.q k;have htr:=ZJ (lot:=lot) aK.out.l1 hg.1;have aR:all<=Qd lot (qs L):=by rw[<-HQ.out.1];exact hab.2
      have bC:0<Qd lot (qs L):=by rw[<-HQ.out.1];exact fG.1
      have hp:=J4 (mode:=1) (all:=all) aK.out.l1 aK.out.q hab.1 aR bC k (by rw[HQ.out.2.2];exact hlt);have hf:=J5 (mode:=1) (all:=all) aK.out.l1 aK.out.q hab.1 aR bC k (by rw[HQ.out.2.2];exact hk);rw[<-HQ.out.1]at hp hf;have HST:=Ou (show QD 1 all T lot (qs L) (k+1)=QD 1 all T lot (qs L) k-min (QD 1 all T lot (qs L) k) (Qj lot ((qs L).getD k 0)-p1 1 all T lot ((qs L).getD k 0)) from rfl);have dA:=Ou (show QA 1 all T lot (qs L) k=p1 1 all T lot ((qs L).getD k 0)+min (QD 1 all T lot (qs L) k) (Qj lot ((qs L).getD k 0)-p1 1 all T lot ((qs L).getD k 0)) from rfl)
      have c1:wr.cell? ⟨w.heap.size,k,none⟩=some (.int .i64 (p1 1 all T lot ((qs L).getD k 0))):=(HR.out.cell hlt).trans (by rw[Sw (by omega)]);have f5:=HR.out.frozen k;have cM:Hid (∀w,Calls prog 59 #[.int .i64 lot,.int .i64 L[k]!.qty] w λe w'=>e=.returned (.int .i64 (Qj lot L[k]!.qty))/\w'=w):=Ou (λw=>(Jt lot _ bV aD w).mono λ_ _ h=>⟨h.1,h.2.symm⟩);rw[aZ]at hg htr hp HST dA c1;have hsz:=hb;clear bV aZ hc aM aR bC
      have dV:Hid (∀j,j<n->(if j=k then Value.int .i64 (QA 1 all T lot (qs L) k) else .int .i64 (if j<k then QA 1 all T lot (qs L) j else p1 1 all T lot ((qs L).getD j 0)))=.int .i64 (if j<k+1 then QA 1 all T lot (qs L) j else p1 1 all T lot ((qs L).getD j 0))):=Ou (λj hj=>by
       by_cases e1:j=k
       ·subst e1;rw[Sx rfl,Sx (by omega)]
       ·rw[Sw e1];by_cases e2:j<k
        ·rw[Sx e2,Sx (by omega)]
        ·rw[Sw e2,Sw (by omega)])
      obtain⟨lf,aQ⟩:∃x,x=QD 1 all T lot (qs L) k:=⟨_,rfl⟩
      obtain⟨o,ho⟩:∃x,x=QA 1 all T lot (qs L) k:=⟨_,rfl⟩
      obtain⟨p,bH⟩:∃x,x=p1 1 all T lot L[k]!.qty:=⟨_,rfl⟩
      rw[<-aQ,<-bH]at HST dA;rw[<-ho]at dA dV;rw[<-aQ]at hf ⊢;rw[<-bH]at hp c1;have zC:=Ou aQ;clear aQ ho bH;generalize L[k]!.qty=q at *;generalize Qj lot q=t at *;obtain⟨d,hd⟩:∃d,min lf (t-p)=d:=⟨_,rfl⟩
      have hd2:0<=d/\d<=lf/\d<=t-p:=by omega
      rw[hd]at HST dA
      have iZ:Hid (∀nq,((wr.drewN nq).setCell ⟨w.heap.size,k,none⟩ (.int .i64 (p+d))).rowIs w.heap.size 2 n (λj=>.int .i64 (if j<k+1 then QA 1 all T lot (qs L) j else p1 1 all T lot ((qs L).getD j 0)))):=Ou (λnq=>by
       have h:(wr.drewN nq).rowIs w.heap.size 2 n (λj=>.int .i64 (if j<k then QA 1 all T lot (qs L) j else p1 1 all T lot ((qs L).getD j 0))):=HR.out;rw[<-dA.out]
       exact(h.set k _).congr dV.out)
      have iU:Hid (∀nq,Ok w ((wr.drewN nq).setCell ⟨w.heap.size,k,none⟩ (.int .i64 (p+d)))):=Ou (λnq=>(QJ HB.out nq).setCell (Sq _) _);clear dV HR HB;go_wp2_with fail
      go_quiet (((with_reducible exact Ss (cM.out _))))
      have eK:=Ou (iZ.out nq);have bO:=Ou (iU.out nq);clear iZ iU cM;clear hd;go_wp2_with fail
      generalize (wr.drewN nq).setCell ⟨w.heap.size,k,none⟩ (.int .i64 (p+d))=w5 at eK bO ⊢;go_wp2_with fail
      go_roundg (n-(k+1))
      case measure=>omega
      case rel=>exact⟨k+1,by go_num,by omega,by omega,by rw[HST.out],eK,bO⟩
     ·have aF:¬(k:Int)<(n:Int):=by omega
      have HE:Hid (Shd w n (QA 1 all T lot (qs L)) (.returned (.slice (some ⟨w.heap.size,0,none⟩) n n)) wr):=Ou ⟨_,rfl,Sq _,HB.out,HR.out.congr (λj hj=>by
       show Value.int .i64 (if j<k then _ else _)=_
       rw[Sx (by omega)])⟩
      clear HR HB;go_wp2_with fail
      go_ret;exact HE.out
theorem qfw (A:Option Addr)(n c:Nat)(L:List Od)(qty lot:Int)(aD:InR lot)(w:World)(HO:Ods w A n L)(hn:n<=1000)(hok:ShOk (qs L) qty lot) :
  Calls prog 60 #[.int .i64 2,.slice A n c,.int .i64 qty,.int .i64 lot] w (Shd w n (QA 2 (Zk lot qty (Qd lot (qs L))) (Qd lot (qs L)) lot (qs L))):=by
 have aU:(qs L).length=n:=by rw[Zw];exact HO.1
 obtain⟨T,hT⟩:∃T,T=Qd lot (qs L):=⟨_,rfl⟩
 obtain⟨tq,gM⟩:∃t,t=Qj lot qty:=⟨_,rfl⟩
 obtain⟨all,hall⟩:∃a,a=Zk lot qty T:=⟨_,rfl⟩
 have aO:Hid (Calls prog 75 #[.slice A n c,.int .i64 lot] w λe w'=>e=.returned (.int .i64 T)/\w=w'):=Ou (by rw[hT,<-hok.t];exact Us A n c L lot aD w HO hn)
 have hab:=Yv hok
 rw[<-hT,<-hall]at hab
 have gB:Hid (∀w,Calls prog 59 #[.int .i64 lot,.int .i64 qty] w λe w'=>e=.returned (.int .i64 tq)/\w=w'):=Ou (λw=>by rw[gM];exact Jt lot qty ⟨by have:=hok.y1;omega,by have:=hok.y2;omega⟩ aD w)
 have dC:min tq T=all:=by rw[hall,gM];rfl
 have aK:Hid (ShOk (qs L) qty lot):=Ou hok
 have HQ:Hid (T=Qd lot (qs L)/\all=Zk lot qty T/\(qs L).length=n):=Ou ⟨hT,hall,aU⟩
 have h64:n<=64:=by have:=hok.n;omega
 have hz1:(T==0)=false:=by have:=hok.t1;simp;omega
 have hz2:decide (qty<1)=false:=Sz (by have:=hok.y1;omega)
 have hz3:decide (4611686018427387904<qty)=false:=Sz (by have:=hok.y2;omega)
 have fG:0<T/\T<=70368744177664:=by rw[hT];exact⟨hok.t1,hok.t2⟩
 have iN:Aside (Ods w A n L):=HO
 rw[<-hT,<-hall]
 have hmk:=run_make_row' (P:=prog) 60 2 (.int .i64 0) 8 underlying60 Yu rfl .i64 .i64 n Oz Oz
 have R0:Hid ((w.alloc (.cells (madeCells #[.int .i64 0] n) 2)).rowIs w.heap.size 2 n (λ_=>.int .i64 0)):=Ou (World.rowIs_made w (.int .i64 0) n _)
 have B0:Hid (Ok w (w.alloc (.cells (madeCells #[.int .i64 0] n) 2))):=Ou ((Oq _ _).alloc (Sq _) _)
 clear hT gM hall aU hok HO
 by_cases hsw:T<tq
 ·have eT:T=all:=by rw[<-dC,Int.min_eq_right (by omega)]
  clear dC;subst eT;have qD:decide (T<tq)=true:=Sy hsw;clear hsw;go_enter func60,ntmps60;go_wp2_with (first|((with_reducible refine aO.out.mono ?_);rintro e w2 ⟨rfl,rfl⟩)|((with_reducible refine(gB.out _).mono ?_);rintro e w2 ⟨rfl,rfl⟩))
  generalize w.alloc (.cells (madeCells #[.int .i64 0] n) 2)=w0 at R0 B0 ⊢;clear aO gB hmk hz1 hz2 hz3;go_loopg [13] n (λkx gP wr=>∃k:Nat,gP=.int .i64 k/\k<=n/\n-k<=kx/\Hid (wr.rowIs w.heap.size 2 n (λj=>.int .i64 (if j<k then p1 2 T T lot ((qs L).getD j 0) else 0)))/\Hid (Ok w wr))
  case atStart=>exact⟨0,rfl,by omega,by omega,Ou (R0.out.congr (λj hj=>by rw[Sw (by omega)])),B0⟩
  case round =>
  clear R0 B0;obtain⟨k,rfl,hk,aP,HR,HB⟩:=hrel;by_cases hlt:k<n
  ·have aF:(k:Int)<(n:Int):=by omega
   have d8:(0:Int)<=(k:Int):=by omega
   have aM:Aside (Ods wr A n L):=iN.out.below HB.out;obtain⟨b,off,rfl,hb,hc⟩:∃b off,A=some ⟨b,off,none⟩/\b<wr.heap.size/\∀i,i<n->(L[i]!).at wr b (off+i*6):=by
    rcases aM.out.2.2.2 with h|h
    ·omega
    ·exact h
   have kq:=(hc k hlt).2.2.2.2.1;have bV:InR L[k]!.qty:=by
    have:=aM.out.2.2.1 L[k]! (by rw[Sj L k (by rw[aM.out.1];exact hlt)];exact Wt _);exact this.2.2.2.2.1
   have aZ:=JC L k (by rw[aM.out.1];exact hlt);obtain⟨q,eq⟩:∃q,q=L[k]!.qty:=⟨_,rfl⟩
   rw[<-eq]at kq bV aZ;have hg:=JB aK.out.q k;rw[aZ]at hg;obtain⟨tt,ht⟩:∃t,t=Qj lot q:=⟨_,rfl⟩
   have htr:=ZJ (lot:=lot) aK.out.l1 hg.1;rw[<-ht]at htr;have hts:=Yr aK.out.l1 aK.out.q k (by rw[HQ.out.2.2];exact hlt);rw[aZ,<-ht,<-HQ.out.1]at hts;have nC:=Ub (a:=T) (t:=tt) (T:=T) hab.1 htr.1 fG.1 hts Oz;obtain⟨pd,i4⟩:∃p,p=T*tt / T:=⟨_,rfl⟩
   rw[<-i4]at nC;obtain⟨fH,fI,uO,uP⟩:=nC;obtain⟨pp,bH⟩:∃p,p=p1 2 T T lot ((qs L).getD k 0):=⟨_,rfl⟩
   have hpe:pp=Qj lot pd:=by rw[bH,aZ,i4,ht];rfl
   have cM:Hid (∀w,Calls prog 59 #[.int .i64 lot,.int .i64 q] w λe w'=>e=.returned (.int .i64 tt)/\w=w'):=Ou (λw=>by rw[ht];exact Jt lot q bV aD w);have jB:Hid (∀w,Calls prog 59 #[.int .i64 lot,.int .i64 pd] w λe w'=>e=.returned (.int .i64 pp)/\w=w'):=Ou (λw=>by rw[hpe];exact Jt lot pd ⟨by omega,by omega⟩ aD w)
   have jW:Hid (∀w,Calls prog 76 #[.int .i64 T,.int .i64 tt,.int .i64 T,.int .i64 1] w λe w'=>e=.returned (.tuple #[.int .i64 pd,.int .i64 0])/\Ok w w'):=Ou (λw=>by
    have h:=Cz T tt T 1 ⟨by omega,by omega⟩ ⟨by omega,by omega⟩ ⟨by omega,by omega⟩ w;rw[fH,fI]at h
    exact h)
   have HN:Hid (∀w3,Ok wr w3->(w3.setCell ⟨w.heap.size,k,none⟩ (.int .i64 pp)).rowIs w.heap.size 2 n (λj=>.int .i64 (if j<k+1 then p1 2 T T lot ((qs L).getD j 0) else 0))):=Ou (λw3 h3=>by
    refine((HR.out.of_block (h3.block _ HR.out.lt)).set k _).congr (λj hj=>?_);by_cases e1:j=k
    ·subst e1;rw[Sx rfl,Sx Oz,bH]
    ·rw[Sw e1];by_cases e2:j<k
     ·rw[Sx e2,Sx (by omega)]
     ·rw[Sw e2,Sw (by omega)])
   have tD:=Ou (λ(w3:World) (h3:Ok wr w3)=>(⟨((HR.out.of_block (h3.block _ HR.out.lt)).cell hlt),(HR.out.of_block (h3.block _ HR.out.lt)).frozen k⟩:_/\_));have hbl:=HR.out.lt;clear hc bV aZ eq hg ht htr hts i4 fH fI bH hpe aM HR;go_wp2_with (first|((with_reducible refine(cM.out _).mono ?_);rintro e w' ⟨rfl,rfl⟩)|fail)
   ((with_reducible refine(jW.out _).mono ?_);rintro e w3 ⟨rfl,b3⟩);obtain⟨cc,ff⟩:=tD.out w3 b3;have eK:=Ou (HN.out w3 b3);have bO:Hid (Ok w (w3.setCell ⟨w.heap.size,k,none⟩ (.int .i64 pp))):=Ou ((HB.out.trans (b3.mono HB.out.size)).setCell (Sq _) _);clear HN tD HB jW b3;go_wp2_with (first|((with_reducible refine(jB.out _).mono ?_);rintro e w' ⟨rfl,rfl⟩)|fail)
   generalize w3.setCell ⟨w.heap.size,k,none⟩ (.int .i64 pp)=w5 at eK bO ⊢;go_roundg (n-(k+1))
   case measure=>omega
   case rel=>exact⟨k+1,by go_num,by omega,by omega,eK,bO⟩
  have aF:¬(k:Int)<(n:Int):=by omega
  obtain⟨w1,jE⟩:∃w1,w1=wr:=⟨_,rfl⟩
  rw[<-jE]at HR HB ⊢
  have j4:Hid (w1.rowIs w.heap.size 2 n (λj=>.int .i64 (p1 2 T T lot ((qs L).getD j 0)))):=Ou (HR.out.congr (λj hj=>by
   show Value.int .i64 (if j<k then _ else _)=_
   rw[Sx (by omega)]))
  have B0:=HB;clear HR HB jE hlt;have bU:Hid (w1.rowIs w.heap.size 2 n (λj=>.int .i64 (p1 2 T T lot ((qs L).getD j 0)))):=j4;clear j4;go_wp2_with fail
  go_loopg [10,16] n (λkx cQ i7 wr=>∃k:Nat,i7=.int .i64 k/\k<=n/\n-k<=kx/\cQ=.int .i64 (Qs 2 T T lot (qs L) k)/\wr=w1)
  case atStart=>exact⟨0,rfl,by omega,by omega,rfl,rfl⟩
  case round =>
   obtain⟨k,rfl,hk,aP,rfl,rfl⟩:=hrel;have aR:T<=Qd lot (qs L):=by rw[<-HQ.out.1];exact hab.2
   have bC:0<Qd lot (qs L):=by rw[<-HQ.out.1];exact fG.1
   by_cases hlt:k<n
   ·have aF:(k:Int)<(n:Int):=by omega
    have d8:(0:Int)<=(k:Int):=by omega
    have hf:=KI (mode:=2) (all:=T) aK.out.l1 aK.out.q hab.1 aR bC k (by rw[HQ.out.2.2];exact hk);rw[<-HQ.out.1]at hf;obtain⟨⟨f1,f2,_⟩,f3⟩:=hf;obtain⟨f4,f5,_,_⟩:=f3 (by rw[HQ.out.2.2];exact hlt);clear f3 aR bC;have c1:=bU.out.cell hlt;have HST:=Ou (show Qs 2 T T lot (qs L) (k+1)=Qs 2 T T lot (qs L) k-p1 2 T T lot ((qs L).getD k 0) from rfl);generalize Qs 2 T T lot (qs L) k=S at *;generalize p1 2 T T lot ((qs L).getD k 0)=p at *;go_wp2_with fail
    go_roundg (n-(k+1))
    case measure=>omega
    case rel=>exact⟨k+1,by go_num,by omega,by omega,by rw[HST.out],rfl⟩
   ·have aF:¬(k:Int)<(n:Int):=by omega
    have gV:k=n:=by omega
    have fY:Hid (wr.rowIs w.heap.size 2 n (λj=>.int .i64 (if j<0 then QA 2 T T lot (qs L) j else p1 2 T T lot ((qs L).getD j 0)))):=Ou (bU.out.congr (λj hj=>by rw[Sw (by omega)]));have HL:Hid (Qs 2 T T lot (qs L) k=QD 2 T T lot (qs L) 0):=Ou (by show _=Qs 2 T T lot (qs L) (qs L).length;rw[HQ.out.2.2,gV]);rw[HL.out];clear bU hlt gV aR bC aP;go_wp2_with fail
    go_loopg [10,17] n (λkx cQ iJ wr=>∃k:Nat,iJ=.int .i64 k/\k<=n/\n-k<=kx/\cQ=.int .i64 (QD 2 T T lot (qs L) k)/\Hid (wr.rowIs w.heap.size 2 n (λj=>.int .i64 (if j<k then QA 2 T T lot (qs L) j else p1 2 T T lot ((qs L).getD j 0))))/\Hid (Ok w wr))
    case atStart=>exact⟨0,rfl,by omega,by omega,rfl,fY,B0⟩
    case round =>
     clear fY B0;obtain⟨k,rfl,hk,aP,rfl,HR,HB⟩:=hrel;by_cases hlt:k<n
     ·have aF:(k:Int)<(n:Int):=by omega
      have d8:(0:Int)<=(k:Int):=by omega
      have aM:Aside (Ods wr A n L):=iN.out.below HB.out;obtain⟨b,off,rfl,hb,hc⟩:∃b off,A=some ⟨b,off,none⟩/\b<wr.heap.size/\∀i,i<n->(L[i]!).at wr b (off+i*6):=by
       rcases aM.out.2.2.2 with h|h
       ·omega
       ·exact h
      have kq:=(hc k hlt).2.2.2.2.1;have bV:InR L[k]!.qty:=by
       have:=aM.out.2.2.1 L[k]! (by rw[Sj L k (by rw[aM.out.1];exact hlt)];exact Wt _);exact this.2.2.2.2.1
      have aZ:=JC L k (by rw[aM.out.1];exact hlt);have hg:=JB aK.out.q k;have htr:=ZJ (lot:=lot) aK.out.l1 hg.1;have aR:T<=Qd lot (qs L):=by rw[<-HQ.out.1];exact hab.2
      have bC:0<Qd lot (qs L):=by rw[<-HQ.out.1];exact fG.1
      have hp:=J4 (mode:=2) (all:=T) aK.out.l1 aK.out.q hab.1 aR bC k (by rw[HQ.out.2.2];exact hlt);have hf:=J5 (mode:=2) (all:=T) aK.out.l1 aK.out.q hab.1 aR bC k (by rw[HQ.out.2.2];exact hk);rw[<-HQ.out.1]at hp hf;have HST:=Ou (show QD 2 T T lot (qs L) (k+1)=QD 2 T T lot (qs L) k-min (QD 2 T T lot (qs L) k) (Qj lot ((qs L).getD k 0)-p1 2 T T lot ((qs L).getD k 0)) from rfl);have dA:=Ou (show QA 2 T T lot (qs L) k=p1 2 T T lot ((qs L).getD k 0)+min (QD 2 T T lot (qs L) k) (Qj lot ((qs L).getD k 0)-p1 2 T T lot ((qs L).getD k 0)) from rfl);have c1:wr.cell? ⟨w.heap.size,k,none⟩=some (.int .i64 (p1 2 T T lot ((qs L).getD k 0))):=(HR.out.cell hlt).trans (by rw[Sw (by omega)])
      have f5:=HR.out.frozen k;have cM:Hid (∀w,Calls prog 59 #[.int .i64 lot,.int .i64 L[k]!.qty] w λe w'=>e=.returned (.int .i64 (Qj lot L[k]!.qty))/\w'=w):=Ou (λw=>(Jt lot _ bV aD w).mono λ_ _ h=>⟨h.1,h.2.symm⟩);rw[aZ]at hg htr hp HST dA c1;have hsz:=hb;clear bV aZ hc aM aR bC
      have dV:Hid (∀j,j<n->(if j=k then Value.int .i64 (QA 2 T T lot (qs L) k) else .int .i64 (if j<k then QA 2 T T lot (qs L) j else p1 2 T T lot ((qs L).getD j 0)))=.int .i64 (if j<k+1 then QA 2 T T lot (qs L) j else p1 2 T T lot ((qs L).getD j 0))):=Ou (λj hj=>by
       by_cases e1:j=k
       ·subst e1;rw[Sx rfl,Sx (by omega)]
       ·rw[Sw e1];by_cases e2:j<k
        ·rw[Sx e2,Sx (by omega)]
        ·rw[Sw e2,Sw (by omega)])
      obtain⟨lf,aQ⟩:∃x,x=QD 2 T T lot (qs L) k:=⟨_,rfl⟩
      obtain⟨o,ho⟩:∃x,x=QA 2 T T lot (qs L) k:=⟨_,rfl⟩
      obtain⟨p,bH⟩:∃x,x=p1 2 T T lot L[k]!.qty:=⟨_,rfl⟩
      rw[<-aQ,<-bH]at HST dA;rw[<-ho]at dA dV;rw[<-aQ]at hf ⊢;rw[<-bH]at hp c1;have zC:=Ou aQ;clear aQ ho bH;generalize L[k]!.qty=q at *;generalize Qj lot q=t at *;obtain⟨d,hd⟩:∃d,min lf (t-p)=d:=⟨_,rfl⟩
      have hd2:0<=d/\d<=lf/\d<=t-p:=by omega
      rw[hd]at HST dA
      have iZ:Hid (∀nq,((wr.drewN nq).setCell ⟨w.heap.size,k,none⟩ (.int .i64 (p+d))).rowIs w.heap.size 2 n (λj=>.int .i64 (if j<k+1 then QA 2 T T lot (qs L) j else p1 2 T T lot ((qs L).getD j 0)))):=Ou (λnq=>by
       have h:(wr.drewN nq).rowIs w.heap.size 2 n (λj=>.int .i64 (if j<k then QA 2 T T lot (qs L) j else p1 2 T T lot ((qs L).getD j 0))):=HR.out;rw[<-dA.out]
       exact(h.set k _).congr dV.out)
      have iU:Hid (∀nq,Ok w ((wr.drewN nq).setCell ⟨w.heap.size,k,none⟩ (.int .i64 (p+d)))):=Ou (λnq=>(QJ HB.out nq).setCell (Sq _) _);clear dV HR HB;go_wp2_with fail
      go_quiet (((with_reducible exact Ss (cM.out _))))
      have eK:=Ou (iZ.out nq);have bO:=Ou (iU.out nq);clear iZ iU cM;clear hd;go_wp2_with fail
      generalize (wr.drewN nq).setCell ⟨w.heap.size,k,none⟩ (.int .i64 (p+d))=w5 at eK bO ⊢;go_wp2_with fail
      go_roundg (n-(k+1))
      case measure=>omega
      case rel=>exact⟨k+1,by go_num,by omega,by omega,by rw[HST.out],eK,bO⟩
     ·have aF:¬(k:Int)<(n:Int):=by omega
      have HE:Hid (Shd w n (QA 2 T T lot (qs L)) (.returned (.slice (some ⟨w.heap.size,0,none⟩) n n)) wr):=Ou ⟨_,rfl,Sq _,HB.out,HR.out.congr (λj hj=>by
       show Value.int .i64 (if j<k then _ else _)=_
       rw[Sx (by omega)])⟩
      clear HR HB;go_wp2_with fail
      go_ret;exact HE.out
 ·have eT:all=tq:=by rw[<-dC,Int.min_eq_left (by omega)]
  clear dC;subst eT;have qD:decide (T<all)=false:=Sz hsw;clear hsw;go_enter func60,ntmps60;go_wp2_with (first|((with_reducible refine aO.out.mono ?_);rintro e w2 ⟨rfl,rfl⟩)|((with_reducible refine(gB.out _).mono ?_);rintro e w2 ⟨rfl,rfl⟩))
  generalize w.alloc (.cells (madeCells #[.int .i64 0] n) 2)=w0 at R0 B0 ⊢;clear aO gB hmk hz1 hz2 hz3;go_loopg [13] n (λkx gP wr=>∃k:Nat,gP=.int .i64 k/\k<=n/\n-k<=kx/\Hid (wr.rowIs w.heap.size 2 n (λj=>.int .i64 (if j<k then p1 2 all T lot ((qs L).getD j 0) else 0)))/\Hid (Ok w wr))
  case atStart=>exact⟨0,rfl,by omega,by omega,Ou (R0.out.congr (λj hj=>by rw[Sw (by omega)])),B0⟩
  case round =>
  clear R0 B0;obtain⟨k,rfl,hk,aP,HR,HB⟩:=hrel;by_cases hlt:k<n
  ·have aF:(k:Int)<(n:Int):=by omega
   have d8:(0:Int)<=(k:Int):=by omega
   have aM:Aside (Ods wr A n L):=iN.out.below HB.out;obtain⟨b,off,rfl,hb,hc⟩:∃b off,A=some ⟨b,off,none⟩/\b<wr.heap.size/\∀i,i<n->(L[i]!).at wr b (off+i*6):=by
    rcases aM.out.2.2.2 with h|h
    ·omega
    ·exact h
   have kq:=(hc k hlt).2.2.2.2.1;have bV:InR L[k]!.qty:=by
    have:=aM.out.2.2.1 L[k]! (by rw[Sj L k (by rw[aM.out.1];exact hlt)];exact Wt _);exact this.2.2.2.2.1
   have aZ:=JC L k (by rw[aM.out.1];exact hlt);obtain⟨q,eq⟩:∃q,q=L[k]!.qty:=⟨_,rfl⟩
   rw[<-eq]at kq bV aZ;have hg:=JB aK.out.q k;rw[aZ]at hg;obtain⟨tt,ht⟩:∃t,t=Qj lot q:=⟨_,rfl⟩
   have htr:=ZJ (lot:=lot) aK.out.l1 hg.1;rw[<-ht]at htr;have hts:=Yr aK.out.l1 aK.out.q k (by rw[HQ.out.2.2];exact hlt);rw[aZ,<-ht,<-HQ.out.1]at hts;have nC:=Ub (a:=all) (t:=tt) (T:=T) hab.1 htr.1 fG.1 hts Oz;obtain⟨pd,i4⟩:∃p,p=all*tt / T:=⟨_,rfl⟩
   rw[<-i4]at nC;obtain⟨fH,fI,uO,uP⟩:=nC;obtain⟨pp,bH⟩:∃p,p=p1 2 all T lot ((qs L).getD k 0):=⟨_,rfl⟩
   have hpe:pp=Qj lot pd:=by rw[bH,aZ,i4,ht];rfl
   have cM:Hid (∀w,Calls prog 59 #[.int .i64 lot,.int .i64 q] w λe w'=>e=.returned (.int .i64 tt)/\w=w'):=Ou (λw=>by rw[ht];exact Jt lot q bV aD w);have jB:Hid (∀w,Calls prog 59 #[.int .i64 lot,.int .i64 pd] w λe w'=>e=.returned (.int .i64 pp)/\w=w'):=Ou (λw=>by rw[hpe];exact Jt lot pd ⟨by omega,by omega⟩ aD w)
   have jW:Hid (∀w,Calls prog 76 #[.int .i64 all,.int .i64 tt,.int .i64 T,.int .i64 1] w λe w'=>e=.returned (.tuple #[.int .i64 pd,.int .i64 0])/\Ok w w'):=Ou (λw=>by
    have h:=Cz all tt T 1 ⟨by omega,by omega⟩ ⟨by omega,by omega⟩ ⟨by omega,by omega⟩ w;rw[fH,fI]at h
    exact h)
   have HN:Hid (∀w3,Ok wr w3->(w3.setCell ⟨w.heap.size,k,none⟩ (.int .i64 pp)).rowIs w.heap.size 2 n (λj=>.int .i64 (if j<k+1 then p1 2 all T lot ((qs L).getD j 0) else 0))):=Ou (λw3 h3=>by
    refine((HR.out.of_block (h3.block _ HR.out.lt)).set k _).congr (λj hj=>?_);by_cases e1:j=k
    ·subst e1;rw[Sx rfl,Sx Oz,bH]
    ·rw[Sw e1];by_cases e2:j<k
     ·rw[Sx e2,Sx (by omega)]
     ·rw[Sw e2,Sw (by omega)])
   have tD:=Ou (λ(w3:World) (h3:Ok wr w3)=>(⟨((HR.out.of_block (h3.block _ HR.out.lt)).cell hlt),(HR.out.of_block (h3.block _ HR.out.lt)).frozen k⟩:_/\_));have hbl:=HR.out.lt;clear hc bV aZ eq hg ht htr hts i4 fH fI bH hpe aM HR;go_wp2_with (first|((with_reducible refine(cM.out _).mono ?_);rintro e w' ⟨rfl,rfl⟩)|fail)
   ((with_reducible refine(jW.out _).mono ?_);rintro e w3 ⟨rfl,b3⟩);obtain⟨cc,ff⟩:=tD.out w3 b3;have eK:=Ou (HN.out w3 b3);have bO:Hid (Ok w (w3.setCell ⟨w.heap.size,k,none⟩ (.int .i64 pp))):=Ou ((HB.out.trans (b3.mono HB.out.size)).setCell (Sq _) _);clear HN tD HB jW b3;go_wp2_with (first|((with_reducible refine(jB.out _).mono ?_);rintro e w' ⟨rfl,rfl⟩)|fail)
   generalize w3.setCell ⟨w.heap.size,k,none⟩ (.int .i64 pp)=w5 at eK bO ⊢;go_roundg (n-(k+1))
   case measure=>omega
   case rel=>exact⟨k+1,by go_num,by omega,by omega,eK,bO⟩
  have aF:¬(k:Int)<(n:Int):=by omega
  obtain⟨w1,jE⟩:∃w1,w1=wr:=⟨_,rfl⟩
  rw[<-jE]at HR HB ⊢
  have j4:Hid (w1.rowIs w.heap.size 2 n (λj=>.int .i64 (p1 2 all T lot ((qs L).getD j 0)))):=Ou (HR.out.congr (λj hj=>by
   show Value.int .i64 (if j<k then _ else _)=_
   rw[Sx (by omega)]))
  have B0:=HB;clear HR HB jE hlt;have bU:Hid (w1.rowIs w.heap.size 2 n (λj=>.int .i64 (p1 2 all T lot ((qs L).getD j 0)))):=j4;clear j4;go_wp2_with fail
  go_loopg [10,16] n (λkx cQ i7 wr=>∃k:Nat,i7=.int .i64 k/\k<=n/\n-k<=kx/\cQ=.int .i64 (Qs 2 all T lot (qs L) k)/\wr=w1)
  case atStart=>exact⟨0,rfl,by omega,by omega,rfl,rfl⟩
  case round =>
   obtain⟨k,rfl,hk,aP,rfl,rfl⟩:=hrel;have aR:all<=Qd lot (qs L):=by rw[<-HQ.out.1];exact hab.2
   have bC:0<Qd lot (qs L):=by rw[<-HQ.out.1];exact fG.1
   by_cases hlt:k<n
   ·have aF:(k:Int)<(n:Int):=by omega
    have d8:(0:Int)<=(k:Int):=by omega
    have hf:=KI (mode:=2) (all:=all) aK.out.l1 aK.out.q hab.1 aR bC k (by rw[HQ.out.2.2];exact hk);rw[<-HQ.out.1]at hf;obtain⟨⟨f1,f2,_⟩,f3⟩:=hf;obtain⟨f4,f5,_,_⟩:=f3 (by rw[HQ.out.2.2];exact hlt);clear f3 aR bC;have c1:=bU.out.cell hlt;have HST:=Ou (show Qs 2 all T lot (qs L) (k+1)=Qs 2 all T lot (qs L) k-p1 2 all T lot ((qs L).getD k 0) from rfl);generalize Qs 2 all T lot (qs L) k=S at *;generalize p1 2 all T lot ((qs L).getD k 0)=p at *;go_wp2_with fail
    go_roundg (n-(k+1))
    case measure=>omega
    case rel=>exact⟨k+1,by go_num,by omega,by omega,by rw[HST.out],rfl⟩
   ·have aF:¬(k:Int)<(n:Int):=by omega
    have gV:k=n:=by omega
    have fY:Hid (wr.rowIs w.heap.size 2 n (λj=>.int .i64 (if j<0 then QA 2 all T lot (qs L) j else p1 2 all T lot ((qs L).getD j 0)))):=Ou (bU.out.congr (λj hj=>by rw[Sw (by omega)]));have HL:Hid (Qs 2 all T lot (qs L) k=QD 2 all T lot (qs L) 0):=Ou (by show _=Qs 2 all T lot (qs L) (qs L).length;rw[HQ.out.2.2,gV]);rw[HL.out];clear bU hlt gV aR bC aP;go_wp2_with fail
    go_loopg [10,17] n (λkx cQ iJ wr=>∃k:Nat,iJ=.int .i64 k/\k<=n/\n-k<=kx/\cQ=.int .i64 (QD 2 all T lot (qs L) k)/\Hid (wr.rowIs w.heap.size 2 n (λj=>.int .i64 (if j<k then QA 2 all T lot (qs L) j else p1 2 all T lot ((qs L).getD j 0))))/\Hid (Ok w wr))
    case atStart=>exact⟨0,rfl,by omega,by omega,rfl,fY,B0⟩
    case round =>
     clear fY B0;obtain⟨k,rfl,hk,aP,rfl,HR,HB⟩:=hrel;by_cases hlt:k<n
     ·have aF:(k:Int)<(n:Int):=by omega
      have d8:(0:Int)<=(k:Int):=by omega
      have aM:Aside (Ods wr A n L):=iN.out.below HB.out;obtain⟨b,off,rfl,hb,hc⟩:∃b off,A=some ⟨b,off,none⟩/\b<wr.heap.size/\∀i,i<n->(L[i]!).at wr b (off+i*6):=by
       rcases aM.out.2.2.2 with h|h
       ·omega
       ·exact h
      have kq:=(hc k hlt).2.2.2.2.1;have bV:InR L[k]!.qty:=by
       have:=aM.out.2.2.1 L[k]! (by rw[Sj L k (by rw[aM.out.1];exact hlt)];exact Wt _);exact this.2.2.2.2.1
      have aZ:=JC L k (by rw[aM.out.1];exact hlt);have hg:=JB aK.out.q k;have htr:=ZJ (lot:=lot) aK.out.l1 hg.1;have aR:all<=Qd lot (qs L):=by rw[<-HQ.out.1];exact hab.2
      have bC:0<Qd lot (qs L):=by rw[<-HQ.out.1];exact fG.1
      have hp:=J4 (mode:=2) (all:=all) aK.out.l1 aK.out.q hab.1 aR bC k (by rw[HQ.out.2.2];exact hlt);have hf:=J5 (mode:=2) (all:=all) aK.out.l1 aK.out.q hab.1 aR bC k (by rw[HQ.out.2.2];exact hk);rw[<-HQ.out.1]at hp hf;have HST:=Ou (show QD 2 all T lot (qs L) (k+1)=QD 2 all T lot (qs L) k-min (QD 2 all T lot (qs L) k) (Qj lot ((qs L).getD k 0)-p1 2 all T lot ((qs L).getD k 0)) from rfl);have dA:=Ou (show QA 2 all T lot (qs L) k=p1 2 all T lot ((qs L).getD k 0)+min (QD 2 all T lot (qs L) k) (Qj lot ((qs L).getD k 0)-p1 2 all T lot ((qs L).getD k 0)) from rfl)
      have c1:wr.cell? ⟨w.heap.size,k,none⟩=some (.int .i64 (p1 2 all T lot ((qs L).getD k 0))):=(HR.out.cell hlt).trans (by rw[Sw (by omega)]);have f5:=HR.out.frozen k;have cM:Hid (∀w,Calls prog 59 #[.int .i64 lot,.int .i64 L[k]!.qty] w λe w'=>e=.returned (.int .i64 (Qj lot L[k]!.qty))/\w'=w):=Ou (λw=>(Jt lot _ bV aD w).mono λ_ _ h=>⟨h.1,h.2.symm⟩);rw[aZ]at hg htr hp HST dA c1;have hsz:=hb;clear bV aZ hc aM aR bC
      have dV:Hid (∀j,j<n->(if j=k then Value.int .i64 (QA 2 all T lot (qs L) k) else .int .i64 (if j<k then QA 2 all T lot (qs L) j else p1 2 all T lot ((qs L).getD j 0)))=.int .i64 (if j<k+1 then QA 2 all T lot (qs L) j else p1 2 all T lot ((qs L).getD j 0))):=Ou (λj hj=>by
       by_cases e1:j=k
       ·subst e1;rw[Sx rfl,Sx (by omega)]
       ·rw[Sw e1];by_cases e2:j<k
        ·rw[Sx e2,Sx (by omega)]
        ·rw[Sw e2,Sw (by omega)])
      obtain⟨lf,aQ⟩:∃x,x=QD 2 all T lot (qs L) k:=⟨_,rfl⟩
      obtain⟨o,ho⟩:∃x,x=QA 2 all T lot (qs L) k:=⟨_,rfl⟩
      obtain⟨p,bH⟩:∃x,x=p1 2 all T lot L[k]!.qty:=⟨_,rfl⟩
      rw[<-aQ,<-bH]at HST dA;rw[<-ho]at dA dV;rw[<-aQ]at hf ⊢;rw[<-bH]at hp c1;have zC:=Ou aQ;clear aQ ho bH;generalize L[k]!.qty=q at *;generalize Qj lot q=t at *;obtain⟨d,hd⟩:∃d,min lf (t-p)=d:=⟨_,rfl⟩
      have hd2:0<=d/\d<=lf/\d<=t-p:=by omega
      rw[hd]at HST dA
      have iZ:Hid (∀nq,((wr.drewN nq).setCell ⟨w.heap.size,k,none⟩ (.int .i64 (p+d))).rowIs w.heap.size 2 n (λj=>.int .i64 (if j<k+1 then QA 2 all T lot (qs L) j else p1 2 all T lot ((qs L).getD j 0)))):=Ou (λnq=>by
       have h:(wr.drewN nq).rowIs w.heap.size 2 n (λj=>.int .i64 (if j<k then QA 2 all T lot (qs L) j else p1 2 all T lot ((qs L).getD j 0))):=HR.out;rw[<-dA.out]
       exact(h.set k _).congr dV.out)
      have iU:Hid (∀nq,Ok w ((wr.drewN nq).setCell ⟨w.heap.size,k,none⟩ (.int .i64 (p+d)))):=Ou (λnq=>(QJ HB.out nq).setCell (Sq _) _);clear dV HR HB;go_wp2_with fail
      go_quiet (((with_reducible exact Ss (cM.out _))))
      have eK:=Ou (iZ.out nq);have bO:=Ou (iU.out nq);clear iZ iU cM;clear hd;go_wp2_with fail
      generalize (wr.drewN nq).setCell ⟨w.heap.size,k,none⟩ (.int .i64 (p+d))=w5 at eK bO ⊢;go_wp2_with fail
      go_roundg (n-(k+1))
      case measure=>omega
      case rel=>exact⟨k+1,by go_num,by omega,by omega,by rw[HST.out],eK,bO⟩
     ·have aF:¬(k:Int)<(n:Int):=by omega
      have HE:Hid (Shd w n (QA 2 all T lot (qs L)) (.returned (.slice (some ⟨w.heap.size,0,none⟩) n n)) wr):=Ou ⟨_,rfl,Sq _,HB.out,HR.out.congr (λj hj=>by
       show Value.int .i64 (if j<k then _ else _)=_
       rw[Sx (by omega)])⟩
      clear HR HB;go_wp2_with fail
      go_ret;exact HE.out
end
section
open Go.RowKit Go.Lib Go.Maps Go.Deep
def gtN (mode lot v:Int)(Q:List Int):Nat->Int:=QA mode (Zk lot v (Qd lot Q)) (Qd lot Q) lot Q
def gtS (mode lot v:Int)(Q:List Int):Nat->Int:=Je mode (Zk lot v (Qd lot Q)) (Qd lot Q) lot Q
theorem YO {mode lot v:Int}{Q:List Int}(h:ShOk Q v lot):0<=Zk lot v (Qd lot Q)/\Zk lot v (Qd lot Q)<=v/\Zk lot v (Qd lot Q)<=Qd lot Q:=by
 have h1:=ZJ h.l1 (show 0<=v by have:=h.y1;omega)
 have h2:=h.t1
 unfold Zk;omega
theorem CI {mode lot v:Int}{Q:List Int}(h:ShOk Q v lot){k:Nat}(hk:k<Q.length):0<=gtN mode lot v Q k/\gtN mode lot v Q k<=Q.getD k 0:=by
 have ha:=YO (mode:=mode) h
 have h1:=DH (mode:=mode) h.l1 h.q ha.1 ha.2.2 h.t1 k hk
 have h2:=ZJ h.l1 (JB h.q k).1
 unfold gtN;omega
theorem qfx {mode lot v:Int}{Q:List Int}(h:ShOk Q v lot):gtS mode lot v Q Q.length=Zk lot v (Qd lot Q):=by
 have ha:=YO (mode:=mode) h
 exact qcZ (mode:=mode) h.l1 h.q ha.1 ha.2.2 h.t1
theorem qfy {mode lot v:Int}{Q:List Int}(h:ShOk Q v lot){k:Nat}(hk:k<=Q.length):0<=gtS mode lot v Q k/\gtS mode lot v Q k<=Zk lot v (Qd lot Q):=by
 have ha:=YO (mode:=mode) h
 have h1:=qc0 (mode:=mode) h.l1 h.q ha.1 ha.2.2 h.t1 k hk
 refine⟨h1.1,?_⟩
 have mono:∀m,k+m<=Q.length->gtS mode lot v Q k<=gtS mode lot v Q (k+m):=by
  intro m hm
  induction m with
  | zero=>exact Fw _
  | succ m ih =>
   have:=ih Oz;have hg:=CI (mode:=mode) h (k:=k+m) Oz;have e:gtS mode lot v Q (k+(m+1))=gtS mode lot v Q (k+m)+gtN mode lot v Q (k+m):=rfl;omega
 have:=mono (Q.length-k) Oz
 rw[show k+(Q.length-k)=Q.length by omega,qfx h]at this
 exact this
def YP (w:World)(mode:Int)(n:Nat)(Q:List Int)(qty lot:Int)(e:Ending)(w':World):Prop :=
 ∃A m c,e=.returned (.slice A m c)/\m<=n/\Hid (Ok w w'/\(m=0∨∃b,A=some ⟨b,0,none⟩/\w.heap.size<=b/\w'.rowIs b 2 m (λi=>.int .i64 (gtN mode lot qty Q i)))/\((m=0/\Jf mode Q qty lot)∨(m=n/\(mode=1∨mode=2)/\ShOk Q qty lot)))
theorem qfz (mode:Int)(A:Option Addr)(n c:Nat)(L:List Od)(qty lot:Int)(aD:InR lot)(w:World)(HO:Ods w A n L)(hn:n<=1000) :
  Calls prog 94 #[.int .i64 mode,.slice A n c,.int .i64 qty,.int .i64 lot] w (YP w mode n (qs L) qty lot):=by
 by_cases h:Jf mode (qs L) qty lot
 ·exact(qc8 mode A n c L qty lot aD w HO hn h).mono λe w' hh=>⟨none,0,0,hh.1,by omega,Ou ⟨hh.2,.inl rfl,.inl ⟨rfl,h⟩⟩⟩
 ·obtain⟨hm,hok⟩:=VE h;rcases hm with rfl|rfl
  ·exact(qdf A n c L qty lot aD w HO hn hok).mono λe w' ⟨b,h1,h2,h3,h4⟩=>⟨_,n,n,h1,Sq _,Ou ⟨h3,.inr ⟨b,rfl,h2,h4⟩,.inr ⟨rfl,.inl rfl,hok⟩⟩⟩
  ·exact(qdg A n c L qty lot aD w HO hn hok).mono λe w' ⟨b,h1,h2,h3,h4⟩=>⟨_,n,n,h1,Sq _,Ou ⟨h3,.inr ⟨b,rfl,h2,h4⟩,.inr ⟨rfl,.inr rfl,hok⟩⟩⟩
theorem qfA (mode:Int)(A:Option Addr)(n c:Nat)(L:List Od)(qty lot:Int)(aD:InR lot)(w:World)(HO:Ods w A n L)(hn:n<=1000) :
  Calls prog 60 #[.int .i64 mode,.slice A n c,.int .i64 qty,.int .i64 lot] w (YP w mode n (qs L) qty lot):=by
 by_cases h:Jf mode (qs L) qty lot
 ·exact(qfu mode A n c L qty lot aD w HO hn h).mono λe w' hh=>⟨none,0,0,hh.1,by omega,Ou ⟨hh.2,.inl rfl,.inl ⟨rfl,h⟩⟩⟩
 ·obtain⟨hm,hok⟩:=VE h;rcases hm with rfl|rfl
  ·exact(qfv A n c L qty lot aD w HO hn hok).mono λe w' ⟨b,h1,h2,h3,h4⟩=>⟨_,n,n,h1,Sq _,Ou ⟨h3,.inr ⟨b,rfl,h2,h4⟩,.inr ⟨rfl,.inl rfl,hok⟩⟩⟩
  ·exact(qfw A n c L qty lot aD w HO hn hok).mono λe w' ⟨b,h1,h2,h3,h4⟩=>⟨_,n,n,h1,Sq _,Ou ⟨h3,.inr ⟨b,rfl,h2,h4⟩,.inr ⟨rfl,.inr rfl,hok⟩⟩⟩
end
section
open Go.RowKit Go.Lib
theorem qfB:(prog.info? 158).map (·.size)=some 2:=by kernel_rfl
theorem VM {fn:Func}{p q:Tmp}(h:fn.results=#[.cell p 158,.tmp q])(tmps:Array Value)(w:World)(g:Nat)(v:Value)(hp:tmps.getD p undef=.pointer (some ⟨g,0,none⟩))(hq:tmps.getD q undef=v)(a b:Bool)(t:TypeId)
  (hg:w.heap[g]? = some (.cells #[.bool a,.bool b] t (0,0))):(results fn tmps).run prog w=.ok (.tuple #[.agg #[.bool a,.bool b],v]) w:=by
 have hp':tmps[p]?.getD undef=.pointer (some ⟨g,0,none⟩):=by simpa using hp
 have hq':tmps[q]?.getD undef=v:=by simpa using hq
 simp[results,h,hp',hq',asAddr,run_loadVar_row w g _ _ _ (0,0) _ hg underlying158 rfl qfB]
def QV (p:Int):Bool:=(p==1)||(p==2)||(p==3)||(p==4)
def drN (p:Int):Bool:=(p==3)||(p==4)
def stN (p:Int):Bool:=(p==2)||(p==4)
theorem KR (p:Int)(w:World) :
  Calls prog 86 #[.int .i64 p] w λe w'=>e=.returned (.tuple #[.agg #[.bool (drN p),.bool (stN p)],.bool (QV p)])/\Ok w w':=by
 by_cases p1:p=1
 ·subst p1;go_enter func86,ntmps86;go_wp2_with fail
  (with_reducible apply bodyPost_ret)
  (apply VM;rfl;rfl;rfl;exact heap_alloc_new _ _)
  rfl;exact⟨rfl,by first|(exact zf1)|go_grown⟩
 by_cases p2:p=2
 ·subst p2;go_enter func86,ntmps86;go_wp2_with fail
  (with_reducible apply bodyPost_ret)
  (apply VM;rfl;rfl;rfl;exact heap_alloc_new _ _)
  rfl;exact⟨rfl,by first|(exact zf1)|go_grown⟩
 by_cases p3:p=3
 ·subst p3;go_enter func86,ntmps86;go_wp2_with fail
  (with_reducible apply bodyPost_ret)
  (apply VM;rfl;rfl;rfl;exact heap_alloc_new _ _)
  rfl;exact⟨rfl,by first|(exact zf1)|go_grown⟩
 by_cases p4:p=4
 ·subst p4;go_enter func86,ntmps86;go_wp2_with fail
  (with_reducible apply bodyPost_ret)
  (apply VM;rfl;rfl;rfl;exact heap_alloc_new _ _)
  rfl;exact⟨rfl,by first|(exact zf1)|go_grown⟩
 have e1:(p==1)=false:=by simp[p1]
 have e2:(p==2)=false:=by simp[p2]
 have e3:(p==3)=false:=by simp[p3]
 have e4:(p==4)=false:=by simp[p4]
 have d1:drN p=false:=by unfold drN;rw[e3,e4];rfl
 have d2:stN p=false:=by unfold stN;rw[e2,e4];rfl
 have d3:QV p=false:=by unfold QV;rw[e1,e2,e3,e4];rfl
 rw[d1,d2,d3]
 clear d1 d2 d3 p1 p2 p3 p4
 go_enter func86,ntmps86
 go_wp2_with fail
 (with_reducible apply bodyPost_ret)
 (apply VM;rfl;rfl;rfl;exact heap_alloc_new _ _)
 rfl
 exact⟨rfl,by first|(exact zf1)|go_grown⟩
theorem Ut (p:Int)(w:World) :
  Calls prog 88 #[.int .i64 p] w λe w'=>e=.returned (.bool (drN p))/\Ok w w':=by
 have HD:Hid (Calls prog 86 #[.int .i64 p] w λe w'=>e=.returned (.tuple #[.agg #[.bool (drN p),.bool (stN p)],.bool (QV p)])/\Ok w w'):=Ou (KR p w)
 generalize drN p=d at HD ⊢
 generalize stN p=s at HD ⊢
 generalize QV p=k at HD ⊢
 go_enter func88,ntmps88
 go_wp2_with ((with_reducible refine HD.out.mono ?_);rintro e w1 ⟨rfl,b1⟩)
 go_ret
 exact⟨rfl,by first|exact b1.alloc b1.size _|(exact zf1)|go_grown⟩
theorem Uu (p:Int)(w:World) :
  Calls prog 89 #[.int .i64 p] w λe w'=>e=.returned (.bool (stN p))/\Ok w w':=by
 have HD:Hid (Calls prog 86 #[.int .i64 p] w λe w'=>e=.returned (.tuple #[.agg #[.bool (drN p),.bool (stN p)],.bool (QV p)])/\Ok w w'):=Ou (KR p w)
 generalize drN p=d at HD ⊢
 generalize stN p=s at HD ⊢
 generalize QV p=k at HD ⊢
 go_enter func89,ntmps89
 go_wp2_with ((with_reducible refine HD.out.mono ?_);rintro e w1 ⟨rfl,b1⟩)
 go_ret
 exact⟨rfl,by first|exact b1.alloc b1.size _|(exact zf1)|go_grown⟩
theorem qfC (p:Int)(w:World) :
  Calls prog 61 #[.int .i64 p] w λe w'=>e=.returned (.bool (drN p))/\w=w':=by
 by_cases h1:p=3
 ·subst h1;go_enter func61,ntmps61;go_wp2_with fail
  go_ret;exact⟨rfl,rfl⟩
 by_cases h2:p=4
 ·subst h2;go_enter func61,ntmps61;go_wp2_with fail
  go_ret;exact⟨rfl,rfl⟩
 have e1:(p==3)=false:=by simp[h1]
 have e2:(p==4)=false:=by simp[h2]
 have d:drN p=false:=by unfold drN;rw[e1,e2];rfl
 rw[d]
 clear d h1 h2
 go_enter func61,ntmps61
 go_wp2_with fail
 go_ret
 exact⟨rfl,rfl⟩
theorem qfD (p:Int)(w:World) :
  Calls prog 62 #[.int .i64 p] w λe w'=>e=.returned (.bool (stN p))/\w=w':=by
 by_cases h1:p=2
 ·subst h1;go_enter func62,ntmps62;go_wp2_with fail
  go_ret;exact⟨rfl,rfl⟩
 by_cases h2:p=4
 ·subst h2;go_enter func62,ntmps62;go_wp2_with fail
  go_ret;exact⟨rfl,rfl⟩
 have e1:(p==2)=false:=by simp[h1]
 have e2:(p==4)=false:=by simp[h2]
 have d:stN p=false:=by unfold stN;rw[e1,e2];rfl
 rw[d]
 clear d h1 h2
 go_enter func62,ntmps62
 go_wp2_with fail
 go_ret
 exact⟨rfl,rfl⟩
def Z0 (p a:Int)(x:Od):Bool:=!(p==1)&&(x.acc==a)
def Bxs (w:World)(c:Nat)(p a:Int):Prop:=w.heap[c]? = some (.cells #[.int .i64 p] 3 (0,0))/\w.heap[c+1]? = some (.cells #[.int .i64 a] 3 (0,0))
theorem Bxs.below {w w':World}{c:Nat}{p a:Int}{B:Nat}(h:Bxs w c p a)(hb:Below B w w')(hc:c+1<B):Bxs w' c p a :=
 ⟨(hb.block c Oz).trans h.1,(hb.block (c+1) hc).trans h.2⟩
theorem Bxs.c0 {w:World}{c:Nat}{p a:Int}(h:Bxs w c p a):w.cell? ⟨c,0,none⟩=some (.int .i64 p):=by rw[cell_of_row _ _ _ _ _ _ h.1];rfl
theorem Bxs.c1 {w:World}{c:Nat}{p a:Int}(h:Bxs w c p a):w.cell? ⟨c+1,0,none⟩=some (.int .i64 a):=by rw[cell_of_row _ _ _ _ _ _ h.2];rfl
theorem qfE (c:Nat)(p a:Int)(x:Od)(w:World)(h:Bxs w c p a) :
  Calls prog 141 #[.agg #[.int .u64 x.id,.int .i64 x.acc,.int .i64 x.side,.int .i64 x.price,.int .i64 x.qty,.int .u64 x.seq],.pointer (some ⟨c,0,none⟩),.pointer (some ⟨c+1,0,none⟩)] w λe w'=>e=.returned (.bool (Z0 p a x))/\Ok w w':=by
 obtain⟨r,hr⟩:∃r,r=Z0 p a x:=⟨_,rfl⟩
 rw[<-hr]
 unfold Z0 at hr
 obtain⟨i,ac,s,pr,q,sq⟩:=x
 have hl:c+1<w.heap.size:=Qc h.2
 have b0:Ok w (w.alloc (.cells #[.int .u64 i,.int .i64 ac,.int .i64 s,.int .i64 pr,.int .i64 q,.int .u64 sq] 38)):=(Oq _ _).alloc (Sq _) _
 have k0:=(h.below b0 hl).c0
 have k1:=(h.below b0 hl).c1
 clear h
 show Calls prog 141 #[.agg #[.int .u64 i,.int .i64 ac,.int .i64 s,.int .i64 pr,.int .i64 q,.int .u64 sq],.pointer (some ⟨c,0,none⟩),.pointer (some ⟨c+1,0,none⟩)] w _
 by_cases h1:p=1
 ·subst h1;have hf:r=false:=by rw[hr];rfl
  subst hf;clear hr;go_enter func141,ntmps141;go_wp2_with fail
  go_ret;exact⟨rfl,b0⟩
 have e1:(p==1)=false:=by simp[h1]
 have e2:(p != 1)=true:=by simp[h1]
 rw[e1]at hr
 by_cases h2:ac=a
 ·subst h2;have hf:r=true:=by rw[hr];simp
  subst hf;clear hr h1;have e3:(ac==ac)=true:=by simp
  go_enter func141,ntmps141;go_wp2_with fail
  go_ret;exact⟨rfl,b0⟩
 ·have e3:(ac==a)=false:=by simp[h2]
  have hf:r=false:=by rw[hr];simp[e3]
  subst hf;clear hr h1 h2;go_enter func141,ntmps141;go_wp2_with fail
  go_ret;exact⟨rfl,b0⟩
end
section
open Go.RowKit Go.Lib Go.Sort
def frO (p a:Int)(L:List Od):Nat:=L.findIdx (Z0 p a)
theorem Uv (p a:Int)(L:List Od):frO p a L<=L.length:=List.findIdx_le_length
theorem CJ {p a:Int}{L:List Od}{k:Nat}(hk:k<L.length)(h:∀j,j<k->Z0 p a L[j]! = false)(ht:Z0 p a L[k]! = true):frO p a L=k:=by
 unfold frO
 rw[List.findIdx_eq hk]
 refine⟨by rw[Sj L k hk]at ht;exact ht,λj hj=>?_⟩
 have:=h j hj
 rwa [Sj L j (by omega)]at this
theorem Uw {p a:Int}{L:List Od}(h:∀j,j<L.length->Z0 p a L[j]! = false):frO p a L=L.length:=by
 unfold frO
 rw[List.findIdx_eq_length]
 intro x hx
 obtain⟨j,hj,rfl⟩:=List.mem_iff_getElem.1 hx
 have:=h j hj
 rwa [Sj L j hj]at this
def J7 (p a:Int)(L:List Od):Int:=if frO p a L<L.length then (frO p a L:Int) else -1
theorem qfF (g:Nat)(p a:Int)(A:Option Addr)(n c:Nat)(L:List Od)(w:World)(H:Ods w A n L)(K:Bxs w g p a) :
  Calls prog 119 #[.slice A n c,.func (.func 141) #[] #[.pointer (some ⟨g,0,none⟩),.pointer (some ⟨g+1,0,none⟩)]] w λe w'=>e=.returned (.int .i64 (J7 p a L))/\Ok w w':=by
 have HT:=Ou H
 have HL:=Ou H.1
 have HK:=Ou K
 have hg:g+1<w.heap.size:=Qc K.2
 have xV:(n:Int)<=9223372036854775807:=by have:=H.2.1;omega
 clear H K
 go_enter func119,ntmps119
 go_wp2_with fail
 go_loopg [8] n (λkx s8 wr=>∃k:Nat,s8=.int .i64 (k:Int)/\k<=n/\n-k<=kx/\Hid ((∀j,j<k->Z0 p a L[j]! = false)/\Ok w wr))
 case atStart=>exact⟨0,rfl,by omega,by omega,Ou ⟨λj hj=>by omega,Below.refl _ _⟩⟩
 case round =>
  obtain⟨k,rfl,hk,aP,hd⟩:=hrel;by_cases hlt:k<n
  ·have aF:(k:Int)<(n:Int):=by omega
   have d8:(0:Int)<=(k:Int):=by omega
   have hB:=hd.out.2;have HH:=HT.out.below hB;obtain⟨b,off,rfl,hb,hc⟩:∃b off,A=some ⟨b,off,none⟩/\b<wr.heap.size/\∀i,i<n->(L[i]!).at wr b (off+i*6):=by
    rcases HH.2.2.2 with h|h
    ·omega
    ·exact h
   have hx:=hc k hlt;obtain⟨x,ex⟩:∃x,L[k]! = x:=⟨_,rfl⟩
   rw[ex]at hx;have HX:=Ou ex;have HW:=Ou (λw1 (h1:Ok w w1)=>qfE g p a x w1 (HK.out.below h1 hg));clear ex hc HH;obtain⟨x0,x1,x2,x3,x4,x5⟩:=hx
   cases cV:Z0 p a x
   ·have HF:Hid (∀j,j<k+1->Z0 p a L[j]! = false):=Ou (λj hj=>by
     by_cases e:j<k
     ·exact hd.out.1 j e
     ·obtain rfl:j=k:=by omega
      rw[HX.out];exact cV)
    rw[cV]at HW;have HD:=Ou hB;clear hB hd cV;go_wp2_with fail
    ((with_reducible refine(HW.out _ HD.out).mono ?_);rintro e w1 ⟨rfl,hd1⟩);have hD:Hid (Ok w w1):=HD.out.trans (hd1.mono HD.out.size);clear hd1 HW;go_wp2_with fail
    go_roundg (n-(k+1))
    case measure=>omega
    case rel=>exact⟨k+1,by go_num,by omega,by omega,Ou ⟨HF.out,hD.out⟩⟩
   ·have HF:Hid (J7 p a L=(k:Int)):=Ou (by
     have e:=CJ (by rw[HL.out];exact hlt) hd.out.1 (by rw[HX.out];exact cV);unfold J7
     rw[e,Sx (by rw[HL.out];exact hlt)])
    rw[cV]at HW;have HD:=Ou hB;clear hB hd cV;go_wp2_with fail
    ((with_reducible refine(HW.out _ HD.out).mono ?_);rintro e w1 ⟨rfl,hd1⟩);have hD:Hid (Ok w w1):=HD.out.trans (hd1.mono HD.out.size);clear hd1 HW;go_wp2_with fail
    go_ret;rw[HF.out];exact⟨rfl,hD.out⟩
  ·have aF:¬(k:Int)<(n:Int):=by omega
   have HF:Hid (J7 p a L = -1):=Ou (by
    have e:=Uw (p:=p) (a:=a) (L:=L) (λj hj=>hd.out.1 j (by rw[HL.out]at hj;omega));unfold J7
    rw[e,Sw (by omega)])
   go_wp2_with fail
   go_ret;rw[HF.out];exact⟨rfl,hd.out.2⟩
def CK (w:World)(p a:Int):World:=(w.alloc (.cells #[.int .i64 p] 3)).alloc (.cells #[.int .i64 a] 3)
theorem qfG (w:World)(p a:Int):Bxs (CK w p a) w.heap.size p a/\Ok w (CK w p a):=by
 refine⟨⟨?_,?_⟩,((Oq _ _).alloc (Sq _) _).alloc Oy _⟩
 ·show ((w.heap.push _).push _)[w.heap.size]? = _;rw[Array.getElem?_push_lt Oy,Array.getElem_push_eq]
 ·show ((w.heap.push _).push _)[w.heap.size+1]? = _;have e:w.heap.size+1=(w.heap.push (.cells #[.int .i64 p] 3)).size:=by simp
  rw[e,Array.getElem?_push_size]
theorem CL (p a:Int)(w:World) :
  Calls prog 120 #[.int .i64 p,.int .i64 a] w λe w'=>∃g,e=.returned (.func (.func 141) #[] #[.pointer (some ⟨g,0,none⟩),.pointer (some ⟨g+1,0,none⟩)])/\Hid (Bxs w' g p a/\Ok w w'):=by
 go_enter func120,ntmps120
 go_wp2_with fail
 go_ret
 exact⟨_,rfl,qfG w p a⟩
def Zd (p a:Int)(L:List Od):Nat:=if QV p=true then frO p a L else 0
theorem qfH (p a:Int)(L:List Od):Zd p a L<=L.length:=by
 unfold Zd;split
 ·exact Uv p a L
 ·omega
theorem Ux (p a:Int)(A:Option Addr)(n c:Nat)(L:List Od)(w:World)(H:Ods w A n L) :
  Calls prog 87 #[.int .i64 p,.int .i64 a,.slice A n c] w λe w'=>e=.returned (.int .i64 (Zd p a L))/\Ok w w':=by
 obtain⟨r,hr⟩:∃r,r=Zd p a L:=⟨_,rfl⟩
 rw[<-hr]
 unfold Zd at hr
 have HL:=H.1
 have HH:=Ou H
 have HD:Hid (Calls prog 86 #[.int .i64 p] w λe w'=>e=.returned (.tuple #[.agg #[.bool (drN p),.bool (stN p)],.bool (QV p)])/\Ok w w'):=Ou (KR p w)
 clear H
 generalize drN p=d at HD
 generalize stN p=s at HD
 cases hp:QV p with
 | false =>
  rw[hp]at hr HD;obtain rfl:r=0:=by rw[hr];rfl
  clear hr HL HH hp;go_enter func87,ntmps87;go_wp2_with fail
  ((with_reducible refine HD.out.mono ?_);rintro e w1 ⟨rfl,b1⟩);go_wp2_with fail
  go_ret;exact⟨rfl,b1.alloc b1.size _⟩
 | true =>
  rw[hp]at hr HD;rw[Sx rfl]at hr;clear hp;have HI:Hid (∀wr g,Ok w wr->Bxs wr g p a->Calls prog 119 #[.slice A n c,.func (.func 141) #[] #[.pointer (some ⟨g,0,none⟩),.pointer (some ⟨g+1,0,none⟩)]] wr λe w'=>e=.returned (.int .i64 (J7 p a L))/\Ok wr w') :=
   Ou λwr g hb hx=>qfF g p a A n c L wr (HH.out.below hb) hx
  have hi:J7 p a L=if r<n then (r:Int) else -1:=by unfold J7;rw[<-hr,HL]
  have hrl:r<=n:=by rw[hr,<-HL];exact Uv p a L
  generalize J7 p a L=ix at HI hi;by_cases hlt:r<n
  ·rw[Sx hlt]at hi;subst hi;clear hr HL HH;have g0:¬((r:Int)<0):=by omega
   have g1:decide ((r:Int)<0)=false:=Sz g0;go_enter func87,ntmps87;go_wp2_with fail
   ((with_reducible refine HD.out.mono ?_);rintro e w1 ⟨rfl,b1⟩);have b1':=b1.alloc b1.size (.cells #[.bool d,.bool s] 158);clear HD b1;go_wp2_with fail
   ((with_reducible refine(CL p a _).mono ?_);rintro e w2 ⟨g,rfl,h2⟩);have b2:=b1'.trans (h2.out.2.mono b1'.size);have x2:=h2.out.1;clear h2 b1';go_wp2_with fail
   ((with_reducible refine(HI.out _ _ b2 x2).mono ?_);rintro e w3 ⟨rfl,b3⟩);have b4:=b2.trans (b3.mono b2.size);clear HI b2 x2 b3;go_wp2_with fail
   go_ret;exact⟨rfl,b4⟩
  ·rw[Sw hlt]at hi;subst hi;obtain rfl:r=n:=by omega
   clear hr HL HH;go_enter func87,ntmps87;go_wp2_with fail
   ((with_reducible refine HD.out.mono ?_);rintro e w1 ⟨rfl,b1⟩);have b1':=b1.alloc b1.size (.cells #[.bool d,.bool s] 158);clear HD b1;go_wp2_with fail
   ((with_reducible refine(CL p a _).mono ?_);rintro e w2 ⟨g,rfl,h2⟩);have b2:=b1'.trans (h2.out.2.mono b1'.size);have x2:=h2.out.1;clear h2 b1';go_wp2_with fail
   ((with_reducible refine(HI.out _ _ b2 x2).mono ?_);rintro e w3 ⟨rfl,b3⟩);have b4:=b2.trans (b3.mono b2.size);clear HI b2 x2 b3;go_wp2_with fail
   go_ret;exact⟨rfl,b4⟩
theorem qfI (p a:Int)(A:Option Addr)(n c:Nat)(L:List Od)(w:World)(H:Ods w A n L)(hn:n<=1000) :
  Calls prog 58 #[.int .i64 p,.int .i64 a,.slice A n c] w λe w'=>e=.returned (.int .i64 (Zd p a L))/\Ok w w':=by
 obtain⟨r,hr⟩:∃r,r=Zd p a L:=⟨_,rfl⟩
 rw[<-hr]
 unfold Zd at hr
 have HL:=Ou H.1
 have HH:=Ou H
 clear H
 by_cases l1:p<1
 ·obtain rfl:r=0:=by rw[hr,Sw];unfold QV;simp;omega
  clear hr HL HH;have g1:decide (p<1)=true:=Sy l1;go_enter func58,ntmps58;go_wp2_with fail
  go_ret;exact⟨rfl,Below.refl _ _⟩
 by_cases l2:4<p
 ·obtain rfl:r=0:=by rw[hr,Sw];unfold QV;simp;omega
  clear hr HL HH;go_enter func58,ntmps58;go_wp2_with fail
  go_ret;exact⟨rfl,Below.refl _ _⟩
 have vH:QV p=true:=by unfold QV;simp;omega
 rw[Sx vH]at hr
 have HR:=Ou hr
 clear hr vH
 go_enter func58,ntmps58
 go_wp2_with fail
 go_loopg [7] n (λkx s7 wr=>∃k:Nat,s7=.int .i64 (k:Int)/\k<=n/\n-k<=kx/\w=wr/\Hid (∀j,j<k->Z0 p a L[j]! = false))
 case atStart=>exact⟨0,rfl,by omega,by omega,rfl,Ou λj hj=>by omega⟩
 case round =>
  obtain⟨k,rfl,hk,aP,rfl,hd⟩:=hrel;by_cases hlt:k<n
  ·have aF:(k:Int)<(n:Int):=by omega
   have d8:(0:Int)<=(k:Int):=by omega
   obtain⟨b,off,rfl,hb,hc⟩:∃b off,A=some ⟨b,off,none⟩/\b<w.heap.size/\∀i,i<n->(L[i]!).at w b (off+i*6):=by
    rcases HH.out.2.2.2 with h|h
    ·omega
    ·exact h
   have x1:=(hc k hlt).2.1;obtain⟨x,ex⟩:∃x,L[k]! = x:=⟨_,rfl⟩
   rw[ex]at x1;have HX:=Ou ex;clear ex hc
   have HN:Z0 p a x=false->Hid (∀j,j<k+1->Z0 p a L[j]! = false):=λcV=>Ou (λj hj=>by
     by_cases e:j<k
     ·exact hd.out j e
     ·obtain rfl:j=k:=by omega
      rw[HX.out];exact cV)
   have HY:Z0 p a x=true->Hid (r=k):=λcV=>Ou (by
     rw[HR.out]
     exact CJ (by rw[HL.out];exact hlt) hd.out (by rw[HX.out];exact cV))
   unfold Z0 at HN HY;generalize x.acc=ac at x1 HN HY;by_cases p1:p=1
   ·have e2:(p != 1)=false:=by simp[p1]
    have HF:=HN (by rw[p1];rfl);clear HN HY;go_wp2_with fail
    go_roundg (n-(k+1))
    case measure=>omega
    case rel=>exact⟨k+1,by go_num,by omega,by omega,rfl,HF⟩
   ·have e1:(p==1)=false:=by simp[p1]
    have e2:(p != 1)=true:=by simp[p1]
    by_cases aa:ac=a
    ·have HF:=HY (by rw[e1];simp[aa]);have e3:(ac==a)=true:=by simp[aa]
     clear HN HY;go_wp2_with fail
     go_ret;rw[HF.out];exact⟨rfl,Below.refl _ _⟩
    ·have e3:(ac==a)=false:=by simp[aa]
     have HF:=HN (by rw[e1,e3];rfl);clear HN HY;go_wp2_with fail
     go_roundg (n-(k+1))
     case measure=>omega
     case rel=>exact⟨k+1,by go_num,by omega,by omega,rfl,HF⟩
  ·have aF:¬(k:Int)<(n:Int):=by omega
   have HF:Hid (r=n):=Ou (by
    have e:=Uw (p:=p) (a:=a) (L:=L) (λj hj=>hd.out j (by rw[HL.out]at hj;omega))
    rw[HR.out,e,HL.out])
   go_wp2_with fail
   go_ret;rw[HF.out];exact⟨rfl,Below.refl _ _⟩
theorem qfJ (w:World)(dT sT ty elem:TypeId)(k g o dLen dCap:Nat)(a:Addr)(sLen sCap:Nat)(cur:Array Value)(t:TypeId)(cs:List Value)
  (hu:prog.underlying dT=some (.slice elem)) (hs:(prog.info? elem).map (·.size)=some k)
  (hg:w.heap[g]? = some (.cells cur t (0,0))) (m:Nat) (hm:Nat.min sLen dLen=m) (hn:cs.length=m*k)
  (hsrc:∀j v,cs[j]? = some v->w.cell? (a.add j)=some v) (hfit:o+cs.length<=cur.size) (h1:∀v∈cs,v.oneCell'=true) :
  (Builtin.copy_ #[dT,sT] ty #[.slice (some ⟨g,o,none⟩) dLen dCap,.slice (some a) sLen sCap]).run prog w =
   .ok (goInt m) (w.setRow g (cur.toList.take o++cs++cur.toList.drop (o+cs.length)).toArray):=by
 have hl:=run_loadCells_list (P:=prog) w a cs hsrc
 have hst:=run_storeCells_at prog g o t cs 0 cur w hg (by simpa using hfit) h1
 cases hq:prog.info? elem with
 | none=>simp[hq]at hs
 | some i =>
  have hi:i.size=k:=by simpa [hq] using hs
  simp[Builtin.copy_,run_underlying hu,Builtin.lenOf,Builtin.firstCells,sizeOf,typeInfo,hq,hi,hm,<-hn,hl,hst]
theorem qfK (w:World)(dT sT ty elem:TypeId)(k:Nat)(d a:Option Addr)(dLen dCap sLen sCap:Nat)
  (hu:prog.underlying dT=some (.slice elem)) (hs:(prog.info? elem).map (·.size)=some k) (hm:Nat.min sLen dLen=0) :
  (Builtin.copy_ #[dT,sT] ty #[.slice d dLen dCap,.slice a sLen sCap]).run prog w=.ok (goInt 0) w:=by
 cases hq:prog.info? elem with
 | none=>simp[hq]at hs
 | some i =>
  have hl:∀(x:Addr),(loadCells x 0).run prog w=.ok #[] w:=λx=>by simpa using run_loadCells_list (P:=prog) w x [] Oy
  cases d<;>cases a<;>simp[Builtin.copy_,run_underlying hu,Builtin.lenOf,Builtin.firstCells,sizeOf,typeInfo,hq,hm,storeCells,hl]
theorem CM:(prog.info? 38).map (·.size)=some 6:=by kernel_rfl
theorem Vd {L:List Od}{m i:Nat}(hi:i<m):(L.take m)[i]! = L[i]!:=by
 rw[List.getElem!_eq_getElem?_getD,List.getElem?_take,Sx hi,<-List.getElem!_eq_getElem?_getD]
theorem qfL {w:World}{b off n m:Nat}{L:List Od}(hl:L.length=n)(hm:m<=n)(hc:∀i,i<n->(L[i]!).at w b (off+i*6)) :
  ∀j v,(ol (L.take m))[j]? = some v->w.cell? ((⟨b,off,none⟩:Addr).add j)=some v:=by
 intro j v hj
 have hlt:j<(ol (L.take m)).length:=(List.getElem?_eq_some_iff.1 hj).1
 have htl:(L.take m).length=m:=by rw[Wy];omega
 rw[Jg,htl]at hlt
 have e:j=j / 6*6+j % 6:=by omega
 have h6:j % 6<6:=Lz _ Oz
 have hd:j / 6<m:=by omega
 rw[e,Kq (L.take m) (j / 6) (j % 6) (by rw[htl];exact hd) h6,Vd hd]at hj
 have h:=hc (j / 6) Oz
 rw[QP,e]
 generalize j / 6=i at *
 generalize j % 6=r at *
 obtain⟨x0,x1,x2,x3,x4,x5⟩:=h
 show w.cell? ⟨b,off+(i*6+r),none⟩=some v
 rw[show off+(i*6+r)=off+i*6+r by omega]
 match r,h6,hj with
 | 0,_,hj=>exact x0.trans hj
 | 1,_,hj=>exact x1.trans hj
 | 2,_,hj=>exact x2.trans hj
 | 3,_,hj=>exact x3.trans hj
 | 4,_,hj=>exact x4.trans hj
 | 5,_,hj=>exact x5.trans hj
theorem CN {w:World}{g m:Nat}{L:List Od}(hl:L.length=m)(hm:m<=1000)(hok:∀x∈L,Od.ok w x)(hg:w.heap[g]? = some (.cells (ol L).toArray 38 (0,0))):Ods w (some ⟨g,0,none⟩) m L:=by
 refine⟨hl,by omega,hok,.inr ⟨g,0,rfl,Qc hg,λi hi=>?_⟩⟩
 have cc:∀c v,c<6->(Qn L[i]!)[c]? = some v->w.cell? ⟨g,0+i*6+c,none⟩=some v:=λc v hc hv=>by
  rw[cell_of_row _ _ _ _ _ _ hg,List.getElem?_toArray,Ij,Kq L i c Oz hc,hv]
 exact⟨cc 0 _ Oz rfl,cc 1 _ Oz rfl,cc 2 _ Oz rfl,cc 3 _ Oz rfl,cc 4 _ Oz rfl,cc 5 _ Oz rfl⟩
theorem Uy {w w0:World}{ops:Array Oper}{rest:List Oper}{o:Oper}{a:Act}{Q:Exit->Act->World->Prop}(hgd:o.guard=none)(d s:Operand)(dT sT:TypeId)
  (ho:o.op=.call { callee:=.builtin .copy,args:=#[d,s],argTypes:=#[dT,sT] }) (hu:prog.underlying dT=some (.slice 38))
  (g m dc:Nat) (A:Option Addr) (n c:Nat) (L:List Od) (hd:a.eval d=.slice (some ⟨g,0,none⟩) m dc) (hs:a.eval s=.slice A n c) (hm:m<=n) (pW:m<=1000)
  (HO:Ods w A n L) (B:Nat) (hB:Below B w0 w) (hBg:B<=g) (cur:Array Value) (hg:w.heap[g]? = some (.cells cur 38 (0,0))) (hc:cur.size=m*6)
  (h:∀w',Hid (Below B w0 w'/\Ods w' (some ⟨g,0,none⟩) m (L.take m))->wpList prog ops Q rest (a.put o.dst (goInt m)) w') :
  wpList prog ops Q (o :: rest) a w:=by
 have htl:(L.take m).length=m:=by rw[Wy,HO.1];omega
 have hcs:(ol (L.take m)).length=m*6:=by rw[Jg,htl]
 have hok:∀x∈L.take m,Od.ok w x:=λx hx=>HO.2.2.1 x (Fx hx)
 by_cases h0:m=0
 ·subst h0;have hrun:=qfK w dT sT o.type 38 6 (some ⟨g,0,none⟩) A 0 dc n c hu CM Oy;refine wpList_plain hgd λK hK=>?_;unfold Oper.wp;simp[execOp,ho,resolve,invoke,builtin,hd,hs,hrun,Result.andThen];exact hK _ _ (h w ⟨hB,htl,by omega,hok,.inl rfl⟩)
 ·obtain⟨b,off,rfl,hb,hcl⟩:∃b off,A=some ⟨b,off,none⟩/\b<w.heap.size/\∀i,i<n->(L[i]!).at w b (off+i*6):=by
   rcases HO.2.2.2 with h|h
   ·omega
   ·exact h
  have hmin:Nat.min n m=m:=Nat.min_eq_right hm;have hrun:=qfJ w dT sT o.type 38 6 g 0 m dc ⟨b,off,none⟩ n c cur 38 (ol (L.take m)) hu CM hg m hmin hcs (qfL HO.1 hm hcl) Oz (Kr _);have e:(cur.toList.take 0++ol (L.take m)++cur.toList.drop (0+(ol (L.take m)).length))=ol (L.take m):=by
   rw[hcs,List.take_zero,Mu,Ms (by simp;omega),Mq]
  rw[e]at hrun;refine wpList_plain hgd λK hK=>?_;unfold Oper.wp;simp[execOp,ho,resolve,invoke,builtin,hd,hs,hrun,Result.andThen];refine hK _ _ (h _ ⟨below_setRow hB hBg _,CN htl pW hok (setRow_heap w g _ _ _ _ hg)⟩)
def mtM (p a:Int)(L:List Od):Nat:=if QV p=true/\frO p a L<L.length/\drN p=true then 1 else 0
def mtS (p a:Int)(L:List Od):Bool:=if QV p then (if frO p a L<L.length then stN p else false) else true
def Z8 (p a:Int)(L:List Od)(w:World)(e:Ending)(w':World):Prop :=
 ∃R rc D dc,e=.returned (.tuple #[.slice R (Zd p a L) rc,.slice D (mtM p a L) dc,.bool (mtS p a L)])/\Hid (Ok w w'/\Ods w' R (Zd p a L) (L.take (Zd p a L))/\(mtM p a L=1->∃b,D=some ⟨b,0,none⟩/\b<w'.heap.size/\w'.cell? ⟨b,0,none⟩=some (.int .u64 (L[frO p a L]!).id)/\w.heap.size<=b)/\(∀b off,R=some ⟨b,off,none⟩->w.heap.size<=b))
theorem CO:(prog.info? 38).map (λi=>(i.zero,i.size,i.bytes))=some (some (.agg (OC ⟨0,0,0,0,0,0⟩)),6,48):=by kernel_rfl
theorem Uz (r:Nat)(hr:r<=1000):∃cs:Array Value,cs.size=r*6/\∀W:World,(Instr.makeSlice 22 (.int .i64 (r:Int)) (.int .i64 (r:Int))).run prog W=.ok (.slice (some ⟨W.heap.size,0,none⟩) r r) (W.alloc (.cells cs 38)):=by
 obtain⟨i0,hi0,hz0,hz1,hz2⟩:=info_parts CO
 refine⟨madeCells (Value.cells (.agg (OC ⟨0,0,0,0,0,0⟩))) (r*i0.size),by rw[size_madeCells,hz1],λW=>?_⟩
 have:=run_make (P:=prog) W 22 38 i0 (.agg (OC ⟨0,0,0,0,0,0⟩)) underlying22 hi0 hz0 .i64 .i64 (r:Int) (r:Int) Oz (Fw _) (by rw[hz2];omega) Oz
 simpa using this
def Ve (p a:Int)(L:List Od)(w:World)(A:Option Addr)(n c:Nat):Prop:=∀wr,Ok w wr->Calls prog 87 #[.int .i64 p,.int .i64 a,.slice A n c] wr λe w'=>e=.returned (.int .i64 (Zd p a L))/\Ok wr w'
theorem qfM (p a:Int)(A:Option Addr)(n c:Nat)(L:List Od)(w:World)(H:Ods w A n L)(hp:QV p=false) :
  Calls prog 73 #[.int .i64 p,.int .i64 a,.slice A n c] w (Z8 p a L w):=by
 have e1:Zd p a L=0:=by unfold Zd;rw[hp];rfl
 have e2:mtM p a L=0:=by unfold mtM;rw[hp];simp
 have e3:mtS p a L=true:=by unfold mtS;rw[hp];rfl
 have HD:Hid (Calls prog 86 #[.int .i64 p] w λe w'=>e=.returned (.tuple #[.agg #[.bool (drN p),.bool (stN p)],.bool (QV p)])/\Ok w w'):=Ou (KR p w)
 rw[hp]at HD
 unfold Z8
 rw[e1,e2,e3]
 generalize drN p=d at HD
 generalize stN p=s at HD
 clear H e1 e2 e3 hp
 go_enter func73,ntmps73
 go_wp2_with fail
 ((with_reducible refine HD.out.mono ?_);rintro e w1 ⟨rfl,b1⟩)
 go_wp2_with fail
 go_ret3
 exact⟨none,0,none,0,rfl,Ou ⟨b1.alloc b1.size _,⟨rfl,by omega,λx hx=>absurd hx Oy,.inl rfl⟩,λh=>absurd h Oz,λ_ _ h=>by cases h⟩⟩
theorem qfN (p a:Int)(A:Option Addr)(n c:Nat)(L:List Od)(w:World)(H:Ods w A n L)(hn:n<=1000)(hp:QV p=true)(hr:frO p a L=n) :
  Calls prog 73 #[.int .i64 p,.int .i64 a,.slice A n c] w (Z8 p a L w):=by
 have HR:Hid (Ve p a L w A n c):=Ou λwr hb=>Ux p a A n c L wr (H.below hb)
 have HT:=Ou (Sv (Ut p) (Uu p))
 have e1:Zd p a L=frO p a L:=by unfold Zd;rw[Sx hp]
 have HL:=H.1
 have e2:mtM p a L=0:=by unfold mtM;rw[Sw (by omega)]
 have e3:mtS p a L=false:=by unfold mtS;rw[hp,Sx rfl,Sw (by omega)]
 have HD:Hid (Calls prog 86 #[.int .i64 p] w λe w'=>e=.returned (.tuple #[.agg #[.bool (drN p),.bool (stN p)],.bool (QV p)])/\Ok w w'):=Ou (KR p w)
 rw[hp]at HD
 unfold Hid Ve at HR
 rw[e1]at HR
 have HO:=Ou H
 generalize hdd:drN p=d at HD HT 
 generalize hss:stN p=s at HD HT 
 have j5:=Ou HR
 have HE:=Ou (Sv e1 (Sv e2 e3))
 clear e1 e2 e3
 generalize cK:frO p a L=r at j5 hr HE
 have yX:=Ou cK
 clear cK
 have vN:=Ou hr
 have vO:r<=n:=by omega
 have hrI:(r:Int)<=(n:Int):=by omega
 have fV:(0:Int)<=(r:Int):=by omega
 clear H HR hp hr
 go_enter func73,ntmps73
 go_wp2_with fail
 ((with_reducible refine HD.out.mono ?_);rintro e w1 ⟨rfl,b1⟩)
 have b1':=b1.alloc b1.size (.cells #[.bool d,.bool s] 158)
 clear HD b1
 go_wp2_with fail
 ((with_reducible refine(j5.out _ b1').mono ?_);rintro e w2 ⟨rfl,b2⟩)
 have b3:=b1'.trans (b2.mono b1'.size)
 clear j5 b1' b2
 obtain⟨cs,hcs,hmk⟩:=Uz r Oz
 have h1:(w2.alloc (.cells cs 38)).heap[w2.heap.size]? = some (.cells cs 38 (0,0)):=heap_alloc_new _ _
 have b5:=b3.alloc b3.size (.cells cs 38)
 have HC:=Ou (Sv (HO.out.below b5) (Sv b5 (Sv h1 hcs)))
 have hs2:=b3.size
 clear b3 b5 h1 hcs
 go_wp2_with (refine Uy rfl _ _ 22 22 rfl underlying22 w2.heap.size r r A n c L rfl rfl vO Oz HC.out.1 w.heap.size HC.out.2.1 hs2 cs HC.out.2.2.1 HC.out.2.2.2 ?_)
 intro w5 h5
 clear HC
 obtain rfl:n=r:=vN.out.symm
 have enn:((n:Int)==(n:Int))=true:=by simp
 go_wp2_with fail
 go_ret3
 show Z8 p a L w _ _
 unfold Z8
 rw[HE.out.1,HE.out.2.1,HE.out.2.2]
 exact⟨_,_,none,0,rfl,Ou ⟨h5.out.1,h5.out.2,λh=>absurd h Oz,λ_ _ h=>by injection h with h;injection h with h _;subst h;exact hs2⟩⟩
theorem qfO (p a:Int)(A:Option Addr)(n c:Nat)(L:List Od)(w:World)(H:Ods w A n L)(hn:n<=1000)(hp:QV p=true)(hr:frO p a L<n)(hdr:drN p=false) :
  Calls prog 73 #[.int .i64 p,.int .i64 a,.slice A n c] w (Z8 p a L w):=by
 have HR:Hid (Ve p a L w A n c):=Ou λwr hb=>Ux p a A n c L wr (H.below hb)
 have HT:=Ou (Sv (Ut p) (Uu p))
 have e1:Zd p a L=frO p a L:=by unfold Zd;rw[Sx hp]
 have HL:=H.1
 have e2:mtM p a L=0:=by unfold mtM;rw[Sw (by rw[hdr];simp)]
 have e3:mtS p a L=stN p:=by unfold mtS;rw[hp,Sx rfl,Sx (by omega)]
 have HD:Hid (Calls prog 86 #[.int .i64 p] w λe w'=>e=.returned (.tuple #[.agg #[.bool (drN p),.bool (stN p)],.bool (QV p)])/\Ok w w'):=Ou (KR p w)
 rw[hp]at HD
 unfold Hid Ve at HR
 rw[e1]at HR
 have HO:=Ou H
 generalize hdd:drN p=d at HD HT 
 generalize hss:stN p=s at HD HT 
 have j5:=Ou HR
 have HE:=Ou (Sv e1 (Sv e2 e3))
 clear e1 e2 e3
 generalize cK:frO p a L=r at j5 hr HE
 have yX:=Ou cK
 clear cK
 have vN:=Ou hr
 have vO:r<=n:=by omega
 have hrI:(r:Int)<=(n:Int):=by omega
 have fV:(0:Int)<=(r:Int):=by omega
 clear H HR hp hr
 go_enter func73,ntmps73
 go_wp2_with fail
 ((with_reducible refine HD.out.mono ?_);rintro e w1 ⟨rfl,b1⟩)
 have b1':=b1.alloc b1.size (.cells #[.bool d,.bool s] 158)
 clear HD b1
 go_wp2_with fail
 ((with_reducible refine(j5.out _ b1').mono ?_);rintro e w2 ⟨rfl,b2⟩)
 have b3:=b1'.trans (b2.mono b1'.size)
 clear j5 b1' b2
 obtain⟨cs,hcs,hmk⟩:=Uz r Oz
 have h1:(w2.alloc (.cells cs 38)).heap[w2.heap.size]? = some (.cells cs 38 (0,0)):=heap_alloc_new _ _
 have b5:=b3.alloc b3.size (.cells cs 38)
 have HC:=Ou (Sv (HO.out.below b5) (Sv b5 (Sv h1 hcs)))
 have hs2:=b3.size
 clear b3 b5 h1 hcs
 go_wp2_with (refine Uy rfl _ _ 22 22 rfl underlying22 w2.heap.size r r A n c L rfl rfl vO Oz HC.out.1 w.heap.size HC.out.2.1 hs2 cs HC.out.2.2.1 HC.out.2.2.2 ?_)
 intro w5 h5
 clear HC
 obtain rfl:d=false:=hdd.symm.trans hdr
 have hlt:=vN.out
 have enn:((r:Int)==(n:Int))=false:=by simp;omega
 go_wp2_with fail
 ((with_reducible refine(HT.out.1 _).mono ?_);rintro e w6 ⟨rfl,b6⟩)
 have b7:=h5.out.1.trans (b6.mono h5.out.1.size)
 have h7:=h5.out.2.below b6
 go_wp2_with fail
 ((with_reducible refine(HT.out.2 _).mono ?_);rintro e w8 ⟨rfl,b8⟩)
 have b9:=b7.trans (b8.mono b7.size)
 have h9:=h7.below b8
 go_wp2_with fail
 go_ret3
 show Z8 p a L w _ _
 unfold Z8
 rw[HE.out.1,HE.out.2.1,HE.out.2.2,hss]
 exact⟨_,_,none,0,rfl,Ou ⟨b9,h9,λh=>absurd h Oz,λ_ _ h=>by injection h with h;injection h with h _;subst h;exact hs2⟩⟩
theorem qfP (p a:Int)(A:Option Addr)(n c:Nat)(L:List Od)(w:World)(H:Ods w A n L)(hn:n<=1000)(hp:QV p=true)(hr:frO p a L<n)(hdr:drN p=true) :
  Calls prog 73 #[.int .i64 p,.int .i64 a,.slice A n c] w (Z8 p a L w):=by
 have HR:Hid (Ve p a L w A n c):=Ou λwr hb=>Ux p a A n c L wr (H.below hb)
 have HT:=Ou (Sv (Ut p) (Uu p))
 have e1:Zd p a L=frO p a L:=by unfold Zd;rw[Sx hp]
 have HL:=H.1
 have e2:mtM p a L=1:=by unfold mtM;rw[Sx ⟨hp,by omega,hdr⟩]
 have e3:mtS p a L=stN p:=by unfold mtS;rw[hp,Sx rfl,Sx (by omega)]
 have HD:Hid (Calls prog 86 #[.int .i64 p] w λe w'=>e=.returned (.tuple #[.agg #[.bool (drN p),.bool (stN p)],.bool (QV p)])/\Ok w w'):=Ou (KR p w)
 rw[hp]at HD
 unfold Hid Ve at HR
 rw[e1]at HR
 have HO:=Ou H
 generalize hdd:drN p=d at HD HT 
 generalize hss:stN p=s at HD HT 
 have j5:=Ou HR
 have HE:=Ou (Sv e1 (Sv e2 e3))
 clear e1 e2 e3
 generalize cK:frO p a L=r at j5 hr HE
 have yX:=Ou cK
 clear cK
 have vN:=Ou hr
 have vO:r<=n:=by omega
 have hrI:(r:Int)<=(n:Int):=by omega
 have fV:(0:Int)<=(r:Int):=by omega
 clear H HR hp hr
 go_enter func73,ntmps73
 go_wp2_with fail
 ((with_reducible refine HD.out.mono ?_);rintro e w1 ⟨rfl,b1⟩)
 have b1':=b1.alloc b1.size (.cells #[.bool d,.bool s] 158)
 clear HD b1
 go_wp2_with fail
 ((with_reducible refine(j5.out _ b1').mono ?_);rintro e w2 ⟨rfl,b2⟩)
 have b3:=b1'.trans (b2.mono b1'.size)
 clear j5 b1' b2
 obtain⟨cs,hcs,hmk⟩:=Uz r Oz
 have h1:(w2.alloc (.cells cs 38)).heap[w2.heap.size]? = some (.cells cs 38 (0,0)):=heap_alloc_new _ _
 have b5:=b3.alloc b3.size (.cells cs 38)
 have HC:=Ou (Sv (HO.out.below b5) (Sv b5 (Sv h1 hcs)))
 have hs2:=b3.size
 clear b3 b5 h1 hcs
 go_wp2_with (refine Uy rfl _ _ 22 22 rfl underlying22 w2.heap.size r r A n c L rfl rfl vO Oz HC.out.1 w.heap.size HC.out.2.1 hs2 cs HC.out.2.2.1 HC.out.2.2.2 ?_)
 intro w5 h5
 clear HC
 obtain rfl:d=true:=hdd.symm.trans hdr
 have hlt:=vN.out
 have aF:(r:Int)<(n:Int):=by omega
 have enn:((r:Int)==(n:Int))=false:=by simp;omega
 obtain⟨iu,hu0,huz0,huz1,huz2⟩:=info_parts Uk
 go_wp2_with fail
 ((with_reducible refine(HT.out.1 _).mono ?_);rintro e w6 ⟨rfl,b6⟩)
 have b7:=h5.out.1.trans (b6.mono h5.out.1.size)
 have h7:=Ou (h5.out.2.below b6)
 have HO7:=HO.out.below b7
 obtain⟨b,off,rfl,hb,hc⟩:∃b off,A=some ⟨b,off,none⟩/\b<w6.heap.size/\∀i,i<n->(L[i]!).at w6 b (off+i*6):=by
  rcases HO7.2.2.2 with h|h
  ·omega
  ·exact h
 have x0:=(hc r hlt).1
 have HX:=Ou (show ∃z,z=(L[r]!).id from⟨_,rfl⟩)
 clear hc HO7 b6 h5
 obtain⟨z,hz⟩:∃z,z=(L[r]!).id:=⟨_,rfl⟩
 rw[<-hz]at x0
 have HZ:=Ou hz
 clear hz HX
 have hsz:=b7.size
 go_wp2_with (at_builtin;refine wpList_append_own _ rfl _ _ 124 rfl w6.heap.size 35 iu (.int .u64 0) 1 8 underlying124 hu0 huz0 huz1 huz2 rfl Ox _ _ _ rfl (World.ownsRow_nil _ _ _ _) ⟨w6.heap.size,0,none⟩ 1 1 [.int .u64 z] rfl rfl ?c1 ?c2 ?c3 ?c4 ?c5 ?_)
 case c1=>intro j u hu;match j,hu with
  | 0,hu=>rw[QP,cell_of_row _ _ _ _ _ _ (heap_alloc_new w6 _)];simpa using hu
 case c2=>intro u hu;obtain rfl:=List.mem_singleton.1 hu;rfl
 case c3=>unfold maxLen;omega
 case c4=>omega
 case c5=>simp
 intro v1 w7 hown1 hg1 _
 have B8:Hid (Ok w w7/\Ods w7 (some ⟨w2.heap.size,0,none⟩) r (L.take r)/\∃b c,v1=.slice (some ⟨b,0,none⟩) 1 c/\b<w7.heap.size/\w7.cell? ⟨b,0,none⟩=some (.int .u64 z)/\w.heap.size<=b):=by
  have hB:Ok w6 w7:=Below.grown ((Oq _ _).alloc (Sq _) _) hg1 Oy (λk hk=>by cases hk);refine⟨b7.trans (hB.mono b7.size),h7.out.below hB,?_⟩;obtain⟨_,h2⟩:=hown1;rcases h2 with ⟨hv,h0⟩ | ⟨k,cap,cur,hv,hbk,hk,_,_,hs,ht⟩
  ·omega
  ·refine⟨k,cap,hv,Qc hk,?_,Sk b7.size hbk⟩;rw[cell_of_row _ _ _ _ _ _ hk,<-Array.getElem?_toList];have:(cur.toList.take (1*1))[0]? = some (.int .u64 z):=by rw[ht];rfl
   simpa [List.getElem?_take] using this
 obtain⟨b8,h8,kb,kc,rfl,hkb,hkc,hkw⟩:=B8.out
 clear B8
 have h8':=Ou h8
 clear hown1 hg1 h7 b7 h8
 go_wp2_with fail
 ((with_reducible refine(HT.out.2 _).mono ?_);rintro e w8 ⟨rfl,b9⟩)
 have b10:=b8.trans (b9.mono b8.size)
 have h9:=h8'.out.below b9
 have hc9:=(b9.cell (p:=⟨kb,0,none⟩) hkb).trans hkc
 have hk9:=Ww hkb b9.size
 clear h8' hkc hkb b8 b9
 go_wp2_with fail
 go_ret3
 show Z8 p a L w _ _
 unfold Z8
 rw[HE.out.1,HE.out.2.1,HE.out.2.2,hss,yX.out]
 exact⟨_,_,_,_,rfl,Ou ⟨b10,h9,λ_=>⟨kb,rfl,hk9,by rw[hc9,HZ.out],hkw⟩,λ_ _ h=>by injection h with h;injection h with h _;subst h;exact hs2⟩⟩
theorem qfQ (p a:Int)(A:Option Addr)(n c:Nat)(L:List Od)(w:World)(H:Ods w A n L)(hn:n<=1000) :
  Calls prog 73 #[.int .i64 p,.int .i64 a,.slice A n c] w (Z8 p a L w):=by
 cases hp:QV p with
 | false=>exact qfM p a A n c L w H hp
 | true =>
  by_cases hr:frO p a L=n
  ·exact qfN p a A n c L w H hn hp hr
  ·have:=Uv p a L;rw[H.1]at this
   cases hd:drN p with
   | false=>exact qfO p a A n c L w H hn hp Oz hd
   | true=>exact qfP p a A n c L w H hn hp Oz hd
end
end Go.Proofs.YtikapeaodobkjaaGreat
