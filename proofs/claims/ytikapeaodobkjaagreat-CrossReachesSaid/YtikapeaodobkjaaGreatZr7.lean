/- What the laws lean on, in a few texts (by shake.py): number 7 of 16. -/
import Derived.Test.YtikapeaodobkjaaGreatZr1
import Derived.Test.YtikapeaodobkjaaGreatZr2
import Derived.Test.YtikapeaodobkjaaGreatZr4
import Derived.Test.YtikapeaodobkjaaGreatZr5
import Derived.Test.YtikapeaodobkjaaGreatZr3

set_option maxHeartbeats 16000000
set_option maxRecDepth 1000000
set_option linter.unusedVariables false
set_option linter.unusedSimpArgs false
namespace Go.Proofs.YtikapeaodobkjaaGreat
open _root_.Go.Proofs.Tryz
section
open Go.RowKit Go.Sort Go.Lib Go.Shelf
section
variable {ops:Array Oper}{rest:List Oper}{o:Oper}{a:Act}{w:World}{Q:Exit → Act → World → Prop}
end
theorem qft (A:Option Addr)(n c:Nat)(L:List Od)(w:World)(H:Ods w A n L)(h64:n<=64)(hS:Uj n):Calls prog 43 #[.slice A n c] w (Ul w (QW L)):=by
 have mixed:prog.follows .mixedOrders=true:=by kernel_rfl
 have hl:=H.1
 cases hi:prog.info? 35 with
 | none=>have:=Uk;rw[hi]at this;cases this
 | some i0 =>
  have:=Uk;rw[hi]at this;simp only[Option.map_some,Option.some.injEq,Prod.mk.injEq]at this;obtain⟨h1,h2,h3⟩:=this;have qQ:Hid (prog.info? 35=some i0/\i0.zero=some (.int .u64 0)/\i0.size=1/\i0.bytes=8):=⟨hi,h1,h2,h3⟩
  have HO:Aside (Ods w A n L):=H;have aJ:=Ou hl;have HS:Aside (Uj n):=hS;have HG:Aside (∀(x:Od) (w:World),Calls prog 65 #[.agg (OC x)] w λe w'=>e=.returned (.bool (Qk x))/\Gw w w'):=KM;have n64:¬(64:Int)<(n:Int):=by omega
  clear hi h1 h2 h3 H hl hS;go_enter func43,ntmps43;go_wp2_with (refine wpList_make_own _ rfl _ _ 124 rfl w.heap.size 35 i0 (.int .u64 0) 1 underlying124 qQ.out.1 qQ.out.2.1 qQ.out.2.2.1 .i64 .i64 (n:Int) n rfl rfl rfl (by rw[qQ.out.2.2.2];omega) (by unfold maxLen;omega) (Sq _) ?_)
  intro w1 hown1 hg1;have B1:Hid (Ok w w1):=Ou (Below.grown (Oq _ _) hg1 (Sq _) (by intro k hk;cases hk));clear hg1;go_wp2_with fail
  go_loopg [3,14] n (λkx s3 s14 wr=>∃i:Nat,s3=.slice (some ⟨w.heap.size,0,none⟩) i n/\s14=.int .i64 i/\i<=n/\n-i<=kx/\wr.ownsRow w.heap.size 35 1 (.slice (some ⟨w.heap.size,0,none⟩) i n) i (idc L i)/\Hid (Ok w wr)/\Hid (∀j,j<i->Qk L[j]! = true))
  case atStart=>exact⟨0,rfl,rfl,by omega,by omega,hown1,B1,Ou (λj hj=>by omega)⟩
  case round =>
   clear hown1 B1;obtain⟨i,rfl,rfl,hin,aP,hown,B1,HJ⟩:=hrel;by_cases hlt:i<n
   ·have bE:(i:Int)<(n:Int):=by omega
    have h1:=(HO.out.below B1.out).2.2.2;rcases h1 with h1 | ⟨b,off,rfl,_,hc⟩
    ·omega
    have hx:=hc i hlt;clear hc;obtain⟨x,ex⟩:∃x,L[i]! = x:=⟨_,rfl⟩
    rw[ex]at hx;have EX:=Ou ex;clear ex;obtain⟨x0,x1,x2,x3,x4,x5⟩:=hx
    cases hg:Qk x with
    | false =>
     have HB:Hid (QW L=false):=Ou (qes (i:=i) (by rw[aJ.out];exact hlt) (by rw[EX.out];exact hg));have sK:=Ou (HG.out x);rw[hg]at sK;clear hg;go_wp2_with ((with_reducible refine(sK.out _).mono ?_);rintro e w2 ⟨rfl,k2⟩)
     go_ret;rw[HB.out];exact⟨rfl,(B1.out.alloc B1.out.size _).trans (k2.b.mono (by have:=B1.out.size;simp;omega))⟩
    | true =>
     have eJ:Hid (∀j,j<i+1->Qk L[j]! = true):=Ou (λj hj=>by
      by_cases e:j<i
      ·exact HJ.out j e
      ·obtain rfl:j=i:=by omega
       rw[EX.out];exact hg)
     have sK:=Ou (HG.out x);rw[hg]at sK;have HN:Hid (idc L (i+1)=idc L i++[.int .u64 x.id]):=by
      have:=qeq (L:=L) (i:=i) (by rw[aJ.out];exact hlt);rw[EX.out]at this;exact this
     clear hg HJ;go_wp2_with fail
     refine(sK.out _).mono ?_;rintro e w2 ⟨rfl,k2⟩;have BX:Hid (Ok w w2):=Ou ((B1.out.alloc B1.out.size _).trans (k2.b.mono (by have:=B1.out.size;simp;omega)));have ci:w2.cell? ⟨wr.heap.size,0,none⟩=some (.int .u64 x.id):=by
      rw[World.cell?_of_block (w:=wr.alloc (Obj.cells (OC x) 38)) (k2.b.block _ Oy),cell_of_row _ _ _ _ _ _ (heap_alloc_new wr _)];rfl
     have hown2:=Qi (S:=λ_=>False) (hown.alloc (Obj.cells (OC x) 38)) (Fr.of_below k2.b) (λ_ _ h=>h);have hs2:=BX.out.size;clear k2 hown x0 x1 x2 x3 x4 x5 B1;go_wp2_with (at_builtin;refine wpList_append_fits _ rfl _ _ 124 rfl w.heap.size 35 i0 1 underlying124 qQ.out.1 qQ.out.2.2.1 w.heap.size i n (idc L i) rfl (hown2.alloc _) ⟨w2.heap.size,0,none⟩ 1 1 [.int .u64 x.id] rfl rfl ?c1 ?c2 ?c3 ?_)
     case c1 =>
      intro j u hu;rw[QP,cell_of_row _ _ _ _ _ _ (heap_alloc_new w2 _)]
      match j,hu with
      | 0,hu=>simpa using hu
     case c2=>exact qep _
     case c3=>omega
     intro w3 aV hg3;have B3:Hid (Ok w w3):=Ou (Below.grown (BX.out.alloc hs2 _) hg3 (by simp;omega) (by intro k hk;injection hk with hk;omega));rw[<-HN.out]at aV;clear hg3 hown2 BX hs2 ci;go_wp2_with fail
     go_roundg (n-(i+1))
     case measure=>omega
     case rel=>exact⟨i+1,rfl,by go_num,by omega,by omega,aV,B3,eJ⟩
   ·have bE:¬(i:Int)<(n:Int):=by omega
    obtain rfl:i=n:=by omega
    have e0:idc L i=(L.map Od.id).map eU:=by unfold idc;rw[Fs (by rw[aJ.out];exact Sq _)]
    rw[e0]at hown;obtain⟨_,_,hk,hH⟩:=qeo hown;have hz:(L.map Od.id).toArray.size=i:=by simp[aJ.out]
    have HSO:=Ou (HS.out w.heap.size 0 i (L.map Od.id).toArray wr hz.symm hH hk);have HHo:Aside (Holds eU wr w.heap.size 0 (L.map Od.id).toArray):=hH;have HZ:=Ou hz;clear hown e0 hH hz;go_wp2_with fail
    refine HSO.out.mono ?_;rintro e w2 ⟨rfl,d2,S2,P2,O2⟩;have hd2:d2.size=i:=P2.1.trans HZ.out;have HC:=Ou (qem w.heap.size 0 i d2 w2 (S2.holds hk HHo.out (by rw[hd2,HZ.out])) Oz Oz);have HCL:=Ou (qen HZ.out P2 O2);have B2:Hid (Ok w w2):=Ou (B1.out.trans (Cr S2 (Sq _) B1.out.size));rw[hd2]at HC;clear P2 O2 B1 S2 HSO HHo;go_wp2_with fail
    refine HC.out.mono ?_;rintro e w3 ⟨rfl,d3,S3⟩;have B3:Hid (Ok w w3):=Ou (B2.out.trans (Cr S3 (Sq _) B2.out.size));have O3:Aside (Ods w3 A i L):=HO.out.below B3.out;clear S3 B2 HC;obtain⟨m,hm⟩:∃m,(compactUpTo d2 i).length=m:=⟨_,rfl⟩
    have HM:=Ou hm;rw[hm];clear hm;by_cases pX:m=i
    ·subst pX;have em:((m:Int)==(m:Int))=true:=by simp
     have HE:Hid (QW L=eqL L (QZ L)):=Ou (qeu (by rw[aJ.out];exact h64) (λj hj=>HJ.out j (by rw[aJ.out]at hj;exact hj)) (HCL.out.1 HM.out));have zU:=Ou (qd7 A m c L w3 O3.out Oz);go_wp2_with fail
     refine zU.out.mono ?_;rintro e w4 ⟨A',c',rfl,_,O4,b4⟩;have HQ:=Ou (qek A A' m c c' L (QZ L) w4 (O3.out.below b4) O4 Oz);have B4:Hid (Ok w w4):=Ou (B3.out.trans (b4.mono B3.out.size));clear O4 b4 O3 B3;go_wp2_with fail
     refine HQ.out.mono ?_;rintro e w5 ⟨rfl,k5⟩;have B5:Hid (Ok w w5):=Ou (B4.out.trans (k5.b.mono B4.out.size));clear k5 B4;go_wp2_with fail
     go_ret;rw[HE.out];exact⟨rfl,B5.out⟩
    ·have em:((m:Int)==(i:Int))=false:=by rw[beq_eq_false_iff_ne];omega
     have HE:Hid (QW L=false):=Ou (qet (λh=>pX (HM.out.symm.trans (HCL.out.2 h))));clear pX;go_wp2_with fail
     go_ret;rw[HE.out];exact⟨rfl,B3.out⟩
end
end Go.Proofs.YtikapeaodobkjaaGreat
