/- What the laws lean on, in a few texts (by shake.py): number 7 of 16. -/
import Derived.Test.YtikapeaodobkjaaGreatZq1
import Derived.Test.YtikapeaodobkjaaGreatZq2
import Derived.Test.YtikapeaodobkjaaGreatZq4
import Derived.Test.YtikapeaodobkjaaGreatZq5
import Derived.Test.YtikapeaodobkjaaGreatZq3

set_option maxHeartbeats 16000000
set_option maxRecDepth 1000000
set_option linter.unusedVariables false
set_option linter.unusedSimpArgs false
namespace Go.Proofs.YtikapeaodobkjaaGreat
open _root_.Go.Proofs.Tryz
section
open Go.RowKit Go.Sort Go.Lib Go.Shelf
section
variable {ops:Array Oper}{rest:List Oper}{o:Oper}{a:Act}{w:World}{Q:Exit → Act → World → Prop}
end
theorem qfk (A:Option Addr)(n c:Nat)(L:List Od)(w:World)(H:Ods w A n L)(h64:n<=64)(hS:Ug n):Calls prog 43 #[.slice A n c] w (Ui w (QV L)):=by
 have mixed:prog.follows .mixedOrders=true:=by kernel_rfl
 have hl:=H.1
 cases hi:prog.info? 35 with
 | none=>have:=Uh;rw[hi]at this;cases this
 | some i0 =>
  have:=Uh;rw[hi]at this;simp only[Option.map_some,Option.some.injEq,Prod.mk.injEq]at this;obtain⟨h1,h2,h3⟩:=this;have qL:Hid (prog.info? 35=some i0/\i0.zero=some (.int .u64 0)/\i0.size=1/\i0.bytes=8):=⟨hi,h1,h2,h3⟩
  have HO:Aside (Ods w A n L):=H;have aN:=Ou hl;have HS:Aside (Ug n):=hS;have HG:Aside (∀(x:Od) (w:World),Calls prog 65 #[.agg (OC x)] w λe w'=>e=.returned (.bool (Qj x))/\Gw w w'):=KI;have n64:¬(64:Int)<(n:Int):=by omega
  clear hi h1 h2 h3 H hl hS;go_enter func43,ntmps43;go_wp2_with (refine wpList_make_own _ rfl _ _ 124 rfl w.heap.size 35 i0 (.int .u64 0) 1 underlying124 qL.out.1 qL.out.2.1 qL.out.2.2.1 .i64 .i64 (n:Int) n rfl rfl rfl (by rw[qL.out.2.2.2];omega) (by unfold maxLen;omega) (Sq _) ?_)
  intro w1 hown1 hg1;have B1:Hid (Ok w w1):=Ou (Below.grown (Oq _ _) hg1 (Sq _) (by intro k hk;cases hk));clear hg1;go_wp2_with fail
  go_loopg [3,14] n (λkx s3 s14 wr=>∃i:Nat,s3=.slice (some ⟨w.heap.size,0,none⟩) i n/\s14=.int .i64 i/\i<=n/\n-i<=kx/\wr.ownsRow w.heap.size 35 1 (.slice (some ⟨w.heap.size,0,none⟩) i n) i (idc L i)/\Hid (Ok w wr)/\Hid (∀j,j<i->Qj L[j]! = true))
  case atStart=>exact⟨0,rfl,rfl,by omega,by omega,hown1,B1,Ou (λj hj=>by omega)⟩
  case round =>
   clear hown1 B1;obtain⟨i,rfl,rfl,hin,aM,hown,B1,HJ⟩:=hrel;by_cases hlt:i<n
   ·have bC:(i:Int)<(n:Int):=by omega
    have h1:=(HO.out.below B1.out).2.2.2;rcases h1 with h1 | ⟨b,off,rfl,_,hc⟩
    ·omega
    have hx:=hc i hlt;clear hc;obtain⟨x,ex⟩:∃x,L[i]! = x:=⟨_,rfl⟩
    rw[ex]at hx;have EX:=Ou ex;clear ex;obtain⟨x0,x1,x2,x3,x4,x5⟩:=hx
    cases hg:Qj x with
    | false =>
     have HB:Hid (QV L=false):=Ou (qeh (i:=i) (by rw[aN.out];exact hlt) (by rw[EX.out];exact hg));have rW:=Ou (HG.out x);rw[hg]at rW;clear hg;go_wp2_with ((with_reducible refine(rW.out _).mono ?_);rintro e w2 ⟨rfl,k2⟩)
     go_ret;rw[HB.out];exact⟨rfl,(B1.out.alloc B1.out.size _).trans (k2.b.mono (by have:=B1.out.size;simp;omega))⟩
    | true =>
     have eH:Hid (∀j,j<i+1->Qj L[j]! = true):=Ou (λj hj=>by
      by_cases e:j<i
      ·exact HJ.out j e
      ·obtain rfl:j=i:=by omega
       rw[EX.out];exact hg)
     have rW:=Ou (HG.out x);rw[hg]at rW;have HN:Hid (idc L (i+1)=idc L i++[.int .u64 x.id]):=by
      have:=qef (L:=L) (i:=i) (by rw[aN.out];exact hlt);rw[EX.out]at this;exact this
     clear hg HJ;go_wp2_with fail
     refine(rW.out _).mono ?_;rintro e w2 ⟨rfl,k2⟩;have BX:Hid (Ok w w2):=Ou ((B1.out.alloc B1.out.size _).trans (k2.b.mono (by have:=B1.out.size;simp;omega)));have ci:w2.cell? ⟨wr.heap.size,0,none⟩=some (.int .u64 x.id):=by
      rw[World.cell?_of_block (w:=wr.alloc (Obj.cells (OC x) 38)) (k2.b.block _ Oy),cell_of_row _ _ _ _ _ _ (heap_alloc_new wr _)];rfl
     have hown2:=Qh (S:=λ_=>False) (hown.alloc (Obj.cells (OC x) 38)) (Fr.of_below k2.b) (λ_ _ h=>h);have hs2:=BX.out.size;clear k2 hown x0 x1 x2 x3 x4 x5 B1;go_wp2_with (at_builtin;refine wpList_append_fits _ rfl _ _ 124 rfl w.heap.size 35 i0 1 underlying124 qL.out.1 qL.out.2.2.1 w.heap.size i n (idc L i) rfl (hown2.alloc _) ⟨w2.heap.size,0,none⟩ 1 1 [.int .u64 x.id] rfl rfl ?c1 ?c2 ?c3 ?_)
     case c1 =>
      intro j u hu;rw[QN,cell_of_row _ _ _ _ _ _ (heap_alloc_new w2 _)]
      match j,hu with
      | 0,hu=>simpa using hu
     case c2=>exact qee _
     case c3=>omega
     intro w3 aV hg3;have B3:Hid (Ok w w3):=Ou (Below.grown (BX.out.alloc hs2 _) hg3 (by simp;omega) (by intro k hk;injection hk with hk;omega));rw[<-HN.out]at aV;clear hg3 hown2 BX hs2 ci;go_wp2_with fail
     go_roundg (n-(i+1))
     case measure=>omega
     case rel=>exact⟨i+1,rfl,by go_num,by omega,by omega,aV,B3,eH⟩
   ·have bC:¬(i:Int)<(n:Int):=by omega
    obtain rfl:i=n:=by omega
    have e0:idc L i=(L.map Od.id).map eU:=by unfold idc;rw[List.take_of_length_le (by rw[aN.out];exact Sq _)]
    rw[e0]at hown;obtain⟨_,_,hk,hH⟩:=qed hown;have hz:(L.map Od.id).toArray.size=i:=by simp[aN.out]
    have HSO:=Ou (HS.out w.heap.size 0 i (L.map Od.id).toArray wr hz.symm hH hk);have HHo:Aside (Holds eU wr w.heap.size 0 (L.map Od.id).toArray):=hH;have HZ:=Ou hz;clear hown e0 hH hz;go_wp2_with fail
    refine HSO.out.mono ?_;rintro e w2 ⟨rfl,d2,S2,P2,O2⟩;have hd2:d2.size=i:=P2.1.trans HZ.out;have HC:=Ou (qeb w.heap.size 0 i d2 w2 (S2.holds hk HHo.out (by rw[hd2,HZ.out])) Oz Oz);have HCL:=Ou (qec HZ.out P2 O2);have B2:Hid (Ok w w2):=Ou (B1.out.trans (Cj S2 (Sq _) B1.out.size));rw[hd2]at HC;clear P2 O2 B1 S2 HSO HHo;go_wp2_with fail
    refine HC.out.mono ?_;rintro e w3 ⟨rfl,d3,S3⟩;have B3:Hid (Ok w w3):=Ou (B2.out.trans (Cj S3 (Sq _) B2.out.size));have O3:Aside (Ods w3 A i L):=HO.out.below B3.out;clear S3 B2 HC;obtain⟨m,hm⟩:∃m,(compactUpTo d2 i).length=m:=⟨_,rfl⟩
    have HM:=Ou hm;rw[hm];clear hm;by_cases pT:m=i
    ·subst pT;have em:((m:Int)==(m:Int))=true:=by simp
     have HE:Hid (QV L=eqL L (QY L)):=Ou (qej (by rw[aN.out];exact h64) (λj hj=>HJ.out j (by rw[aN.out]at hj;exact hj)) (HCL.out.1 HM.out));have zH:=Ou (qdX A m c L w3 O3.out Oz);go_wp2_with fail
     refine zH.out.mono ?_;rintro e w4 ⟨A',c',rfl,_,O4,b4⟩;have HQ:=Ou (qd9 A A' m c c' L (QY L) w4 (O3.out.below b4) O4 Oz);have B4:Hid (Ok w w4):=Ou (B3.out.trans (b4.mono B3.out.size));clear O4 b4 O3 B3;go_wp2_with fail
     refine HQ.out.mono ?_;rintro e w5 ⟨rfl,k5⟩;have B5:Hid (Ok w w5):=Ou (B4.out.trans (k5.b.mono B4.out.size));clear k5 B4;go_wp2_with fail
     go_ret;rw[HE.out];exact⟨rfl,B5.out⟩
    ·have em:((m:Int)==(i:Int))=false:=by rw[beq_eq_false_iff_ne];omega
     have HE:Hid (QV L=false):=Ou (qei (λh=>pT (HM.out.symm.trans (HCL.out.2 h))));clear pT;go_wp2_with fail
     go_ret;rw[HE.out];exact⟨rfl,B3.out⟩
end
end Go.Proofs.YtikapeaodobkjaaGreat
