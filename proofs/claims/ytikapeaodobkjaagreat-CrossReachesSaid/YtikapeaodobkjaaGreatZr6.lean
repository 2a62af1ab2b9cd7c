/- What the laws lean on, in a few texts (by shake.py): number 6 of 16. -/
import Derived.Test.YtikapeaodobkjaaGreatZr1
import Derived.Test.YtikapeaodobkjaaGreatZr2
import Derived.Test.YtikapeaodobkjaaGreatZr5
import Derived.BigQuiet
import Derived.Shelf.SlSortCmp.QuietGrown
import Derived.Laws.OwnMore
import Derived.Laws.AppendOwnNone
import Derived.Sort.AssemblyPlain
import Derived.Deep.CutRange
import Derived.Deep.CutBlock
import Derived.Deep.DeepCutAuto
import Derived.OpenShut

set_option maxHeartbeats 16000000
set_option maxRecDepth 1000000
set_option linter.unusedVariables false
set_option linter.unusedSimpArgs false
namespace Go.Proofs.YtikapeaodobkjaaGreat
open _root_.Go.Proofs.Tryz
section
open Go.RowKit Go.Sort Go.Lib Go.Shelf
theorem CA (L:List Od):QW L=true↔L.length<=64/\(∀x∈L,Qk x=true)/\(L.map Od.id).Nodup/\L=QZ L:=by
 unfold QW
 rw[Iv,Iv,Iv,decide_eq_true_iff,decide_eq_true_iff,List.all_eq_true,VI]
theorem Up {hi first r:Nat}{d:Array Int}(h:hi<=2*r+1):siftDown ltInt hi first r d=d:=by
 rw[siftDown,dif_pos h]
theorem Uq {hi first r:Nat}{d:Array Int}(h:2*r+2<hi)(hl:ltInt d[first+(2*r+1)]! d[first+(2*r+1)+1]! = true) :
  siftDown ltInt hi first r d=if ltInt d[first+r]! d[first+(2*r+2)]! = true then siftDown ltInt hi first (2*r+2) (swp d (first+r) (first+(2*r+2))) else d:=by
 rw[siftDown,dif_neg Oz,Sx (by rw[hl,Bool.and_true];exact Sy Oz)]
 cases ltInt d[first+r]! d[first+(2*r+2)]! with
 | true=>rw[Sw Ox,dif_pos h,Sx rfl]
 | false=>rw[Sx Ox,Sw (by decide)]
theorem VL {hi first r:Nat}{d:Array Int}(h0:2*r+1<hi)(h:¬2*r+2<hi∨ltInt d[first+(2*r+1)]! d[first+(2*r+1)+1]! = false) :
  siftDown ltInt hi first r d=if ltInt d[first+r]! d[first+(2*r+1)]! = true then siftDown ltInt hi first (2*r+1) (swp d (first+r) (first+(2*r+1))) else d:=by
 rw[siftDown,dif_neg Oz,Sw (by
  intro hc;rw[Iv,decide_eq_true_iff]at hc;rcases h with h|h
  ·omega
  ·rw[h]at hc;cases hc.2)]
 cases ltInt d[first+r]! d[first+(2*r+1)]! with
 | true=>rw[Sw Ox,Sx rfl]
 | false=>rw[Sx Ox,Sw (by decide)]
theorem qe3 (blk off cap:Nat)(lo hi first:Nat)(zl zh zf:Int)(hzl:zl=lo)(hzh:zh=hi)(hzf:zf=first)(d0 d:Array Int)(w0 w:World)(n:Nat)(hn:n=d.size)(R:Row1 eU w0 blk off d0)(hs:d0.size=d.size)(S:SW eU w0 blk off d w)(hsz:d.size<4611686018427387904)(hf:first+hi<=d.size)(hlo:lo<=d.size) :
  Calls prog 133 #[.slice (some ⟨blk,off,none⟩) n cap,.int .i64 zl,.int .i64 zh,.int .i64 zf] w λe w'=>e=.returned (.tuple #[])/\SW eU w0 blk off (siftDown ltInt hi first lo d) w':=by
 subst hn hzl hzh hzf
 have mixed:prog.follows .mixedOrders=true:=by kernel_rfl
 have S0:Aside (SW eU w0 blk off d w):=S
 have HS:=Ou hs
 have HL:=Ou Jh
 clear S hs
 go_enter func133,ntmps133
 go_wp2
 go_loopg [8] (hi+1) (λkx s8 wr=>∃(r:Nat) (dk:Array Int),s8=.int .i64 r/\hi+1-r<=kx+1/\dk.size=d.size/\Aside (SW eU w0 blk off dk wr)/\Hid (siftDown ltInt hi first r dk=siftDown ltInt hi first lo d)/\(r<hi∨r=lo)/\r<=lo+hi)
 case atStart=>exact⟨lo,d,rfl,by omega,rfl,S0,Ou rfl,.inr rfl,by omega⟩
 case round =>
  clear S0;obtain⟨r,dk,rfl,aP,hds,S1,HE,hrl,yA⟩:=hrel;have HD:=Ou hds;clear hds;have hrd:r<=d.size:=by omega
  by_cases hlt:hi<=2*r+1
  ·have hz:(hi:Int)<=2*(r:Int)+1:=by omega
   go_wp2_with fail
   go_end0;refine⟨rfl,?_⟩;rw[<-HE.out,Up hlt];exact S1.out
  ·obtain⟨c1,hc1⟩:∃c,c=2*r+1:=⟨_,rfl⟩
   obtain⟨c2,hc2⟩:∃c,c=2*r+2:=⟨_,rfl⟩
   obtain⟨f1,hf1⟩:∃c,c=first+c1:=⟨_,rfl⟩
   obtain⟨f2,hf2⟩:∃c,c=first+c2:=⟨_,rfl⟩
   obtain⟨fr,cK⟩:∃c,c=first+r:=⟨_,rfl⟩
   have hz:(hi:Int)-1 ≥ (c1:Int):=by omega
   have hz0:¬(hi:Int)<=(c1:Int):=by omega
   have q1:2*(r:Int)+1=(c1:Int):=by omega
   have q2:IntKind.i64.wrap ((c1:Int)+1)=(c2:Int):=by rw[Wz];omega
   have q2':(c1:Int)+1=(c2:Int):=by omega
   have q3:IntKind.i64.wrap ((first:Int)+(c1:Int))=(f1:Int):=by rw[Wz];omega
   have q4:IntKind.i64.wrap ((f1:Int)+1)=(f2:Int):=by rw[Wz];omega
   have q5:IntKind.i64.wrap ((first:Int)+(r:Int))=(fr:Int):=by rw[Wz];omega
   have q6:IntKind.i64.wrap ((first:Int)+(c2:Int))=(f2:Int):=by rw[Wz];omega
   have HN:=Ou (Sv hc1 (Sv hc2 (Sv hf1 (Sv hf2 cK))));have n1:c1<hi:=by omega
   have n2:f1<first+hi:=by omega
   have n3:fr<f1:=by omega
   have l1:f1<=first+c1:=by omega
   have l2:first+c1<=f1:=by omega
   have l3:f2<=first+c2:=by omega
   have l4:first+c2<=f2:=by omega
   have l5:fr<=first+r:=by omega
   have l6:first+r<=fr:=by omega
   have l7:c1<=2*r+1:=by omega
   have l8:2*r+1<=c1:=by omega
   have l9:c2<=c1+1:=by omega
   have l10:c1+1<=c2:=by omega
   clear hc1 hc2 hf1 hf2 cK hlt hrl;by_cases h2:c2<hi
   ·have h2z:(c2:Int)<(hi:Int):=by omega
    have aA:=HD.out;obtain⟨y,hy⟩:∃x,dk[f1]! = x:=⟨_,rfl⟩
    have cy:=S1.out.c1 R (by rw[HD.out];exact HS.out.symm) (f1) Oz;rw[hy]at cy;replace cy:wr.cell? ⟨blk,off+f1,none⟩=some (.int .u64 y):=cy;have Xy:=Ou hy;clear hy;have bby:(f1:Int)<(d.size:Int):=by omega
    obtain⟨u,hu⟩:∃x,dk[f2]! = x:=⟨_,rfl⟩
    have cu:=S1.out.c1 R (by rw[HD.out];exact HS.out.symm) (f2) Oz;rw[hu]at cu;replace cu:wr.cell? ⟨blk,off+f2,none⟩=some (.int .u64 u):=cu;have Xu:=Ou hu;clear hu;have bbu:(f2:Int)<(d.size:Int):=by omega
    clear aA
    cases hl:ltInt y u with
    | true =>
     have HA:Hid (2*r+2<hi/\ltInt dk[first+(2*r+1)]! dk[first+(2*r+1)+1]! = true):=by
      refine Ou ⟨by omega,?_⟩;rw[<-HN.out.1,<-HN.out.2.2.1,show f1+1=f2 by omega,Xy.out,Xu.out];exact hl
     go_wp2_with fail
     go_quiet ((go_at_call 110;with_reducible exact Ss (HL.out _ _ _)))
     have S3:Aside (SW eU w0 blk off dk (wr.drewN nq)):=S1.out.drewN nq;clear cy bby cu bbu S1;generalize wr.drewN nq=wq at S3 ⊢;clear hl;go_wp2_with fail
     have aA:=HD.out;obtain⟨x,hx⟩:∃x,dk[fr]! = x:=⟨_,rfl⟩
     have cx:=S3.out.c1 R (by rw[HD.out];exact HS.out.symm) (fr) Oz;rw[hx]at cx;replace cx:wq.cell? ⟨blk,off+fr,none⟩=some (.int .u64 x):=cx;have Xx:=Ou hx;clear hx;have bbx:(fr:Int)<(d.size:Int):=by omega
     obtain⟨z,hz⟩:∃x,dk[f2]! = x:=⟨_,rfl⟩
     have cz:=S3.out.c1 R (by rw[HD.out];exact HS.out.symm) (f2) Oz;rw[hz]at cz;replace cz:wq.cell? ⟨blk,off+f2,none⟩=some (.int .u64 z):=cz;have Xz:=Ou hz;clear hz;have bbz:(f2:Int)<(d.size:Int):=by omega
     clear aA
     cases hl2:ltInt x z with
     | true =>
      have bO:Hid (siftDown ltInt hi first c2 (swp dk fr f2)=siftDown ltInt hi first lo d):=by
       have e:=Uq (hi:=hi) (first:=first) (r:=r) (d:=dk) HA.out.1 HA.out.2;rw[<-HN.out.2.1]at e;rw[<-HN.out.2.2.2.2,<-HN.out.2.2.2.1,Xx.out,Xz.out,Sx hl2]at e;show _=_;rw[<-HE.out,e]
      go_wp2_with fail
      go_quiet ((go_at_call 110;with_reducible exact Ss (HL.out _ _ _)))
      have S4:Aside (SW eU w0 blk off dk (wq.drewN nq)):=S3.out.drewN nq;clear cx bbx cz bbz S3;generalize wq.drewN nq=wt at S4 ⊢;clear hl2 HE;go_wp2_with fail
      have aA:=HD.out;have bI:(fr:Int)<(d.size:Int):=by omega
      have bJ:(f2:Int)<(d.size:Int):=by omega
      have S2:=S4.out.swapped R (fr) (f2) Oz Oz;have ca:=S4.out.c1 R (by rw[HD.out];exact HS.out.symm) (fr) Oz;have cb:=S4.out.c1 R (by rw[HD.out];exact HS.out.symm) (f2) Oz;have fa:=S4.out.f1 R (by rw[HD.out];exact HS.out.symm) (fr) Oz;have fb:=S4.out.f1 R (by rw[HD.out];exact HS.out.symm) (f2) Oz;obtain⟨uc,cc⟩:=S4.out.c2 R (by rw[HD.out];exact HS.out.symm) (fr) (f2) Oz Oz (eU dk[f2]!);clear aA;generalize dk[fr]! = vI at S2 ca cc;generalize dk[f2]! = vJ at S2 cb cc;replace S2:Aside (SW eU w0 blk off (swp dk (fr) (f2)) ((wt.setCell ⟨blk,off+fr,none⟩ (.int .u64 vJ)).setCell ⟨blk,off+f2,none⟩ (.int .u64 vI)).drew):=S2
      replace ca:wt.cell? ⟨blk,off+fr,none⟩=some (.int .u64 vI):=ca;replace cb:wt.cell? ⟨blk,off+f2,none⟩=some (.int .u64 vJ):=cb;replace cc:(wt.setCell ⟨blk,off+fr,none⟩ (.int .u64 vJ)).cell? ⟨blk,off+f2,none⟩=some uc:=cc;clear S4;go_wp2_with fail
      go_big_region
      clear ca cb fa fb cc bI bJ;generalize ((wt.setCell ⟨blk,off+fr,none⟩ (.int .u64 vJ)).setCell ⟨blk,off+f2,none⟩ (.int .u64 vI)).drew=w2 at S2 ⊢;go_wp2;go_roundg (hi-c2)
      case measure=>omega
      case rel=>exact⟨c2,swp dk fr f2,rfl,by omega,by rw[size_swp];exact HD.out,S2,bO,.inl Oz,by omega⟩
     | false =>
      have bO:Hid (siftDown ltInt hi first lo d=dk):=by
       have e:=Uq (hi:=hi) (first:=first) (r:=r) (d:=dk) HA.out.1 HA.out.2;rw[<-HN.out.2.1]at e;rw[<-HN.out.2.2.2.2,<-HN.out.2.2.2.1,Xx.out,Xz.out,Sw (by rw[hl2];decide)]at e;show _=_;rw[<-HE.out,e]
      go_wp2_with fail
      go_quiet ((go_at_call 110;with_reducible exact Ss (HL.out _ _ _)))
      have S4:Aside (SW eU w0 blk off dk (wq.drewN nq)):=S3.out.drewN nq;clear cx bbx cz bbz S3;generalize wq.drewN nq=wt at S4 ⊢;go_wp2_with fail
      first|go_end0|((try simp only[Exit.inBlock,Exit.then]);refine bodyPost_ret (results_none rfl _ _ _) rfl ?_)
      refine⟨rfl,?_⟩;rw[bO.out];exact S4.out
    | false =>
     have HA:Hid (2*r+1<hi/\ltInt dk[first+(2*r+1)]! dk[first+(2*r+1)+1]! = false):=by
      refine Ou ⟨by omega,?_⟩;rw[<-HN.out.1,<-HN.out.2.2.1,show f1+1=f2 by omega,Xy.out,Xu.out];exact hl
     go_wp2_with fail
     go_quiet ((go_at_call 110;with_reducible exact Ss (HL.out _ _ _)))
     have S3:Aside (SW eU w0 blk off dk (wr.drewN nq)):=S1.out.drewN nq;clear cy bby cu bbu S1;generalize wr.drewN nq=wq at S3 ⊢;clear hl;go_wp2_with fail
     have aA:=HD.out;obtain⟨x,hx⟩:∃x,dk[fr]! = x:=⟨_,rfl⟩
     have cx:=S3.out.c1 R (by rw[HD.out];exact HS.out.symm) (fr) Oz;rw[hx]at cx;replace cx:wq.cell? ⟨blk,off+fr,none⟩=some (.int .u64 x):=cx;have Xx:=Ou hx;clear hx;have bbx:(fr:Int)<(d.size:Int):=by omega
     obtain⟨z,hz⟩:∃x,dk[f1]! = x:=⟨_,rfl⟩
     have cz:=S3.out.c1 R (by rw[HD.out];exact HS.out.symm) (f1) Oz;rw[hz]at cz;replace cz:wq.cell? ⟨blk,off+f1,none⟩=some (.int .u64 z):=cz;have Xz:=Ou hz;clear hz;have bbz:(f1:Int)<(d.size:Int):=by omega
     clear aA
     cases hl2:ltInt x z with
     | true =>
      have bO:Hid (siftDown ltInt hi first c1 (swp dk fr f1)=siftDown ltInt hi first lo d):=by
       have e:=VL (hi:=hi) (first:=first) (r:=r) (d:=dk) HA.out.1 (.inr HA.out.2);rw[<-HN.out.1]at e;rw[<-HN.out.2.2.2.2,<-HN.out.2.2.1,Xx.out,Xz.out,Sx hl2]at e;show _=_;rw[<-HE.out,e]
      go_wp2_with fail
      go_quiet ((go_at_call 110;with_reducible exact Ss (HL.out _ _ _)))
      have S4:Aside (SW eU w0 blk off dk (wq.drewN nq)):=S3.out.drewN nq;clear cx bbx cz bbz S3;generalize wq.drewN nq=wt at S4 ⊢;clear hl2 HE;go_wp2_with fail
      have aA:=HD.out;have bI:(fr:Int)<(d.size:Int):=by omega
      have bJ:(f1:Int)<(d.size:Int):=by omega
      have S2:=S4.out.swapped R (fr) (f1) Oz Oz;have ca:=S4.out.c1 R (by rw[HD.out];exact HS.out.symm) (fr) Oz;have cb:=S4.out.c1 R (by rw[HD.out];exact HS.out.symm) (f1) Oz;have fa:=S4.out.f1 R (by rw[HD.out];exact HS.out.symm) (fr) Oz;have fb:=S4.out.f1 R (by rw[HD.out];exact HS.out.symm) (f1) Oz;obtain⟨uc,cc⟩:=S4.out.c2 R (by rw[HD.out];exact HS.out.symm) (fr) (f1) Oz Oz (eU dk[f1]!);clear aA;generalize dk[fr]! = vI at S2 ca cc;generalize dk[f1]! = vJ at S2 cb cc;replace S2:Aside (SW eU w0 blk off (swp dk (fr) (f1)) ((wt.setCell ⟨blk,off+fr,none⟩ (.int .u64 vJ)).setCell ⟨blk,off+f1,none⟩ (.int .u64 vI)).drew):=S2
      replace ca:wt.cell? ⟨blk,off+fr,none⟩=some (.int .u64 vI):=ca;replace cb:wt.cell? ⟨blk,off+f1,none⟩=some (.int .u64 vJ):=cb;replace cc:(wt.setCell ⟨blk,off+fr,none⟩ (.int .u64 vJ)).cell? ⟨blk,off+f1,none⟩=some uc:=cc;clear S4;go_wp2_with fail
      go_big_region
      clear ca cb fa fb cc bI bJ;generalize ((wt.setCell ⟨blk,off+fr,none⟩ (.int .u64 vJ)).setCell ⟨blk,off+f1,none⟩ (.int .u64 vI)).drew=w2 at S2 ⊢;go_wp2;go_roundg (hi-c1)
      case measure=>omega
      case rel=>exact⟨c1,swp dk fr f1,rfl,by omega,by rw[size_swp];exact HD.out,S2,bO,.inl Oz,by omega⟩
     | false =>
      have bO:Hid (siftDown ltInt hi first lo d=dk):=by
       have e:=VL (hi:=hi) (first:=first) (r:=r) (d:=dk) HA.out.1 (.inr HA.out.2);rw[<-HN.out.1]at e;rw[<-HN.out.2.2.2.2,<-HN.out.2.2.1,Xx.out,Xz.out,Sw (by rw[hl2];decide)]at e;show _=_;rw[<-HE.out,e]
      go_wp2_with fail
      go_quiet ((go_at_call 110;with_reducible exact Ss (HL.out _ _ _)))
      have S4:Aside (SW eU w0 blk off dk (wq.drewN nq)):=S3.out.drewN nq;clear cx bbx cz bbz S3;generalize wq.drewN nq=wt at S4 ⊢;go_wp2_with fail
      first|go_end0|((try simp only[Exit.inBlock,Exit.then]);refine bodyPost_ret (results_none rfl _ _ _) rfl ?_)
      refine⟨rfl,?_⟩;rw[bO.out];exact S4.out
   ·have h2z:¬(c2:Int)<(hi:Int):=by omega
    have HA:Hid (2*r+1<hi/\¬2*r+2<hi):=Ou ⟨by omega,by omega⟩;go_wp2_with fail
    go_quiet ((go_at_call 110;with_reducible exact Ss (HL.out _ _ _)))
    have S3:Aside (SW eU w0 blk off dk (wr.drewN nq)):=S1.out.drewN nq;clear S1;generalize wr.drewN nq=wq at S3 ⊢;go_wp2_with fail
    have aA:=HD.out;obtain⟨x,hx⟩:∃x,dk[fr]! = x:=⟨_,rfl⟩
    have cx:=S3.out.c1 R (by rw[HD.out];exact HS.out.symm) (fr) Oz;rw[hx]at cx;replace cx:wq.cell? ⟨blk,off+fr,none⟩=some (.int .u64 x):=cx;have Xx:=Ou hx;clear hx;have bbx:(fr:Int)<(d.size:Int):=by omega
    obtain⟨z,hz⟩:∃x,dk[f1]! = x:=⟨_,rfl⟩
    have cz:=S3.out.c1 R (by rw[HD.out];exact HS.out.symm) (f1) Oz;rw[hz]at cz;replace cz:wq.cell? ⟨blk,off+f1,none⟩=some (.int .u64 z):=cz;have Xz:=Ou hz;clear hz;have bbz:(f1:Int)<(d.size:Int):=by omega
    clear aA
    cases hl2:ltInt x z with
    | true =>
     have bO:Hid (siftDown ltInt hi first c1 (swp dk fr f1)=siftDown ltInt hi first lo d):=by
      have e:=VL (hi:=hi) (first:=first) (r:=r) (d:=dk) HA.out.1 (.inl HA.out.2);rw[<-HN.out.1]at e;rw[<-HN.out.2.2.2.2,<-HN.out.2.2.1,Xx.out,Xz.out,Sx hl2]at e;show _=_;rw[<-HE.out,e]
     go_wp2_with fail
     go_quiet ((go_at_call 110;with_reducible exact Ss (HL.out _ _ _)))
     have S4:Aside (SW eU w0 blk off dk (wq.drewN nq)):=S3.out.drewN nq;clear cx bbx cz bbz S3;generalize wq.drewN nq=wt at S4 ⊢;clear hl2 HE;go_wp2_with fail
     have aA:=HD.out;have bI:(fr:Int)<(d.size:Int):=by omega
     have bJ:(f1:Int)<(d.size:Int):=by omega
     have S2:=S4.out.swapped R (fr) (f1) Oz Oz;have ca:=S4.out.c1 R (by rw[HD.out];exact HS.out.symm) (fr) Oz;have cb:=S4.out.c1 R (by rw[HD.out];exact HS.out.symm) (f1) Oz;have fa:=S4.out.f1 R (by rw[HD.out];exact HS.out.symm) (fr) Oz;have fb:=S4.out.f1 R (by rw[HD.out];exact HS.out.symm) (f1) Oz;obtain⟨uc,cc⟩:=S4.out.c2 R (by rw[HD.out];exact HS.out.symm) (fr) (f1) Oz Oz (eU dk[f1]!);clear aA;generalize dk[fr]! = vI at S2 ca cc;generalize dk[f1]! = vJ at S2 cb cc;replace S2:Aside (SW eU w0 blk off (swp dk (fr) (f1)) ((wt.setCell ⟨blk,off+fr,none⟩ (.int .u64 vJ)).setCell ⟨blk,off+f1,none⟩ (.int .u64 vI)).drew):=S2
     replace ca:wt.cell? ⟨blk,off+fr,none⟩=some (.int .u64 vI):=ca;replace cb:wt.cell? ⟨blk,off+f1,none⟩=some (.int .u64 vJ):=cb;replace cc:(wt.setCell ⟨blk,off+fr,none⟩ (.int .u64 vJ)).cell? ⟨blk,off+f1,none⟩=some uc:=cc;clear S4;go_wp2_with fail
     go_big_region
     clear ca cb fa fb cc bI bJ;generalize ((wt.setCell ⟨blk,off+fr,none⟩ (.int .u64 vJ)).setCell ⟨blk,off+f1,none⟩ (.int .u64 vI)).drew=w2 at S2 ⊢;go_wp2;go_roundg (hi-c1)
     case measure=>omega
     case rel=>exact⟨c1,swp dk fr f1,rfl,by omega,by rw[size_swp];exact HD.out,S2,bO,.inl Oz,by omega⟩
    | false =>
     have bO:Hid (siftDown ltInt hi first lo d=dk):=by
      have e:=VL (hi:=hi) (first:=first) (r:=r) (d:=dk) HA.out.1 (.inl HA.out.2);rw[<-HN.out.1]at e;rw[<-HN.out.2.2.2.2,<-HN.out.2.2.1,Xx.out,Xz.out,Sw (by rw[hl2];decide)]at e;show _=_;rw[<-HE.out,e]
     go_wp2_with fail
     go_quiet ((go_at_call 110;with_reducible exact Ss (HL.out _ _ _)))
     have S4:Aside (SW eU w0 blk off dk (wq.drewN nq)):=S3.out.drewN nq;clear cx bbx cz bbz S3;generalize wq.drewN nq=wt at S4 ⊢;go_wp2_with fail
     first|go_end0|((try simp only[Exit.inBlock,Exit.then]);refine bodyPost_ret (results_none rfl _ _ _) rfl ?_)
     refine⟨rfl,?_⟩;rw[bO.out];exact S4.out
theorem YN (hi first:Nat):∀(n r:Nat) (d:Array Int),hi-r<=n->(siftDown ltInt hi first r d).size=d.size
 | 0,r,d,h=>by rw[Up (by omega)]
 | n+1,r,d,h=>by
  by_cases h1:hi<=2*r+1
  ·rw[Up h1]
  ·by_cases h2:2*r+2<hi/\ltInt d[first+(2*r+1)]! d[first+(2*r+1)+1]! = true
   ·rw[Uq h2.1 h2.2]
    split
    ·rw[YN hi first n _ _ Oz,size_swp]
    ·rfl
   ·rw[VL Oz (by
     by_cases h3:2*r+2<hi
     ·right
      cases e:ltInt d[first+(2*r+1)]! d[first+(2*r+1)+1]! with
      | false=>rfl
      | true=>exact absurd ⟨h3,e⟩ h2
     ·exact .inl h3)]
    split
    ·rw[YN hi first n _ _ Oz,size_swp]
    ·rfl
theorem qe4 (blk off cap:Nat)(a b:Nat)(za zb:Int)(dE:za=a)(hzb:zb=b)(d0 d:Array Int)(w0 w:World)(n:Nat)(hn:n=d.size)(R:Row1 eU w0 blk off d0)(hs:d0.size=d.size)(S:SW eU w0 blk off d w)(hsz:d.size<4611686018427387904)(hab:a<b)(hb:b<=d.size) :
  Calls prog 105 #[.slice (some ⟨blk,off,none⟩) n cap,.int .i64 za,.int .i64 zb] w λe w'=>e=.returned (.tuple #[])/\∃d',SW eU w0 blk off d' w'/\PermIn a b d d'/\SortedIn ltInt a b d':=by
 subst hn dE hzb
 have HF:=Ou (heapSort_holds (lt:=ltInt) swo_ltInt d a b Oz hb)
 have HSD:=Ou (λlo hi first zl zh zf dk wk n h1 h2 h3 h4 h5 h6 h7 h8 h9=>qe3 blk off cap lo hi first zl zh zf h1 h2 h3 d0 dk w0 wk n h4 R h5 h6 h7 h8 h9)
 obtain⟨hi,hhi⟩:∃h,h=b-a:=⟨_,rfl⟩
 have q0:(b:Int)-(a:Int)=(hi:Int):=by omega
 obtain⟨k0,d8⟩:∃k,k=(hi-1) / 2:=⟨_,rfl⟩
 have q1:((hi:Int)-1) / 2=(k0:Int):=by omega
 have q1':((hi:Int)-1).tdiv 2=(k0:Int):=by rw[Mv (by omega)];exact q1
 have HK:=Ou (Sv hhi d8)
 have m1:0<hi:=by omega
 have m2:a+hi<=b:=by omega
 have m3:b<=a+hi:=by omega
 have m4:k0<=hi:=by omega
 clear hhi d8
 have mixed:prog.follows .mixedOrders=true:=by kernel_rfl
 have S0:Aside (SW eU w0 blk off d w):=S
 have HS:=Ou hs
 have HL:=Ou Jh
 clear S hs
 go_enter func105,ntmps105
 go_wp2
 go_loopg [9] (k0+1) (λkx s9 wr=>∃(k:Nat) (z:Int) (dk:Array Int),s9=.int .i64 z/\z+1=(k:Int)/\k<=k0+1/\k<=kx/\dk.size=d.size/\Aside (SW eU w0 blk off dk wr)/\Hid (heapBuild ltInt hi a k dk=heapBuild ltInt hi a (k0+1) d))
 case atStart=>exact⟨k0+1,k0,d,rfl,by omega,by omega,by omega,rfl,S0,Ou rfl⟩
 case round =>
  clear S0;obtain⟨k,z,dk,rfl,wH,d8,aP,hds,S1,HE⟩:=hrel;have HD:=Ou hds;clear hds;by_cases hk:0<k
  ·obtain⟨j,rfl⟩:∃j,k=j+1:=⟨k-1,by omega⟩
   obtain rfl:z=(j:Int):=by omega
   have hz:(0:Int)<=(j:Int):=by omega
   clear wH;go_wp2_with (((with_reducible refine(HSD.out j hi a _ _ _ dk _ d.size rfl rfl rfl ?_ ?_ ?_ ?_ ?_ ?_).mono ?_);exact HD.out.symm;(rw[HD.out];exact HS.out);exact S1.out;(rw[HD.out];omega);(rw[HD.out];omega);(rw[HD.out];omega));rintro e w2 ⟨rfl,S2⟩)
   have S3:Aside (SW eU w0 blk off (siftDown ltInt hi a j dk) w2):=S2;have o8:Hid ((siftDown ltInt hi a j dk).size=d.size):=Ou (by rw[YN hi a hi j dk (by omega)];exact HD.out);have yT:Hid (heapBuild ltInt hi a j (siftDown ltInt hi a j dk)=heapBuild ltInt hi a (k0+1) d):=by
    show _=_;rw[<-HE.out];rfl
   clear S2 S1 HE;go_roundg (j)
   case measure=>omega
   case rel=>exact⟨j,(j:Int)-1,_,rfl,by omega,by omega,by omega,o8.out,S3,yT⟩
  ·obtain rfl:k=0:=by omega
   obtain rfl:z = -1:=by omega
   have HB:Hid (dk=heapBuild ltInt hi a (k0+1) d):=by
    show _=_;rw[<-HE.out];rfl
   clear hk wH HE;go_wp2;go_loopg [10] (hi) (λkx cQ wr=>∃(k:Nat) (z:Int) (dj:Array Int),cQ=.int .i64 z/\z+1=(k:Int)/\k<=hi/\k<=kx/\dj.size=d.size/\Aside (SW eU w0 blk off dj wr)/\Hid (heapPop ltInt a k dj=heapPop ltInt a hi dk))
   case atStart=>exact⟨hi,(hi:Int)-1,dk,rfl,by omega,by omega,by omega,HD.out,S1,Ou rfl⟩
   case round =>
    clear S1 HD;obtain⟨k,z,dj,rfl,wH,hk0',pU,hds,S1,HE⟩:=hrel;have HD:=Ou hds;clear hds;by_cases hk:0<k
    ·obtain⟨j,rfl⟩:∃j,k=j+1:=⟨k-1,by omega⟩
     obtain rfl:z=(j:Int):=by omega
     have hz:(0:Int)<=(j:Int):=by omega
     obtain⟨aj,rD⟩:∃x,x=a+j:=⟨_,rfl⟩
     have q2:IntKind.i64.wrap ((a:Int)+(j:Int))=(aj:Int):=by rw[Wz];omega
     have l1:aj<=a+j:=by omega
     have l2:a+j<=aj:=by omega
     have HAJ:=Ou rD;clear wH rD;go_wp2_with fail
     have aA:=HD.out;have bI:(a:Int)<(d.size:Int):=by omega
     have bJ:(aj:Int)<(d.size:Int):=by omega
     have S2:=S1.out.swapped R (a) (aj) Oz Oz;have ca:=S1.out.c1 R (by rw[HD.out];exact HS.out.symm) (a) Oz;have cb:=S1.out.c1 R (by rw[HD.out];exact HS.out.symm) (aj) Oz;have fa:=S1.out.f1 R (by rw[HD.out];exact HS.out.symm) (a) Oz;have fb:=S1.out.f1 R (by rw[HD.out];exact HS.out.symm) (aj) Oz;obtain⟨uc,cc⟩:=S1.out.c2 R (by rw[HD.out];exact HS.out.symm) (a) (aj) Oz Oz (eU dj[aj]!);clear aA;generalize dj[a]! = vI at S2 ca cc;generalize dj[aj]! = vJ at S2 cb cc;replace S2:Aside (SW eU w0 blk off (swp dj (a) (aj)) ((wr.setCell ⟨blk,off+a,none⟩ (.int .u64 vJ)).setCell ⟨blk,off+aj,none⟩ (.int .u64 vI)).drew):=S2
     replace ca:wr.cell? ⟨blk,off+a,none⟩=some (.int .u64 vI):=ca;replace cb:wr.cell? ⟨blk,off+aj,none⟩=some (.int .u64 vJ):=cb;replace cc:(wr.setCell ⟨blk,off+a,none⟩ (.int .u64 vJ)).cell? ⟨blk,off+aj,none⟩=some uc:=cc;clear S1;go_wp2_with fail
     go_big_region
     clear ca cb fa fb cc bI bJ;generalize ((wr.setCell ⟨blk,off+a,none⟩ (.int .u64 vJ)).setCell ⟨blk,off+aj,none⟩ (.int .u64 vI)).drew=w2 at S2 ⊢;have jV:Hid ((swp dj a aj).size=d.size):=Ou (by rw[size_swp];exact HD.out);go_wp2_with (((with_reducible refine(HSD.out 0 j a _ _ _ (swp dj a aj) _ d.size ?_ rfl rfl ?_ ?_ ?_ ?_ ?_ ?_).mono ?_);rfl;exact jV.out.symm;(rw[jV.out];exact HS.out);exact S2.out;(rw[jV.out];omega);(rw[jV.out];omega);(rw[jV.out];omega));rintro e w3 ⟨rfl,S3⟩)
     have S4:Aside (SW eU w0 blk off (siftDown ltInt j a 0 (swp dj a aj)) w3):=S3;have o8:Hid ((siftDown ltInt j a 0 (swp dj a aj)).size=d.size):=Ou (by rw[YN j a j 0 _ (by omega)];exact jV.out);have yT:Hid (heapPop ltInt a j (siftDown ltInt j a 0 (swp dj a aj))=heapPop ltInt a hi dk):=by
      show _=_;rw[<-HE.out,HAJ.out];rfl
     clear S3 S2 HE;go_roundg (j)
     case measure=>omega
     case rel=>exact⟨j,(j:Int)-1,_,rfl,by omega,by omega,by omega,o8.out,S4,yT⟩
    ·obtain rfl:k=0:=by omega
     obtain rfl:z = -1:=by omega
     have HX:Hid (heapSort ltInt d a b=dj):=by
      show _=_;unfold heapSort;rw[<-HK.out.1,<-HK.out.2,<-HB.out,<-HE.out];rfl
     clear hk wH HE;go_wp2;go_end0;refine⟨rfl,dj,S1.out,?_⟩;rw[<-HX.out];exact HF.out
structure PInv (L:Int->Bool) (a b i j:Nat) (v:Int) (d dk:Array Int):Prop where
 i1:a+1<=i
 ij:i<=j+1
 jb:j<b
 v:dk[a]! = v
 lo:∀p,a<p->p<i->L dk[p]! = true
 hi:∀p,j<p->p<b->L dk[p]! = false
 perm:PermIn a b d dk
theorem PInv.start (L:Int->Bool){a b pv:Nat}{d:Array Int}(h1:a<=pv)(h2:pv<b)(hb:b<=d.size):PInv L a b (a+1) (b-1) d[pv]! d (swp d a pv) :=
 ⟨Sq _,by omega,by omega,by
  by_cases e:a=pv
  ·subst e;rw[swp_right _ _ _ (by omega)]
  ·exact swp_left _ _ _ Oz e,λp h h'=>by omega,λp h h'=>by omega,swp_permIn d a b a pv (Sq _) Oz h1 h2 hb⟩
theorem PInv.up {L:Int->Bool}{a b i j:Nat}{v:Int}{d dk:Array Int}(h:PInv L a b i j v d dk)(hij:i<=j)(hl:L dk[i]! = true):PInv L a b (i+1) j v d dk :=
 ⟨by have:=h.i1;omega,by omega,h.jb,h.v,λp h1 h2=>by
  by_cases e:p=i
  ·rw[e];exact hl
  ·exact h.lo p h1 Oz,h.hi,h.perm⟩
theorem PInv.down {L:Int->Bool}{a b i j:Nat}{v:Int}{d dk:Array Int}(h:PInv L a b i (j+1) v d dk)(hij:i<=j+1)(hl:L dk[j+1]! = false):PInv L a b i j v d dk :=
 ⟨h.i1,hij,by have:=h.jb;omega,h.v,h.lo,λp h1 h2=>by
  by_cases e:p=j+1
  ·rw[e];exact hl
  ·exact h.hi p Oz h2,h.perm⟩
theorem PInv.swap {L:Int->Bool}{a b i j:Nat}{v:Int}{d dk:Array Int}(h:PInv L a b i (j+1) v d dk)(hij:i<=j+1)(h1:L dk[i]! = false)(h2:L dk[j+1]! = true)(hb:b<=d.size):i<=j/\PInv L a b (i+1) j v d (swp dk i (j+1)):=by
 have hs:dk.size=d.size:=h.perm.1
 have hne:i≠j+1:=by rintro rfl;rw[h1]at h2;cases h2
 have b1:=h.i1
 have b2:=h.jb
 refine⟨by omega,by omega,by omega,by omega,?_,λp q1 q2=>?_,λp q1 q2=>?_,permIn_trans _ _ _ _ _ h.perm (swp_permIn dk a b i (j+1) Oz Oz Oz Oz Oz)⟩
 ·rw[swp_other _ _ _ _ Oz (by omega)];exact h.v
 ·by_cases e:p=i
  ·rw[e,swp_left _ _ _ Oz hne];exact h2
  ·rw[swp_other _ _ _ _ e (by omega)];exact h.lo p q1 Oz
 ·by_cases e:p=j+1
  ·rw[e,swp_right _ _ _ (by omega)];exact h1
  ·rw[swp_other _ _ _ _ Oz e];exact h.hi p Oz q2
theorem PInv.swapj {L:Int->Bool}{a b i j:Nat}{v:Int}{d dk:Array Int}(h:PInv L a b i j v d dk)(hij:i<=j)(h1:L dk[i]! = false)(h2:L dk[j]! = true)(hb:b<=d.size):i<j/\PInv L a b (i+1) (j-1) v d (swp dk i j):=by
 have b1:=h.i1
 obtain⟨j2,rfl⟩:∃j2,j=j2+1:=⟨j-1,by omega⟩
 have:=h.swap hij h1 h2 hb
 exact⟨by omega,this.2⟩
def Zq (v x:Int):Bool:=!ltInt v x
def QO (v x:Int):Bool:=ltInt x v
def PEq (a b m:Nat)(v:Int)(d d':Array Int):Prop:=PermIn a b d d'/\a<m/\m<=b/\(∀p,a<=p->p<m->ltInt v d'[p]! = false)/\∀p,m<=p->p<b->ltInt v d'[p]! = true
theorem qe5 {a b i j:Nat}{v:Int}{d dk:Array Int}(h:PInv (Zq v) a b i j v d dk)(hij:j<i):PEq a b i v d dk:=by
 have b1:=h.i1;have b2:=h.ij;have b3:=h.jb
 refine⟨h.perm,by omega,by omega,λp q1 q2=>?_,λp q1 q2=>?_⟩
 ·by_cases e:p=a
  ·rw[e,h.v];exact swo_ltInt.irrefl _
  ·have:=h.lo p Oz q2;unfold Zq at this;simpa using this
 ·have:=h.hi p Oz q2;unfold Zq at this;simpa using this
def KQ (a b m:Nat)(d d':Array Int):Prop:=PermIn a b d d'/\a<=m/\m<b/\(∀p,a<=p->p<m->ltInt d'[p]! d'[m]! = true)/\∀p,m<p->p<b->ltInt d'[p]! d'[m]! = false
theorem CB {a b i j:Nat}{v:Int}{d dk:Array Int}(h:PInv (QO v) a b i j v d dk)(hij:j<i)(hb:b<=d.size):KQ a b j d (swp dk j a):=by
 have b1:=h.i1;have b2:=h.ij;have b3:=h.jb
 have hs:dk.size=d.size:=h.perm.1
 have hj:(swp dk j a)[j]! = v:=by
  by_cases e:j=a
  ·rw[e,swp_right _ _ _ (by omega)];exact h.v
  ·rw[swp_left _ _ _ Oz e];exact h.v
 refine⟨permIn_trans _ _ _ _ _ h.perm (swp_permIn dk a b j a Oz Oz Oz Oz Oz),by omega,b3,λp q1 q2=>?_,λp q1 q2=>?_⟩
 ·rw[hj];by_cases e:p=a
  ·rw[e,swp_right _ _ _ (by omega)];have:=h.lo j Oz Oz;exact this
  ·rw[swp_other _ _ _ _ Oz e];exact h.lo p Oz Oz
 ·rw[hj,swp_other _ _ _ _ Oz (by omega)];exact h.hi p q1 q2
theorem qe6 (blk off cap:Nat)(a b pv:Nat)(za zb zp:Int)(dE:za=a)(hzb:zb=b)(hzp:zp=pv)(d0 d:Array Int)(w0 w:World)(n:Nat)(hn:n=d.size)(R:Row1 eU w0 blk off d0)(hs:d0.size=d.size)(S:SW eU w0 blk off d w)(hsz:d.size<4611686018427387904)(h1:a<=pv)(h2:pv<b)(hb:b<=d.size) :
  Calls prog 111 #[.slice (some ⟨blk,off,none⟩) n cap,.int .i64 za,.int .i64 zb,.int .i64 zp] w λe w'=>∃m:Nat,e=.returned (.int .i64 m)/\∃d',SW eU w0 blk off d' w'/\PEq a b m d[pv]! d d':=by
 subst hn dE hzb hzp
 obtain⟨v,hv⟩:∃v,d[pv]! = v:=⟨_,rfl⟩
 have P0:=PInv.start (Zq v) h1 h2 hb
 rw[hv]at P0
 rw[hv]
 have mN:=Ou P0
 have HD:Hid (d.size<=d.size):=Sq _
 clear P0 hv
 have mixed:prog.follows .mixedOrders=true:=by kernel_rfl
 have S0:Aside (SW eU w0 blk off d w):=S
 have HS:=Ou hs
 have HL:=Ou Jh
 clear S hs
 go_enter func111,ntmps111
 go_wp2_with fail
 have aA:=HD.out
 have bI:(a:Int)<(d.size:Int):=by omega
 have bJ:(pv:Int)<(d.size:Int):=by omega
 have S2:=S0.out.swapped R (a) (pv) Oz Oz
 have ca:=S0.out.c1 R HS.out.symm (a) Oz
 have cb:=S0.out.c1 R HS.out.symm (pv) Oz
 have fa:=S0.out.f1 R HS.out.symm (a) Oz
 have fb:=S0.out.f1 R HS.out.symm (pv) Oz
 obtain⟨uc,cc⟩:=S0.out.c2 R HS.out.symm (a) (pv) Oz Oz (eU d[pv]!)
 clear aA
 generalize d[a]! = vI at S2 ca cc
 generalize d[pv]! = vJ at S2 cb cc
 replace S2:Aside (SW eU w0 blk off (swp d (a) (pv)) ((w.setCell ⟨blk,off+a,none⟩ (.int .u64 vJ)).setCell ⟨blk,off+pv,none⟩ (.int .u64 vI)).drew):=S2
 replace ca:w.cell? ⟨blk,off+a,none⟩=some (.int .u64 vI):=ca
 replace cb:w.cell? ⟨blk,off+pv,none⟩=some (.int .u64 vJ):=cb
 replace cc:(w.setCell ⟨blk,off+a,none⟩ (.int .u64 vJ)).cell? ⟨blk,off+pv,none⟩=some uc:=cc
 clear S0
 go_wp2_with fail
 go_big_region
 clear ca cb fa fb cc bI bJ
 generalize ((w.setCell ⟨blk,off+a,none⟩ (.int .u64 vJ)).setCell ⟨blk,off+pv,none⟩ (.int .u64 vI)).drew=w2 at S2 ⊢
 clear HD
 go_wp2_with fail
 go_loopg [9,10] b (λkx s9 cQ wr=>∃(i j:Nat) (dk:Array Int),s9=.int .i64 i/\cQ=.int .i64 j/\i<=j+1/\a+1<=i/\j<b/\j<=kx/\Aside (SW eU w0 blk off dk wr)/\Hid (PInv (Zq v) a b i j v d dk))
 case atStart=>exact⟨a+1,b-1,swp d a pv,by go_num,by rw[Iq (by omega)];rfl,by omega,by omega,by omega,by omega,S2,mN⟩
 case round =>
  clear S2 mN;obtain⟨i0,j0,dk,rfl,rfl,pQ,hi0,rI,uX,S1,PV⟩:=hrel;have HD:Hid (dk.size=d.size):=PV.out.perm.1;go_upto_block 2 with fail
  go_cut [9] from 29 to 45 (λsx wx=>∃i:Nat,sx=.int .i64 i/\i<=j0+1/\a+1<=i/\Aside (SW eU w0 blk off dk wx)/\Hid (PInv (Zq v) a b i j0 v d dk)/\Hid (i<=j0->Zq v dk[i]! = false))
  case first =>
   go_wp2_with fail
   go_loopg [9] (j0+1-i0) (λkx sx wx=>∃i':Nat,sx=.int .i64 i'/\i'<=j0+1/\a+1<=i'/\j0+1-i'<=kx/\Aside (SW eU w0 blk off dk wx)/\Hid (PInv (Zq v) a b i' j0 v d dk))
   case atStart=>exact⟨i0,rfl,by omega,by omega,Sq _,S1,PV⟩
   case round =>
    clear S1 PV;obtain⟨i',rfl,hi1,hi2,aP,S1,PV⟩:=hrel;by_cases hij:i'<=j0
    ·have hz:(i':Int)<=(j0:Int):=by omega
     have aA:=HD.out;obtain⟨x,hx⟩:∃x,dk[i']! = x:=⟨_,rfl⟩
     have cx:=S1.out.c1 R (by rw[HD.out];exact HS.out.symm) (i') Oz;rw[hx]at cx;have cv:=S1.out.c1 R (by rw[HD.out];exact HS.out.symm) a Oz;rw[PV.out.v]at cv;replace cx:wr.cell? ⟨blk,off+i',none⟩=some (.int .u64 x):=cx;replace cv:wr.cell? ⟨blk,off+a,none⟩=some (.int .u64 v):=cv;have bx:(i':Int)<(d.size:Int):=by omega
     have bv:(a:Int)<(d.size:Int):=by omega
     have EX:=Ou hx;clear hx aA
     cases hl:ltInt v x with
     | true =>
       have d9:Hid (Zq v dk[i']! = false):=by
        show _=_;rw[EX.out];unfold Zq;rw[hl];rfl
       go_wp2_with fail
       go_quiet ((go_at_call 110;with_reducible exact Ss (HL.out _ _ _)))
       have S2:Aside (SW eU w0 blk off dk (wr.drewN nq)):=S1.out.drewN nq;clear cx cv bx bv S1;generalize wr.drewN nq=wq at S2 ⊢;go_wp2;go_meet
       case rel=>exact⟨i',rfl,by omega,by omega,S2,PV,Ou (λ_=>d9.out)⟩
     | false =>
       have d9:Hid (Zq v dk[i']! = true):=by
        show _=_;rw[EX.out];unfold Zq;rw[hl];rfl
       go_wp2_with fail
       go_quiet ((go_at_call 110;with_reducible exact Ss (HL.out _ _ _)))
       have S2:Aside (SW eU w0 blk off dk (wr.drewN nq)):=S1.out.drewN nq;clear cx cv bx bv S1;generalize wr.drewN nq=wq at S2 ⊢;have HN:Hid (PInv (Zq v) a b (i'+1) j0 v d dk):=Ou (PV.out.up hij d9.out);clear PV;go_wp2;go_roundg (j0+1-(i'+1))
       case measure=>omega
       case rel=>exact⟨i'+1,by go_num,by omega,by omega,Sq _,S2,HN⟩
    ·have hz:¬(i':Int)<=(j0:Int):=by omega
     have hzd:decide ((i':Int)<=(j0:Int))=false:=Sz hz;go_wp2_with fail
     go_quiet ((go_at_call 110;with_reducible exact Ss (HL.out _ _ _)))
     have S2:Aside (SW eU w0 blk off dk (wr.drewN nq)):=S1.out.drewN nq;clear S1;generalize wr.drewN nq=wq at S2 ⊢;go_wp2;go_meet
     case rel=>exact⟨i',rfl,by omega,by omega,S2,PV,Ou (λh=>absurd h hij)⟩
  case rest =>
  obtain⟨i,rfl,pR,hi1,S3,PV,NI⟩:=hcut;go_upto_block 4 with fail
  go_cut [10] from 46 to 61 (λsx wx=>∃j:Nat,sx=.int .i64 j/\i<=j+1/\j<b/\j<=j0/\Aside (SW eU w0 blk off dk wx)/\Hid (PInv (Zq v) a b i j v d dk)/\Hid (i<=j->Zq v dk[j]! = true))
  case first =>
   go_wp2_with fail
   go_loopg [10] j0 (λkx sx wx=>∃j':Nat,sx=.int .i64 j'/\i<=j'+1/\j'<b/\j'<=j0/\j'<=kx/\Aside (SW eU w0 blk off dk wx)/\Hid (PInv (Zq v) a b i j' v d dk))
   case atStart=>exact⟨j0,rfl,by omega,by omega,Sq _,Sq _,S3,PV⟩
   case round =>
    clear S3 PV;obtain⟨j',rfl,hj1,rJ,iQ,aP,S1,PV⟩:=hrel;by_cases hij:i<=j'
    ·have hz:(i:Int)<=(j':Int):=by omega
     have aA:=HD.out;obtain⟨x,hx⟩:∃x,dk[j']! = x:=⟨_,rfl⟩
     have cx:=S1.out.c1 R (by rw[HD.out];exact HS.out.symm) (j') Oz;rw[hx]at cx;have cv:=S1.out.c1 R (by rw[HD.out];exact HS.out.symm) a Oz;rw[PV.out.v]at cv;replace cx:wr.cell? ⟨blk,off+j',none⟩=some (.int .u64 x):=cx;replace cv:wr.cell? ⟨blk,off+a,none⟩=some (.int .u64 v):=cv;have bx:(j':Int)<(d.size:Int):=by omega
     have bv:(a:Int)<(d.size:Int):=by omega
     have EX:=Ou hx;clear hx aA
     cases hl:ltInt v x with
     | true =>
       have d9:Hid (Zq v dk[j']! = false):=by
        show _=_;rw[EX.out];unfold Zq;rw[hl];rfl
       go_wp2_with fail
       go_quiet ((go_at_call 110;with_reducible exact Ss (HL.out _ _ _)))
       have S2:Aside (SW eU w0 blk off dk (wr.drewN nq)):=S1.out.drewN nq;clear cx cv bx bv S1;generalize wr.drewN nq=wq at S2 ⊢;obtain⟨j2,rfl⟩:∃j2,j'=j2+1:=⟨j'-1,by omega⟩
       have HN:Hid (PInv (Zq v) a b i j2 v d dk):=Ou (PV.out.down hij d9.out);clear PV;go_wp2;go_roundg (j2)
       case measure=>omega
       case rel=>exact⟨j2,by go_num,by omega,by omega,by omega,Sq _,S2,HN⟩
     | false =>
       have d9:Hid (Zq v dk[j']! = true):=by
        show _=_;rw[EX.out];unfold Zq;rw[hl];rfl
       go_wp2_with fail
       go_quiet ((go_at_call 110;with_reducible exact Ss (HL.out _ _ _)))
       have S2:Aside (SW eU w0 blk off dk (wr.drewN nq)):=S1.out.drewN nq;clear cx cv bx bv S1;generalize wr.drewN nq=wq at S2 ⊢;go_wp2;go_meet
       case rel=>exact⟨j',rfl,by omega,by omega,iQ,S2,PV,Ou (λ_=>d9.out)⟩
    ·have hz:¬(i:Int)<=(j':Int):=by omega
     have hzd:decide ((i:Int)<=(j':Int))=false:=Sz hz;go_wp2_with fail
     go_quiet ((go_at_call 110;with_reducible exact Ss (HL.out _ _ _)))
     have S2:Aside (SW eU w0 blk off dk (wr.drewN nq)):=S1.out.drewN nq;clear S1;generalize wr.drewN nq=wq at S2 ⊢;go_wp2;go_meet
     case rel=>exact⟨j',rfl,by omega,by omega,iQ,S2,PV,Ou (λh=>absurd h hij)⟩
  case rest =>
  obtain⟨j,rfl,pS,rJ,iQ,S4,PV,NJ⟩:=hcut;by_cases hgt:j<i
  ·have hz:(j:Int)<(i:Int):=by omega
   have HF:=Ou (qe5 PV.out hgt);clear PV NI NJ;go_wp2_with fail
   go_ret;exact⟨i,rfl,dk,S4.out,HF.out⟩
  ·have hz:¬(j:Int)<(i:Int):=by omega
   obtain⟨hlt,PN0⟩:=PV.out.swapj Oz (NI.out Oz) (NJ.out Oz) hb;have PN:=Ou PN0;clear PN0 PV NI NJ;go_wp2_with fail
   have aA:=HD.out;have bI:(i:Int)<(d.size:Int):=by omega
   have bJ:(j:Int)<(d.size:Int):=by omega
   have S2:=S4.out.swapped R (i) (j) Oz Oz;have ca:=S4.out.c1 R (by rw[HD.out];exact HS.out.symm) (i) Oz;have cb:=S4.out.c1 R (by rw[HD.out];exact HS.out.symm) (j) Oz;have fa:=S4.out.f1 R (by rw[HD.out];exact HS.out.symm) (i) Oz;have fb:=S4.out.f1 R (by rw[HD.out];exact HS.out.symm) (j) Oz;obtain⟨uc,cc⟩:=S4.out.c2 R (by rw[HD.out];exact HS.out.symm) (i) (j) Oz Oz (eU dk[j]!);clear aA;generalize dk[i]! = vI at S2 ca cc;generalize dk[j]! = vJ at S2 cb cc;replace S2:Aside (SW eU w0 blk off (swp dk (i) (j)) ((wc.setCell ⟨blk,off+i,none⟩ (.int .u64 vJ)).setCell ⟨blk,off+j,none⟩ (.int .u64 vI)).drew):=S2
   replace ca:wc.cell? ⟨blk,off+i,none⟩=some (.int .u64 vI):=ca;replace cb:wc.cell? ⟨blk,off+j,none⟩=some (.int .u64 vJ):=cb;replace cc:(wc.setCell ⟨blk,off+i,none⟩ (.int .u64 vJ)).cell? ⟨blk,off+j,none⟩=some uc:=cc;clear S4;go_wp2_with fail
   go_big_region
   clear ca cb fa fb cc bI bJ;generalize ((wc.setCell ⟨blk,off+i,none⟩ (.int .u64 vJ)).setCell ⟨blk,off+j,none⟩ (.int .u64 vI)).drew=w2 at S2 ⊢;go_wp2_with fail
   go_roundg (j-1)
   case measure=>omega
   case rel=>exact⟨i+1,j-1,swp dk i j,by go_num,by rw[Iq (by omega)];rfl,by omega,by omega,by omega,Sq _,S2,PN⟩
theorem qe7 (blk off cap:Nat)(a b pv:Nat)(za zb zp:Int)(dE:za=a)(hzb:zb=b)(hzp:zp=pv)(d0 d:Array Int)(w0 w:World)(n:Nat)(hn:n=d.size)(R:Row1 eU w0 blk off d0)(hs:d0.size=d.size)(S:SW eU w0 blk off d w)(hsz:d.size<4611686018427387904)(h1:a<=pv)(h2:pv<b)(hb:b<=d.size) :
  Calls prog 112 #[.slice (some ⟨blk,off,none⟩) n cap,.int .i64 za,.int .i64 zb,.int .i64 zp] w λe w'=>∃(m:Nat) (t:Bool),e=.returned (.tuple #[.int .i64 m,.bool t])/\∃d',SW eU w0 blk off d' w'/\KQ a b m d d':=by
 subst hn dE hzb hzp
 obtain⟨v,hv⟩:∃v,d[pv]! = v:=⟨_,rfl⟩
 have P0:=PInv.start (QO v) h1 h2 hb
 rw[hv]at P0
 have mN:=Ou P0
 have HD:Hid (d.size<=d.size):=Sq _
 clear P0 hv
 have mixed:prog.follows .mixedOrders=true:=by kernel_rfl
 have S0:Aside (SW eU w0 blk off d w):=S
 have HS:=Ou hs
 have HL:=Ou Jh
 clear S hs
 go_enter func112,ntmps112
 go_wp2_with fail
 have aA:=HD.out
 have bI:(a:Int)<(d.size:Int):=by omega
 have bJ:(pv:Int)<(d.size:Int):=by omega
 have S2:=S0.out.swapped R (a) (pv) Oz Oz
 have ca:=S0.out.c1 R HS.out.symm (a) Oz
 have cb:=S0.out.c1 R HS.out.symm (pv) Oz
 have fa:=S0.out.f1 R HS.out.symm (a) Oz
 have fb:=S0.out.f1 R HS.out.symm (pv) Oz
 obtain⟨uc,cc⟩:=S0.out.c2 R HS.out.symm (a) (pv) Oz Oz (eU d[pv]!)
 clear aA
 generalize d[a]! = vI at S2 ca cc
 generalize d[pv]! = vJ at S2 cb cc
 replace S2:Aside (SW eU w0 blk off (swp d (a) (pv)) ((w.setCell ⟨blk,off+a,none⟩ (.int .u64 vJ)).setCell ⟨blk,off+pv,none⟩ (.int .u64 vI)).drew):=S2
 replace ca:w.cell? ⟨blk,off+a,none⟩=some (.int .u64 vI):=ca
 replace cb:w.cell? ⟨blk,off+pv,none⟩=some (.int .u64 vJ):=cb
 replace cc:(w.setCell ⟨blk,off+a,none⟩ (.int .u64 vJ)).cell? ⟨blk,off+pv,none⟩=some uc:=cc
 clear S0
 go_wp2_with fail
 go_big_region
 clear ca cb fa fb cc bI bJ
 generalize ((w.setCell ⟨blk,off+a,none⟩ (.int .u64 vJ)).setCell ⟨blk,off+pv,none⟩ (.int .u64 vI)).drew=w2 at S2 ⊢
 clear HD
 obtain⟨dk,xS⟩:∃x,x=swp d a pv:=⟨_,rfl⟩
 rw[<-xS]at S2 mN
 clear xS
 have PV:=mN
 have HD:Hid (dk.size=d.size):=PV.out.perm.1
 clear mN
 obtain⟨i0,uT⟩:∃x,x=a+1:=⟨_,rfl⟩
 obtain⟨j0,uV⟩:∃x,x=b-1:=⟨_,rfl⟩
 have z1:(a:Int)+1=(i0:Int):=by omega
 have z2:(b:Int)-1=(j0:Int):=by omega
 rw[<-uT,<-uV]at PV
 have pQ:i0<=j0+1:=by omega
 have hi0:a+1<=i0:=by omega
 have rI:j0<b:=by omega
 have hj0':b<=j0+1:=by omega
 clear uT uV
 go_upto_block 0 with fail
 go_cut [10]  (λsx wx=>∃i:Nat,sx=.int .i64 i/\i<=j0+1/\a+1<=i/\Aside (SW eU w0 blk off dk wx)/\Hid (PInv (QO v) a b i j0 v d dk)/\Hid (i<=j0->QO v dk[i]! = false))
 case first =>
  go_wp2_with fail
  go_loopg [10] (j0+1-i0) (λkx sx wx=>∃i':Nat,sx=.int .i64 i'/\i'<=j0+1/\a+1<=i'/\j0+1-i'<=kx/\Aside (SW eU w0 blk off dk wx)/\Hid (PInv (QO v) a b i' j0 v d dk))
  case atStart=>exact⟨i0,rfl,by omega,by omega,Sq _,S2,PV⟩
  case round =>
   clear S2 PV;obtain⟨i',rfl,hi1,hi2,aP,S1,PV⟩:=hrel;by_cases hij:i'<=j0
   ·have hz:(i':Int)<=(j0:Int):=by omega
    have aA:=HD.out;obtain⟨x,hx⟩:∃x,dk[i']! = x:=⟨_,rfl⟩
    have cx:=S1.out.c1 R (by rw[HD.out];exact HS.out.symm) (i') Oz;rw[hx]at cx;have cv:=S1.out.c1 R (by rw[HD.out];exact HS.out.symm) a Oz;rw[PV.out.v]at cv;replace cx:wr.cell? ⟨blk,off+i',none⟩=some (.int .u64 x):=cx;replace cv:wr.cell? ⟨blk,off+a,none⟩=some (.int .u64 v):=cv;have bx:(i':Int)<(d.size:Int):=by omega
    have bv:(a:Int)<(d.size:Int):=by omega
    have EX:=Ou hx;clear hx aA
    cases hl:ltInt x v with
    | true =>
      have d9:Hid (QO v dk[i']! = true):=by
       show _=_;rw[EX.out];unfold QO;rw[hl]
      go_wp2_with fail
      go_quiet ((go_at_call 110;with_reducible exact Ss (HL.out _ _ _)))
      have S2:Aside (SW eU w0 blk off dk (wr.drewN nq)):=S1.out.drewN nq;clear cx cv bx bv S1;generalize wr.drewN nq=wq at S2 ⊢;have HN:Hid (PInv (QO v) a b (i'+1) j0 v d dk):=Ou (PV.out.up hij d9.out);clear PV;go_wp2;go_roundg (j0+1-(i'+1))
      case measure=>omega
      case rel=>exact⟨i'+1,by go_num,by omega,by omega,Sq _,S2,HN⟩
    | false =>
      have d9:Hid (QO v dk[i']! = false):=by
       show _=_;rw[EX.out];unfold QO;rw[hl]
      go_wp2_with fail
      go_quiet ((go_at_call 110;with_reducible exact Ss (HL.out _ _ _)))
      have S2:Aside (SW eU w0 blk off dk (wr.drewN nq)):=S1.out.drewN nq;clear cx cv bx bv S1;generalize wr.drewN nq=wq at S2 ⊢;go_wp2;go_meet
      case rel=>exact⟨i',rfl,by omega,by omega,S2,PV,Ou (λ_=>d9.out)⟩
   ·have hz:¬(i':Int)<=(j0:Int):=by omega
    have hzd:decide ((i':Int)<=(j0:Int))=false:=Sz hz;go_wp2_with fail
    go_quiet ((go_at_call 110;with_reducible exact Ss (HL.out _ _ _)))
    have S2:Aside (SW eU w0 blk off dk (wr.drewN nq)):=S1.out.drewN nq;clear S1;generalize wr.drewN nq=wq at S2 ⊢;go_wp2;go_meet
    case rel=>exact⟨i',rfl,by omega,by omega,S2,PV,Ou (λh=>absurd h hij)⟩
 case rest =>
 obtain⟨i,rfl,pR,hi1,S3,PV,NI⟩:=hcut
 go_upto_block 2 with fail
 go_cut [11]  (λsx wx=>∃j:Nat,sx=.int .i64 j/\i<=j+1/\j<b/\j<=j0/\Aside (SW eU w0 blk off dk wx)/\Hid (PInv (QO v) a b i j v d dk)/\Hid (i<=j->QO v dk[j]! = true))
 case first =>
  go_wp2_with fail
  go_loopg [11] j0 (λkx sx wx=>∃j':Nat,sx=.int .i64 j'/\i<=j'+1/\j'<b/\j'<=j0/\j'<=kx/\Aside (SW eU w0 blk off dk wx)/\Hid (PInv (QO v) a b i j' v d dk))
  case atStart=>exact⟨j0,rfl,by omega,by omega,Sq _,Sq _,S3,PV⟩
  case round =>
   clear S3 PV;obtain⟨j',rfl,hj1,rJ,iQ,aP,S1,PV⟩:=hrel;by_cases hij:i<=j'
   ·have hz:(i:Int)<=(j':Int):=by omega
    have aA:=HD.out;obtain⟨x,hx⟩:∃x,dk[j']! = x:=⟨_,rfl⟩
    have cx:=S1.out.c1 R (by rw[HD.out];exact HS.out.symm) (j') Oz;rw[hx]at cx;have cv:=S1.out.c1 R (by rw[HD.out];exact HS.out.symm) a Oz;rw[PV.out.v]at cv;replace cx:wr.cell? ⟨blk,off+j',none⟩=some (.int .u64 x):=cx;replace cv:wr.cell? ⟨blk,off+a,none⟩=some (.int .u64 v):=cv;have bx:(j':Int)<(d.size:Int):=by omega
    have bv:(a:Int)<(d.size:Int):=by omega
    have EX:=Ou hx;clear hx aA
    cases hl:ltInt x v with
    | true =>
      have d9:Hid (QO v dk[j']! = true):=by
       show _=_;rw[EX.out];unfold QO;rw[hl]
      go_wp2_with fail
      go_quiet ((go_at_call 110;with_reducible exact Ss (HL.out _ _ _)))
      have S2:Aside (SW eU w0 blk off dk (wr.drewN nq)):=S1.out.drewN nq;clear cx cv bx bv S1;generalize wr.drewN nq=wq at S2 ⊢;go_wp2;go_meet
      case rel=>exact⟨j',rfl,by omega,by omega,iQ,S2,PV,Ou (λ_=>d9.out)⟩
    | false =>
      have d9:Hid (QO v dk[j']! = false):=by
       show _=_;rw[EX.out];unfold QO;rw[hl]
      go_wp2_with fail
      go_quiet ((go_at_call 110;with_reducible exact Ss (HL.out _ _ _)))
      have S2:Aside (SW eU w0 blk off dk (wr.drewN nq)):=S1.out.drewN nq;clear cx cv bx bv S1;generalize wr.drewN nq=wq at S2 ⊢;obtain⟨j2,rfl⟩:∃j2,j'=j2+1:=⟨j'-1,by omega⟩
      have HN:Hid (PInv (QO v) a b i j2 v d dk):=Ou (PV.out.down hij d9.out);clear PV;go_wp2;go_roundg (j2)
      case measure=>omega
      case rel=>exact⟨j2,by go_num,by omega,by omega,by omega,Sq _,S2,HN⟩
   ·have hz:¬(i:Int)<=(j':Int):=by omega
    have hzd:decide ((i:Int)<=(j':Int))=false:=Sz hz;go_wp2_with fail
    go_quiet ((go_at_call 110;with_reducible exact Ss (HL.out _ _ _)))
    have S2:Aside (SW eU w0 blk off dk (wr.drewN nq)):=S1.out.drewN nq;clear S1;generalize wr.drewN nq=wq at S2 ⊢;go_wp2;go_meet
    case rel=>exact⟨j',rfl,by omega,by omega,iQ,S2,PV,Ou (λh=>absurd h hij)⟩
 case rest =>
 obtain⟨j,rfl,pS,rJ,iQ,S4,PV,NJ⟩:=hcut
 by_cases hgt:j<i
 ·have hz:(j:Int)<(i:Int):=by omega
  have HF:=Ou (CB PV.out hgt hb);have hja:a<=j:=by have:=PV.out.i1;omega
  clear PV NI NJ;go_wp2_with fail
  have aA:=HD.out;have bI:(j:Int)<(d.size:Int):=by omega
  have bJ:(a:Int)<(d.size:Int):=by omega
  have S2:=S4.out.swapped R (j) (a) Oz Oz;have ca:=S4.out.c1 R (by rw[HD.out];exact HS.out.symm) (j) Oz;have cb:=S4.out.c1 R (by rw[HD.out];exact HS.out.symm) (a) Oz;have fa:=S4.out.f1 R (by rw[HD.out];exact HS.out.symm) (j) Oz;have fb:=S4.out.f1 R (by rw[HD.out];exact HS.out.symm) (a) Oz;obtain⟨uc,cc⟩:=S4.out.c2 R (by rw[HD.out];exact HS.out.symm) (j) (a) Oz Oz (eU dk[a]!);clear aA;generalize dk[j]! = vI at S2 ca cc;generalize dk[a]! = vJ at S2 cb cc;replace S2:Aside (SW eU w0 blk off (swp dk (j) (a)) ((wc.setCell ⟨blk,off+j,none⟩ (.int .u64 vJ)).setCell ⟨blk,off+a,none⟩ (.int .u64 vI)).drew):=S2
  replace ca:wc.cell? ⟨blk,off+j,none⟩=some (.int .u64 vI):=ca;replace cb:wc.cell? ⟨blk,off+a,none⟩=some (.int .u64 vJ):=cb;replace cc:(wc.setCell ⟨blk,off+j,none⟩ (.int .u64 vJ)).cell? ⟨blk,off+a,none⟩=some uc:=cc;clear S4;go_wp2_with fail
  go_big_region
  clear ca cb fa fb cc bI bJ;generalize ((wc.setCell ⟨blk,off+j,none⟩ (.int .u64 vJ)).setCell ⟨blk,off+a,none⟩ (.int .u64 vI)).drew=w2 at S2 ⊢;go_wp2_with fail
  go_ret2;exact⟨j,true,rfl,_,S2,HF.out⟩
 ·have hz:¬(j:Int)<(i:Int):=by omega
  obtain⟨hlt,PN0⟩:=PV.out.swapj Oz (NI.out Oz) (NJ.out Oz) hb;have PN:=Ou PN0;clear PN0 PV NI NJ;go_wp2_with fail
  have aA:=HD.out;have bI:(i:Int)<(d.size:Int):=by omega
  have bJ:(j:Int)<(d.size:Int):=by omega
  have S2:=S4.out.swapped R (i) (j) Oz Oz;have ca:=S4.out.c1 R (by rw[HD.out];exact HS.out.symm) (i) Oz;have cb:=S4.out.c1 R (by rw[HD.out];exact HS.out.symm) (j) Oz;have fa:=S4.out.f1 R (by rw[HD.out];exact HS.out.symm) (i) Oz;have fb:=S4.out.f1 R (by rw[HD.out];exact HS.out.symm) (j) Oz;obtain⟨uc,cc⟩:=S4.out.c2 R (by rw[HD.out];exact HS.out.symm) (i) (j) Oz Oz (eU dk[j]!);clear aA;generalize dk[i]! = vI at S2 ca cc;generalize dk[j]! = vJ at S2 cb cc;replace S2:Aside (SW eU w0 blk off (swp dk (i) (j)) ((wc.setCell ⟨blk,off+i,none⟩ (.int .u64 vJ)).setCell ⟨blk,off+j,none⟩ (.int .u64 vI)).drew):=S2
  replace ca:wc.cell? ⟨blk,off+i,none⟩=some (.int .u64 vI):=ca;replace cb:wc.cell? ⟨blk,off+j,none⟩=some (.int .u64 vJ):=cb;replace cc:(wc.setCell ⟨blk,off+i,none⟩ (.int .u64 vJ)).cell? ⟨blk,off+j,none⟩=some uc:=cc;clear S4;go_wp2_with fail
  go_big_region
  clear ca cb fa fb cc bI bJ;generalize ((wc.setCell ⟨blk,off+i,none⟩ (.int .u64 vJ)).setCell ⟨blk,off+j,none⟩ (.int .u64 vI)).drew=w2 at S2 ⊢;clear HD;go_wp2_with fail
  go_loopg [10,11] b (λkx cQ iI wr=>∃(i j:Nat) (dk:Array Int),cQ=.int .i64 i/\iI=.int .i64 j/\i<=j+1/\a+1<=i/\j<b/\j<=kx/\Aside (SW eU w0 blk off dk wr)/\Hid (PInv (QO v) a b i j v d dk))
  case atStart=>exact⟨i+1,j-1,swp dk i j,by go_num,by rw[Iq (by omega)];rfl,by omega,by omega,by omega,by omega,S2,PN⟩
  case round =>
   clear S2 PN hlt hz hgt pS rJ iQ pR hi1 pQ hi0 rI hj0' z1 z2;obtain⟨i0,j0,dk,rfl,rfl,pQ,hi0,rI,uX,S1,PV⟩:=hrel;have HD:Hid (dk.size=d.size):=PV.out.perm.1;go_upto_block 6 with fail
   go_cut [10] from 99 to 114 (λsx wx=>∃i:Nat,sx=.int .i64 i/\i<=j0+1/\a+1<=i/\Aside (SW eU w0 blk off dk wx)/\Hid (PInv (QO v) a b i j0 v d dk)/\Hid (i<=j0->QO v dk[i]! = false))
   case first =>
    go_wp2_with fail
    go_loopg [10] (j0+1-i0) (λkx sx wx=>∃i':Nat,sx=.int .i64 i'/\i'<=j0+1/\a+1<=i'/\j0+1-i'<=kx/\Aside (SW eU w0 blk off dk wx)/\Hid (PInv (QO v) a b i' j0 v d dk))
    case atStart=>exact⟨i0,rfl,by omega,by omega,Sq _,S1,PV⟩
    case round =>
     clear S1 PV;obtain⟨i',rfl,hi1,hi2,aP,S1,PV⟩:=hrel;by_cases hij:i'<=j0
     ·have hz:(i':Int)<=(j0:Int):=by omega
      have aA:=HD.out;obtain⟨x,hx⟩:∃x,dk[i']! = x:=⟨_,rfl⟩
      have cx:=S1.out.c1 R (by rw[HD.out];exact HS.out.symm) (i') Oz;rw[hx]at cx;have cv:=S1.out.c1 R (by rw[HD.out];exact HS.out.symm) a Oz;rw[PV.out.v]at cv;replace cx:wr.cell? ⟨blk,off+i',none⟩=some (.int .u64 x):=cx;replace cv:wr.cell? ⟨blk,off+a,none⟩=some (.int .u64 v):=cv;have bx:(i':Int)<(d.size:Int):=by omega
      have bv:(a:Int)<(d.size:Int):=by omega
      have EX:=Ou hx;clear hx aA
      cases hl:ltInt x v with
      | true =>
        have d9:Hid (QO v dk[i']! = true):=by
         show _=_;rw[EX.out];unfold QO;rw[hl]
        go_wp2_with fail
        go_quiet ((go_at_call 110;with_reducible exact Ss (HL.out _ _ _)))
        have S2:Aside (SW eU w0 blk off dk (wr.drewN nq)):=S1.out.drewN nq;clear cx cv bx bv S1;generalize wr.drewN nq=wq at S2 ⊢;have HN:Hid (PInv (QO v) a b (i'+1) j0 v d dk):=Ou (PV.out.up hij d9.out);clear PV;go_wp2;go_roundg (j0+1-(i'+1))
        case measure=>omega
        case rel=>exact⟨i'+1,by go_num,by omega,by omega,Sq _,S2,HN⟩
      | false =>
        have d9:Hid (QO v dk[i']! = false):=by
         show _=_;rw[EX.out];unfold QO;rw[hl]
        go_wp2_with fail
        go_quiet ((go_at_call 110;with_reducible exact Ss (HL.out _ _ _)))
        have S2:Aside (SW eU w0 blk off dk (wr.drewN nq)):=S1.out.drewN nq;clear cx cv bx bv S1;generalize wr.drewN nq=wq at S2 ⊢;go_wp2;go_meet
        case rel=>exact⟨i',rfl,by omega,by omega,S2,PV,Ou (λ_=>d9.out)⟩
     ·have hz:¬(i':Int)<=(j0:Int):=by omega
      have hzd:decide ((i':Int)<=(j0:Int))=false:=Sz hz;go_wp2_with fail
      go_quiet ((go_at_call 110;with_reducible exact Ss (HL.out _ _ _)))
      have S2:Aside (SW eU w0 blk off dk (wr.drewN nq)):=S1.out.drewN nq;clear S1;generalize wr.drewN nq=wq at S2 ⊢;go_wp2;go_meet
      case rel=>exact⟨i',rfl,by omega,by omega,S2,PV,Ou (λh=>absurd h hij)⟩
   case rest =>
   obtain⟨i,rfl,pR,hi1,S3,PV,NI⟩:=hcut;go_upto_block 8 with fail
   go_cut [11] from 115 to 131 (λsx wx=>∃j:Nat,sx=.int .i64 j/\i<=j+1/\j<b/\j<=j0/\Aside (SW eU w0 blk off dk wx)/\Hid (PInv (QO v) a b i j v d dk)/\Hid (i<=j->QO v dk[j]! = true))
   case first =>
    go_wp2_with fail
    go_loopg [11] j0 (λkx sx wx=>∃j':Nat,sx=.int .i64 j'/\i<=j'+1/\j'<b/\j'<=j0/\j'<=kx/\Aside (SW eU w0 blk off dk wx)/\Hid (PInv (QO v) a b i j' v d dk))
    case atStart=>exact⟨j0,rfl,by omega,by omega,Sq _,Sq _,S3,PV⟩
    case round =>
     clear S3 PV;obtain⟨j',rfl,hj1,rJ,iQ,aP,S1,PV⟩:=hrel;by_cases hij:i<=j'
     ·have hz:(i:Int)<=(j':Int):=by omega
      have aA:=HD.out;obtain⟨x,hx⟩:∃x,dk[j']! = x:=⟨_,rfl⟩
      have cx:=S1.out.c1 R (by rw[HD.out];exact HS.out.symm) (j') Oz;rw[hx]at cx;have cv:=S1.out.c1 R (by rw[HD.out];exact HS.out.symm) a Oz;rw[PV.out.v]at cv;replace cx:wr.cell? ⟨blk,off+j',none⟩=some (.int .u64 x):=cx;replace cv:wr.cell? ⟨blk,off+a,none⟩=some (.int .u64 v):=cv;have bx:(j':Int)<(d.size:Int):=by omega
      have bv:(a:Int)<(d.size:Int):=by omega
      have EX:=Ou hx;clear hx aA
      cases hl:ltInt x v with
      | true =>
        have d9:Hid (QO v dk[j']! = true):=by
         show _=_;rw[EX.out];unfold QO;rw[hl]
        go_wp2_with fail
        go_quiet ((go_at_call 110;with_reducible exact Ss (HL.out _ _ _)))
        have S2:Aside (SW eU w0 blk off dk (wr.drewN nq)):=S1.out.drewN nq;clear cx cv bx bv S1;generalize wr.drewN nq=wq at S2 ⊢;go_wp2;go_meet
        case rel=>exact⟨j',rfl,by omega,by omega,iQ,S2,PV,Ou (λ_=>d9.out)⟩
      | false =>
        have d9:Hid (QO v dk[j']! = false):=by
         show _=_;rw[EX.out];unfold QO;rw[hl]
        go_wp2_with fail
        go_quiet ((go_at_call 110;with_reducible exact Ss (HL.out _ _ _)))
        have S2:Aside (SW eU w0 blk off dk (wr.drewN nq)):=S1.out.drewN nq;clear cx cv bx bv S1;generalize wr.drewN nq=wq at S2 ⊢;obtain⟨j2,rfl⟩:∃j2,j'=j2+1:=⟨j'-1,by omega⟩
        have HN:Hid (PInv (QO v) a b i j2 v d dk):=Ou (PV.out.down hij d9.out);clear PV;go_wp2;go_roundg (j2)
        case measure=>omega
        case rel=>exact⟨j2,by go_num,by omega,by omega,by omega,Sq _,S2,HN⟩
     ·have hz:¬(i:Int)<=(j':Int):=by omega
      have hzd:decide ((i:Int)<=(j':Int))=false:=Sz hz;go_wp2_with fail
      go_quiet ((go_at_call 110;with_reducible exact Ss (HL.out _ _ _)))
      have S2:Aside (SW eU w0 blk off dk (wr.drewN nq)):=S1.out.drewN nq;clear S1;generalize wr.drewN nq=wq at S2 ⊢;go_wp2;go_meet
      case rel=>exact⟨j',rfl,by omega,by omega,iQ,S2,PV,Ou (λh=>absurd h hij)⟩
   case rest =>
   obtain⟨j,rfl,pS,rJ,iQ,S4,PV,NJ⟩:=hcut;by_cases hgt:j<i
   ·have hz:(j:Int)<(i:Int):=by omega
    have HF:=Ou (CB PV.out hgt hb);have hja:a<=j:=by have:=PV.out.i1;omega
    clear PV NI NJ;go_wp2_with fail
    have aA:=HD.out;have bI:(j:Int)<(d.size:Int):=by omega
    have bJ:(a:Int)<(d.size:Int):=by omega
    have S2:=S4.out.swapped R (j) (a) Oz Oz;have ca:=S4.out.c1 R (by rw[HD.out];exact HS.out.symm) (j) Oz;have cb:=S4.out.c1 R (by rw[HD.out];exact HS.out.symm) (a) Oz;have fa:=S4.out.f1 R (by rw[HD.out];exact HS.out.symm) (j) Oz;have fb:=S4.out.f1 R (by rw[HD.out];exact HS.out.symm) (a) Oz;obtain⟨uc,cc⟩:=S4.out.c2 R (by rw[HD.out];exact HS.out.symm) (j) (a) Oz Oz (eU dk[a]!);clear aA;generalize dk[j]! = vI at S2 ca cc;generalize dk[a]! = vJ at S2 cb cc;replace S2:Aside (SW eU w0 blk off (swp dk (j) (a)) ((wc.setCell ⟨blk,off+j,none⟩ (.int .u64 vJ)).setCell ⟨blk,off+a,none⟩ (.int .u64 vI)).drew):=S2
    replace ca:wc.cell? ⟨blk,off+j,none⟩=some (.int .u64 vI):=ca;replace cb:wc.cell? ⟨blk,off+a,none⟩=some (.int .u64 vJ):=cb;replace cc:(wc.setCell ⟨blk,off+j,none⟩ (.int .u64 vJ)).cell? ⟨blk,off+a,none⟩=some uc:=cc;clear S4;go_wp2_with fail
    go_big_region
    clear ca cb fa fb cc bI bJ;generalize ((wc.setCell ⟨blk,off+j,none⟩ (.int .u64 vJ)).setCell ⟨blk,off+a,none⟩ (.int .u64 vI)).drew=w2 at S2 ⊢;go_wp2_with fail
    go_ret2;exact⟨j,false,rfl,_,S2,HF.out⟩
   ·have hz:¬(j:Int)<(i:Int):=by omega
    obtain⟨hlt,PN0⟩:=PV.out.swapj Oz (NI.out Oz) (NJ.out Oz) hb;have PN:=Ou PN0;clear PN0 PV NI NJ;go_wp2_with fail
    have aA:=HD.out;have bI:(i:Int)<(d.size:Int):=by omega
    have bJ:(j:Int)<(d.size:Int):=by omega
    have S2:=S4.out.swapped R (i) (j) Oz Oz;have ca:=S4.out.c1 R (by rw[HD.out];exact HS.out.symm) (i) Oz;have cb:=S4.out.c1 R (by rw[HD.out];exact HS.out.symm) (j) Oz;have fa:=S4.out.f1 R (by rw[HD.out];exact HS.out.symm) (i) Oz;have fb:=S4.out.f1 R (by rw[HD.out];exact HS.out.symm) (j) Oz;obtain⟨uc,cc⟩:=S4.out.c2 R (by rw[HD.out];exact HS.out.symm) (i) (j) Oz Oz (eU dk[j]!);clear aA;generalize dk[i]! = vI at S2 ca cc;generalize dk[j]! = vJ at S2 cb cc;replace S2:Aside (SW eU w0 blk off (swp dk (i) (j)) ((wc.setCell ⟨blk,off+i,none⟩ (.int .u64 vJ)).setCell ⟨blk,off+j,none⟩ (.int .u64 vI)).drew):=S2
    replace ca:wc.cell? ⟨blk,off+i,none⟩=some (.int .u64 vI):=ca;replace cb:wc.cell? ⟨blk,off+j,none⟩=some (.int .u64 vJ):=cb;replace cc:(wc.setCell ⟨blk,off+i,none⟩ (.int .u64 vJ)).cell? ⟨blk,off+j,none⟩=some uc:=cc;clear S4;go_wp2_with fail
    go_big_region
    clear ca cb fa fb cc bI bJ;generalize ((wc.setCell ⟨blk,off+i,none⟩ (.int .u64 vJ)).setCell ⟨blk,off+j,none⟩ (.int .u64 vI)).drew=w2 at S2 ⊢;go_wp2_with fail
    go_roundg (j-1)
    case measure=>omega
    case rel=>exact⟨i+1,j-1,swp dk i j,by go_num,by rw[Iq (by omega)];rfl,by omega,by omega,by omega,Sq _,S2,PN⟩
theorem qe8 (blk off cap:Nat)(a b:Nat)(za zb:Int)(dE:za=a)(hzb:zb=b)(d0 d:Array Int)(w0 w:World)(n:Nat)(hn:n=d.size)(R:Row1 eU w0 blk off d0)(hs:d0.size=d.size)(S:SW eU w0 blk off d w)(hsz:d.size<4611686018427387904)(hab:a<b)(hb:b<=d.size) :
  Calls prog 108 #[.slice (some ⟨blk,off,none⟩) n cap,.int .i64 za,.int .i64 zb] w λe w'=>e=.returned (.tuple #[])/\∃d',SW eU w0 blk off d' w'/\PermIn a b d d':=by
 subst hn dE hzb
 have mixed:prog.follows .mixedOrders=true:=by kernel_rfl
 have S0:Aside (SW eU w0 blk off d w):=S
 have HS:=Ou hs
 have HL:=Ou Jh
 clear S hs
 go_enter func108,ntmps108
 obtain⟨j0,rI⟩:∃j,j=b-1:=⟨_,rfl⟩
 have z1:(b:Int)-1=(j0:Int):=by omega
 have l1:j0<b:=by omega
 have l2:a<=j0:=by omega
 clear rI
 go_wp2
 go_loopg [6,7] b (λkx s6 s7 wr=>∃(i j:Nat) (dk:Array Int),s6=.int .i64 i/\s7=.int .i64 j/\a<=i/\i<=j+1/\j<b/\j<=kx/\Aside (SW eU w0 blk off dk wr)/\PermIn a b d dk)
 case atStart=>exact⟨a,j0,d,rfl,rfl,by omega,by omega,by omega,by omega,S0,permIn_refl _ _ _⟩
 case round =>
  clear S0;obtain⟨i,j,dk,rfl,rfl,hai,hij,hjb,aP,S1,bQ⟩:=hrel;have HD:Hid (dk.size=d.size):=bQ.1;by_cases hlt:i<j
  ·have hz:(i:Int)<(j:Int):=by omega
   have kX:PermIn a b d (swp dk i j):=permIn_trans _ _ _ _ _ bQ (swp_permIn dk a b i j Oz Oz Oz Oz (by rw[HD.out];omega));clear bQ;go_wp2_with fail
   have aA:=HD.out;have bI:(i:Int)<(d.size:Int):=by omega
   have bJ:(j:Int)<(d.size:Int):=by omega
   have S2:=S1.out.swapped R (i) (j) Oz Oz;have ca:=S1.out.c1 R (by rw[HD.out];exact HS.out.symm) (i) Oz;have cb:=S1.out.c1 R (by rw[HD.out];exact HS.out.symm) (j) Oz;have fa:=S1.out.f1 R (by rw[HD.out];exact HS.out.symm) (i) Oz;have fb:=S1.out.f1 R (by rw[HD.out];exact HS.out.symm) (j) Oz;obtain⟨uc,cc⟩:=S1.out.c2 R (by rw[HD.out];exact HS.out.symm) (i) (j) Oz Oz (eU dk[j]!);clear aA;generalize dk[i]! = vI at S2 ca cc;generalize dk[j]! = vJ at S2 cb cc;replace S2:Aside (SW eU w0 blk off (swp dk (i) (j)) ((wr.setCell ⟨blk,off+i,none⟩ (.int .u64 vJ)).setCell ⟨blk,off+j,none⟩ (.int .u64 vI)).drew):=S2
   replace ca:wr.cell? ⟨blk,off+i,none⟩=some (.int .u64 vI):=ca;replace cb:wr.cell? ⟨blk,off+j,none⟩=some (.int .u64 vJ):=cb;replace cc:(wr.setCell ⟨blk,off+i,none⟩ (.int .u64 vJ)).cell? ⟨blk,off+j,none⟩=some uc:=cc;clear S1;go_wp2_with fail
   go_big_region
   clear ca cb fa fb cc bI bJ;generalize ((wr.setCell ⟨blk,off+i,none⟩ (.int .u64 vJ)).setCell ⟨blk,off+j,none⟩ (.int .u64 vI)).drew=w2 at S2 ⊢;go_wp2_with fail
   go_roundg (j-1)
   case measure=>omega
   case rel=>exact⟨i+1,j-1,swp dk i j,by go_num,by rw[Iq (by omega)];rfl,by omega,by omega,by omega,Sq _,S2,kX⟩
  ·have hz:¬(i:Int)<(j:Int):=by omega
   clear HD;go_wp2;go_end0;exact⟨rfl,dk,S1.out,bQ⟩
theorem qe9 {d:Array Int}{b i:Nat}(h:i<b)(hl:ltInt d[i]! d[i-1]! = false):scanSorted ltInt d b i=scanSorted ltInt d b (i+1):=by
 conv=>lhs;rw[scanSorted]
 rw[Sx (by rw[hl];simpa using h)]
theorem CC {d:Array Int}{b i:Nat}(h:¬i<b∨ltInt d[i]! d[i-1]! = true):scanSorted ltInt d b i=i:=by
 rw[scanSorted,Sw (by
  intro hc;rw[Iv,decide_eq_true_iff]at hc;rcases h with h|h
  ·exact h hc.1
  ·rw[h]at hc;cases hc.2)]
theorem CD {d:Array Int}{j:Nat}(hl:ltInt d[j+1]! d[j]! = true):shiftDown ltInt (j+1) d=shiftDown ltInt j (swp d (j+1) j):=by
 show (if (!ltInt d[j+1]! d[j]!)=true then d else _)=_
 rw[hl,Sw (by decide)]
theorem CE {d:Array Int}{j:Nat}(hl:ltInt d[j+1]! d[j]! = false):shiftDown ltInt (j+1) d=d:=by
 show (if (!ltInt d[j+1]! d[j]!)=true then d else _)=_
 rw[hl,Sx (by decide)]
theorem qfa {d:Array Int}{b j:Nat}(h:j<b)(hl:ltInt d[j]! d[j-1]! = true):shiftUp ltInt b j d=shiftUp ltInt b (j+1) (swp d j (j-1)):=by
 conv=>lhs;rw[shiftUp]
 rw[Sx h,hl,Sw (by decide)]
theorem CF {d:Array Int}{b j:Nat}(h:¬j<b∨ltInt d[j]! d[j-1]! = false):shiftUp ltInt b j d=d:=by
 rw[shiftUp]
 by_cases h1:j<b
 ·rw[Sx h1];rcases h with h|h
  ·exact absurd h1 h
  ·rw[h,Sx (by decide)]
 ·rw[Sw h1]
theorem CG:∀(j:Nat) (d:Array Int),(shiftDown ltInt j d).size=d.size
 | 0,_=>rfl
 | j+1,d=>by
  cases h:ltInt d[j+1]! d[j]! with
  | true=>rw[CD h,CG j,size_swp]
  | false=>rw[CE h]
def ZZ (a i:Nat)(d:Array Int):Array Int:=if i-a ≥ 2 then shiftDown ltInt (i-1) d else d
def JQ (b i:Nat)(d:Array Int):Array Int:=if b-i ≥ 2 then shiftUp ltInt b (i+1) d else d
theorem qfb (a i:Nat)(d:Array Int):(ZZ a i d).size=d.size:=by unfold ZZ;split;exact CG _ _;rfl
theorem qfc {a b t i:Nat}{d:Array Int}(h:scanSorted ltInt d b i=b):partialIns ltInt a b (t+1) i d=(d,true):=by
 show (if scanSorted ltInt d b i=b then _ else _)=_
 rw[Sx h]
theorem qfd {a b t i k:Nat}{d:Array Int}(h:scanSorted ltInt d b i=k)(hk:k≠b)(hs:b-a<50):partialIns ltInt a b (t+1) i d=(d,false):=by
 show (if scanSorted ltInt d b i=b then _ else if b-a<50 then _ else _)=_
 rw[Sw (by rw[h];exact hk),Sx hs]
theorem qfe {a b t i k:Nat}{d:Array Int}(h:scanSorted ltInt d b i=k)(hk:k≠b)(hs:¬b-a<50):partialIns ltInt a b (t+1) i d=partialIns ltInt a b t k (JQ b k (ZZ a k (swp d k (k-1)))):=by
 subst h
 show (if scanSorted ltInt d b i=b then _ else if b-a<50 then _ else _)=_
 rw[Sw hk,Sw hs]
 rfl
theorem qff (blk off cap:Nat)(a b:Nat)(za zb:Int)(dE:za=a)(hzb:zb=b)(d0 d:Array Int)(w0 w:World)(n:Nat)(hn:n=d.size)(R:Row1 eU w0 blk off d0)(hs:d0.size=d.size)(S:SW eU w0 blk off d w)(hsz:d.size<4611686018427387904)(hab:a<b)(hb:b<=d.size) :
  Calls prog 109 #[.slice (some ⟨blk,off,none⟩) n cap,.int .i64 za,.int .i64 zb] w λe w'=>e=.returned (.bool (partialIns ltInt a b 5 (a+1) d).2)/\SW eU w0 blk off (partialIns ltInt a b 5 (a+1) d).1 w':=by
 subst hn dE hzb
 obtain⟨res,hres⟩:∃r,r=partialIns ltInt a b 5 (a+1) d:=⟨_,rfl⟩
 rw[<-hres]
 have HR:=Ou hres
 clear hres
 have mixed:prog.follows .mixedOrders=true:=by kernel_rfl
 have S0:Aside (SW eU w0 blk off d w):=S
 have HS:=Ou hs
 have HL:=Ou Jh
 clear S hs
 go_enter func109,ntmps109
 go_wp2
 go_loopg [7,8] 5 (λkx s7 s8 wr=>∃(i s:Nat) (dk:Array Int),s7=.int .i64 i/\s8=.int .i64 s/\s<=5/\5-s<=kx/\a<i/\i<=b/\dk.size=d.size/\Aside (SW eU w0 blk off dk wr)/\Hid (partialIns ltInt a b (5-s) i dk=res))
 case atStart=>exact⟨a+1,0,d,by go_num,rfl,by omega,by omega,by omega,by omega,rfl,S0,Ou HR.out.symm⟩
 case round =>
  clear S0 HR;obtain⟨i0,s,dk,rfl,rfl,hs5,uX,hai,hib,hds,S1,HE⟩:=hrel;have HD:=Ou hds;clear hds;by_cases hs:s<5;rotate_left
  ·obtain rfl:s=5:=by omega
   have HF:Hid (res=(dk,false)):=by show _=_;rw[<-HE.out];rfl
   clear HE hs hs5;go_wp2;go_ret;rw[HF.out];exact⟨rfl,S1.out⟩
  ·have hsz1:(s:Int)<5:=by omega
   obtain⟨t,ht⟩:∃t,5-s=t+1:=⟨5-s-1,by omega⟩
   have HT:Hid (5-s=t+1):=ht;rw[ht]at HE;clear ht;go_upto_block 2 with fail
   go_cut [7] from 17 to 34 (λsx wx=>∃i:Nat,sx=.int .i64 i/\a<i/\i<=b/\Aside (SW eU w0 blk off dk wx)/\Hid (scanSorted ltInt dk b i0=i))
   case first =>
    go_wp2_with fail
    go_loopg [7] (b-i0) (λkx sx wx=>∃i':Nat,sx=.int .i64 i'/\a<i'/\i'<=b/\b-i'<=kx/\Aside (SW eU w0 blk off dk wx)/\Hid (scanSorted ltInt dk b i'=scanSorted ltInt dk b i0))
    case atStart=>exact⟨i0,rfl,hai,hib,Sq _,S1,Ou rfl⟩
    case round =>
     clear S1;obtain⟨i',rfl,hi1,hi2,aP,S1,HI⟩:=hrel;by_cases hlt:i'<b
     ·have hz:(i':Int)<(b:Int):=by omega
      obtain⟨ip,rH⟩:∃x,x=i'-1:=⟨_,rfl⟩
      have q1:IntKind.i64.wrap ((i':Int)-1)=(ip:Int):=by rw[Wz];omega
      have l1:ip<i':=by omega
      have wT:=Ou rH;clear rH;have aA:=HD.out;obtain⟨x,hx⟩:∃x,dk[i']! = x:=⟨_,rfl⟩
      have cx:=S1.out.c1 R (by rw[HD.out];exact HS.out.symm) (i') Oz;rw[hx]at cx;replace cx:wr.cell? ⟨blk,off+i',none⟩=some (.int .u64 x):=cx;have Xx:=Ou hx;clear hx;have bbx:(i':Int)<(d.size:Int):=by omega
      obtain⟨y,hy⟩:∃x,dk[ip]! = x:=⟨_,rfl⟩
      have cy:=S1.out.c1 R (by rw[HD.out];exact HS.out.symm) (ip) Oz;rw[hy]at cy;replace cy:wr.cell? ⟨blk,off+ip,none⟩=some (.int .u64 y):=cy;have Xy:=Ou hy;clear hy;have bby:(ip:Int)<(d.size:Int):=by omega
      clear aA
      cases hl:ltInt x y with
      | true =>
       have HN:Hid (scanSorted ltInt dk b i0=i'):=by
        show _=_;rw[<-HI.out];exact CC (.inr (by rw[<-wT.out,Xx.out,Xy.out];exact hl))
       go_wp2_with fail
       go_quiet ((go_at_call 110;with_reducible exact Ss (HL.out _ _ _)))
       have S2:Aside (SW eU w0 blk off dk (wr.drewN nq)):=S1.out.drewN nq;clear cx bbx cy bby S1;generalize wr.drewN nq=wq at S2 ⊢;go_wp2;go_meet
       case rel=>exact⟨i',rfl,by omega,by omega,S2,HN⟩
      | false =>
       have HN:Hid (scanSorted ltInt dk b (i'+1)=scanSorted ltInt dk b i0):=by
        show _=_;rw[<-HI.out];exact(qe9 hlt (by rw[<-wT.out,Xx.out,Xy.out];exact hl)).symm
       go_wp2_with fail
       go_quiet ((go_at_call 110;with_reducible exact Ss (HL.out _ _ _)))
       have S2:Aside (SW eU w0 blk off dk (wr.drewN nq)):=S1.out.drewN nq;clear cx bbx cy bby S1;generalize wr.drewN nq=wq at S2 ⊢;go_wp2;go_roundg (b-(i'+1))
       case measure=>omega
       case rel=>exact⟨i'+1,by go_num,by omega,by omega,Sq _,S2,HN⟩
     ·have hz:¬(i':Int)<(b:Int):=by omega
      have hzd:decide ((i':Int)<(b:Int))=false:=Sz hz;have HN:Hid (scanSorted ltInt dk b i0=i'):=by
       show _=_;rw[<-HI.out];exact CC (.inl hlt)
      go_wp2_with fail
      go_quiet ((go_at_call 110;with_reducible exact Ss (HL.out _ _ _)))
      have S2:Aside (SW eU w0 blk off dk (wr.drewN nq)):=S1.out.drewN nq;clear S1;generalize wr.drewN nq=wq at S2 ⊢;go_wp2;go_meet
      case rel=>exact⟨i',rfl,by omega,by omega,S2,HN⟩
   case rest =>
   obtain⟨i,rfl,hi1,hi2,S2,kA⟩:=hcut;clear S1;by_cases hib2:i=b
   ·subst hib2;have he:((i:Int)==(i:Int))=true:=by simp
    have HF:Hid (res=(dk,true)):=by show _=_;rw[<-HE.out,qfc kA.out]
    clear HE kA;go_wp2_with fail
    go_ret;rw[HF.out];exact⟨rfl,S2.out⟩
   ·have he:((i:Int)==(b:Int))=false:=by rw[beq_eq_false_iff_ne];omega
    by_cases h50:b-a<50
    ·have hz5:(b:Int)-(a:Int)<50:=by omega
     have HF:Hid (res=(dk,false)):=by show _=_;rw[<-HE.out,qfd kA.out hib2 h50]
     clear HE kA;go_wp2_with fail
     go_ret;rw[HF.out];exact⟨rfl,S2.out⟩
    ·have hz5:¬(b:Int)-(a:Int)<50:=by omega
     obtain⟨ip,rH⟩:∃x,x=i-1:=⟨_,rfl⟩
     have HN:Hid (partialIns ltInt a b t i (JQ b i (ZZ a i (swp dk i ip)))=res):=by
      show _=_;rw[<-HE.out,qfe kA.out hib2 h50,rH]
     have wT:=Ou rH;have q1:IntKind.i64.wrap ((i:Int)-1)=(ip:Int):=by rw[Wz];omega
     have q1':(i:Int)-1=(ip:Int):=by omega
     have l1:ip<i:=by omega
     have l2:i<=ip+1:=by omega
     have l3:i<b:=by omega
     clear rH HE kA;have S9:=S2;clear S2;go_wp2_with fail
     have aA:=HD.out;have bI:(i:Int)<(d.size:Int):=by omega
     have bJ:(ip:Int)<(d.size:Int):=by omega
     have S2:=S9.out.swapped R (i) (ip) Oz Oz;have ca:=S9.out.c1 R (by rw[HD.out];exact HS.out.symm) (i) Oz;have cb:=S9.out.c1 R (by rw[HD.out];exact HS.out.symm) (ip) Oz;have fa:=S9.out.f1 R (by rw[HD.out];exact HS.out.symm) (i) Oz;have fb:=S9.out.f1 R (by rw[HD.out];exact HS.out.symm) (ip) Oz;obtain⟨uc,cc⟩:=S9.out.c2 R (by rw[HD.out];exact HS.out.symm) (i) (ip) Oz Oz (eU dk[ip]!);clear aA;generalize dk[i]! = vI at S2 ca cc;generalize dk[ip]! = vJ at S2 cb cc;replace S2:Aside (SW eU w0 blk off (swp dk (i) (ip)) ((wc.setCell ⟨blk,off+i,none⟩ (.int .u64 vJ)).setCell ⟨blk,off+ip,none⟩ (.int .u64 vI)).drew):=S2
     replace ca:wc.cell? ⟨blk,off+i,none⟩=some (.int .u64 vI):=ca;replace cb:wc.cell? ⟨blk,off+ip,none⟩=some (.int .u64 vJ):=cb;replace cc:(wc.setCell ⟨blk,off+i,none⟩ (.int .u64 vJ)).cell? ⟨blk,off+ip,none⟩=some uc:=cc;clear S9;go_wp2_with fail
     go_big_region
     clear ca cb fa fb cc bI bJ;generalize ((wc.setCell ⟨blk,off+i,none⟩ (.int .u64 vJ)).setCell ⟨blk,off+ip,none⟩ (.int .u64 vI)).drew=w2 at S2 ⊢;obtain⟨d1,hd1⟩:∃x,x=swp dk i ip:=⟨_,rfl⟩
     have o7:Hid (d1.size=d.size):=Ou (by rw[hd1,size_swp];exact HD.out);rw[<-hd1]at S2 HN;clear hd1 HD;go_upto_if 61 with fail
     go_cut [9] from 13 to 132 (λs9 wx=>Aside (SW eU w0 blk off (ZZ a i d1) wx))
     case first =>
      by_cases h2:i-a ≥ 2
      ·have hz2:(2:Int)<=(i:Int)-(a:Int):=by omega
       have yR:Hid (ZZ a i d1=shiftDown ltInt ip d1):=by show _=_;unfold ZZ;rw[Sx h2,wT.out]
       clear h2;go_wp2_with fail
       go_loopg [9] ip (λkx sx wx=>∃(j:Nat) (dj:Array Int),sx=.int .i64 j/\j<=ip/\j<=kx/\dj.size=d.size/\Aside (SW eU w0 blk off dj wx)/\Hid (shiftDown ltInt j dj=ZZ a i d1))
       case atStart=>exact⟨ip,d1,rfl,Sq _,Sq _,o7.out,S2,Ou yR.out.symm⟩
       case round =>
        clear S2;obtain⟨j1,dj,rfl,hji,aP,uN,S1,HJ⟩:=hrel;have HD:=Ou uN;clear uN;by_cases hj:0<j1
        ·obtain⟨j,uW⟩:∃j,j1=j+1:=⟨j1-1,by omega⟩
         have mL:=Ou uW;have hz:(1:Int)<=(j1:Int):=by omega
         have q3:IntKind.i64.wrap ((j1:Int)-1)=(j:Int):=by rw[Wz];omega
         have q3':(j1:Int)-1=(j:Int):=by omega
         have l4:j<j1:=by omega
         have l5:j1<=j+1:=by omega
         clear uW;have aA:=HD.out;obtain⟨x,hx⟩:∃x,dj[j1]! = x:=⟨_,rfl⟩
         have cx:=S1.out.c1 R (by rw[HD.out];exact HS.out.symm) (j1) Oz;rw[hx]at cx;replace cx:wr.cell? ⟨blk,off+j1,none⟩=some (.int .u64 x):=cx;have Xx:=Ou hx;clear hx;have bbx:(j1:Int)<(d.size:Int):=by omega
         obtain⟨y,hy⟩:∃x,dj[j]! = x:=⟨_,rfl⟩
         have cy:=S1.out.c1 R (by rw[HD.out];exact HS.out.symm) (j) Oz;rw[hy]at cy;replace cy:wr.cell? ⟨blk,off+j,none⟩=some (.int .u64 y):=cy;have Xy:=Ou hy;clear hy;have bby:(j:Int)<(d.size:Int):=by omega
         clear aA
         cases hl:ltInt x y with
         | true =>
          have eJ:Hid (shiftDown ltInt j (swp dj j1 j)=ZZ a i d1):=by
           show _=_;rw[<-HJ.out,mL.out];exact(CD (by rw[<-mL.out,Xx.out,Xy.out];exact hl)).symm
          go_wp2_with fail
          go_quiet ((go_at_call 110;with_reducible exact Ss (HL.out _ _ _)))
          have S3:Aside (SW eU w0 blk off dj (wr.drewN nq)):=S1.out.drewN nq;clear cx bbx cy bby S1;generalize wr.drewN nq=wq at S3 ⊢;clear hl;go_wp2_with fail
          have aA:=HD.out;have bI:(j1:Int)<(d.size:Int):=by omega
          have bJ:(j:Int)<(d.size:Int):=by omega
          have S2:=S3.out.swapped R (j1) (j) Oz Oz;have ca:=S3.out.c1 R (by rw[HD.out];exact HS.out.symm) (j1) Oz;have cb:=S3.out.c1 R (by rw[HD.out];exact HS.out.symm) (j) Oz;have fa:=S3.out.f1 R (by rw[HD.out];exact HS.out.symm) (j1) Oz;have fb:=S3.out.f1 R (by rw[HD.out];exact HS.out.symm) (j) Oz;obtain⟨uc,cc⟩:=S3.out.c2 R (by rw[HD.out];exact HS.out.symm) (j1) (j) Oz Oz (eU dj[j]!);clear aA;generalize dj[j1]! = vI at S2 ca cc;generalize dj[j]! = vJ at S2 cb cc;replace S2:Aside (SW eU w0 blk off (swp dj (j1) (j)) ((wq.setCell ⟨blk,off+j1,none⟩ (.int .u64 vJ)).setCell ⟨blk,off+j,none⟩ (.int .u64 vI)).drew):=S2
          replace ca:wq.cell? ⟨blk,off+j1,none⟩=some (.int .u64 vI):=ca;replace cb:wq.cell? ⟨blk,off+j,none⟩=some (.int .u64 vJ):=cb;replace cc:(wq.setCell ⟨blk,off+j1,none⟩ (.int .u64 vJ)).cell? ⟨blk,off+j,none⟩=some uc:=cc;clear S3;go_wp2_with fail
          go_big_region
          clear ca cb fa fb cc bI bJ;generalize ((wq.setCell ⟨blk,off+j1,none⟩ (.int .u64 vJ)).setCell ⟨blk,off+j,none⟩ (.int .u64 vI)).drew=w2 at S2 ⊢;have jV:Hid ((swp dj j1 j).size=d.size):=Ou (by rw[size_swp];exact HD.out);go_wp2_with fail
          go_roundg (j)
          case measure=>omega
          case rel=>exact⟨j,swp dj j1 j,rfl,by omega,Sq _,jV.out,S2,eJ⟩
         | false =>
          have eJ:Hid (ZZ a i d1=dj):=by
           show _=_;rw[<-HJ.out,mL.out];exact CE (by rw[<-mL.out,Xx.out,Xy.out];exact hl)
          go_wp2_with fail
          go_quiet ((go_at_call 110;with_reducible exact Ss (HL.out _ _ _)))
          have S3:Aside (SW eU w0 blk off dj (wr.drewN nq)):=S1.out.drewN nq;clear cx bbx cy bby S1;generalize wr.drewN nq=wq at S3 ⊢;clear hl;go_wp2_with fail
          go_meet
          case rel=>rw[eJ.out];exact S3
        ·obtain rfl:j1=0:=by omega
         have eJ:Hid (ZZ a i d1=dj):=by show _=_;rw[<-HJ.out];rfl
         clear hj;go_wp2_with fail
         go_meet
         case rel=>rw[eJ.out];exact S1
      ·have hz2:¬(2:Int)<=(i:Int)-(a:Int):=by omega
       have yR:Hid (ZZ a i d1=d1):=by show _=_;unfold ZZ;rw[Sw h2]
       clear h2;go_wp2_with fail
       go_meet
       case rel=>rw[yR.out];exact S2
     case rest =>
     have S3:=hcut;clear S2;have yS:Hid ((ZZ a i d1).size=d.size):=Ou (by rw[qfb];exact o7.out);obtain⟨d2,hd2⟩:∃x,x=ZZ a i d1:=⟨_,rfl⟩
     rw[<-hd2]at S3 HN yS;clear hd2 o7 hcut;obtain⟨i1,uU⟩:∃x,x=i+1:=⟨_,rfl⟩
     have sL:=Ou uU;have q4:(i:Int)+1=(i1:Int):=by omega
     have l6:i<i1:=by omega
     have l7:i1<=b:=by omega
     clear uU;by_cases h2:b-i ≥ 2
     ·have hz2:(2:Int)<=(b:Int)-(i:Int):=by omega
      have HUP:Hid (JQ b i d2=shiftUp ltInt b i1 d2):=by show _=_;unfold JQ;rw[Sx h2,sL.out]
      clear h2;go_wp2_with fail
      go_loopg [10] (b-i1) (λkx sx wx=>∃(j:Nat) (dj:Array Int),sx=.int .i64 j/\i<j/\j<=b/\b-j<=kx/\dj.size=d.size/\Aside (SW eU w0 blk off dj wx)/\Hid (shiftUp ltInt b j dj=JQ b i d2))
      case atStart=>exact⟨i1,d2,rfl,by omega,by omega,Sq _,yS.out,S3,Ou HUP.out.symm⟩
      case round =>
       clear S3;obtain⟨j1,dj,rfl,hji,hjb,aP,uN,S1,HJ⟩:=hrel;have HD:=Ou uN;clear uN;by_cases hj:j1<b
       ·obtain⟨j,uW⟩:∃j,j=j1-1:=⟨_,rfl⟩
        have mL:=Ou uW;have hz:(j1:Int)<(b:Int):=by omega
        have q3:IntKind.i64.wrap ((j1:Int)-1)=(j:Int):=by rw[Wz];omega
        have l4:j<j1:=by omega
        clear uW;have aA:=HD.out;obtain⟨x,hx⟩:∃x,dj[j1]! = x:=⟨_,rfl⟩
        have cx:=S1.out.c1 R (by rw[HD.out];exact HS.out.symm) (j1) Oz;rw[hx]at cx;replace cx:wr.cell? ⟨blk,off+j1,none⟩=some (.int .u64 x):=cx;have Xx:=Ou hx;clear hx;have bbx:(j1:Int)<(d.size:Int):=by omega
        obtain⟨y,hy⟩:∃x,dj[j]! = x:=⟨_,rfl⟩
        have cy:=S1.out.c1 R (by rw[HD.out];exact HS.out.symm) (j) Oz;rw[hy]at cy;replace cy:wr.cell? ⟨blk,off+j,none⟩=some (.int .u64 y):=cy;have Xy:=Ou hy;clear hy;have bby:(j:Int)<(d.size:Int):=by omega
        clear aA
        cases hl:ltInt x y with
        | true =>
         have eJ:Hid (shiftUp ltInt b (j1+1) (swp dj j1 j)=JQ b i d2):=by
          show _=_;rw[<-HJ.out,mL.out];exact(qfa hj (by rw[<-mL.out,Xx.out,Xy.out];exact hl)).symm
         go_wp2_with fail
         go_quiet ((go_at_call 110;with_reducible exact Ss (HL.out _ _ _)))
         have S4:Aside (SW eU w0 blk off dj (wr.drewN nq)):=S1.out.drewN nq;clear cx bbx cy bby S1;generalize wr.drewN nq=wq at S4 ⊢;clear hl;go_wp2_with fail
         have aA:=HD.out;have bI:(j1:Int)<(d.size:Int):=by omega
         have bJ:(j:Int)<(d.size:Int):=by omega
         have S2:=S4.out.swapped R (j1) (j) Oz Oz;have ca:=S4.out.c1 R (by rw[HD.out];exact HS.out.symm) (j1) Oz;have cb:=S4.out.c1 R (by rw[HD.out];exact HS.out.symm) (j) Oz;have fa:=S4.out.f1 R (by rw[HD.out];exact HS.out.symm) (j1) Oz;have fb:=S4.out.f1 R (by rw[HD.out];exact HS.out.symm) (j) Oz;obtain⟨uc,cc⟩:=S4.out.c2 R (by rw[HD.out];exact HS.out.symm) (j1) (j) Oz Oz (eU dj[j]!);clear aA;generalize dj[j1]! = vI at S2 ca cc;generalize dj[j]! = vJ at S2 cb cc;replace S2:Aside (SW eU w0 blk off (swp dj (j1) (j)) ((wq.setCell ⟨blk,off+j1,none⟩ (.int .u64 vJ)).setCell ⟨blk,off+j,none⟩ (.int .u64 vI)).drew):=S2
         replace ca:wq.cell? ⟨blk,off+j1,none⟩=some (.int .u64 vI):=ca;replace cb:wq.cell? ⟨blk,off+j,none⟩=some (.int .u64 vJ):=cb;replace cc:(wq.setCell ⟨blk,off+j1,none⟩ (.int .u64 vJ)).cell? ⟨blk,off+j,none⟩=some uc:=cc;clear S4;go_wp2_with fail
         go_big_region
         clear ca cb fa fb cc bI bJ;generalize ((wq.setCell ⟨blk,off+j1,none⟩ (.int .u64 vJ)).setCell ⟨blk,off+j,none⟩ (.int .u64 vI)).drew=w2 at S2 ⊢;have jV:Hid ((swp dj j1 j).size=d.size):=Ou (by rw[size_swp];exact HD.out);go_wp2_with fail
         go_roundg (b-(j1+1))
         case measure=>omega
         case rel=>exact⟨j1+1,swp dj j1 j,by go_num,by omega,by omega,Sq _,jV.out,S2,eJ⟩
        | false =>
         have eJ:Hid (JQ b i d2=dj):=by
          show _=_;rw[<-HJ.out];exact CF (.inr (by rw[<-mL.out,Xx.out,Xy.out];exact hl))
         go_wp2_with fail
         go_quiet ((go_at_call 110;with_reducible exact Ss (HL.out _ _ _)))
         have S4:Aside (SW eU w0 blk off dj (wr.drewN nq)):=S1.out.drewN nq;clear cx bbx cy bby S1;generalize wr.drewN nq=wq at S4 ⊢;clear hl;have sV:Hid (partialIns ltInt a b (5-(s+1)) i dj=res):=by
          show _=_;rw[show 5-(s+1)=t by have:=HT.out;omega,<-eJ.out];exact HN.out
         clear HN HT eJ;go_wp2_with fail
         go_roundg (5-(s+1))
         case measure=>omega
         case rel=>exact⟨i,s+1,dj,rfl,by go_num,by omega,Sq _,by omega,by omega,HD.out,S4,sV⟩
       ·have hz:¬(j1:Int)<(b:Int):=by omega
        have eJ:Hid (JQ b i d2=dj):=by show _=_;rw[<-HJ.out];exact CF (.inl hj)
        clear hj;have sV:Hid (partialIns ltInt a b (5-(s+1)) i dj=res):=by
         show _=_;rw[show 5-(s+1)=t by have:=HT.out;omega,<-eJ.out];exact HN.out
        clear HN HT eJ;go_wp2_with fail
        go_roundg (5-(s+1))
        case measure=>omega
        case rel=>exact⟨i,s+1,dj,rfl,by go_num,by omega,Sq _,by omega,by omega,HD.out,S1,sV⟩
     ·have hz2:¬(2:Int)<=(b:Int)-(i:Int):=by omega
      have eJ:Hid (JQ b i d2=d2):=by show _=_;unfold JQ;rw[Sw h2]
      clear h2;have sV:Hid (partialIns ltInt a b (5-(s+1)) i d2=res):=by
       show _=_;rw[show 5-(s+1)=t by have:=HT.out;omega,<-eJ.out];exact HN.out
      clear HN HT eJ;go_wp2_with fail
      go_roundg (5-(s+1))
      case measure=>omega
      case rel=>exact⟨i,s+1,d2,rfl,by go_num,by omega,Sq _,by omega,by omega,yS.out,S3,sV⟩
end
section
open Go.RowKit Go.Sort Go.Lib Go.Shelf Go.ChangeShapes Go.WideShapes
structure BoxU (w0:World) (c:Nat) (v:Value) (W:World):Prop where
 cell:W.cell? ⟨c,0,none⟩=some v
 froz:W.frozen? ⟨c,0,none⟩=false
 old:w0.heap.size<=c
 lt:c<W.heap.size
theorem Ur (op:BinOp)(x y:Int):0<=bits op .u64 x y/\bits op .u64 x y<18446744073709551616:=by
 have h:=bounds_u64 (wf_bits op .u64 x y)
 omega
theorem BoxU.set {w0 W:World}{c:Nat}{v:Value}(h:BoxU w0 c v W)(u:Value):BoxU w0 c u (W.setCell ⟨c,0,none⟩ u) :=
 ⟨World.cell?_setCell_same' _ _ _ (by rw[h.cell];rfl),by rw[World.frozen?_setCell];exact h.froz,h.old,by simpa using h.lt⟩
theorem BoxU.drew {w0 W:World}{c:Nat}{v:Value}(h:BoxU w0 c v W):BoxU w0 c v W.drew:=⟨h.cell,h.froz,h.old,h.lt⟩
theorem BoxU.drewN {w0 W:World}{c:Nat}{v:Value}(h:BoxU w0 c v W)(n:Nat):BoxU w0 c v (W.drewN n):=⟨h.cell,h.froz,h.old,h.lt⟩
theorem BoxU.start {w0 W:World}{blk off:Nat}{d:Array Int}(S:SW eU w0 blk off d W)(v:Value)(t:TypeId):BoxU w0 W.heap.size v (W.alloc (.cells #[v] t)) :=
 ⟨by rw[cell_of_row _ _ _ _ _ _ (heap_alloc_new W _)];rfl,frozen_of_row _ _ _ _ _ (heap_alloc_new W _),S.le,by simp⟩
theorem BoxU.swapped {w0 W:World}{blk x y c:Nat}{v:Value}(h:BoxU w0 c v W)(hb:blk<w0.heap.size)(u u':Value):BoxU w0 c v ((W.setCell ⟨blk,x,none⟩ u).setCell ⟨blk,y,none⟩ u').drew:=by
 have hne:c≠blk:=by have:=h.old;omega
 have hk:=box_kept_swap1 hne h.cell h.froz x y u u'
 exact⟨hk.1,hk.2,h.old,by have:=h.lt;simpa using this⟩
theorem qfg (blk off c:Nat)(x:Int)(d:Array Int)(w0 w:World)(S:SW eU w0 blk off d w)(C:BoxU w0 c (.int .u64 x) w)(_h0:0<=x)(_h1:x<18446744073709551616) :
  Calls prog 135 #[.pointer (some ⟨c,0,none⟩)] w λe w'=>∃y:Int,e=.returned (.int .u64 y)/\0<=y/\y<18446744073709551616/\SW eU w0 blk off d w'/\BoxU w0 c (.int .u64 y) w':=by
 have mixed:prog.follows .mixedOrders=true:=by kernel_rfl
 have c0:=C.cell
 have f0:=C.froz
 have S0:Aside (SW eU w0 blk off d w):=S
 have C0:Aside (BoxU w0 c (.int .u64 x) w):=C
 clear S C
 go_enter func135,ntmps135
 go_wp2_with fail
 go_big_region
 have S1:Aside (SW eU w0 blk off d (w.setCell ⟨c,0,none⟩ (.int .u64 (bits .xor .u64 x (IntKind.u64.wrap (x*8192))))).drew):=(S0.out.setCell_new c 0 _ C0.out.old).drew
 have C1:Aside (BoxU w0 c (.int .u64 (bits .xor .u64 x (IntKind.u64.wrap (x*8192)))) (w.setCell ⟨c,0,none⟩ (.int .u64 (bits .xor .u64 x (IntKind.u64.wrap (x*8192))))).drew):=(C0.out.set _).drew
 have B1:=Ur .xor x (IntKind.u64.wrap (x*8192))
 clear c0 f0 S0 C0
 generalize (w.setCell ⟨c,0,none⟩ (.int .u64 (bits .xor .u64 x (IntKind.u64.wrap (x*8192))))).drew=w1 at S1 C1 ⊢
 generalize bits .xor .u64 x (IntKind.u64.wrap (x*8192))=x1 at C1 B1 ⊢
 obtain⟨b10,b11⟩:=B1
 have c1:=C1.out.cell
 have f1:=C1.out.froz
 go_wp2_with fail
 go_big_region
 have S2:Aside (SW eU w0 blk off d (w1.setCell ⟨c,0,none⟩ (.int .u64 (bits .xor .u64 x1 (x1 / 128)))).drew):=(S1.out.setCell_new c 0 _ C1.out.old).drew
 have C2:Aside (BoxU w0 c (.int .u64 (bits .xor .u64 x1 (x1 / 128))) (w1.setCell ⟨c,0,none⟩ (.int .u64 (bits .xor .u64 x1 (x1 / 128)))).drew):=(C1.out.set _).drew
 have B2:=Ur .xor x1 (x1 / 128)
 clear c1 f1 S1 C1 b10 b11
 generalize (w1.setCell ⟨c,0,none⟩ (.int .u64 (bits .xor .u64 x1 (x1 / 128)))).drew=w2 at S2 C2 ⊢
 generalize bits .xor .u64 x1 (x1 / 128)=x2 at C2 B2 ⊢
 obtain⟨b20,b21⟩:=B2
 have c2:=C2.out.cell
 have f2:=C2.out.froz
 go_wp2_with fail
 go_big_region
 have S3:Aside (SW eU w0 blk off d (w2.setCell ⟨c,0,none⟩ (.int .u64 (bits .xor .u64 x2 (IntKind.u64.wrap (x2*131072))))).drew):=(S2.out.setCell_new c 0 _ C2.out.old).drew
 have C3:Aside (BoxU w0 c (.int .u64 (bits .xor .u64 x2 (IntKind.u64.wrap (x2*131072)))) (w2.setCell ⟨c,0,none⟩ (.int .u64 (bits .xor .u64 x2 (IntKind.u64.wrap (x2*131072))))).drew):=(C2.out.set _).drew
 have B3:=Ur .xor x2 (IntKind.u64.wrap (x2*131072))
 clear c2 f2 S2 C2 b20 b21
 generalize (w2.setCell ⟨c,0,none⟩ (.int .u64 (bits .xor .u64 x2 (IntKind.u64.wrap (x2*131072))))).drew=w3 at S3 C3 ⊢
 generalize bits .xor .u64 x2 (IntKind.u64.wrap (x2*131072))=x3 at C3 B3 ⊢
 obtain⟨b30,b31⟩:=B3
 have c3:=C3.out.cell
 have f3:=C3.out.froz
 go_wp2_with fail
 go_ret
 exact⟨x3,rfl,b30,b31,S3.out,C3.out⟩
theorem qfh:∀n:Fin 65,8<=n.val->(Lib.bitLen n.val=4/\8<=n.val)∨(Lib.bitLen n.val=5/\16<=n.val)∨(Lib.bitLen n.val=6/\32<=n.val)∨(Lib.bitLen n.val=7/\64<=n.val):=by decide +kernel
theorem qfi (n:Nat)(h8:8<=n)(h64:n<=64)(w:World):Calls prog 134 #[.int .i64 n] w λe w'=>∃m:Nat,e=.returned (.int .u64 m)/\1<=m/\m<=2*n/\w'=w:=by
 have hl:=qfh ⟨n,by omega⟩ h8
 have aJ:=λW=>Cp (n:Int) W Oz Oz
 rw[Int.toNat_natCast]at aJ
 have wz:IntKind.u64.wrap (n:Int)=(n:Int):=by rw[Lu];omega
 rcases hl with ⟨hb,hn⟩ | ⟨hb,hn⟩ | ⟨hb,hn⟩ | ⟨hb,hn⟩
 ·simp only at hb;rw[hb]at aJ;have H:=Ou aJ;have hm:16<=2*n:=by simp only at hn;omega
  clear aJ hb hn;go_enter func134,ntmps134;go_wp2_with ((with_reducible refine(H.out _).mono ?_);rintro e w' ⟨rfl,rfl⟩)
  go_ret;exact⟨16,rfl,by omega,hm,rfl⟩
 ·simp only at hb;rw[hb]at aJ;have H:=Ou aJ;have hm:32<=2*n:=by simp only at hn;omega
  clear aJ hb hn;go_enter func134,ntmps134;go_wp2_with ((with_reducible refine(H.out _).mono ?_);rintro e w' ⟨rfl,rfl⟩)
  go_ret;exact⟨32,rfl,by omega,hm,rfl⟩
 ·simp only at hb;rw[hb]at aJ;have H:=Ou aJ;have hm:64<=2*n:=by simp only at hn;omega
  clear aJ hb hn;go_enter func134,ntmps134;go_wp2_with ((with_reducible refine(H.out _).mono ?_);rintro e w' ⟨rfl,rfl⟩)
  go_ret;exact⟨64,rfl,by omega,hm,rfl⟩
 ·simp only at hb;rw[hb]at aJ;have H:=Ou aJ;have hm:128<=2*n:=by simp only at hn;omega
  clear aJ hb hn;go_enter func134,ntmps134;go_wp2_with ((with_reducible refine(H.out _).mono ?_);rintro e w' ⟨rfl,rfl⟩)
  go_ret;exact⟨128,rfl,by omega,hm,rfl⟩
theorem qfj (blk off cap:Nat)(a b:Nat)(za zb:Int)(dE:za=a)(hzb:zb=b)(d0 d:Array Int)(w0 w:World)(n:Nat)(hn:n=d.size)(R:Row1 eU w0 blk off d0)(hs:d0.size=d.size)(S:SW eU w0 blk off d w)(hsz:d.size<4611686018427387904)(hab:a+12<b)(hb:b<=d.size)(h64:b<=a+64) :
  Calls prog 106 #[.slice (some ⟨blk,off,none⟩) n cap,.int .i64 za,.int .i64 zb] w λe w'=>e=.returned (.tuple #[])/\∃d',SW eU w0 blk off d' w'/\PermIn a b d d':=by
 subst hn dE hzb
 have mixed:prog.follows .mixedOrders=true:=by kernel_rfl
 have S0:Aside (SW eU w0 blk off d w):=S
 have HS:=Ou hs
 have HL:=Ou Jh
 clear S hs
 obtain⟨ln,gX⟩:∃x,x=b-a:=⟨_,rfl⟩
 obtain⟨q4,vK⟩:∃x,x=ln / 4:=⟨_,rfl⟩
 obtain⟨i0,hi0⟩:∃x,x=a+q4*2-1:=⟨_,rfl⟩
 obtain⟨i2,hi2⟩:∃x,x=a+q4*2+1:=⟨_,rfl⟩
 have z1:(b:Int)-(a:Int)=(ln:Int):=by omega
 have z2:(ln:Int) / 4=(q4:Int):=by omega
 have z2':(ln:Int).tdiv 4=(q4:Int):=by rw[Mv (by omega)];exact z2
 have z3:(a:Int)+(q4:Int)*2-1=(i0:Int):=by omega
 have z4:(a:Int)+(q4:Int)*2+1=(i2:Int):=by omega
 have l1:8<=ln:=by omega
 have l2:ln<=64:=by omega
 have l3:a<=i0:=by omega
 have l4:i2<b:=by omega
 have l5:i0+2<=i2:=by omega
 have l6:a+ln<=b:=by omega
 have l7:i2<=i0+2:=by omega
 have wl:IntKind.u64.wrap (ln:Int)=(ln:Int):=by rw[Lu];omega
 have kW:=Ou (λW=>qfi ln l1 l2 W)
 have HNX:=Ou (λc x d W S C h0 h1=>qfg blk off c x d w0 W S C h0 h1)
 have ST:=Ou (λ(W:World) (hW:SW eU w0 blk off d W)=>Sv (hW.alloc (.cells #[.int .u64 (ln:Int)] 207)) (BoxU.start hW (.int .u64 (ln:Int)) 207))
 have ST0:=Ou (ST.out w S0.out)
 clear gX vK hi0 hi2 ST
 go_enter func106,ntmps106
 go_wp2_with fail
 refine(kW.out _).mono ?_
 rintro e w1 ⟨m,rfl,m1,m2,rfl⟩
 obtain⟨k,hk⟩:∃k,m=k+1:=⟨m-1,by omega⟩
 have zm:(m:Int)-1=(k:Int):=by omega
 have lk:k<2*ln:=by omega
 clear hk
 have S1:Aside (SW eU w0 blk off d (w.alloc (.cells #[.int .u64 (ln:Int)] 207))):=ST0.out.1
 have C1:Aside (BoxU w0 w.heap.size (.int .u64 (ln:Int)) (w.alloc (.cells #[.int .u64 (ln:Int)] 207))):=ST0.out.2
 clear ST0 S0 kW
 generalize w.alloc (.cells #[.int .u64 (ln:Int)] 207)=w1 at S1 C1 ⊢
 obtain⟨c,hc⟩:∃c,c=w.heap.size:=⟨_,rfl⟩
 rw[<-hc]at C1 ⊢
 clear hc
 go_wp2_with fail
 go_loopg [9] 3 (λkx s9 wr=>∃(i:Nat) (x:Int) (dk:Array Int),s9=.int .i64 i/\a<=i/\i<=i2+1/\i2+1-i<=kx/\0<=x/\x<18446744073709551616/\Aside (SW eU w0 blk off dk wr)/\Aside (BoxU w0 c (.int .u64 x) wr)/\PermIn a b d dk)
 case atStart=>exact⟨i0,(ln:Int),d,rfl,by omega,by omega,by omega,by omega,by omega,S1,C1,permIn_refl _ _ _⟩
 case round =>
  clear S1 C1;obtain⟨i,x,dk,rfl,hai,nG,aP,hx0,hx1,S1,C1,bQ⟩:=hrel;have HD:Hid (dk.size=d.size):=bQ.1;by_cases hlt:i<=i2
  ·have hz:(i:Int)<=(i2:Int):=by omega
   go_wp2_with fail
   refine(HNX.out c x dk _ S1.out C1.out hx0 hx1).mono ?_;rintro e w2 ⟨y,rfl,hy0,hy1,S2',C2'⟩;have S2:Aside (SW eU w0 blk off dk w2):=S2';have C2:Aside (BoxU w0 c (.int .u64 y) w2):=C2';obtain⟨Y,rfl⟩:∃Y:Nat,y=(Y:Int):=⟨y.toNat,by omega⟩
   obtain⟨o,ho⟩:∃o,o=Y &&& k:=⟨_,rfl⟩
   have zb:bits .and .u64 (Y:Int) (k:Int)=(o:Int):=by rw[bits_and_u64_nat Y k Oz Oz,ho]
   have lo:o<=k:=by rw[ho];exact Nat.and_le_right
   clear ho S1 C1 S2' C2' hx0 hx1;have S9:=S2;clear S2;by_cases hge:ln<=o
   ·have hz2:(ln:Int)<=(o:Int):=by omega
    obtain⟨o2,ho2⟩:∃x,x=o-ln:=⟨_,rfl⟩
    have q8:(o:Int)-(ln:Int)=(o2:Int):=by omega
    have lo2:o2<ln:=by omega
    clear ho2;go_wp2_with fail
    obtain⟨ao,hao⟩:∃x,x=a+o2:=⟨_,rfl⟩
    have q9:IntKind.i64.wrap ((a:Int)+(o2:Int))=(ao:Int):=by rw[Wz];omega
    have la1:a<=ao:=by omega
    have la2:ao<b:=by omega
    have kX:PermIn a b d (swp dk i ao):=permIn_trans _ _ _ _ _ bQ (swp_permIn dk a b i ao Oz Oz Oz Oz (by rw[HD.out];omega));have hbk:=R.hblk;have C3:=λu u'=>C2.out.swapped (x:=off+i) (y:=off+ao) hbk u u';have C3':Aside (∀(u u':Value),BoxU w0 c (.int .u64 (Y:Int)) ((w2.setCell ⟨blk,off+i,none⟩ u).setCell ⟨blk,off+ao,none⟩ u').drew):=C3;clear hao bQ C2 C3 hbk;go_wp2_with fail
    have aA:=HD.out;have bI:(i:Int)<(d.size:Int):=by omega
    have bJ:(ao:Int)<(d.size:Int):=by omega
    have S2:=S9.out.swapped R (i) (ao) Oz Oz;have ca:=S9.out.c1 R (by rw[HD.out];exact HS.out.symm) (i) Oz;have cb:=S9.out.c1 R (by rw[HD.out];exact HS.out.symm) (ao) Oz;have fa:=S9.out.f1 R (by rw[HD.out];exact HS.out.symm) (i) Oz;have fb:=S9.out.f1 R (by rw[HD.out];exact HS.out.symm) (ao) Oz;obtain⟨uc,cc⟩:=S9.out.c2 R (by rw[HD.out];exact HS.out.symm) (i) (ao) Oz Oz (eU dk[ao]!);clear aA;generalize dk[i]! = vI at S2 ca cc;generalize dk[ao]! = vJ at S2 cb cc;replace S2:Aside (SW eU w0 blk off (swp dk (i) (ao)) ((w2.setCell ⟨blk,off+i,none⟩ (.int .u64 vJ)).setCell ⟨blk,off+ao,none⟩ (.int .u64 vI)).drew):=S2
    replace ca:w2.cell? ⟨blk,off+i,none⟩=some (.int .u64 vI):=ca;replace cb:w2.cell? ⟨blk,off+ao,none⟩=some (.int .u64 vJ):=cb;replace cc:(w2.setCell ⟨blk,off+i,none⟩ (.int .u64 vJ)).cell? ⟨blk,off+ao,none⟩=some uc:=cc;clear S9;go_wp2_with fail
    go_big_region
    clear ca cb fa fb cc bI bJ;have C4:=C3'.out (.int .u64 vJ) (.int .u64 vI);generalize ((w2.setCell ⟨blk,off+i,none⟩ (.int .u64 vJ)).setCell ⟨blk,off+ao,none⟩ (.int .u64 vI)).drew=w3 at S2 C4 ⊢;have C5:Aside (BoxU w0 c (.int .u64 (Y:Int)) w3):=C4;clear C4 C3';go_wp2_with fail
    go_roundg (i2+1-(i+1))
    case measure=>omega
    case rel=>exact⟨i+1,(Y:Int),swp dk i ao,by go_num,by omega,by omega,Sq _,by omega,by omega,S2,C5,kX⟩
   ·have hz2:¬(ln:Int)<=(o:Int):=by omega
    have lo2:o<ln:=by omega
    go_wp2_with fail
    obtain⟨ao,hao⟩:∃x,x=a+o:=⟨_,rfl⟩
    have q9:IntKind.i64.wrap ((a:Int)+(o:Int))=(ao:Int):=by rw[Wz];omega
    have la1:a<=ao:=by omega
    have la2:ao<b:=by omega
    have kX:PermIn a b d (swp dk i ao):=permIn_trans _ _ _ _ _ bQ (swp_permIn dk a b i ao Oz Oz Oz Oz (by rw[HD.out];omega));have hbk:=R.hblk;have C3:=λu u'=>C2.out.swapped (x:=off+i) (y:=off+ao) hbk u u';have C3':Aside (∀(u u':Value),BoxU w0 c (.int .u64 (Y:Int)) ((w2.setCell ⟨blk,off+i,none⟩ u).setCell ⟨blk,off+ao,none⟩ u').drew):=C3;clear hao bQ C2 C3 hbk;go_wp2_with fail
    have aA:=HD.out;have bI:(i:Int)<(d.size:Int):=by omega
    have bJ:(ao:Int)<(d.size:Int):=by omega
    have S2:=S9.out.swapped R (i) (ao) Oz Oz;have ca:=S9.out.c1 R (by rw[HD.out];exact HS.out.symm) (i) Oz;have cb:=S9.out.c1 R (by rw[HD.out];exact HS.out.symm) (ao) Oz;have fa:=S9.out.f1 R (by rw[HD.out];exact HS.out.symm) (i) Oz;have fb:=S9.out.f1 R (by rw[HD.out];exact HS.out.symm) (ao) Oz;obtain⟨uc,cc⟩:=S9.out.c2 R (by rw[HD.out];exact HS.out.symm) (i) (ao) Oz Oz (eU dk[ao]!);clear aA;generalize dk[i]! = vI at S2 ca cc;generalize dk[ao]! = vJ at S2 cb cc;replace S2:Aside (SW eU w0 blk off (swp dk (i) (ao)) ((w2.setCell ⟨blk,off+i,none⟩ (.int .u64 vJ)).setCell ⟨blk,off+ao,none⟩ (.int .u64 vI)).drew):=S2
    replace ca:w2.cell? ⟨blk,off+i,none⟩=some (.int .u64 vI):=ca;replace cb:w2.cell? ⟨blk,off+ao,none⟩=some (.int .u64 vJ):=cb;replace cc:(w2.setCell ⟨blk,off+i,none⟩ (.int .u64 vJ)).cell? ⟨blk,off+ao,none⟩=some uc:=cc;clear S9;go_wp2_with fail
    go_big_region
    clear ca cb fa fb cc bI bJ;have C4:=C3'.out (.int .u64 vJ) (.int .u64 vI);generalize ((w2.setCell ⟨blk,off+i,none⟩ (.int .u64 vJ)).setCell ⟨blk,off+ao,none⟩ (.int .u64 vI)).drew=w3 at S2 C4 ⊢;have C5:Aside (BoxU w0 c (.int .u64 (Y:Int)) w3):=C4;clear C4 C3';go_wp2_with fail
    go_roundg (i2+1-(i+1))
    case measure=>omega
    case rel=>exact⟨i+1,(Y:Int),swp dk i ao,by go_num,by omega,by omega,Sq _,by omega,by omega,S2,C5,kX⟩
  ·have hz:¬(i:Int)<=(i2:Int):=by omega
   clear HD;go_wp2;go_end0;exact⟨rfl,dk,S1.out,bQ⟩
end
section
open Go.RowKit Go.Sort Go.Lib Go.Shelf
theorem qfk (blk off cap:Nat)(a b:Nat)(za zb:Int)(dE:za=a)(hzb:zb=b)(d0 d:Array Int)(w0 w:World)(n:Nat)(hn:n=d.size)(R:Row1 eU w0 blk off d0)(hs:d0.size=d.size)(S:SW eU w0 blk off d w)(hsz:d.size<4611686018427387904)(c:Nat)(s:Int)(C:BoxU w0 c (.int .i64 s) w)(ha:a<d.size)(hb:b<d.size) :
  Calls prog 147 #[.slice (some ⟨blk,off,none⟩) n cap,.int .i64 za,.int .i64 zb,.pointer (some ⟨c,0,none⟩)] w λe w'=>∃x y:Nat,e=.returned (.tuple #[.int .i64 x,.int .i64 y])/\((x=a/\y=b)∨(x=b/\y=a))/\SW eU w0 blk off d w'/\∃s',BoxU w0 c (.int .i64 s') w':=by
 subst hn dE hzb
 have _hz:=hsz
 have HD:Hid (d.size<=d.size):=Sq _
 have C0:Aside (BoxU w0 c (.int .i64 s) w):=C
 clear C
 have mixed:prog.follows .mixedOrders=true:=by kernel_rfl
 have S0:Aside (SW eU w0 blk off d w):=S
 have HS:=Ou hs
 have HL:=Ou Jh
 clear S hs
 go_enter func147,ntmps147
 go_wp2_with fail
 have aA:=HD.out
 obtain⟨x,hx⟩:∃x,d[b]! = x:=⟨_,rfl⟩
 have cx:=S0.out.c1 R HS.out.symm (b) Oz
 rw[hx]at cx
 replace cx:w.cell? ⟨blk,off+b,none⟩=some (.int .u64 x):=cx
 have Xx:=Ou hx
 clear hx
 have bbx:(b:Int)<(d.size:Int):=by omega
 obtain⟨y,hy⟩:∃x,d[a]! = x:=⟨_,rfl⟩
 have cy:=S0.out.c1 R HS.out.symm (a) Oz
 rw[hy]at cy
 replace cy:w.cell? ⟨blk,off+a,none⟩=some (.int .u64 y):=cy
 have Xy:=Ou hy
 clear hy
 have bby:(a:Int)<(d.size:Int):=by omega
 clear aA
 cases hl:ltInt x y with
 | true =>
  go_wp2_with fail
  go_quiet ((go_at_call 110;with_reducible exact Ss (HL.out _ _ _)))
  have S1:Aside (SW eU w0 blk off d (w.drewN nq)):=S0.out.drewN nq;have C1:Aside (BoxU w0 c (.int .i64 s) (w.drewN nq)):=C0.out.drewN nq;clear C0;clear cx bbx cy bby S0;generalize w.drewN nq=wq at S1 C1 ⊢;have c1:=C1.out.cell;have f1:=C1.out.froz;rw[hl];go_wp2_with fail
  go_ret2;exact⟨b,a,rfl,.inr ⟨rfl,rfl⟩,S1.out.setCell_new c 0 _ C1.out.old,_,C1.out.set _⟩
 | false =>
  go_wp2_with fail
  go_quiet ((go_at_call 110;with_reducible exact Ss (HL.out _ _ _)))
  have S1:Aside (SW eU w0 blk off d (w.drewN nq)):=S0.out.drewN nq;have C1:Aside (BoxU w0 c (.int .i64 s) (w.drewN nq)):=C0.out.drewN nq;clear C0;clear cx bbx cy bby S0;generalize w.drewN nq=wq at S1 C1 ⊢;rw[hl];go_wp2_with fail
  go_ret2;exact⟨a,b,rfl,.inl ⟨rfl,rfl⟩,S1.out,_,C1.out⟩
theorem CH (blk off cap:Nat)(a b c3:Nat)(za zb zc:Int)(dE:za=a)(hzb:zb=b)(hzc:zc=c3)(d0 d:Array Int)(w0 w:World)(n:Nat)(hn:n=d.size)(R:Row1 eU w0 blk off d0)(hs:d0.size=d.size)(S:SW eU w0 blk off d w)(hsz:d.size<4611686018427387904)(c:Nat)(s:Int)(C:BoxU w0 c (.int .i64 s) w)(ha:a<d.size)(hb:b<d.size)(hc:c3<d.size) :
  Calls prog 137 #[.slice (some ⟨blk,off,none⟩) n cap,.int .i64 za,.int .i64 zb,.int .i64 zc,.pointer (some ⟨c,0,none⟩)] w λe w'=>∃m:Nat,e=.returned (.int .i64 m)/\(m=a∨m=b∨m=c3)/\SW eU w0 blk off d w'/\∃s',BoxU w0 c (.int .i64 s') w':=by
 subst hn dE hzb hzc
 have HO:=Ou (λa b W S c s C ha hb=>qfk blk off cap a b a b rfl rfl d0 d w0 W d.size rfl R hs S hsz c s C ha hb)
 have C0:Aside (BoxU w0 c (.int .i64 s) w):=C
 clear C
 have mixed:prog.follows .mixedOrders=true:=by kernel_rfl
 have S0:Aside (SW eU w0 blk off d w):=S
 have HS:=Ou hs
 have HL:=Ou Jh
 clear S hs
 go_enter func137,ntmps137
 go_wp2_with fail
 refine(HO.out a b _ S0.out c s C0.out ha hb).mono ?_
 rintro e w1 ⟨x1,y1,rfl,h1,S1',s1,C1'⟩
 have S1:Aside (SW eU w0 blk off d w1):=S1'
 have C1:Aside (BoxU w0 c (.int .i64 s1) w1):=C1'
 have H1:=Ou h1
 have k1:x1<d.size:=by omega
 have k2:y1<d.size:=by omega
 clear S1' C1' h1 S0 C0
 go_wp2_with fail
 refine(HO.out y1 c3 _ S1.out c s1 C1.out k2 hc).mono ?_
 rintro e w2 ⟨x2,y2,rfl,h2,S2',s2,C2'⟩
 have S2:Aside (SW eU w0 blk off d w2):=S2'
 have C2:Aside (BoxU w0 c (.int .i64 s2) w2):=C2'
 have H2:=Ou h2
 have k3:x2<d.size:=by omega
 clear S2' C2' h2 S1 C1
 go_wp2_with fail
 refine(HO.out x1 x2 _ S2.out c s2 C2.out k1 k3).mono ?_
 rintro e w3 ⟨x3,y3,rfl,h3,S3',s3,C3'⟩
 have S3:Aside (SW eU w0 blk off d w3):=S3'
 have C3:Aside (BoxU w0 c (.int .i64 s3) w3):=C3'
 have HF:Hid (y3=a∨y3=b∨y3=c3):=by
  have:=H1.out;have:=H2.out;show _∨_;omega
 clear S3' C3' h3 S2 C2
 go_wp2_with fail
 go_ret
 exact⟨y3,rfl,HF.out,S3.out,s3,C3.out⟩
theorem qfl (blk off cap:Nat)(a:Nat)(za:Int)(dE:za=a)(d0 d:Array Int)(w0 w:World)(n:Nat)(hn:n=d.size)(R:Row1 eU w0 blk off d0)(hs:d0.size=d.size)(S:SW eU w0 blk off d w)(hsz:d.size<4611686018427387904)(c:Nat)(s:Int)(C:BoxU w0 c (.int .i64 s) w)(h0:1<=a)(ha:a+1<d.size) :
  Calls prog 136 #[.slice (some ⟨blk,off,none⟩) n cap,.int .i64 za,.pointer (some ⟨c,0,none⟩)] w λe w'=>∃m:Nat,e=.returned (.int .i64 m)/\(m+1=a∨m=a∨m=a+1)/\SW eU w0 blk off d w'/\∃s',BoxU w0 c (.int .i64 s') w':=by
 subst hn dE
 obtain⟨p,hp⟩:∃p,p=a-1:=⟨_,rfl⟩
 have z1:(a:Int)-1=(p:Int):=by omega
 have z2:(a:Int)+1=((a+1:Nat):Int):=by omega
 have HO:=Ou (CH blk off cap p a (a+1) p a ((a:Int)+1) rfl rfl z2 d0 d w0 w d.size rfl R hs S hsz c s C Oz Oz ha)
 have l1:p+1<=a:=by omega
 have l2:a<=p+1:=by omega
 clear C hp z2
 have mixed:prog.follows .mixedOrders=true:=by kernel_rfl
 have S0:Aside (SW eU w0 blk off d w):=S
 have HS:=Ou hs
 have HL:=Ou Jh
 clear S hs
 go_enter func136,ntmps136
 go_wp2_with fail
 refine(HO.out).mono ?_
 rintro e w1 ⟨m,rfl,h1,S1',s1,C1'⟩
 have S1:Aside (SW eU w0 blk off d w1):=S1'
 have C1:Aside (BoxU w0 c (.int .i64 s1) w1):=C1'
 have HF:Hid (m+1=a∨m=a∨m=a+1):=by show _∨_;omega
 clear S1' C1' h1 S0
 go_wp2_with fail
 go_ret
 exact⟨m,rfl,HF.out,S1.out,s1,C1.out⟩
theorem qfm (blk off cap:Nat)(a b:Nat)(za zb:Int)(dE:za=a)(hzb:zb=b)(d0 d:Array Int)(w0 w:World)(n:Nat)(hn:n=d.size)(R:Row1 eU w0 blk off d0)(hs:d0.size=d.size)(S:SW eU w0 blk off d w)(hsz:d.size<4611686018427387904)(hab:a+12<b)(hb:b<=d.size) :
  Calls prog 107 #[.slice (some ⟨blk,off,none⟩) n cap,.int .i64 za,.int .i64 zb] w λe w'=>∃p h:Nat,e=.returned (.tuple #[.int .i64 p,.int .i64 h])/\a<=p/\p<b/\h<=2/\SW eU w0 blk off d w':=by
 subst hn dE hzb
 have iC:=Ou (λa b c3 W S c s C ha hb hc=>CH blk off cap a b c3 a b c3 rfl rfl rfl d0 d w0 W d.size rfl R hs S hsz c s C ha hb hc)
 have yM:=Ou (λa W S c s C h0 ha=>qfl blk off cap a a rfl d0 d w0 W d.size rfl R hs S hsz c s C h0 ha)
 have mixed:prog.follows .mixedOrders=true:=by kernel_rfl
 have S0:Aside (SW eU w0 blk off d w):=S
 have HS:=Ou hs
 have HL:=Ou Jh
 clear S hs
 obtain⟨ln,gX⟩:∃x,x=b-a:=⟨_,rfl⟩
 obtain⟨q4,vK⟩:∃x,x=ln / 4:=⟨_,rfl⟩
 obtain⟨i,hi⟩:∃x,x=a+q4:=⟨_,rfl⟩
 obtain⟨j,hj⟩:∃x,x=a+q4*2:=⟨_,rfl⟩
 obtain⟨k,hk⟩:∃x,x=a+q4*3:=⟨_,rfl⟩
 have z1:(b:Int)-(a:Int)=(ln:Int):=by omega
 have z2:(ln:Int) / 4=(q4:Int):=by omega
 have z2':(ln:Int).tdiv 4=(q4:Int):=by rw[Mv (by omega)];exact z2
 have z3:(a:Int)+(q4:Int)=(i:Int):=by omega
 have z4:(a:Int)+(q4:Int)*2=(j:Int):=by omega
 have z5:(a:Int)+(q4:Int)*3=(k:Int):=by omega
 have l1:13<=ln:=by omega
 have l8:(8:Int)<=(ln:Int):=by omega
 have l2:a+3<=i:=by omega
 have l3:i<j:=by omega
 have l4:j<k:=by omega
 have l5:k+1<b:=by omega
 have ST:=Ou (λ(W:World) (hW:SW eU w0 blk off d W)=>Sv (hW.alloc (.cells #[.int .i64 0] 3)) (BoxU.start hW (.int .i64 0) 3))
 have ST0:=Ou (ST.out w S0.out)
 clear gX vK hi hj hk ST
 go_enter func107,ntmps107
 go_upto_if 32 with fail
 have S1:Aside (SW eU w0 blk off d (w.alloc (.cells #[.int .i64 0] 3))):=ST0.out.1
 have C1:Aside (BoxU w0 w.heap.size (.int .i64 0) (w.alloc (.cells #[.int .i64 0] 3))):=ST0.out.2
 clear ST0 S0
 generalize w.alloc (.cells #[.int .i64 0] 3)=w1 at S1 C1 ⊢
 obtain⟨c,hc⟩:∃c,c=w.heap.size:=⟨_,rfl⟩
 rw[<-hc]at C1 ⊢
 clear hc
 go_cut [11] (λiI wx=>∃(p:Nat) (s:Int),iI=.int .i64 p/\a<=p/\p<b/\Aside (SW eU w0 blk off d wx)/\Aside (BoxU w0 c (.int .i64 s) wx))
 case first =>
  by_cases h50:50<=ln
  ·have z50:(50:Int)<=(ln:Int):=by omega
   go_wp2_with fail
   refine(yM.out i _ S1.out c 0 C1.out Oz Oz).mono ?_;rintro e w2 ⟨i',rfl,hi',S2',s2,C2'⟩;have S2:Aside (SW eU w0 blk off d w2):=S2';have C2:Aside (BoxU w0 c (.int .i64 s2) w2):=C2';have m1:a<=i':=by omega
   have m2:i'<b:=by omega
   clear hi' S2' C2' S1 C1;go_wp2_with fail
   refine(yM.out j _ S2.out c s2 C2.out Oz Oz).mono ?_;rintro e w3 ⟨j',rfl,hj',S3',s3,C3'⟩;have S3:Aside (SW eU w0 blk off d w3):=S3';have C3:Aside (BoxU w0 c (.int .i64 s3) w3):=C3';have m3:a<=j':=by omega
   have m4:j'<b:=by omega
   clear hj' S3' C3' S2 C2;go_wp2_with fail
   refine(yM.out k _ S3.out c s3 C3.out Oz Oz).mono ?_;rintro e w4 ⟨k',rfl,hk',S4',s4,C4'⟩;have S4:Aside (SW eU w0 blk off d w4):=S4';have C4:Aside (BoxU w0 c (.int .i64 s4) w4):=C4';have m5:a<=k':=by omega
   have m6:k'<b:=by omega
   clear hk' S4' C4' S3 C3;go_wp2_with fail
   refine(iC.out i' j' k' _ S4.out c s4 C4.out Oz Oz Oz).mono ?_;rintro e w5 ⟨m,rfl,hm,S5',s5,C5'⟩;have S5:Aside (SW eU w0 blk off d w5):=S5';have C5:Aside (BoxU w0 c (.int .i64 s5) w5):=C5';have m7:a<=m:=by omega
   have m8:m<b:=by omega
   clear hm S5' C5' S4 C4;go_wp2_with fail
   go_meet
   case rel=>exact⟨m,s5,rfl,m7,m8,S5,C5⟩
  ·have z50:¬(50:Int)<=(ln:Int):=by omega
   go_wp2_with fail
   refine(iC.out i j k _ S1.out c 0 C1.out Oz Oz Oz).mono ?_;rintro e w5 ⟨m,rfl,hm,S5',s5,C5'⟩;have S5:Aside (SW eU w0 blk off d w5):=S5';have C5:Aside (BoxU w0 c (.int .i64 s5) w5):=C5';have m7:a<=m:=by omega
   have m8:m<b:=by omega
   clear hm S5' C5' S1 C1;go_wp2_with fail
   go_meet
   case rel=>exact⟨m,s5,rfl,m7,m8,S5,C5⟩
 case rest =>
 obtain⟨p,s,rfl,hp1,hp2,S5,C5⟩:=hcut
 clear S1 C1
 have c5:=C5.out.cell
 by_cases h0:s=0
 ·have e0:(s==0)=true:=by simp[h0]
  clear h0;go_wp2_with fail
  go_ret2;exact⟨p,1,rfl,hp1,hp2,by omega,S5.out⟩
 ·have e0:(s==0)=false:=by simp[h0]
  by_cases h12:s=12
  ·have e12:(s==12)=true:=by simp[h12]
   clear h0 h12;go_wp2_with fail
   go_ret2;exact⟨p,2,rfl,hp1,hp2,by omega,S5.out⟩
  ·have e12:(s==12)=false:=by simp[h12]
   clear h0 h12;go_wp2_with fail
   go_ret2;exact⟨p,0,rfl,hp1,hp2,by omega,S5.out⟩
def OkU (a0 b0:Nat)(d0:Array Int)(a b:Nat)(d:Array Int):Prop:=∀R,PermIn a b d R->SortedIn ltInt a b R->PermIn a0 b0 d0 R/\SortedIn ltInt a0 b0 R
def StU (a0 b0:Nat)(d0:Array Int)(a b:Nat)(d:Array Int):Prop:=d.size=d0.size/\Below ltInt a b d/\OkU a0 b0 d0 a b d
theorem StU.perm {a0 b0 a b:Nat}{d0 d d':Array Int}(h:StU a0 b0 d0 a b d)(hb:b<=d0.size)(hp:PermIn a b d d'):StU a0 b0 d0 a b d' :=
 ⟨hp.1.trans h.1,h.2.1.perm (by rw[h.1];exact hb) hp,λR hR hs=>h.2.2 R (permIn_trans _ _ _ a b hp hR) hs⟩
theorem ltI {x y:Int}:ltInt x y=true↔x<y:=by simp[ltInt]
theorem ltI' {x y:Int}:ltInt x y=false↔y<=x:=by simp[ltInt]
theorem StU.eq {a0 b0 a b m pv:Nat}{d0 d d':Array Int}(h:StU a0 b0 d0 a b d)(hb:b<=d0.size)(h0:0<a)(hn:ltInt d[a-1]! d[pv]! = false)(hP:PEq a b m d[pv]! d d') :
  StU a0 b0 d0 m b d':=by
 obtain⟨hs,hB,hO⟩:=h
 obtain⟨hp,ha,hm,hle,hgt⟩:=hP
 have cV:b<=d.size:=by rw[hs];exact hb
 have dY:b<=d'.size:=by rw[hp.1];exact cV
 have hge:∀i,a<=i->i<b->d[pv]!<=d'[i]!:=λi hi hi'=>by
  refine permIn_all d d' a b (λx=>d[pv]!<=x) cV hp (λk hk hk'=>?_) i hi hi';rcases hB with h1|hB
  ·omega
  ·have k1:=ltI'.1 (hB k hk hk');have k2:=ltI'.1 hn;omega
 have hlt:∀i,m<=i->i<b->d[pv]! < d'[i]!:=λi hi hi'=>ltI.1 (hgt i hi hi')
 have heq:∀i,a<=i->i<m->d'[i]! = d[pv]!:=λi hi hi'=>by
  have k1:=hge i hi Oz;have k2:=ltI'.1 (hle i hi hi');omega
 refine⟨hp.1.trans hs,.inr λi hi hi'=>?_,λR hR hsR=>hO R ?_ ?_⟩
 ·rw[heq (m-1) Oz (by omega)];have:=hlt i hi hi';exact ltI'.2 Oz
 ·exact permIn_trans _ _ _ a b hp (permIn_mono _ _ m b a b Oz (Sq _) dY hR)
 ·intro i j hi hij hj;by_cases h1:m<=i
  ·exact hsR i j h1 hij hj
  ·have e1:R[i]! = d[pv]!:=by rw[hR.2.1 i (.inl Oz)];exact heq i hi Oz
   rw[e1];by_cases h2:m<=j
   ·have:=permIn_all d' R m b (λx=>d[pv]! < x) dY hR hlt j h2 hj;exact ltI'.2 Oz
   ·have e2:R[j]! = d[pv]!:=by rw[hR.2.1 j (.inl Oz)];exact heq j Oz Oz
    rw[e2];exact ltI'.2 (Fw _)
theorem StU.left {a0 b0 a b m:Nat}{d0 d d' L:Array Int}(h:StU a0 b0 d0 a b d)(hb:b<=d0.size)(hP:KQ a b m d d')(hL:PermIn a m d' L)(hsL:SortedIn ltInt a m L):StU a0 b0 d0 (m+1) b L:=by
 obtain⟨hs,hB,hO⟩:=h
 obtain⟨hp,ha,hm,hlo,hhi⟩:=hP
 have dY:b<=d'.size:=by rw[hp.1,hs];exact hb
 have hbL:b<=L.size:=by rw[hL.1];exact dY
 have eL:∀i,m<=i->L[i]! = d'[i]!:=λi hi=>hL.2.1 i (.inr hi)
 have kL:∀i,a<=i->i<m->ltInt L[i]! d'[m]! = true:=permIn_all d' L a m (λx=>ltInt x d'[m]! = true) Oz hL hlo
 have kR:∀i,m<i->i<b->ltInt L[i]! d'[m]! = false:=λi hi hi'=>by rw[eL i (by omega)];exact hhi i hi hi'
 refine⟨hL.1.trans (hp.1.trans hs),.inr λi hi hi'=>?_,λR hR hsR=>hO R ?_ ?_⟩
 ·rw[show m+1-1=m by omega,eL m (Sq _)];exact kR i Oz hi'
 ·exact permIn_trans _ _ _ a b hp (permIn_trans _ _ _ a b (permIn_mono _ _ a m a b (Sq _) Oz dY hL) (permIn_mono _ _ (m+1) b a b Oz (Sq _) hbL hR))
 ·have eR:∀i,i<=m->R[i]! = L[i]!:=λi hi=>hR.2.1 i (.inl Oz);have em:R[m]! = d'[m]!:=(eR m (Sq _)).trans (eL m (Sq _));refine sorted_glue swo_ltInt (mid:=m) (λi j hi hij hj=>?_) hsR (λi hi hi'=>?_) λi hi hi'=>?_
  ·rw[eR i Oz,eR j (by omega)];exact hsL i j hi hij hj
  ·rw[em,eR i (by omega)];exact kL i hi hi'
  ·rw[em];exact permIn_all L R (m+1) b (λx=>ltInt x d'[m]! = false) hbL hR (λk hk hk'=>kR k Oz hk') i Oz hi'
theorem StU.right {a0 b0 a b m:Nat}{d0 d d' L:Array Int}(h:StU a0 b0 d0 a b d)(hb:b<=d0.size)(hP:KQ a b m d d')(hL:PermIn (m+1) b d' L)(hsL:SortedIn ltInt (m+1) b L):StU a0 b0 d0 a m L:=by
 obtain⟨hs,hB,hO⟩:=h
 obtain⟨hp,ha,hm,hlo,hhi⟩:=hP
 have cV:b<=d.size:=by rw[hs];exact hb
 have dY:b<=d'.size:=by rw[hp.1];exact cV
 have hbL:b<=L.size:=by rw[hL.1];exact dY
 have eL:∀i,i<=m->L[i]! = d'[i]!:=λi hi=>hL.2.1 i (.inl Oz)
 have kR:∀i,m<i->i<b->ltInt L[i]! d'[m]! = false:=λi hi hi'=>permIn_all d' L (m+1) b (λx=>ltInt x d'[m]! = false) dY hL (λk hk hk'=>hhi k Oz hk') i Oz hi'
 refine⟨hL.1.trans (hp.1.trans hs),?_,λR hR hsR=>hO R ?_ ?_⟩
 ·rcases hB.perm cV hp with h1|h1
  ·exact .inl h1
  ·by_cases h0:a=0
   ·exact .inl h0
   ·refine .inr λi hi hi'=>?_;rw[eL i Oz,eL (a-1) (by omega)];exact h1 i hi Oz
 ·exact permIn_trans _ _ _ a b hp (permIn_trans _ _ _ a b (permIn_mono _ _ (m+1) b a b Oz (Sq _) dY hL) (permIn_mono _ _ a m a b (Sq _) Oz hbL hR))
 ·have eR:∀i,m<=i->R[i]! = L[i]!:=λi hi=>hR.2.1 i (.inr hi);have em:R[m]! = d'[m]!:=(eR m (Sq _)).trans (eL m (Sq _));refine sorted_glue swo_ltInt (mid:=m) hsR (λi j hi hij hj=>?_) (λi hi hi'=>?_) λi hi hi'=>?_
  ·rw[eR i Oz,eR j (by omega)];exact hsL i j hi hij hj
  ·rw[em];exact permIn_all L R a m (λx=>ltInt x d'[m]! = true) Oz hR (λk hk hk'=>by rw[eL k (by omega)];exact hlo k hk hk') i hi hi'
  ·rw[em,eR i (by omega)];exact kR i hi hi'
theorem qfn {a b m:Nat}{d d':Array Int}(hB:Below ltInt a b d)(hb:b<=d.size)(hP:KQ a b m d d'):Below ltInt a m d' :=
 (hB.perm hb hP.1).mono (by have:=hP.2.2.1;omega)
theorem qfo {a b m:Nat}{d d':Array Int}(hP:KQ a b m d d'):Below ltInt (m+1) b d' :=
 .inr λi hi hi'=>by rw[show m+1-1=m by omega];exact hP.2.2.2.2 i Oz hi'
theorem qfp (blk off cap:Nat)(a b:Nat)(d0 d:Array Int)(w0 w:World)(n:Nat)(hn:n=d.size)(R:Row1 eU w0 blk off d0)(hs:d0.size=d.size)(S:SW eU w0 blk off d w)(hsz:d.size<4611686018427387904)(hab:a<b)(hb:b<=d.size)(hB:Below ltInt a b d) :
  Calls prog 109 #[.slice (some ⟨blk,off,none⟩) n cap,.int .i64 a,.int .i64 b] w λe w'=>∃(t:Bool) (d':Array Int),e=.returned (.bool t)/\SW eU w0 blk off d' w'/\PermIn a b d d'/\(t=true->SortedIn ltInt a b d'):=by
 refine(qff blk off cap a b a b rfl rfl d0 d w0 w n hn R hs S hsz hab hb).mono ?_
 rintro e w' ⟨rfl,S'⟩
 have H:=partialInsertionSort_holds swo_ltInt d a b hab hb hB
 exact⟨_,_,rfl,S',H.1,H.2⟩
theorem qfq (blk off cap:Nat)(d0:Array Int)(w0:World)(R:Row1 eU w0 blk off d0)(h64:d0.size<=64):∀(N a b lim:Nat) (za zb zl:Int) (d:Array Int) (w:World) (n:Nat),za=a->zb=b->zl=lim->n=d.size->d0.size=d.size->SW eU w0 blk off d w->b-a<N->a<=b->b<=d.size->lim<1000->Below ltInt a b d ->
  Calls prog 78 #[.slice (some ⟨blk,off,none⟩) n cap,.int .i64 za,.int .i64 zb,.int .i64 zl] w λe w'=>e=.returned (.tuple #[]) /\
   ∃d',SW eU w0 blk off d' w'/\PermIn a b d d'/\SortedIn ltInt a b d':=by
 intro N
 induction N with
 | zero=>intro _ _ _ _ _ _ _ _ _ _ _ _ _ _ _ h;exact absurd h (Ax _)
 | succ N ih =>
 intro a b lim za zb zl d w n dE hzb hzl hn hs S hN hab hb hlim hB
 subst dE hzb hzl hn
 have uM:d.size<=64:=by omega
 have HS:=Ou hs
 have HL:=Ou Jh
 have HI:=Ou (λa' b' dk W (h:d.size=dk.size) S h1 (h2:b'<=d.size)=>qel blk off cap a' b' a' b' d0 dk w0 W d.size rfl rfl h R (hs.trans h) S h1 Oz Oz)
 have HH:=Ou (λa' b' dk W (h:d.size=dk.size) S h1 (h2:b'<=d.size)=>qe4 blk off cap a' b' a' b' rfl rfl d0 dk w0 W d.size h R (hs.trans h) S Oz h1 Oz)
 have HB:=Ou (λa' b' dk W (h:d.size=dk.size) S h1 (h2:b'<=d.size)=>qfj blk off cap a' b' a' b' rfl rfl d0 dk w0 W d.size h R (hs.trans h) S Oz h1 Oz Oz)
 have HP:=Ou (λa' b' dk W (h:d.size=dk.size) S h1 (h2:b'<=d.size)=>qfm blk off cap a' b' a' b' rfl rfl d0 dk w0 W d.size h R (hs.trans h) S Oz h1 Oz)
 have HR:=Ou (λa' b' dk W (h:d.size=dk.size) S h1 (h2:b'<=d.size)=>qe8 blk off cap a' b' a' b' rfl rfl d0 dk w0 W d.size h R (hs.trans h) S Oz h1 Oz)
 have HN:=Ou (λa' b' dk W (h:d.size=dk.size) S h1 (h2:b'<=d.size) hB=>qfp blk off cap a' b' d0 dk w0 W d.size h R (hs.trans h) S Oz h1 Oz hB)
 have HE:=Ou (λa' b' p dk W (h:d.size=dk.size) S h1 h2 (h3:b'<=d.size)=>qe6 blk off cap a' b' p a' b' p rfl rfl rfl d0 dk w0 W d.size h R (hs.trans h) S Oz h1 h2 Oz)
 have HA:=Ou (λa' b' p dk W (h:d.size=dk.size) S h1 h2 (h3:b'<=d.size)=>qe7 blk off cap a' b' p a' b' p rfl rfl rfl d0 dk w0 W d.size h R (hs.trans h) S Oz h1 h2 Oz)
 have IH:=Ou (λ(a' b' l:Nat) (za:Int) (dE:za=a') dk W (h:d.size=dk.size) S h1 h2 (h3:b'<=d.size) hl hB=>ih a' b' l za b' l dk W d.size dE rfl rfl h (hs.trans h) S h1 h2 Oz hl hB)
 have S0:Aside (SW eU w0 blk off d w):=S
 have HX0:Aside (StU a b d a b d):=show StU a b d a b d from⟨rfl,hB,λR h1 h2=>⟨h1,h2⟩⟩
 clear S hs ih hB
 go_enter func78,ntmps78
 go_wp2
 go_loopg [1,2,3,8,9] (b-a) (λk s1 s2 s3 s8 s9 wr=>∃(a' b' l:Nat) (wb wp:Bool) (dk:Array Int),s1=.int .i64 a'/\s2=.int .i64 b'/\s3=.int .i64 l/\s8=.bool wb/\s9=.bool wp /\
   a'<=b'/\b'<=d.size/\b'-a'<=k/\k<=b-a/\l<=lim/\Aside (StU a b d a' b' dk)/\Aside (SW eU w0 blk off dk wr))
 case atStart=>exact⟨a,b,lim,true,true,d,rfl,rfl,rfl,rfl,rfl,hab,hb,Sq _,Sq _,Sq _,HX0,S0⟩
 case round =>
 clear S0 HX0
 obtain⟨a',b',l,wb,wp,dk,rfl,rfl,rfl,rfl,rfl,hab',hb',hk,hkN,hl,HX,S1⟩:=hrel
 by_cases h12:b'-a'<=12
 ·have h12z:(b':Int)-(a':Int)<=12:=by omega
  clear h12;go_wp2_with fail
  refine(HI.out a' b' dk _ HX.out.1.symm S1.out hab' hb').mono ?_;rintro e w2 ⟨rfl,d2,S2,P2,O2⟩;go_wp2_with fail
  (try simp only[Exit.inBlock,Exit.then]);refine bodyPost_ret (results_none rfl _ _ _) rfl ?_;exact⟨rfl,d2,S2,(HX.out.2.2 d2 P2 O2).1,(HX.out.2.2 d2 P2 O2).2⟩
 have h12z:¬((b':Int)-(a':Int)<=12):=by omega
 have xI:a'+12<b':=by omega
 clear h12
 by_cases hl0:l=0
 ·subst hl0;go_wp2_with fail
  refine(HH.out a' b' dk _ HX.out.1.symm S1.out Oz hb').mono ?_;rintro e w2 ⟨rfl,d2,S2,P2,O2⟩;go_wp2_with fail
  (try simp only[Exit.inBlock,Exit.then]);refine bodyPost_ret (results_none rfl _ _ _) rfl ?_;exact⟨rfl,d2,S2,(HX.out.2.2 d2 P2 O2).1,(HX.out.2.2 d2 P2 O2).2⟩
 have hl0z:¬((l:Int)=0):=by omega
 go_upto_if 35 with fail
 go_cut [3] from 19 to 133 (λs3 wx=>∃(l1:Nat) (d1:Array Int),s3=.int .i64 l1/\l1<=lim/\Aside (PermIn a' b' dk d1)/\Aside (SW eU w0 blk off d1 wx))
 case first =>
  cases wb
  ·go_wp2_with fail
   refine(HB.out a' b' dk _ HX.out.1.symm S1.out xI hb').mono ?_;rintro e w2 ⟨rfl,d1,S2,P2⟩;go_wp2_with fail
   go_meet
   case rel =>
    refine⟨l-1,d1,?_,by omega,P2,S2⟩;show Value.int .i64 ((l:Int)-1)=Value.int .i64 ((l-1:Nat):Int)
    congr 1
    omega
  ·go_wp2_with fail
   go_meet
   case rel=>exact⟨l,dk,rfl,hl,permIn_refl _ _ _,S1⟩
 case rest =>
 obtain⟨l1,d1,rfl,kG,P1,S2⟩:=hcut
 have kC:Aside (StU a b d a' b' d1):=StU.perm HX.out hb' P1.out
 clear S1 HX P1 hl0 hl0z hl
 have HC:=Ou (HP.out a' b' d1 _ kC.out.1.symm S2.out xI hb')
 go_upto_if 50 with ((with_reducible refine(HC.out).mono ?_);rintro e w3 ⟨p,h,rfl,hp1,hp2,hh,S3'⟩)
 have S3:Aside (SW eU w0 blk off d1 w3):=S3'
 clear S3' S2 HC
 go_cut [11,12] from 19 to 133 (λiI s12 wx=>∃(p' h':Nat) (d2:Array Int),iI=.int .i64 p'/\s12=.int .i64 h'/\a'<=p'/\p'<b'/\Aside (PermIn a' b' d1 d2)/\Aside (SW eU w0 blk off d2 wx))
 case first =>
  by_cases h2:h=2
  ·subst h2;go_wp2_with fail
   refine(HR.out a' b' d1 _ kC.out.1.symm S3.out Oz hb').mono ?_;rintro e w4 ⟨rfl,d2,S4,P4⟩;go_wp2_with fail
   go_meet
   case rel =>
    refine⟨(b'-1)-(p-a'),1,d2,?_,rfl,by omega,by omega,P4,S4⟩
    congr 1
    omega
  ·have h2z:¬((h:Int)=2):=by omega
   go_wp2_with fail
   go_meet
   case rel=>exact⟨p,h,d1,rfl,rfl,hp1,hp2,permIn_refl _ _ _,S3⟩
 case rest =>
 obtain⟨p',h',d2,rfl,rfl,hq1,hq2,P2,S4⟩:=hcut
 have qX:Aside (StU a b d a' b' d2):=StU.perm kC.out hb' P2.out
 clear S3 kC P2 hp1 hp2 hh
 go_upto_region 15 with fail
 go_cut [12,68] from 19 to 133 (λs12 s68 wx=>∃c:Bool,s12=.int .i64 h'/\s68=.bool c/\wx=wc)
 case first =>
  cases wb<;>cases wp<;>(
                by_cases h1:h'=1
                ·have h1z:(h':Int)=1:=by omega
                 go_wp2_with fail
                 go_meet
                 case rel=>exact⟨_,rfl,rfl,rfl⟩
                ·have h1z:¬(h':Int)=1:=by omega
                 go_wp2_with fail
                 go_meet
                 case rel=>exact⟨_,rfl,rfl,rfl⟩)
 case rest =>
 obtain⟨c,rfl,rfl,rfl⟩:=hcut
 go_upto_if 68 with fail
 go_cut [] from 19 to 133 (λwx=>∃d3:Array Int,Aside (PermIn a' b' d2 d3)/\Aside (SW eU w0 blk off d3 wx))
 case first =>
  cases c
  ·go_wp2_with fail
   go_meet
   case rel=>exact⟨d2,permIn_refl _ _ _,S4⟩
  ·go_wp2_with fail
   refine(HN.out a' b' d2 _ qX.out.1.symm S4.out Oz hb' qX.out.2.1).mono ?_;rintro e w5 ⟨t,d3,rfl,S5,P5,O5⟩
   cases t
   ·go_wp2_with fail
    go_meet
    case rel=>exact⟨d3,P5,S5⟩
   ·go_wp2_with fail
    (try simp only[Exit.inBlock,Exit.then]);refine bodyPost_ret (results_none rfl _ _ _) rfl ?_;exact⟨rfl,d3,S5,(qX.out.2.2 d3 P5 (O5 (by trivial))).1,(qX.out.2.2 d3 P5 (O5 (by trivial))).2⟩
 case rest =>
 obtain⟨d3,P3,S5⟩:=hcut
 have jC:Aside (StU a b d a' b' d3):=StU.perm qX.out hb' P3.out
 have HD:Hid (d3.size=d.size):=jC.out.1
 clear S4 qX P3
 go_upto_region 17 with fail
 go_cut [87] from 19 to 133 (λs87 wx=>∃t:Bool,s87=.bool t/\Aside (t=true->0<a'/\ltInt d3[a'-1]! d3[p']! = false)/\Aside (SW eU w0 blk off d3 wx))
 case first =>
  rcases Nat.eq_zero_or_pos a' with ha0|ha0
  ·have ha0z:decide ((a':Int) > 0)=false:=Sz Oz;go_quiet ((go_at_call 110;with_reducible exact Ss (HL.out _ _ _)))
   have S6:Aside (SW eU w0 blk off d3 (wc.drewN nq)):=S5.out.drewN nq;clear S5;generalize wc.drewN nq=wq at S6 ⊢;go_wp2_with fail
   go_meet
   case rel =>
    refine⟨false,rfl,?_,S6⟩;show _->_;intro h
    cases h
  ·have ha0z:(a':Int) > 0:=by omega
   obtain⟨q,hq⟩:∃q,q=a'-1:=⟨_,rfl⟩
   have zq:(a':Int)-1=(q:Int):=by omega
   have lq:q<a':=by omega
   have HQ:=Ou hq;clear hq;have aA:=HD.out;obtain⟨x,hx⟩:∃x,d3[q]! = x:=⟨_,rfl⟩
   have cx:=S5.out.c1 R (by rw[HD.out];exact HS.out.symm) (q) Oz;rw[hx]at cx;replace cx:wc.cell? ⟨blk,off+q,none⟩=some (.int .u64 x):=cx;have Xx:=Ou hx;clear hx;have bbx:(q:Int)<(d.size:Int):=by omega
   obtain⟨y,hy⟩:∃x,d3[p']! = x:=⟨_,rfl⟩
   have cy:=S5.out.c1 R (by rw[HD.out];exact HS.out.symm) (p') Oz;rw[hy]at cy;replace cy:wc.cell? ⟨blk,off+p',none⟩=some (.int .u64 y):=cy;have Xy:=Ou hy;clear hy;have bby:(p':Int)<(d.size:Int):=by omega
   clear aA;go_quiet ((go_at_call 110;with_reducible exact Ss (HL.out _ _ _)))
   have S6:Aside (SW eU w0 blk off d3 (wc.drewN nq)):=S5.out.drewN nq;clear cx bbx cy bby S5;generalize wc.drewN nq=wq at S6 ⊢;go_wp2_with fail
   go_meet
   case rel =>
    refine⟨!ltInt x y,rfl,?_,S6⟩;show _->_;intro h;rw[<-HQ.out,Xx.out,Xy.out];exact⟨ha0,by simpa using h⟩
 case rest =>
 obtain⟨t,rfl,HT,S6⟩:=hcut
 clear S5
 cases t
 ·have HC:=Ou (HA.out a' b' p' d3 _ jC.out.1.symm S6.out hq1 hq2 hb');go_upto_if 113 with ((with_reducible refine(HC.out).mono ?_);rintro e w7 ⟨mid,ap,rfl,d4,S7',P7'⟩;have r1:a'<=mid:=P7'.2.1;have r2:mid<b':=P7'.2.2.1)
  have S7:Aside (SW eU w0 blk off d4 w7):=S7';have P7:Aside (KQ a' b' mid d3 d4):=P7';have H4:Hid (d.size=d4.size):=by show _=_;rw[P7'.1.1];exact jC.out.1.symm
  clear S7' P7' S6 HC HT;by_cases h4:mid-a'<b'-mid
  ·have h4z:(mid:Int)-(a':Int)<(b':Int)-(mid:Int):=by omega
   go_wp2_with fail
   refine(IH.out a' mid l1 a' rfl d4 _ H4.out S7.out Oz r1 Oz Oz (qfn jC.out.2.1 (by rw[HD.out];exact hb') P7.out)).mono ?_;rintro e w8 ⟨rfl,d5,S8',P8',O8'⟩;have S8:Aside (SW eU w0 blk off d5 w8):=S8';have tI:Aside (StU a b d (mid+1) b' d5):=StU.left jC.out hb' P7.out P8' O8';clear S8' P8' O8' S7 P7 jC H4;go_wp2_with fail
   go_roundg (b'-(mid+1))
   case measure=>omega
   case rel=>exact⟨mid+1,b',l1,_,ap,d5,by go_num,rfl,rfl,rfl,rfl,by omega,hb',Sq _,by omega,kG,tI,S8⟩
  ·have h4z:¬((mid:Int)-(a':Int)<(b':Int)-(mid:Int)):=by omega
   go_wp2_with fail
   refine(IH.out (mid+1) b' l1 ((mid:Int)+1) rfl d4 _ H4.out S7.out Oz Oz hb' Oz (qfo P7.out)).mono ?_;rintro e w8 ⟨rfl,d5,S8',P8',O8'⟩;have S8:Aside (SW eU w0 blk off d5 w8):=S8';have tI:Aside (StU a b d a' mid d5):=StU.right jC.out hb' P7.out P8' O8';clear S8' P8' O8' S7 P7 jC H4;go_wp2_with fail
   go_roundg (mid-a')
   case measure=>omega
   case rel=>exact⟨a',mid,l1,_,ap,d5,rfl,rfl,rfl,rfl,rfl,r1,by omega,Sq _,by omega,kG,tI,S8⟩
 ·have zY:=HT.out rfl;go_wp2_with fail
  refine(HE.out a' b' p' d3 _ jC.out.1.symm S6.out hq1 hq2 hb').mono ?_;rintro e w7 ⟨m,rfl,d4,S7',P7'⟩;have S7:Aside (SW eU w0 blk off d4 w7):=S7';have tI:Aside (StU a b d m b' d4):=StU.eq jC.out hb' zY.1 zY.2 P7';have r1:a'<m:=P7'.2.1;have r2:m<=b':=P7'.2.2.1;clear S7' P7' S6 jC HT zY;go_wp2_with fail
  go_roundg (b'-m)
  case measure=>omega
  case rel=>exact⟨m,b',l1,wb,wp,d4,rfl,rfl,rfl,rfl,rfl,r2,hb',Sq _,by omega,kG,tI,S7⟩
theorem qfr:∀n:Fin 65,Lib.bitLen n.val<1000:=by decide +kernel
theorem qfs (n:Nat)(h64:n<=64):Uj n:=by
 intro blk off cap d w hn hH hb
 have R:Row1 eU w blk off d:=⟨Co,hH,hb⟩
 have HP:=Ou (λlim hl=>qfq blk off cap d w R Oz (n+1) 0 n lim 0 n lim d w n rfl rfl rfl hn rfl (SW.start hH) Oz (As _) Oz hl (.inl rfl))
 have kG:Lib.bitLen n<1000:=qfr ⟨n,by omega⟩
 have hl2:Lib.bitLen (n:Int).toNat<1000:=by rw[Int.toNat_natCast];exact kG
 have HL:=Ou (Cp (n:Int) w Oz Oz)
 have wz:IntKind.u64.wrap (n:Int)=(n:Int):=by rw[Lu];omega
 clear hn hH R
 go_enter func66,ntmps66
 go_wp2_with (first|((with_reducible refine(HL.out).mono ?_);rintro e w2 ⟨rfl,rfl⟩)|((with_reducible refine(HP.out _ hl2).mono ?_);rintro e w2 ⟨rfl,d2,S2,P2,O2⟩)|((with_reducible refine(HP.out _ kG).mono ?_);rintro e w2 ⟨rfl,d2,S2,P2,O2⟩))
 go_end0
 exact⟨rfl,d2,S2,P2,O2⟩
end
end Go.Proofs.YtikapeaodobkjaaGreat
