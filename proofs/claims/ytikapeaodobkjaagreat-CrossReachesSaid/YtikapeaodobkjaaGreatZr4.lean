/- What the laws lean on, in a few texts (by shake.py): number 4 of 16. -/
import Derived.Test.YtikapeaodobkjaaGreatZr1
import Derived.Test.YtikapeaodobkjaaGreatZr2
import Derived.Test.YtikapeaodobkjaaGreatZr3
import Derived.Deep.CutRange
import Derived.Deep.DeepCutAuto

set_option maxHeartbeats 16000000
set_option maxRecDepth 1000000
set_option linter.unusedVariables false
set_option linter.unusedSimpArgs false
namespace Go.Proofs.YtikapeaodobkjaaGreat
open _root_.Go.Proofs.Tryz
section
open Go.RowKit Go.Sort Go.Lib Go.Shelf
theorem YE {α:Type}{r:α->α->Bool}{x y:α}{c:Int}(h:decide (c<0)=r x y)(hc:c<0):r x y=true:=by rw[<-h];exact Sy hc
theorem YF {α:Type}{r:α->α->Bool}{x y:α}{c:Int}(h:decide (c<0)=r x y)(hc:¬c<0):r x y=false:=by rw[<-h];exact Sz hc
variable (k:Nat) (aE:∀ w, (isAgg 38).run prog w = .ok true w) (zE:∀ w, (Go.sizeOf 38).run prog w = .ok k w) (enc:Dd → List Value) (lt:Od → Od → Bool) (cf:Dd → Dd → Int) (bS:∀ x y, decide (cf x y < 0) = lt x.1 y.1) (hO:SWO lt)
 (g:Nat) (cb:Array Value) (blk off cap:Nat) (d0:Array Dd) (w0:World) (eg:∀args w,(callFunc g args).run prog w=.ok (.enter g args) w) (R:RowK enc k w0 blk off d0) (hC:CmpLays prog g cb enc k cf blk off d0.size w0)
include aE zE bS hO eg R hC in
theorem qd0 (a b:Nat)(d:Array Dd)(w:World)(hs:d0.size=d.size)(S:SWK enc k w0 blk off d w)(U:Runs lt a (a+1) b d)(hab:a+1<b)(hb:b<=d.size)(hsz:d.size<4611686018427387904) :
  Calls prog 140 #[.slice (some ⟨blk,off,none⟩) d.size cap,.int .i64 a,.int .i64 ((a:Int)+1),.int .i64 b,.func (.func g) #[] cb] w λe w'=>e=.returned (.tuple #[]) /\
   ∃d',SWK enc k w0 blk off d' w'/\QY lt a b d d':=by
 have mixed:prog.follows .mixedOrders=true:=by kernel_rfl
 have S0:Aside (SWK enc k w0 blk off d w):=S
 have HU:=Ou U
 have HC:Aside (CmpLays prog g cb enc k cf blk off d0.size w0):=hC
 have HF:=Ou bS
 have HS:=Ou hs
 have e1:((a:Int)+1-(a:Int)==1)=true:=by rw[beq_iff_eq];omega
 clear S hC bS hs U
 go_enter func140,ntmps140
 go_wp2
 go_loopg [10,11] b (λkx cQ iI wr=>∃(i j:Nat),cQ=.int .i64 i/\iI=.int .i64 j/\a+1<=i/\i<=j/\j<=b/\j-i<=kx/\Aside (SWK enc k w0 blk off d wr)/\Hid ((∀q,a+1<=q->q<i->lt (d[q]!).1 (d[a]!).1=true)/\∀q,j<=q->q<b->lt (d[q]!).1 (d[a]!).1=false))
 case atStart=>exact⟨a+1,b,by go_num,rfl,by omega,by omega,by omega,by omega,S0,Ou ⟨λq h1 h2=>by omega,λq h1 h2=>by omega⟩⟩
 case round =>
  clear S0;obtain⟨i,j,rfl,rfl,hi,hij,hjb,aP,S1,HI⟩:=hrel;by_cases hlt:i<j
  ·have bE:(i:Int)<(j:Int):=by omega
   obtain⟨h,hh⟩:∃h,h=(i+j) / 2:=⟨_,rfl⟩
   have hz:((i:Int)+(j:Int)) / 2=(h:Int):=by omega
   have h1:i<=h:=by omega
   have h2:h<j:=by omega
   clear hh;obtain⟨x,hx⟩:∃x,d[h]! = x:=⟨_,rfl⟩
   obtain⟨y,hy⟩:∃y,d[a]! = y:=⟨_,rfl⟩
   have lx:=λn' os'=>S1.out.ld R (by first|exact HS.out.symm|rw[HS.out]) prog (h) Oz n' os';have ly:=λn' os'=>S1.out.ld R (by first|exact HS.out.symm|rw[HS.out]) prog (a) Oz n' os';rw[hx]at lx;rw[hy]at ly;have dM:=λn' os'=>S1.out.cmp HC.out (by first|exact HS.out.symm|rw[HS.out]) x y n' os';have XY:Hid (d[h]! = x/\d[a]! = y):=⟨hx,hy⟩
   clear hx hy;have bp:((h:Nat):Int)<(d.size:Int):=by omega
   have bq:((a:Nat):Int)<(d.size:Int):=by omega
   by_cases hlv:cf x y<0
   ·have HN:Hid (∀q,a+1<=q->q<h+1->lt (d[q]!).1 (d[a]!).1=true):=Ou (λq hq hqh=>Yw hO HU.out (Sq _) (Sq _) Oz hq Oz (by omega:h<b) (by rw[XY.out.1,XY.out.2];exact YE (r:=λx y:Dd=>lt x.1 y.1) (HF.out x y) hlv));go_wp2_with fail
    go_quiet_grown (first|(go_at_fn g;refine Calls.grown_of (dM _ _)))
    have S2:Aside (SWK enc k w0 blk off d (grow (wr.drewN nq) osq)):=S1.out.grown nq osq;clear lx ly dM S1;generalize grow (wr.drewN nq) osq=w2 at S2 ⊢;go_wp2;go_roundg (j-(h+1))
    case measure=>omega
    case rel=>exact⟨h+1,j,by go_num,rfl,by omega,by omega,by omega,by omega,S2,Ou ⟨HN.out,HI.out.2⟩⟩
   ·have HN:Hid (∀q,h<=q->q<b->lt (d[q]!).1 (d[a]!).1=false):=Ou (λq hq eH=>VG hO HU.out (Sq _) (Sq _) Oz (by omega:a+1<=h) hq eH (by rw[XY.out.1,XY.out.2];exact YF (r:=λx y:Dd=>lt x.1 y.1) (HF.out x y) hlv));go_wp2_with fail
    go_quiet_grown (first|(go_at_fn g;refine Calls.grown_of (dM _ _)))
    have S2:Aside (SWK enc k w0 blk off d (grow (wr.drewN nq) osq)):=S1.out.grown nq osq;clear lx ly dM S1;generalize grow (wr.drewN nq) osq=w2 at S2 ⊢;go_wp2;go_roundg (h-i)
    case measure=>omega
    case rel=>exact⟨i,h,rfl,rfl,by omega,by omega,by omega,by omega,S2,Ou ⟨HI.out.1,HN.out⟩⟩
  ·have bE:¬(i:Int)<(j:Int):=by omega
   obtain rfl:i=j:=by omega
   clear hij;go_wp2;go_loopg [13] b (λkx gP wr=>∃(c:Nat) (dk:Array Dd),gP=.int .i64 c/\a<=c/\c+1<=i/\i-c<=kx/\dk.size=d.size/\Aside (SWK enc k w0 blk off dk wr)/\Hid (Shl a i c d dk))
   case atStart=>exact⟨a,d,rfl,by omega,by omega,by omega,rfl,S1,Ou (Shl.start a i d)⟩
   case round =>
    clear S1;obtain⟨c,dk,rfl,hac,hci,pU,hds,S1,jA⟩:=hrel;by_cases dZ:c+1<i
    ·have jP:(c:Int)<(i:Int)-1:=by omega
     have HQ:Hid (Shl a i (c+1) d (swp dk c (c+1))):=Ou (jA.out.step hac dZ Oz);have HD:=Ou hds;have S2:Aside (SWK enc k w0 blk off (swp dk (c) (c+1)) ((wr.drew.setCells blk (off+(c)*k) (enc dk[c+1]!)).setCells blk (off+(c+1)*k) (enc dk[c]!))):=S1.out.swapped R (c) (c+1) Oz Oz;have l44a:=S1.out.ld1 R (by rw[HD.out];exact HS.out.symm) prog (c) Oz;have l44b:=S1.out.ld1 R (by rw[HD.out];exact HS.out.symm) prog (c+1) Oz;have fO:=S1.out.st1 R (by rw[HD.out];exact HS.out.symm) prog (c) Oz dk[c+1]!;have dG:=S1.out.st2 R (by rw[HD.out];exact HS.out.symm) prog (c) (c+1) Oz Oz dk[c+1]! dk[c]!
     have n44a:(enc dk[c]!).length=k:=R.hk _;have n44b:(enc dk[c+1]!).length=k:=R.hk _;generalize enc dk[c]! = cI44 at S2 l44a dG n44a;generalize enc dk[c+1]! = cJ44 at S2 l44b fO dG n44b;clear S1;go_wp2_with fail
     go_big_region
     clear l44a l44b fO dG;generalize (wr.drew.setCells blk (off+(c)*k) cJ44).setCells blk (off+(c+1)*k) cI44=w2 at S2 ⊢;go_wp2;go_roundg (i-(c+1))
     case measure=>omega
     case rel=>exact⟨c+1,swp dk c (c+1),by go_num,by omega,by omega,by omega,by rw[size_swp];exact HD.out,S2,HQ⟩
    ·have jP:¬(c:Int)<(i:Int)-1:=by omega
     have HM:Hid (QY lt a b d dk):=Ou (qdo hO HU.out jA.out Oz hjb hb Oz HI.out.1 HI.out.2);clear hds;go_wp2;(try simp only[Exit.inBlock,Exit.then]);refine bodyPost_ret (results_none rfl _ _ _) rfl ?_;exact⟨rfl,dk,S1.out,HM.out⟩
include aE zE bS hO eg R hC in
theorem qd1 (a m:Nat)(d:Array Dd)(w:World)(hs:d0.size=d.size)(S:SWK enc k w0 blk off d w)(U:Runs lt a m (m+1) d)(kE:a+1<m)(hb:m+1<=d.size)(hsz:d.size<4611686018427387904) :
  Calls prog 140 #[.slice (some ⟨blk,off,none⟩) d.size cap,.int .i64 a,.int .i64 m,.int .i64 ((m:Int)+1),.func (.func g) #[] cb] w λe w'=>e=.returned (.tuple #[]) /\
   ∃d',SWK enc k w0 blk off d' w'/\QY lt a (m+1) d d':=by
 have mixed:prog.follows .mixedOrders=true:=by kernel_rfl
 have S0:Aside (SWK enc k w0 blk off d w):=S
 have HU:=Ou U
 have HC:Aside (CmpLays prog g cb enc k cf blk off d0.size w0):=hC
 have HF:=Ou bS
 have HS:=Ou hs
 have e0:((m:Int)-(a:Int)==1)=false:=by rw[beq_eq_false_iff_ne];omega
 have xH:((m:Int)+1-(m:Int)==1)=true:=by rw[beq_iff_eq];omega
 clear S hC bS hs U
 go_enter func140,ntmps140
 go_wp2
 go_loopg [14,15] m (λkx s14 mD wr=>∃(i j:Nat),s14=.int .i64 i/\mD=.int .i64 j/\a<=i/\i<=j/\j<=m/\j-i<=kx/\Aside (SWK enc k w0 blk off d wr)/\Hid ((∀p,a<=p->p<i->lt (d[m]!).1 (d[p]!).1=false)/\∀p,j<=p->p<m->lt (d[m]!).1 (d[p]!).1=true))
 case atStart=>exact⟨a,m,rfl,rfl,by omega,by omega,by omega,by omega,S0,Ou ⟨λq h1 h2=>by omega,λq h1 h2=>by omega⟩⟩
 case round =>
  clear S0;obtain⟨i,j,rfl,rfl,hi,hij,hjb,aP,S1,HI⟩:=hrel;by_cases hlt:i<j
  ·have bE:(i:Int)<(j:Int):=by omega
   obtain⟨h,hh⟩:∃h,h=(i+j) / 2:=⟨_,rfl⟩
   have hz:((i:Int)+(j:Int)) / 2=(h:Int):=by omega
   have h1:i<=h:=by omega
   have h2:h<j:=by omega
   clear hh;obtain⟨x,hx⟩:∃x,d[m]! = x:=⟨_,rfl⟩
   obtain⟨y,hy⟩:∃y,d[h]! = y:=⟨_,rfl⟩
   have lx:=λn' os'=>S1.out.ld R (by first|exact HS.out.symm|rw[HS.out]) prog (m) Oz n' os';have ly:=λn' os'=>S1.out.ld R (by first|exact HS.out.symm|rw[HS.out]) prog (h) Oz n' os';rw[hx]at lx;rw[hy]at ly;have dM:=λn' os'=>S1.out.cmp HC.out (by first|exact HS.out.symm|rw[HS.out]) x y n' os';have XY:Hid (d[m]! = x/\d[h]! = y):=⟨hx,hy⟩
   clear hx hy;have bp:((m:Nat):Int)<(d.size:Int):=by omega
   have bq:((h:Nat):Int)<(d.size:Int):=by omega
   by_cases hlv:cf x y<0
   ·have HN:Hid (∀p,h<=p->p<m->lt (d[m]!).1 (d[p]!).1=true):=Ou (λp hp aX=>Yw hO HU.out (by omega:a<=h) hp aX (Sq _) (Sq _) Oz (by rw[XY.out.1,XY.out.2];exact YE (r:=λx y:Dd=>lt x.1 y.1) (HF.out x y) hlv));have hd:decide (cf x y<0)=true:=Sy hlv;go_wp2_with fail
    go_quiet_grown (first|(go_at_fn g;refine Calls.grown_of (dM _ _)))
    have S2:Aside (SWK enc k w0 blk off d (grow (wr.drewN nq) osq)):=S1.out.grown nq osq;clear lx ly dM S1;generalize grow (wr.drewN nq) osq=w2 at S2 ⊢;go_wp2;go_roundg (h-i)
    case measure=>omega
    case rel=>exact⟨i,h,rfl,rfl,by omega,by omega,by omega,by omega,S2,Ou ⟨HI.out.1,HN.out⟩⟩
   ·have HN:Hid (∀p,a<=p->p<h+1->lt (d[m]!).1 (d[p]!).1=false):=Ou (λp hp hph=>VG hO HU.out hp (by omega:p<=h) Oz (Sq _) (Sq _) Oz (by rw[XY.out.1,XY.out.2];exact YF (r:=λx y:Dd=>lt x.1 y.1) (HF.out x y) hlv));have hd:decide (cf x y<0)=false:=Sz hlv;go_wp2_with fail
    go_quiet_grown (first|(go_at_fn g;refine Calls.grown_of (dM _ _)))
    have S2:Aside (SWK enc k w0 blk off d (grow (wr.drewN nq) osq)):=S1.out.grown nq osq;clear lx ly dM S1;generalize grow (wr.drewN nq) osq=w2 at S2 ⊢;go_wp2;go_roundg (j-(h+1))
    case measure=>omega
    case rel=>exact⟨h+1,j,by go_num,rfl,by omega,by omega,by omega,by omega,S2,Ou ⟨HN.out,HI.out.2⟩⟩
  ·have bE:¬(i:Int)<(j:Int):=by omega
   obtain rfl:i=j:=by omega
   clear hij;go_wp2;go_loopg [17] m (λkx iJ wr=>∃(c:Nat) (dk:Array Dd),iJ=.int .i64 c/\i<=c/\c<=m/\c-i<=kx/\dk.size=d.size/\Aside (SWK enc k w0 blk off dk wr)/\Hid (Shr i m c d dk))
   case atStart=>exact⟨m,d,rfl,by omega,by omega,by omega,rfl,S1,Ou (Shr.start i m d)⟩
   case round =>
    clear S1;obtain⟨c1,dk,rfl,hac,hci,pU,hds,S1,jA⟩:=hrel;by_cases dZ:i<c1
    ·obtain⟨c,rfl⟩:∃c,c1=c+1:=⟨c1-1,by omega⟩
     have jP:(i:Int)<(c:Int)+1:=by omega
     have HQ:Hid (Shr i m c d (swp dk (c+1) c)):=Ou (jA.out.step Oz hci Oz);have HD:=Ou hds;have wc:IntKind.i64.wrap (c:Int)=(c:Int):=by rw[Wz];omega
     have wc1:IntKind.i64.wrap ((c:Int)+1-1)=(c:Int):=by rw[Wz];omega
     have bc1:(c:Int)+1<(d.size:Int):=by omega
     have bc0:(0:Int)<=(c:Int)+1:=by omega
     have bt:((c:Int)+1).toNat=c+1:=by omega
     have S2:Aside (SWK enc k w0 blk off (swp dk (c+1) (c)) ((wr.drew.setCells blk (off+(c+1)*k) (enc dk[c]!)).setCells blk (off+(c)*k) (enc dk[c+1]!))):=S1.out.swapped R (c+1) (c) Oz Oz;have l44a:=S1.out.ld1 R (by rw[HD.out];exact HS.out.symm) prog (c+1) Oz;have l44b:=S1.out.ld1 R (by rw[HD.out];exact HS.out.symm) prog (c) Oz;have fO:=S1.out.st1 R (by rw[HD.out];exact HS.out.symm) prog (c+1) Oz dk[c]!;have dG:=S1.out.st2 R (by rw[HD.out];exact HS.out.symm) prog (c+1) (c) Oz Oz dk[c]! dk[c+1]!;have n44a:(enc dk[c+1]!).length=k:=R.hk _;have n44b:(enc dk[c]!).length=k:=R.hk _
     generalize enc dk[c+1]! = cI44 at S2 l44a dG n44a;generalize enc dk[c]! = cJ44 at S2 l44b fO dG n44b;clear S1;go_wp2_with fail
     go_big_region
     clear l44a l44b fO dG;generalize (wr.drew.setCells blk (off+(c+1)*k) cJ44).setCells blk (off+(c)*k) cI44=w2 at S2 ⊢;go_wp2;go_roundg (c-i)
     case measure=>omega
     case rel=>exact⟨c,swp dk (c+1) c,by go_num,by omega,by omega,by omega,by rw[size_swp];exact HD.out,S2,HQ⟩
    ·have jP:¬(i:Int)<(c1:Int):=by omega
     obtain rfl:c1=i:=by omega
     have HM:Hid (QY lt a (m+1) d dk):=Ou (qdp hO HU.out jA.out hi hjb hb HI.out.1 HI.out.2);clear hds;go_wp2;(try simp only[Exit.inBlock,Exit.then]);refine bodyPost_ret (results_none rfl _ _ _) rfl ?_;exact⟨rfl,dk,S1.out,HM.out⟩
end
section
open Go.RowKit Go.Sort Go.Lib Go.Shelf
theorem D6 (k:Nat)(aE:∀w,(isAgg 38).run prog w=.ok true w)(zE:∀w,(Go.sizeOf 38).run prog w=.ok k w)(enc:Dd->List Value)(f:Value)(blk off cap:Nat)(d0:Array Dd)(w0:World)(R:RowK enc k w0 blk off d0)
  (a m b:Nat) (za zm zb:Int) (ha:za=a) (hm:zm=m) (hzb:zb=b) (d:Array Dd) (w:World) (N:Nat) (hN:N=d.size) (hs:d0.size=d.size) (S:SWK enc k w0 blk off d w) (kE:a<m) (hmb:m<b) (hb:b<=d.size) (hsz:d.size<4611686018427387904) :
  Calls prog 148 #[.slice (some ⟨blk,off,none⟩) N cap,.int .i64 za,.int .i64 zm,.int .i64 zb,f] w λe w'=>e=.returned (.tuple #[]) /\
   ∃d',SWK enc k w0 blk off d' w'/\PermIn a b d d'/\∀p,d'[p]! = d[rho a m b p]!:=by
 subst ha hzb hm hN
 exact qdK k aE zE enc f blk off cap a m b d0 d w0 w R hs S kE hmb hb hsz
def YG (a b m n lo hi:Nat):Prop:=(m > (a+b) / 2/\lo=n-b/\hi=(a+b) / 2)∨(m<=(a+b) / 2/\lo=a/\hi=m)
variable (k:Nat) (aE:∀ w, (isAgg 38).run prog w = .ok true w) (zE:∀ w, (Go.sizeOf 38).run prog w = .ok k w) (enc:Dd → List Value) (lt:Od → Od → Bool) (cf:Dd → Dd → Int) (bS:∀ x y, decide (cf x y < 0) = lt x.1 y.1) (hO:SWO lt)
 (g:Nat) (cb:Array Value) (blk off cap:Nat) (d0:Array Dd) (w0:World) (eg:∀args w,(callFunc g args).run prog w=.ok (.enter g args) w) (R:RowK enc k w0 blk off d0) (hC:CmpLays prog g cb enc k cf blk off d0.size w0)
include aE zE bS hO eg R hC in
theorem qd2 (a m b:Nat)(d:Array Dd)(w:World)(hs:d0.size=d.size)(S:SWK enc k w0 blk off d w)(U:Runs lt a m b d)(kE:a+1<m)(hmb:m+1<b)(hb:b<=d.size)(hsz:d.size<4611686018427387904)
  (IH:∀(a' m' b':Nat) (za zm zb:Int) (d':Array Dd) (w':World) (N:Nat),za=a'->zm=m'->zb=b'->N=d'.size->b'-a'<b-a->d0.size=d'.size->SWK enc k w0 blk off d' w'->Runs lt a' m' b' d'->a'<m'->m'<b'->b'<=d'.size ->
   Calls prog 140 #[.slice (some ⟨blk,off,none⟩) N cap,.int .i64 za,.int .i64 zm,.int .i64 zb,.func (.func g) #[] cb] w' λe w''=>e=.returned (.tuple #[])/\∃d'',SWK enc k w0 blk off d'' w''/\QY lt a' b' d' d'')
  (mid:Nat) (hmid:mid=(a+b) / 2) (hm:mid<m) :
  Calls prog 140 #[.slice (some ⟨blk,off,none⟩) d.size cap,.int .i64 a,.int .i64 m,.int .i64 b,.func (.func g) #[] cb] w λe w'=>e=.returned (.tuple #[]) /\
   ∃d',SWK enc k w0 blk off d' w'/\QY lt a b d d':=by
 have mixed:prog.follows .mixedOrders=true:=by kernel_rfl
 have S0:Aside (SWK enc k w0 blk off d w):=S
 have HU:=Ou U
 have HC:Aside (CmpLays prog g cb enc k cf blk off d0.size w0):=hC
 have HF:=Ou bS
 have HS:=Ou hs
 have eW:Aside _:=IH
 have e0:((m:Int)-(a:Int)==1)=false:=by rw[beq_eq_false_iff_ne];omega
 have e1:((b:Int)-(m:Int)==1)=false:=by rw[beq_eq_false_iff_ne];omega
 have hz:((a:Int)+(b:Int)) / 2=(mid:Int):=by omega
 have hmz:(mid:Int)<(m:Int):=by omega
 obtain⟨n,hn⟩:∃n,n=mid+m:=⟨_,rfl⟩
 have HN:=Ou hn
 have hnz:(mid:Int)+(m:Int)=(n:Int):=by omega
 obtain⟨p,hp⟩:∃p,n=p+1:=⟨n-1,by omega⟩
 have HP:=Ou hp
 have hpz:(n:Int)-1=(p:Int):=by omega
 obtain⟨lo,hlo⟩:∃lo,lo=n-b:=⟨_,rfl⟩
 have hloz:(n:Int)-(b:Int)=(lo:Int):=by omega
 have HB:YG a b m n lo mid:=by unfold YG;omega
 have lo1:a<=lo:=by omega
 have lo2:lo<=mid:=by omega
 have hi2:mid<=m:=by omega
 have p1:∀c,lo<=c->c<mid->m<=p-c/\p-c<b/\c<=p:=λc h1 h2=>by omega
 have iO:=Ou p1
 have oM:=Ou (D6 k aE zE enc (.func (.func g) #[] cb) blk off cap d0 w0 R)
 have sQ:=Ou hmid
 have oH:=Ou hlo
 have MB:a<mid/\mid<b:=by omega
 obtain⟨mb1,mb2⟩:=MB
 have nb:n<9223372036854775807:=by omega
 clear S hC bS hs U IH hn hp hlo p1 hmid
 go_enter func140,ntmps140
 go_wp2
 go_loopg [20,21] b (λkx s20 qJ wr=>∃(s r:Nat),s20=.int .i64 s/\qJ=.int .i64 r/\lo<=s/\s<=r/\r<=mid/\r-s<=kx/\Aside (SWK enc k w0 blk off d wr)/\Hid ((∀c,lo<=c->c<s->lt (d[p-c]!).1 (d[c]!).1=false)/\∀c,r<=c->c<mid->lt (d[p-c]!).1 (d[c]!).1=true))
 case atStart=>exact⟨lo,mid,by first|rfl|rw[oH.out],rfl,by omega,by omega,by omega,by omega,S0,Ou ⟨λq h1 h2=>by omega,λq h1 h2=>by omega⟩⟩
 case round =>
  clear S0;obtain⟨s,r,rfl,rfl,hi1,hij,hjb,aP,S1,HI⟩:=hrel;by_cases hlt:s<r
  ·as_aux_lemma =>
   have bE:(s:Int)<(r:Int):=by omega
   obtain⟨c,hh⟩:∃c,c=(s+r) / 2:=⟨_,rfl⟩
   have hcz:((s:Int)+(r:Int)) / 2=(c:Int):=by omega
   have h1:s<=c:=by omega
   have h2:c<r:=by omega
   clear hh;obtain⟨pc1,pc2,pc3⟩:=iO.out c Oz Oz;obtain⟨q,hq⟩:∃q,q=p-c:=⟨_,rfl⟩
   have hqz:IntKind.i64.wrap ((p:Int)-(c:Int))=(q:Int):=by rw[Wz];omega
   rw[<-hq]at pc1 pc2;have HQ:=Ou hq;clear hq;obtain⟨x,hx⟩:∃x,d[q]! = x:=⟨_,rfl⟩
   obtain⟨y,hy⟩:∃y,d[c]! = y:=⟨_,rfl⟩
   have lx:=λn' os'=>S1.out.ld R (by first|exact HS.out.symm|rw[HS.out]) prog (q) Oz n' os';have ly:=λn' os'=>S1.out.ld R (by first|exact HS.out.symm|rw[HS.out]) prog (c) Oz n' os';rw[hx]at lx;rw[hy]at ly;have dM:=λn' os'=>S1.out.cmp HC.out (by first|exact HS.out.symm|rw[HS.out]) x y n' os';have XY:Hid (d[q]! = x/\d[c]! = y):=⟨hx,hy⟩
   clear hx hy;have bp:((q:Nat):Int)<(d.size:Int):=by omega
   have bq:((c:Nat):Int)<(d.size:Int):=by omega
   by_cases hlv:cf x y<0
   ·as_aux_lemma =>
    have oI:Hid (∀c',c<=c'->c'<mid->lt (d[p-c']!).1 (d[c']!).1=true):=Ou (λc' h1' h2'=>Yw hO HU.out (by omega:a<=c) h1' Oz (iO.out c' Oz h2').1 (by have:=HQ.out;omega:p-c'<=q) pc2 (by rw[XY.out.1,XY.out.2];exact YE (r:=λx y:Dd=>lt x.1 y.1) (HF.out x y) hlv));have hd:decide (cf x y<0)=true:=Sy hlv;go_wp2_with fail
    go_quiet_grown (first|(go_at_fn g;refine Calls.grown_of (dM _ _)))
    have S2:Aside (SWK enc k w0 blk off d (grow (wr.drewN nq) osq)):=S1.out.grown nq osq;clear lx ly dM S1;generalize grow (wr.drewN nq) osq=w2 at S2 ⊢;go_wp2;go_roundg (c-s)
    case measure=>omega
    case rel=>exact⟨s,c,rfl,rfl,by omega,by omega,by omega,by omega,S2,Ou ⟨HI.out.1,oI.out⟩⟩
   ·as_aux_lemma =>
    have oI:Hid (∀c',lo<=c'->c'<c+1->lt (d[p-c']!).1 (d[c']!).1=false):=Ou (λc' h1' h2'=>VG hO HU.out (by omega:a<=c') (by omega:c'<=c) Oz pc1 (by have:=HQ.out;omega:q<=p-c') (iO.out c' h1' Oz).2.1 (by rw[XY.out.1,XY.out.2];exact YF (r:=λx y:Dd=>lt x.1 y.1) (HF.out x y) hlv));have hd:decide (cf x y<0)=false:=Sz hlv;go_wp2_with fail
    go_quiet_grown (first|(go_at_fn g;refine Calls.grown_of (dM _ _)))
    have S2:Aside (SWK enc k w0 blk off d (grow (wr.drewN nq) osq)):=S1.out.grown nq osq;clear lx ly dM S1;generalize grow (wr.drewN nq) osq=w2 at S2 ⊢;go_wp2;go_roundg (r-(c+1))
    case measure=>omega
    case rel=>exact⟨c+1,r,by go_num,rfl,by omega,by omega,by omega,by omega,S2,Ou ⟨oI.out,HI.out.2⟩⟩
  ·as_aux_lemma =>
   have bE:¬(s:Int)<(r:Int):=by omega
   obtain rfl:s=r:=by omega
   clear hij;have hpe:∀c,n-1-c=p-c:=λc=>by have:=HP.out;omega
   obtain⟨c1,c2,c3,c4,c5,CUT⟩:=DV hO HU.out (s:=s) (n:=n) (lo:=lo) (hi:=mid) (by rw[HN.out,sQ.out]) Oz Oz HB hi1 hjb (λc h1 h2=>by rw[hpe];exact HI.out.1 c h1 h2) (λc h1 h2=>by rw[hpe];exact HI.out.2 c h1 h2);rw[<-sQ.out]at c5;obtain⟨e,he⟩:∃e,e=n-s:=⟨_,rfl⟩
   rw[<-he]at c3 c4 c5 CUT;have hez:(n:Int)-(s:Int)=(e:Int):=by have:=HN.out;omega
   have fX:=Ou CUT;clear hpe he CUT HI HB iO aP hjb lo1 lo2 hi1 bE;obtain⟨tb,i6⟩:∃tb:Bool,tb=decide (s<m/\m<e):=⟨_,rfl⟩
   have TB:=Ou i6;clear i6;go_upto_region 39 with fail
   go_cut [185] (λsx wx=>sx=.bool tb/\wx=wr)
   case first =>
    by_cases hr1:s<m
    ·have z1:(s:Int)<(m:Int):=by omega
     by_cases hr2:m<e
     ·have z2:(m:Int)<(e:Int):=by omega
      have et:tb=true:=by rw[TB.out];exact Sy ⟨hr1,hr2⟩
      have ET:=Ou et;clear et;go_wp2_with fail
      go_meet
      case rel=>exact⟨by rw[ET.out],rfl⟩
     ·have z2:¬(m:Int)<(e:Int):=by omega
      have et:tb=false:=by rw[TB.out];exact Sz (λh=>hr2 h.2)
      have ET:=Ou et;clear et;go_wp2_with fail
      go_meet
      case rel=>exact⟨by rw[ET.out],rfl⟩
    ·have z1:¬(s:Int)<(m:Int):=by omega
     have et:tb=false:=by rw[TB.out];exact Sz (λh=>hr1 h.1)
     have ET:=Ou et;clear et;go_wp2_with fail
     go_meet
     case rel=>exact⟨by rw[ET.out],rfl⟩
   case rest =>
   obtain⟨rfl,rfl⟩:=hcut;go_upto_if 185 with fail
   go_cut [24] (λqK wx=>qK=.int .i64 e/\∃d1,Aside (SWK enc k w0 blk off d1 wx)/\PermIn a b d d1/\Hid (Turned lt a s mid e b d1))
   case first =>
    as_aux_lemma =>
    cases tb with
    | true =>
     have hr:=of_decide_eq_true TB.out.symm;go_wp2_with (((with_reducible refine(oM.out s m e _ _ _ rfl rfl rfl d _ d.size rfl ?_ ?_ ?_ ?_ ?_ ?_).mono ?_);exact HS.out;exact S1.out;omega;omega;omega;omega);rintro e w2 ⟨rfl,d1,S2,P2,Q2⟩)
     go_meet
     case rel=>exact⟨rfl,d1,S2,permIn_mono _ _ _ _ _ _ Oz Oz Oz P2,Ou (Yx hO HU.out fX.out Oz Oz Oz Oz Oz Q2)⟩
    | false =>
     have hr:¬(s<m/\m<e):=of_decide_eq_false TB.out.symm;have HT:Hid (Turned lt a s mid e b d):=Ou (Yx hO HU.out fX.out Oz Oz Oz Oz Oz (λp=>by rw[DW hr Oz (by omega)]));go_wp2_with fail
     go_meet
     case rel=>exact⟨rfl,d,S1,permIn_refl _ _ _,HT⟩
   case rest =>
    as_aux_lemma =>
    obtain⟨rfl,d1,S2,P1,HT⟩:=hcut;clear S1 fX TB;clear tb;have D1:Hid (d1.size=d.size):=P1.1;obtain⟨tb,i6⟩:∃tb:Bool,tb=decide (a<s/\s<mid):=⟨_,rfl⟩
    have TB:=Ou i6;clear i6;go_upto_region 41 with fail
    go_cut [199] (λsx wx=>sx=.bool tb/\wx=_)
    case first =>
     by_cases hr1:a<s
     ·have z1:(a:Int)<(s:Int):=by omega
      by_cases hr2:s<mid
      ·have z2:(s:Int)<(mid:Int):=by omega
       have et:tb=true:=by rw[TB.out];exact Sy ⟨hr1,hr2⟩
       have ET:=Ou et;clear et;go_wp2_with fail
       go_meet
       case rel=>exact⟨by rw[ET.out],rfl⟩
      ·have z2:¬(s:Int)<(mid:Int):=by omega
       have et:tb=false:=by rw[TB.out];exact Sz (λh=>hr2 h.2)
       have ET:=Ou et;clear et;go_wp2_with fail
       go_meet
       case rel=>exact⟨by rw[ET.out],rfl⟩
     ·have z1:¬(a:Int)<(s:Int):=by omega
      have et:tb=false:=by rw[TB.out];exact Sz (λh=>hr1 h.1)
      have ET:=Ou et;clear et;go_wp2_with fail
      go_meet
      case rel=>exact⟨by rw[ET.out],rfl⟩
    case rest =>
    obtain⟨rfl,rfl⟩:=hcut;go_upto_if 199 with fail
    go_cut [24] (λqK wx=>qK=.int .i64 e/\∃d2,Aside (SWK enc k w0 blk off d2 wx)/\Hid (QY lt a mid d1 d2))
    case first =>
     as_aux_lemma =>
     cases tb with
     | true =>
      have hr:=of_decide_eq_true TB.out.symm;go_wp2_with (((with_reducible refine(eW.out a s mid _ _ _ d1 _ d.size rfl rfl rfl ?_ ?_ ?_ ?_ ?_ ?_ ?_ ?_).mono ?_);exact D1.out.symm;omega;(rw[D1.out];exact HS.out);exact S2.out;exact HT.out.l;omega;omega;(rw[D1.out];omega));rintro e w2 ⟨rfl,d2,S3,M2⟩)
      go_meet
      case rel=>exact⟨rfl,d2,S3,Ou M2⟩
     | false =>
      have HM:=Ou (Yy HT.out.l (of_decide_eq_false TB.out.symm) Oz Oz);go_wp2_with fail
      go_meet
      case rel=>exact⟨rfl,d1,S2,HM⟩
    case rest =>
     as_aux_lemma =>
     obtain⟨rfl,d2,S3,HM⟩:=hcut;have D2:Hid (d2.size=d.size):=by show _=_;rw[HM.out.1.1,D1.out]
     have f9:Hid (Runs lt mid e b d2):=Ou (HT.out.r.next HM.out.1 Oz);clear S2 TB;by_cases hr:mid<e/\e<b
     ·obtain⟨hr1,hr2⟩:=hr;have z1:(mid:Int)<(e:Int):=by omega
      have z2:(e:Int)<(b:Int):=by omega
      go_wp2_with (((with_reducible refine(eW.out mid e b _ _ _ d2 _ d.size rfl rfl rfl ?_ ?_ ?_ ?_ ?_ ?_ ?_ ?_).mono ?_);exact D2.out.symm;omega;(rw[D2.out];exact HS.out);exact S3.out;exact f9.out;omega;omega;(rw[D2.out];omega));rintro e w2 ⟨rfl,d3,S4,M3⟩)
      go_end0;exact⟨rfl,d3,S4,Yz HT.out P1 HM.out M3 Oz Oz hb⟩
     ·have sU:Hid (QY lt a b d d2):=Ou (Yz HT.out P1 HM.out (Yy f9.out hr Oz Oz) Oz Oz hb);by_cases hr1:mid<e
      ·have z1:(mid:Int)<(e:Int):=by omega
       have z2:¬(e:Int)<(b:Int):=by omega
       go_wp2_with fail
       go_end0;exact⟨rfl,d2,S3.out,sU.out⟩
      ·have z1:¬(mid:Int)<(e:Int):=by omega
       go_wp2_with fail
       go_end0;exact⟨rfl,d2,S3.out,sU.out⟩
include aE zE bS hO eg R hC in
theorem qd3 (a m b:Nat)(d:Array Dd)(w:World)(hs:d0.size=d.size)(S:SWK enc k w0 blk off d w)(U:Runs lt a m b d)(kE:a+1<m)(hmb:m+1<b)(hb:b<=d.size)(hsz:d.size<4611686018427387904)
  (IH:∀(a' m' b':Nat) (za zm zb:Int) (d':Array Dd) (w':World) (N:Nat),za=a'->zm=m'->zb=b'->N=d'.size->b'-a'<b-a->d0.size=d'.size->SWK enc k w0 blk off d' w'->Runs lt a' m' b' d'->a'<m'->m'<b'->b'<=d'.size ->
   Calls prog 140 #[.slice (some ⟨blk,off,none⟩) N cap,.int .i64 za,.int .i64 zm,.int .i64 zb,.func (.func g) #[] cb] w' λe w''=>e=.returned (.tuple #[])/\∃d'',SWK enc k w0 blk off d'' w''/\QY lt a' b' d' d'')
  (mid:Nat) (hmid:mid=(a+b) / 2) (hm:m<=mid) :
  Calls prog 140 #[.slice (some ⟨blk,off,none⟩) d.size cap,.int .i64 a,.int .i64 m,.int .i64 b,.func (.func g) #[] cb] w λe w'=>e=.returned (.tuple #[]) /\
   ∃d',SWK enc k w0 blk off d' w'/\QY lt a b d d':=by
 have mixed:prog.follows .mixedOrders=true:=by kernel_rfl
 have S0:Aside (SWK enc k w0 blk off d w):=S
 have HU:=Ou U
 have HC:Aside (CmpLays prog g cb enc k cf blk off d0.size w0):=hC
 have HF:=Ou bS
 have HS:=Ou hs
 have eW:Aside _:=IH
 have e0:((m:Int)-(a:Int)==1)=false:=by rw[beq_eq_false_iff_ne];omega
 have e1:((b:Int)-(m:Int)==1)=false:=by rw[beq_eq_false_iff_ne];omega
 have hz:((a:Int)+(b:Int)) / 2=(mid:Int):=by omega
 have hmz:¬(mid:Int)<(m:Int):=by omega
 obtain⟨n,hn⟩:∃n,n=mid+m:=⟨_,rfl⟩
 have HN:=Ou hn
 have hnz:(mid:Int)+(m:Int)=(n:Int):=by omega
 obtain⟨p,hp⟩:∃p,n=p+1:=⟨n-1,by omega⟩
 have HP:=Ou hp
 have hpz:(n:Int)-1=(p:Int):=by omega
 obtain⟨lo,hlo⟩:∃lo,lo=a:=⟨_,rfl⟩
 have HB:YG a b m n lo m:=by unfold YG;omega
 have lo1:a<=lo:=by omega
 have lo2:lo<=m:=by omega
 have hi2:m<=m:=by omega
 have p1:∀c,lo<=c->c<m->m<=p-c/\p-c<b/\c<=p:=λc h1 h2=>by omega
 have iO:=Ou p1
 have oM:=Ou (D6 k aE zE enc (.func (.func g) #[] cb) blk off cap d0 w0 R)
 have sQ:=Ou hmid
 have oH:=Ou hlo
 have MB:a<mid/\mid<b:=by omega
 obtain⟨mb1,mb2⟩:=MB
 have nb:n<9223372036854775807:=by omega
 clear S hC bS hs U IH hn hp hlo p1 hmid
 go_enter func140,ntmps140
 go_wp2
 go_loopg [20,21] b (λkx s20 qJ wr=>∃(s r:Nat),s20=.int .i64 s/\qJ=.int .i64 r/\lo<=s/\s<=r/\r<=m/\r-s<=kx/\Aside (SWK enc k w0 blk off d wr)/\Hid ((∀c,lo<=c->c<s->lt (d[p-c]!).1 (d[c]!).1=false)/\∀c,r<=c->c<m->lt (d[p-c]!).1 (d[c]!).1=true))
 case atStart=>exact⟨lo,m,by first|rfl|rw[oH.out],rfl,by omega,by omega,by omega,by omega,S0,Ou ⟨λq h1 h2=>by omega,λq h1 h2=>by omega⟩⟩
 case round =>
  clear S0;obtain⟨s,r,rfl,rfl,hi1,hij,hjb,aP,S1,HI⟩:=hrel;by_cases hlt:s<r
  ·as_aux_lemma =>
   have bE:(s:Int)<(r:Int):=by omega
   obtain⟨c,hh⟩:∃c,c=(s+r) / 2:=⟨_,rfl⟩
   have hcz:((s:Int)+(r:Int)) / 2=(c:Int):=by omega
   have h1:s<=c:=by omega
   have h2:c<r:=by omega
   clear hh;obtain⟨pc1,pc2,pc3⟩:=iO.out c Oz Oz;obtain⟨q,hq⟩:∃q,q=p-c:=⟨_,rfl⟩
   have hqz:IntKind.i64.wrap ((p:Int)-(c:Int))=(q:Int):=by rw[Wz];omega
   rw[<-hq]at pc1 pc2;have HQ:=Ou hq;clear hq;obtain⟨x,hx⟩:∃x,d[q]! = x:=⟨_,rfl⟩
   obtain⟨y,hy⟩:∃y,d[c]! = y:=⟨_,rfl⟩
   have lx:=λn' os'=>S1.out.ld R (by first|exact HS.out.symm|rw[HS.out]) prog (q) Oz n' os';have ly:=λn' os'=>S1.out.ld R (by first|exact HS.out.symm|rw[HS.out]) prog (c) Oz n' os';rw[hx]at lx;rw[hy]at ly;have dM:=λn' os'=>S1.out.cmp HC.out (by first|exact HS.out.symm|rw[HS.out]) x y n' os';have XY:Hid (d[q]! = x/\d[c]! = y):=⟨hx,hy⟩
   clear hx hy;have bp:((q:Nat):Int)<(d.size:Int):=by omega
   have bq:((c:Nat):Int)<(d.size:Int):=by omega
   by_cases hlv:cf x y<0
   ·as_aux_lemma =>
    have oI:Hid (∀c',c<=c'->c'<m->lt (d[p-c']!).1 (d[c']!).1=true):=Ou (λc' h1' h2'=>Yw hO HU.out (by omega:a<=c) h1' Oz (iO.out c' Oz h2').1 (by have:=HQ.out;omega:p-c'<=q) pc2 (by rw[XY.out.1,XY.out.2];exact YE (r:=λx y:Dd=>lt x.1 y.1) (HF.out x y) hlv));have hd:decide (cf x y<0)=true:=Sy hlv;go_wp2_with fail
    go_quiet_grown (first|(go_at_fn g;refine Calls.grown_of (dM _ _)))
    have S2:Aside (SWK enc k w0 blk off d (grow (wr.drewN nq) osq)):=S1.out.grown nq osq;clear lx ly dM S1;generalize grow (wr.drewN nq) osq=w2 at S2 ⊢;go_wp2;go_roundg (c-s)
    case measure=>omega
    case rel=>exact⟨s,c,rfl,rfl,by omega,by omega,by omega,by omega,S2,Ou ⟨HI.out.1,oI.out⟩⟩
   ·as_aux_lemma =>
    have oI:Hid (∀c',lo<=c'->c'<c+1->lt (d[p-c']!).1 (d[c']!).1=false):=Ou (λc' h1' h2'=>VG hO HU.out (by omega:a<=c') (by omega:c'<=c) Oz pc1 (by have:=HQ.out;omega:q<=p-c') (iO.out c' h1' Oz).2.1 (by rw[XY.out.1,XY.out.2];exact YF (r:=λx y:Dd=>lt x.1 y.1) (HF.out x y) hlv));have hd:decide (cf x y<0)=false:=Sz hlv;go_wp2_with fail
    go_quiet_grown (first|(go_at_fn g;refine Calls.grown_of (dM _ _)))
    have S2:Aside (SWK enc k w0 blk off d (grow (wr.drewN nq) osq)):=S1.out.grown nq osq;clear lx ly dM S1;generalize grow (wr.drewN nq) osq=w2 at S2 ⊢;go_wp2;go_roundg (r-(c+1))
    case measure=>omega
    case rel=>exact⟨c+1,r,by go_num,rfl,by omega,by omega,by omega,by omega,S2,Ou ⟨oI.out,HI.out.2⟩⟩
  ·as_aux_lemma =>
   have bE:¬(s:Int)<(r:Int):=by omega
   obtain rfl:s=r:=by omega
   clear hij;have hpe:∀c,n-1-c=p-c:=λc=>by have:=HP.out;omega
   obtain⟨c1,c2,c3,c4,c5,CUT⟩:=DV hO HU.out (s:=s) (n:=n) (lo:=lo) (hi:=m) (by rw[HN.out,sQ.out]) Oz Oz HB hi1 hjb (λc h1 h2=>by rw[hpe];exact HI.out.1 c h1 h2) (λc h1 h2=>by rw[hpe];exact HI.out.2 c h1 h2);rw[<-sQ.out]at c5;obtain⟨e,he⟩:∃e,e=n-s:=⟨_,rfl⟩
   rw[<-he]at c3 c4 c5 CUT;have hez:(n:Int)-(s:Int)=(e:Int):=by have:=HN.out;omega
   have fX:=Ou CUT;clear hpe he CUT HI HB iO aP hjb lo1 lo2 hi1 bE;obtain⟨tb,i6⟩:∃tb:Bool,tb=decide (s<m/\m<e):=⟨_,rfl⟩
   have TB:=Ou i6;clear i6;go_upto_region 39 with fail
   go_cut [185] (λsx wx=>sx=.bool tb/\wx=wr)
   case first =>
    by_cases hr1:s<m
    ·have z1:(s:Int)<(m:Int):=by omega
     by_cases hr2:m<e
     ·have z2:(m:Int)<(e:Int):=by omega
      have et:tb=true:=by rw[TB.out];exact Sy ⟨hr1,hr2⟩
      have ET:=Ou et;clear et;go_wp2_with fail
      go_meet
      case rel=>exact⟨by rw[ET.out],rfl⟩
     ·have z2:¬(m:Int)<(e:Int):=by omega
      have et:tb=false:=by rw[TB.out];exact Sz (λh=>hr2 h.2)
      have ET:=Ou et;clear et;go_wp2_with fail
      go_meet
      case rel=>exact⟨by rw[ET.out],rfl⟩
    ·have z1:¬(s:Int)<(m:Int):=by omega
     have et:tb=false:=by rw[TB.out];exact Sz (λh=>hr1 h.1)
     have ET:=Ou et;clear et;go_wp2_with fail
     go_meet
     case rel=>exact⟨by rw[ET.out],rfl⟩
   case rest =>
   obtain⟨rfl,rfl⟩:=hcut;go_upto_if 185 with fail
   go_cut [24] (λqK wx=>qK=.int .i64 e/\∃d1,Aside (SWK enc k w0 blk off d1 wx)/\PermIn a b d d1/\Hid (Turned lt a s mid e b d1))
   case first =>
    as_aux_lemma =>
    cases tb with
    | true =>
     have hr:=of_decide_eq_true TB.out.symm;go_wp2_with (((with_reducible refine(oM.out s m e _ _ _ rfl rfl rfl d _ d.size rfl ?_ ?_ ?_ ?_ ?_ ?_).mono ?_);exact HS.out;exact S1.out;omega;omega;omega;omega);rintro e w2 ⟨rfl,d1,S2,P2,Q2⟩)
     go_meet
     case rel=>exact⟨rfl,d1,S2,permIn_mono _ _ _ _ _ _ Oz Oz Oz P2,Ou (Yx hO HU.out fX.out Oz Oz Oz Oz Oz Q2)⟩
    | false =>
     have hr:¬(s<m/\m<e):=of_decide_eq_false TB.out.symm;have HT:Hid (Turned lt a s mid e b d):=Ou (Yx hO HU.out fX.out Oz Oz Oz Oz Oz (λp=>by rw[DW hr Oz (by omega)]));go_wp2_with fail
     go_meet
     case rel=>exact⟨rfl,d,S1,permIn_refl _ _ _,HT⟩
   case rest =>
    as_aux_lemma =>
    obtain⟨rfl,d1,S2,P1,HT⟩:=hcut;clear S1 fX TB;clear tb;have D1:Hid (d1.size=d.size):=P1.1;obtain⟨tb,i6⟩:∃tb:Bool,tb=decide (a<s/\s<mid):=⟨_,rfl⟩
    have TB:=Ou i6;clear i6;go_upto_region 41 with fail
    go_cut [199] (λsx wx=>sx=.bool tb/\wx=_)
    case first =>
     by_cases hr1:a<s
     ·have z1:(a:Int)<(s:Int):=by omega
      by_cases hr2:s<mid
      ·have z2:(s:Int)<(mid:Int):=by omega
       have et:tb=true:=by rw[TB.out];exact Sy ⟨hr1,hr2⟩
       have ET:=Ou et;clear et;go_wp2_with fail
       go_meet
       case rel=>exact⟨by rw[ET.out],rfl⟩
      ·have z2:¬(s:Int)<(mid:Int):=by omega
       have et:tb=false:=by rw[TB.out];exact Sz (λh=>hr2 h.2)
       have ET:=Ou et;clear et;go_wp2_with fail
       go_meet
       case rel=>exact⟨by rw[ET.out],rfl⟩
     ·have z1:¬(a:Int)<(s:Int):=by omega
      have et:tb=false:=by rw[TB.out];exact Sz (λh=>hr1 h.1)
      have ET:=Ou et;clear et;go_wp2_with fail
      go_meet
      case rel=>exact⟨by rw[ET.out],rfl⟩
    case rest =>
    obtain⟨rfl,rfl⟩:=hcut;go_upto_if 199 with fail
    go_cut [24] (λqK wx=>qK=.int .i64 e/\∃d2,Aside (SWK enc k w0 blk off d2 wx)/\Hid (QY lt a mid d1 d2))
    case first =>
     as_aux_lemma =>
     cases tb with
     | true =>
      have hr:=of_decide_eq_true TB.out.symm;go_wp2_with (((with_reducible refine(eW.out a s mid _ _ _ d1 _ d.size rfl rfl rfl ?_ ?_ ?_ ?_ ?_ ?_ ?_ ?_).mono ?_);exact D1.out.symm;omega;(rw[D1.out];exact HS.out);exact S2.out;exact HT.out.l;omega;omega;(rw[D1.out];omega));rintro e w2 ⟨rfl,d2,S3,M2⟩)
      go_meet
      case rel=>exact⟨rfl,d2,S3,Ou M2⟩
     | false =>
      have HM:=Ou (Yy HT.out.l (of_decide_eq_false TB.out.symm) Oz Oz);go_wp2_with fail
      go_meet
      case rel=>exact⟨rfl,d1,S2,HM⟩
    case rest =>
     as_aux_lemma =>
     obtain⟨rfl,d2,S3,HM⟩:=hcut;have D2:Hid (d2.size=d.size):=by show _=_;rw[HM.out.1.1,D1.out]
     have f9:Hid (Runs lt mid e b d2):=Ou (HT.out.r.next HM.out.1 Oz);clear S2 TB;by_cases hr:mid<e/\e<b
     ·obtain⟨hr1,hr2⟩:=hr;have z1:(mid:Int)<(e:Int):=by omega
      have z2:(e:Int)<(b:Int):=by omega
      go_wp2_with (((with_reducible refine(eW.out mid e b _ _ _ d2 _ d.size rfl rfl rfl ?_ ?_ ?_ ?_ ?_ ?_ ?_ ?_).mono ?_);exact D2.out.symm;omega;(rw[D2.out];exact HS.out);exact S3.out;exact f9.out;omega;omega;(rw[D2.out];omega));rintro e w2 ⟨rfl,d3,S4,M3⟩)
      go_end0;exact⟨rfl,d3,S4,Yz HT.out P1 HM.out M3 Oz Oz hb⟩
     ·have sU:Hid (QY lt a b d d2):=Ou (Yz HT.out P1 HM.out (Yy f9.out hr Oz Oz) Oz Oz hb);by_cases hr1:mid<e
      ·have z1:(mid:Int)<(e:Int):=by omega
       have z2:¬(e:Int)<(b:Int):=by omega
       go_wp2_with fail
       go_end0;exact⟨rfl,d2,S3.out,sU.out⟩
      ·have z1:¬(mid:Int)<(e:Int):=by omega
       go_wp2_with fail
       go_end0;exact⟨rfl,d2,S3.out,sU.out⟩
include aE zE bS hO eg R hC in
theorem D7:∀(N a m b:Nat) (za zm zb:Int) (d:Array Dd) (w:World) (n:Nat),b-a<=N->za=a->zm=m->zb=b->n=d.size->d0.size=d.size->SWK enc k w0 blk off d w->Runs lt a m b d->a<m->m<b->b<=d.size->d.size<4611686018427387904 ->
  Calls prog 140 #[.slice (some ⟨blk,off,none⟩) n cap,.int .i64 za,.int .i64 zm,.int .i64 zb,.func (.func g) #[] cb] w λe w'=>e=.returned (.tuple #[]) /\
   ∃d',SWK enc k w0 blk off d' w'/\QY lt a b d d'
 | 0,a,m,b,_,_,_,_,_,_,hN,_,_,_,_,_,_,_,kE,hmb,_,_=>by omega
 | N+1,a,m,b,za,zm,zb,d,w,n,hN,ha,hm,hb',hn,hs,S,U,kE,hmb,hb,hsz=>by
  subst ha hm hb' hn;by_cases h1:m=a+1
  ·subst h1;have:=qd0 k aE zE enc lt cf bS hO g cb blk off cap d0 w0 eg R hC a b d w hs S U hmb hb hsz;rw[<-Int.natCast_add_one]at this;exact this
  ·by_cases h2:b=m+1
   ·subst h2;have:=qd1 k aE zE enc lt cf bS hO g cb blk off cap d0 w0 eg R hC a m d w hs S U Oz hb hsz;rw[<-Int.natCast_add_one]at this;exact this
   ·have IH:∀(a' m' b':Nat) (za zm zb:Int) (d':Array Dd) (w':World) (N':Nat),za=a'->zm=m'->zb=b'->N'=d'.size->b'-a'<b-a->d0.size=d'.size->SWK enc k w0 blk off d' w'->Runs lt a' m' b' d'->a'<m'->m'<b'->b'<=d'.size ->
      Calls prog 140 #[.slice (some ⟨blk,off,none⟩) N' cap,.int .i64 za,.int .i64 zm,.int .i64 zb,.func (.func g) #[] cb] w' λe w''=>e=.returned (.tuple #[])/\∃d'',SWK enc k w0 blk off d'' w''/\QY lt a' b' d' d'' :=
     λa' m' b' za zm zb d' w' N' q1 q2 q3 q4 q5 q6 q7 q8 q9 m9 rM=>D7 N a' m' b' za zm zb d' w' N' Oz q1 q2 q3 q4 q6 q7 q8 q9 m9 rM Oz
    by_cases h3:(a+b) / 2<m
    ·exact qd2 k aE zE enc lt cf bS hO g cb blk off cap d0 w0 eg R hC a m b d w hs S U Oz Oz hb hsz IH _ rfl h3
    ·exact qd3 k aE zE enc lt cf bS hO g cb blk off cap d0 w0 eg R hC a m b d w hs S U Oz Oz hb hsz IH _ rfl Oz
end
section
open Go.RowKit Go.Sort Go.Lib Go.Shelf
variable (k:Nat) (aE:∀ w, (isAgg 38).run prog w = .ok true w) (zE:∀ w, (Go.sizeOf 38).run prog w = .ok k w) (enc:Dd → List Value) (lt:Od → Od → Bool) (cf:Dd → Dd → Int) (bS:∀ x y, decide (cf x y < 0) = lt x.1 y.1) (hO:SWO lt)
 (g:Nat) (cb:Array Value) (blk off cap:Nat) (d0:Array Dd) (w0:World) (eg:∀args w,(callFunc g args).run prog w=.ok (.enter g args) w) (R:RowK enc k w0 blk off d0) (hC:CmpLays prog g cb enc k cf blk off d0.size w0)
include aE zE bS hO eg R hC
theorem qd4 (d:Array Dd)(w:World)(hs:d0.size=d.size)(S:SWK enc k w0 blk off d w)(hsz:d.size<=160)(hi:∀p,p<d.size->(d[p]!).2=p) :
  Calls prog 115 #[.slice (some ⟨blk,off,none⟩) d.size cap,.int .i64 d.size,.func (.func g) #[] cb] w λe w'=>e=.returned (.tuple #[]) /\
   ∃d',SWK enc k w0 blk off d' w'/\QY lt 0 d.size d d':=by
 have mixed:prog.follows .mixedOrders=true:=by kernel_rfl
 have S0:Aside (SWK enc k w0 blk off d w):=S
 have HI:=Ou (qdL k aE zE enc lt cf bS hO g cb blk off cap d0 w0 eg R hC)
 have HM:=Ou (λN a m b za zm zb d w n=>D7 k aE zE enc lt cf bS hO g cb blk off cap d0 w0 eg R hC N a m b za zm zb d w n)
 have HS:=Ou hs
 have H0:=Ou (IInv.start (lt:=lt) d d.size hi)
 clear S hC bS hs aE zE hi
 go_enter func115,ntmps115
 go_wp2
 go_loopg [7,8] d.size (λkx s7 s8 wr=>∃(a:Nat) (dk:Array Dd),s7=.int .i64 a/\s8=.int .i64 ((a:Int)+20)/\a<=d.size/\d.size-a<=kx/\Aside (SWK enc k w0 blk off dk wr)/\Hid (IInv lt a d.size d dk))
 case atStart=>exact⟨0,d,rfl,rfl,by omega,by omega,S0,H0⟩
 case round =>
  clear S0 H0;obtain⟨a,dk,rfl,rfl,han,aP,S1,I1⟩:=hrel;have D1:Hid (dk.size=d.size):=I1.out.perm.1;by_cases hlt:a+20<=d.size
  ·have hz:(a:Int)+20<=(d.size:Int):=by omega
   go_wp2_with (((with_reducible refine(HI.out a (a+20) _ _ dk _ d.size ?_ ?_ D1.out.symm ?_ ?_ ?_ ?_ ?_ ?_).mono ?_);rfl;omega;(rw[D1.out];exact HS.out);exact S1.out;omega;(rw[D1.out];omega);(rw[D1.out];omega);exact I1.out.up hlt);rintro e w2 ⟨rfl,d2,S2,M2⟩)
   obtain⟨q1,q2,q3,q4⟩:=I1.out.step M2 Oz hlt Oz (Sq _);have al:=I1.out.al;have I2:Hid (IInv lt (a+20) d.size d d2):=Ou ⟨q1,q2,q3,q4,by omega⟩;have S3:Aside (SWK enc k w0 blk off d2 w2):=S2;clear q1 q2 q3 q4 al M2 S2 S1 I1;go_roundg (d.size-(a+20))
   case measure=>omega
   case rel=>exact⟨a+20,d2,by go_num,by go_num,by omega,by omega,S3,I2⟩
  ·have hz:¬(a:Int)+20<=(d.size:Int):=by omega
   go_wp2_with (((with_reducible refine(HI.out a d.size _ _ dk _ d.size rfl rfl D1.out.symm ?_ ?_ ?_ ?_ ?_ ?_).mono ?_);(rw[D1.out];exact HS.out);exact S1.out;omega;(rw[D1.out];omega);(rw[D1.out];omega);exact I1.out.up (Sq _));rintro e w2 ⟨rfl,d2,S2,M2⟩)
   obtain⟨q1,q2,q3,q4⟩:=I1.out.step M2 Oz (Sq _) Oz (Sq _);have I2:Hid (SInv lt 20 d.size d d2):=Ou ⟨.inl rfl,q1,q2,q3⟩;have S3:Aside (SWK enc k w0 blk off d2 w2):=S2;clear q1 q2 q3 q4 M2 S2 S1 I1 D1;go_loopg [6] 160 (λkx s6 wr=>∃(bs:Nat) (dk:Array Dd),s6=.int .i64 bs/\bs<=160/\0<bs/\160-bs<=kx/\Aside (SWK enc k w0 blk off dk wr)/\Hid (SInv lt bs d.size d dk))
   case atStart=>exact⟨20,d2,rfl,by omega,by omega,by omega,S3,I2⟩
   case round =>
    clear S3 I2;obtain⟨bs,dk,rfl,hb1,hb0,pU,S1,I1⟩:=hrel;by_cases dZ:bs<d.size
    ·have hz2:(bs:Int)<(d.size:Int):=by omega
     have HB:=Ou (I1.out.less dZ hsz);have hb80:bs<=80:=by have:=HB.out;omega
     have M0:Hid (MInv lt bs 0 d.size d dk):=Ou (MInv.start I1.out.perm I1.out.blk I1.out.ix);clear I1;go_wp2;go_loopg [7,8] d.size (λkx s7 s8 wr=>∃(a:Nat) (dk:Array Dd),s7=.int .i64 a/\s8=.int .i64 ((a:Int)+2*(bs:Int))/\a<=d.size/\d.size-a<=kx/\Aside (SWK enc k w0 blk off dk wr)/\Hid (MInv lt bs a d.size d dk))
     case atStart=>exact⟨0,dk,rfl,by simp,by omega,by omega,S1,M0⟩
     case round =>
      clear S1 M0;obtain⟨a,dk,rfl,rfl,han,aP,S1,I1⟩:=hrel;have D1:Hid (dk.size=d.size):=I1.out.perm.1;by_cases hlt3:a+2*bs<=d.size
      ·have hz3:(a:Int)+2*(bs:Int)<=(d.size:Int):=by omega
       go_wp2_with (((with_reducible refine(HM.out d.size a (a+bs) (a+2*bs) _ _ _ dk _ d.size ?_ rfl ?_ ?_ D1.out.symm ?_ ?_ ?_ ?_ ?_ ?_ ?_).mono ?_);omega;omega;omega;(rw[D1.out];exact HS.out);exact S1.out;exact I1.out.runs HB.out Oz Oz hlt3;omega;omega;(rw[D1.out];exact hlt3);(rw[D1.out];omega));rintro e w2 ⟨rfl,d2,S2,M2⟩)
       obtain⟨q1,q2,q3,q4,q5⟩:=I1.out.step HB.out M2 Oz Oz hlt3 (Sq _);have al:=I1.out.al;have I2:Hid (MInv lt bs (a+2*bs) d.size d d2):=Ou ⟨q1,q2,q3,q4,q5,by rw[Nat.add_mod_right];exact al⟩;have S3:Aside (SWK enc k w0 blk off d2 w2):=S2;clear q1 q2 q3 q4 q5 al M2 S2 S1 I1;go_roundg (d.size-(a+2*bs))
       case measure=>omega
       case rel=>exact⟨a+2*bs,d2,by go_num,by go_num,by omega,by omega,S3,I2⟩
      ·have hz3:¬(a:Int)+2*(bs:Int)<=(d.size:Int):=by omega
       by_cases hlt4:a+bs<d.size
       ·have hz4:(a:Int)+(bs:Int)<(d.size:Int):=by omega
        go_wp2_with (((with_reducible refine(HM.out d.size a (a+bs) d.size _ _ _ dk _ d.size ?_ rfl ?_ rfl D1.out.symm ?_ ?_ ?_ ?_ ?_ ?_ ?_).mono ?_);omega;omega;(rw[D1.out];exact HS.out);exact S1.out;exact I1.out.runs HB.out hlt4 Oz (Sq _);omega;omega;(rw[D1.out];omega);(rw[D1.out];omega));rintro e w2 ⟨rfl,d2,S2,M2⟩)
        have I2:Hid (SInv lt (2*bs) d.size d d2):=Ou (SInv.next HB.out (I1.out.step HB.out M2 Oz Oz (Sq _) (Sq _)));have S3:Aside (SWK enc k w0 blk off d2 w2):=S2;clear M2 S2 S1 I1;go_roundg (160-2*bs)
        case measure=>omega
        case rel=>exact⟨2*bs,d2,by go_num,by omega,by omega,by omega,S3,I2⟩
       ·have hz4:¬(a:Int)+(bs:Int)<(d.size:Int):=by omega
        have I2:Hid (SInv lt (2*bs) d.size d dk):=Ou (SInv.next HB.out (I1.out.step HB.out (I1.out.one HB.out Oz) Oz Oz (Sq _) (Sq _)));clear I1;go_wp2;go_roundg (160-2*bs)
        case measure=>omega
        case rel=>exact⟨2*bs,dk,by go_num,by omega,by omega,by omega,S1,I2⟩
    ·have hz2:¬(bs:Int)<(d.size:Int):=by omega
     have HF:Hid (QY lt 0 d.size d dk):=Ou ⟨I1.out.perm,qdA I1.out.blk Oz⟩;go_wp2;go_end0;exact⟨rfl,dk,S1.out,HF.out⟩
theorem qd5 (d:Array Dd)(w:World)(hs:d0.size=d.size)(S:SWK enc k w0 blk off d w)(hsz:d.size<=160)(hi:∀p,p<d.size->(d[p]!).2=p) :
  Calls prog 80 #[.slice (some ⟨blk,off,none⟩) d.size cap,.func (.func g) #[] cb] w λe w'=>e=.returned (.tuple #[]) /\
   ∃d',SWK enc k w0 blk off d' w'/\QY lt 0 d.size d d':=by
 have H:=Ou (qd4 k aE zE enc lt cf bS hO g cb blk off cap d0 w0 eg R hC d w hs S hsz hi)
 clear S hC bS hs aE zE hi
 go_enter func80,ntmps80
 go_wp2_with (((with_reducible refine(H.out).mono ?_));rintro e w2 ⟨rfl,d2,S2,M2⟩)
 go_end0
 exact⟨rfl,d2,S2,M2⟩
end
section
open Go.RowKit Go.Sort Go.Lib Go.Shelf
theorem qd6 (blk cap n:Nat)(L:List Od)(w:World)(hn:L.length=n)(h1:n<=160)(hb:blk<w.heap.size)(H:HoldsK JM 6 w blk 0 L.zipIdx.toArray)(hok:∀x∈L,Od.ok w x) :
  Calls prog 80 #[.slice (some ⟨blk,0,none⟩) n cap,.func (.func 81) #[] #[]] w λe w'=>e=.returned (.tuple #[])/\Ods w' (some ⟨blk,0,none⟩) n (QZ L)/\Below blk w w':=by
 have hz:L.zipIdx.toArray.size=n:=by simp[hn]
 have R:Rw6 w blk L.zipIdx.toArray:=⟨qdu,Uf,H,hb⟩
 have:=qd5 6 Tryz.isAgg38 Tryz.sizeOf38 JM ltO (λx y=>Vc x.1 y.1) (λx y=>qdE x.1 y.1) swo_ltO 81 #[] blk 0 cap L.zipIdx.toArray w qdU R (qdV blk _ w) L.zipIdx.toArray w rfl (SWK.start H) Oz (λp hp=>by rw[D3 L p (by omega)])
 rw[hz]at this
 refine this.mono ?_
 rintro e w' ⟨rfl,d',S,M⟩
 rw[<-hz]at M
 have hs:d'.size=L.zipIdx.toArray.size:=M.1.1
 have hso:=qdH (L:=L) rfl M
 have hmem:∀x∈QZ L,x∈L:=λx hx=>by
  unfold QZ at hx;obtain⟨y,hy,rfl⟩:=List.mem_map.1 hx;have:=(Iu _ _).mem_iff.1 hy;have:=(List.mem_zipIdx' this).2;rw[this];exact Wt _
 exact⟨rfl,qdS S R hs (by rw[hs,hz]) Oz hso (λx hx=>hok x (hmem x hx)),(qdR S (Sq _) Oz).1⟩
theorem D8 (a:Addr)(n c:Nat)(L:List Od)(w:World)(hl:L.length=n)(hn:n<=160)(hok:∀x∈L,Od.ok w x)
  (hcl:Calls prog 49 #[.slice (some a) n c] w λe w'=>∃v',e=.returned v'/\w'.ownsRow w.heap.size 38 6 v' n (ol L)/\v'≠.slice none 0 0/\Ok w w') :
  Calls prog 69 #[.slice (some a) n c] w (Ui w L n):=by
 have HC:=Ou hcl
 have HS:=Ou (λblk cap W hb H hk=>qd6 blk cap n L W hl hn hb H hk)
 have aK:=Ou hok
 clear hl hn hok hcl
 go_enter func69,ntmps69
 go_wp2_with fail
 refine HC.out.mono ?_
 rintro e w1 ⟨v',rfl,hown,hne,b1⟩
 obtain⟨_,k,cap,rfl,hcap,hk1,hk2,hH⟩:=qdQ hown hne
 have HH:Aside (HoldsK JM 6 w1 k 0 L.zipIdx.toArray):=hH
 have B1:=Ou b1
 clear hown hne hH b1
 go_wp2_with fail
 refine(HS.out k cap w1 hk2 HH.out aK.out).mono ?_
 rintro e w2 ⟨rfl,O2,b2⟩
 have HF:Hid (n<=cap/\Ods w2 (some ⟨k,0,none⟩) n (QZ L)/\Ok w w2):=⟨hcap,O2,B1.out.trans (b2.mono hk1)⟩
 clear O2 b2 B1 HH hcap
 go_wp2_with fail
 go_ret
 exact⟨_,_,rfl,HF.out⟩
theorem qd7 (A:Option Addr)(n c:Nat)(L:List Od)(w:World)(H:Ods w A n L)(hn:n<=160):Calls prog 69 #[.slice A n c] w (Ui w L n):=by
 obtain⟨hl,h9,hok,h⟩:=H
 match A,h with
 | none,h =>
  have h0:n=0:=by
   rcases h with h | ⟨_,_,h,_⟩
   ·exact h
   ·cases h
  subst h0;have:L=[]:=Mz hl;subst this;exact qdZ c w
 | some ⟨b,off,sp⟩,h =>
  rcases h with h | ⟨b',off',h,hb,hc⟩
  ·subst h;have:L=[]:=Mz hl;subst this;exact D8 _ 0 c [] w rfl hn hok (qdT _ c w)
  ·cases h
   exact D8 _ n c L w hl hn hok (D4 b off n c L w hl Oz hc)
end
end Go.Proofs.YtikapeaodobkjaaGreat
