/- What the laws lean on, in a few texts (by shake.py): number 2 of 16. -/
import Derived.Test.YtikapeaodobkjaaGreatZr1
import Derived.Sort.Grow
import Derived.Sort.LotA
import Derived.Shelf.SlSortCmp.KitK
import Derived.Deep.MidRow
import Derived.Deep.RegionHeld3
import Derived.Deep.RegionLaw
import Derived.Deep.RegionWith
import Derived.BigRegion
import Derived.Deep.LoopGhost
import Derived.Shelf.SlGeneric
import Derived.Shelf.SlSortCmp.InsertionK
import Derived.Shelf.SlicesE.Clone
import Derived.Ground.SlsfProg
import Derived.Ground.SlgnProg
import Derived.Test.YtikapeaodobkjaaGreatProg
import Derived.Shelf.SlicesE.Compact
import Derived.Shelf.Small.Bits
import Derived.Ground.NamesProg
import Derived.Shelf.SlSorted.Search
import Derived.Ground.SlsoProg

set_option maxHeartbeats 16000000
set_option maxRecDepth 1000000
set_option linter.unusedVariables false
set_option linter.unusedSimpArgs false
namespace Go.Proofs.YtikapeaodobkjaaGreat
open _root_.Go.Proofs.Tryz
section
open Go.RowKit
structure Gw (w w':World):Prop where
 b:Ok w w'
 d:w.drawn<=w'.drawn
theorem Gw.refl (w:World):Gw w w:=⟨Below.refl _ _,Sq _⟩
theorem Gw.trans {a b c:World}(h:Gw a b)(k:Gw b c):Gw a c:=⟨h.b.trans (k.b.mono h.b.size),Sk h.d k.d⟩
theorem Gw.alloc {a b:World}(h:Gw a b)(o:Obj):Gw a (b.alloc o):=⟨h.b.alloc h.b.size o,h.d⟩
theorem Gw.grow {w w':World}(h:Gw w w'):∃q os,w'=Go.Sort.grow (w.drewN q) os:=by
 refine⟨w'.drawn-w.drawn,w'.heap.extract w.heap.size w'.heap.size,?_⟩
 have e:w'.heap=w.heap++w'.heap.extract w.heap.size w'.heap.size:=by
  apply Array.ext_getElem?;intro i;rw[Array.getElem?_append];by_cases hi:i<w.heap.size
  ·rw[Sx hi];exact h.b.block i hi
  ·rw[Sw hi,Array.getElem?_extract];by_cases hj:i<w'.heap.size
   ·rw[Sx (by omega)];congr 1;omega
   ·rw[Sw Oz,Array.getElem?_eq_none (by omega)]
 have hd:=h.d
 have h1:=h.b.tape;have h2:=h.b.os;have h3:=h.b.output
 cases w';cases w
 simp only at e hd h1 h2 h3 ⊢
 subst h1 h2 h3
 unfold Go.Sort.grow World.drewN
 simp only[World.mk.injEq,true_and,and_true]
 exact⟨e,by omega⟩
theorem Qe {w:World}{o:Obj}{n:Nat}(h:n=w.heap.size):(w.alloc o).heap[n]? = some o:=by subst h;exact heap_alloc_new w o
theorem Qp {w:World}{o p:Obj}{n:Nat}(h:n<w.heap.size)(hp:w.heap[n]? = some p):(w.alloc o).heap[n]? = some p:=(heap_alloc_old (w:=w) (o:=o) h).trans hp
theorem Qh {w:World}{g:Nat}{p:Obj}(h:w.heap[g]? = some p):w.drew.heap[g]? = some p:=h
def VF (i1 s1 p1 q1 i2 s2 p2 q2:Int):Bool :=
 if s1≠s2∨(s1≠1/\s1≠2) then false else if p1≠p2 then Qf s1 p1 p2 else decide ((if Z5 q1 q2=0 then Z5 i1 i2 else Z5 q1 q2)<0)
theorem qdh (s:Int):(rkN s==2)=decide (s≠1/\s≠2):=by
 unfold rkN
 by_cases h1:s=1
 ·simp[h1]
 ·by_cases h2:s=2
  ·simp[h2]
  ·simp[h1,h2]
theorem DO (i1 a1 s1 p1 n1 q1 i2 a2 s2 p2 n2 q2:Int)(w:World) :
  Calls prog 82 #[.agg #[.int .u64 i1,.int .i64 a1,.int .i64 s1,.int .i64 p1,.int .i64 n1,.int .u64 q1],.agg #[.int .u64 i2,.int .i64 a2,.int .i64 s2,.int .i64 p2,.int .i64 n2,.int .u64 q2]] w λe w'=>e=.returned (.bool (VF i1 s1 p1 q1 i2 s2 p2 q2))/\Gw w w':=by
 unfold VF
 have HK:=Ou JJ
 by_cases h1:s1=s2
 rotate_left
 ·rw[Sx (.inl h1)];have e1:(s1 != s2)=true:=by simp[h1]
  clear h1;go_enter func82,ntmps82;go_wp2_with fail
  go_ret;exact⟨rfl,⟨by(exact zf1),by first|exact Sq _|exact Fq _⟩⟩
 have e1:(s1 != s2)=false:=by simp[h1]
 have r2:=qdh s1
 by_cases h2:s1≠1/\s1≠2
 ·rw[Sx (.inr h2)];rw[Sy h2]at r2;clear h1 h2;go_enter func82,ntmps82;go_wp2_with ((with_reducible refine(HK.out _ _).mono ?_);rintro e w' ⟨rfl,rfl⟩)
  go_ret;exact⟨rfl,⟨by(exact zf1),by first|exact Sq _|exact Fq _⟩⟩
 have hno:¬(s1≠s2∨(s1≠1/\s1≠2)):=λh=>h.elim (λh=>h h1) h2
 rw[Sw hno]
 rw[Sz h2]at r2
 by_cases h3:p1=p2
 rotate_left
 ·rw[Sx h3];have e3:(p1 != p2)=true:=by simp[h3]
  have HB:=Ou (XT s1 p1 p2);generalize Qf s1 p1 p2=r at *;clear h1 h2 h3 hno;go_enter func82,ntmps82;go_wp2_with (first|((with_reducible refine(HK.out _ _).mono ?_);rintro e w' ⟨rfl,rfl⟩)|((with_reducible refine(HB.out _).mono ?_);rintro e w' ⟨rfl,rfl⟩))
  go_ret;exact⟨rfl,⟨by(exact zf1),by first|exact Sq _|exact Fq _⟩⟩
 rw[Sw (by simp[h3])]
 have e3:(p1 != p2)=false:=by simp[h3]
 have gS:=Ou (Da q1 q2)
 have HC2:=Ou (Da i1 i2)
 have HO:=Ou (λg w hg=>qcd (Z5 q1 q2) (Z5 i1 i2) g w hg)
 generalize Z5 q1 q2=c1 at *
 generalize Z5 i1 i2=c2 at *
 generalize (if c1=0 then c2 else c1)=c at *
 clear h1 h2 h3 hno
 go_enter func82,ntmps82
 go_wp2_with ((with_reducible refine(HK.out _ _).mono ?_);rintro e w' ⟨rfl,rfl⟩)
 refine wp_region_held_drew (S:=(λw'=>w'.heap[w.heap.size]? = some (.cells #[.int .u64 i1,.int .i64 a1,.int .i64 s1,.int .i64 p1,.int .i64 n1,.int .u64 q1] 38 (0,0))/\w'.heap[w.heap.size+1]? = some (.cells #[.int .u64 i2,.int .i64 a2,.int .i64 s2,.int .i64 p2,.int .i64 n2,.int .u64 q2] 38 (0,0)))) Ow (by first|(dsimp only;exact⟨by(exact zf2),by(exact zf2)⟩)|exact⟨by(exact zf2),by(exact zf2)⟩) (λhHeld=>?_)
 refine tkA 0 ?_
 refine tkH 1 ?_ ?_ Ov ?_
 rotate_left
 ·(intro w hSw;have cc:=cell_of_row _ _ 5 _ _ _ hSw.1;(try dsimp only at hSw);go_simp;try with_reducible rfl)
 (try simp only[zz])
 refine tkA 2 ?_
 refine tkH 3 ?_ ?_ Ov ?_
 rotate_left
 ·(intro w hSw;have cc:=cell_of_row _ _ 5 _ _ _ hSw.2;(try dsimp only at hSw);go_simp;try with_reducible rfl)
 (try simp only[zz])
 refine tkA 5 ?_
 refine tkH 6 ?_ ?_ Ov ?_
 rotate_left
 ·(intro w hSw;have cc:=cell_of_row _ _ 0 _ _ _ hSw.1;(try dsimp only at hSw);go_simp;try with_reducible rfl)
 (try simp only[zz])
 refine tkA 7 ?_
 refine tkH 8 ?_ ?_ Ov ?_
 rotate_left
 ·(intro w hSw;have cc:=cell_of_row _ _ 0 _ _ _ hSw.2;(try dsimp only at hSw);go_simp;try with_reducible rfl)
 (try simp only[zz])
 refine rdH 4 (λK hK=>?_)
 go_simp
 ((with_reducible refine(gS.out _).mono ?_);rintro e w' ⟨rfl,rfl⟩)
 refine hK.out _ _ (by first|assumption|exact⟨by(exact zf2),by(exact zf2)⟩) (λhHeld=>?_)
 clear hK K
 (try simp only[zz])
 refine rdH 9 (λK hK=>?_)
 go_simp
 ((with_reducible refine(HC2.out _).mono ?_);rintro e w' ⟨rfl,rfl⟩)
 refine hK.out _ _ (by first|assumption|exact⟨by(exact zf2),by(exact zf2)⟩) (λhHeld=>?_)
 clear hK K
 (try simp only[zz])
 refine rdH 10 (λK hK=>?_)
 go_simp
 refine hK.out _ _ (by first|assumption|exact⟨by(exact zf2),by(exact zf2)⟩) (λhHeld=>?_)
 clear hK K
 (try simp only[zz])
 refine rdH 11 (λK hK=>?_)
 go_simp
 ((with_reducible refine(HO.out _ _ ?_).mono ?_);(exact zf2);rintro e w' ⟨rfl,rfl⟩)
 refine hK.out _ _ (by first|assumption|exact⟨by(exact zf2),by(exact zf2)⟩) (λhHeld=>?_)
 clear hK K
 (try simp only[zz])
 refine tkA 12 ?_
 refine tkA 13 ?_
 (try simp only[zz])
 refine wpAnyH_done Ow ?_ _
 go_wp2_with fail
 go_ret
 exact⟨rfl,⟨by(exact zf1),by first|exact Sq _|exact Fq _⟩⟩
end
section
open Go.Sort
section
variable {β:Type} [Inhabited β] (lt:β → β → Bool)
def ltS (x y:β×Nat):Bool:=lt x.1 y.1
def ltR (x y:β×Nat):Bool:=lt x.1 y.1||(!lt y.1 x.1&&decide (x.2<y.2))
variable {lt}
omit [Inhabited β] in
theorem DP {x y:β×Nat}(h:y.2<=x.2):ltS lt x y=ltR lt x y:=by
 unfold ltS ltR
 have:decide (x.2<y.2)=false:=Sz Oz
 rw[this,Fk,Bool.or_false]
omit [Inhabited β] in
theorem qdi {x y:β×Nat}:ltR lt x y=true↔lt x.1 y.1=true∨(lt y.1 x.1=false/\x.2<y.2):=by
 unfold ltR
 simp
omit [Inhabited β] in
theorem ltR_no {x y:β×Nat}:ltR lt x y=false↔lt x.1 y.1=false/\(lt y.1 x.1=true∨y.2<=x.2):=by
 unfold ltR
 by_cases h:lt y.1 x.1=true
 ·simp[h]
 ·simp at h;simp[h]
omit [Inhabited β] in
theorem J6 (h:SWO lt):SWO (ltR lt):=by
 refine⟨λx=>?_,λx y z a b=>?_,λx y z a b=>?_⟩
 ·rw[ltR_no];exact⟨h.irrefl _,.inr (Sq _)⟩
 ·rw[qdi]at a b ⊢;rcases a with a | ⟨a,a'⟩
  ·rcases b with b | ⟨b,b'⟩
   ·exact .inl (h.trans _ _ _ a b)
   ·left
    cases e:lt x.1 z.1 with
    | true=>rfl
    | false=>have:=h.ntrans _ _ _ e b;rw[a]at this;cases this
  ·rcases b with b | ⟨b,b'⟩
   ·left
    cases e:lt x.1 z.1 with
    | true=>rfl
    | false=>have:=h.ntrans _ _ _ a e;rw[b]at this;cases this
   ·exact .inr ⟨h.ntrans _ _ _ b a,by omega⟩
 ·rw[ltR_no]at a b ⊢;refine⟨h.ntrans _ _ _ a.1 b.1,?_⟩;rcases a.2 with a2|a2
  ·left
   cases e:lt z.1 x.1 with
   | true=>rfl
   | false=>have:=h.ntrans _ _ _ b.1 e;rw[a2]at this;cases this
  ·rcases b.2 with b2|b2
   ·left
    cases e:lt z.1 x.1 with
    | true=>rfl
    | false=>have:=h.ntrans _ _ _ e a.1;rw[b2]at this;cases this
   ·right;omega
theorem DQ {α:Type}[Inhabited α](l:α->α->Bool)(a b:Nat):∀(j:Nat) (d:Array α),j<b->b<=d.size->PermIn a b d (insInner l a j d)
 | 0,d,_,_=>permIn_refl d a b
 | j+1,d,hj,hb=>by
  unfold insInner
  split
  ·rename_i hc
   have rD:j+1 > a:=by simp at hc;omega
   exact permIn_trans _ _ _ a b (swp_permIn d a b (j+1) j Oz hj Oz Oz hb) (DQ l a b j _ Oz (by rw[size_swp];exact hb))
  ·exact permIn_refl d a b
theorem DR (a:Nat):∀(j:Nat) (d:Array (β×Nat)),j<d.size->(∀p,a<=p->p<j->(d[p]!).2<(d[j]!).2)->insInner (ltS lt) a j d=insInner (ltR lt) a j d
 | 0,_,_,_=>rfl
 | j+1,d,hj,h=>by
  unfold insInner;by_cases rD:j+1 > a
  ·have e:ltS lt d[j+1]! d[j]! = ltR lt d[j+1]! d[j]!:=DP (Lx (h j Oz Oz));rw[e]
   have IH:=DR a j (swp d (j+1) j) (by rw[size_swp];omega) (λp hp hpj=>by
    rw[swp_right _ _ _ Oz,swp_other _ _ _ _ Oz (by omega)]
    exact h p hp Oz)
   rw[IH]
  ·have:decide (j+1 > a)=false:=Sz rD;rw[this,Fj,Fj];rfl
theorem DS {α:Type}[Inhabited α](l:α->α->Bool)(a b i:Nat)(d:Array α)(h:i<b):insOuter l a b i d=insOuter l a b (i+1) (insInner l a i d):=by
 rw[insOuter,Sx h]
theorem DT {α:Type}[Inhabited α](l:α->α->Bool)(a b i:Nat)(d:Array α)(h:¬i<b):insOuter l a b i d=d:=by
 rw[insOuter,Sw h]
theorem DU (a b:Nat):∀(n i:Nat) (d:Array (β×Nat)),b-i=n->a<i->b<=d.size->(∀p q,a<=p->p<q->i<=q->q<b->(d[p]!).2<(d[q]!).2)->insOuter (ltS lt) a b i d=insOuter (ltR lt) a b i d
 | 0,i,d,hn,_,_,_=>by
  rw[DT _ _ _ _ _ Oz,DT _ _ _ _ _ (by omega)]
 | n+1,i,d,hn,hai,hb,h=>by
  rw[DS _ _ _ _ _ Oz,DS (ltR lt) _ _ _ _ (by omega)];have e:=DR (lt:=lt) a i d Oz (λp hp hpi=>h p i hp hpi (Sq _) Oz);rw[e];have P:=DQ (ltR lt) a (i+1) i d Oz Oz;refine DU a b n (i+1) _ Oz Oz (by rw[P.1];exact hb) (λp q hp aY hiq hq=>?_);rw[P.2.1 q (.inr hiq)];by_cases hpi:p<i+1
  ·exact permIn_all d _ a (i+1) (λx=>x.2<(d[q]!).2) Oz P (λk hk hki=>h k q hk Oz Oz hq) p hp hpi
  ·rw[P.2.1 p (.inr Oz)];exact h p q hp aY Oz hq
theorem qdj (h:SWO lt)(d:Array (β×Nat))(a b:Nat)(hab:a<=b)(hb:b<=d.size)(hi:∀p q,a<=p->p<q->q<b->(d[p]!).2<(d[q]!).2) :
  PermIn a b d (insertionSort (ltS lt) d a b)/\SortedIn (ltR lt) a b (insertionSort (ltS lt) d a b):=by
 have e:insertionSort (ltS lt) d a b=insertionSort (ltR lt) d a b:=DU a b _ _ d rfl Oz hb (λp q hp aY _ hq=>hi p q hp aY hq)
 rw[e]
 exact insertionSort_holds (J6 h) d a b hab hb
def rho (a m b p:Nat):Nat:=if a<=p/\p<a+(b-m) then p+(m-a) else if a+(b-m)<=p/\p<b then p-(b-m) else p
def sig (a b n p:Nat):Nat:=if a<=p/\p<a+n then p+(b-a) else if b<=p/\p<b+n then p-(b-a) else p
theorem qdk (a b p:Nat):sig a b 0 p=p:=by unfold sig;(repeat' split)<;>omega
theorem qdl (m i j p:Nat)(hi:i<=m)(hj:j<i):sig (m-i) m j (rho (m-(i-j)) m (m+j) p)=rho (m-i) m (m+j) p:=by
 unfold rho sig
 (repeat' split)<;>omega
theorem qdm (i j m p:Nat)(hi:i<=m)(hj:i<j):sig (m-i) (m+j-i) i (rho (m-i) m (m+(j-i)) p)=rho (m-i) m (m+j) p:=by
 unfold rho sig
 (repeat' split)<;>omega
theorem qdn (i m p:Nat)(hi:i<=m):sig (m-i) m i p=rho (m-i) m (m+i) p:=by
 unfold rho sig
 (repeat' split)<;>omega
end
section
variable {β:Type} [Inhabited β] {lt:β → β → Bool}
structure Runs (lt:β->β->Bool) (a m b:Nat) (d:Array (β×Nat)):Prop where
 l:SortedIn (ltR lt) a m d
 r:SortedIn (ltR lt) m b d
 ix:∀p q,a<=p->p<m->m<=q->q<b->(d[p]!).2<(d[q]!).2
def QY (lt:β->β->Bool)(a b:Nat)(d d':Array (β×Nat)):Prop:=PermIn a b d d'/\SortedIn (ltR lt) a b d'
theorem Runs.cmp {a m b:Nat}{d:Array (β×Nat)}(R:Runs lt a m b d){p q:Nat}(hp:a<=p)(aX:p<m)(hq:m<=q)(eH:q<b):lt (d[q]!).1 (d[p]!).1=ltR lt d[q]! d[p]! :=
 DP (Lx (R.ix p q hp aX hq eH))
theorem Vb (h:SWO lt){a b:Nat}{d:Array (β×Nat)}(S:SortedIn (ltR lt) a b d){p q:Nat}(hp:a<=p)(aY:p<=q)(hq:q<b):ltR lt d[q]! d[p]! = false:=by
 rcases Av p q with h1|h1
 ·exact S p q hp h1 hq
 ·obtain rfl:p=q:=by omega
  exact(J6 h).irrefl _
theorem VG (h:SWO lt){a m b:Nat}{d:Array (β×Nat)}(R:Runs lt a m b d){p p' q q':Nat}(hp:a<=p)(bH:p<=p')(aX:p'<m)(hq:m<=q)(aZ:q<=q')(eH:q'<b)(hl:lt (d[q]!).1 (d[p']!).1=false):lt (d[q']!).1 (d[p]!).1=false:=by
 have hR:=J6 h
 rw[R.cmp Oz aX hq (by omega)]at hl
 rw[R.cmp hp Oz Oz eH]
 exact hR.ntrans _ _ _ (hR.ntrans _ _ _ (Vb h R.r hq aZ eH) hl) (Vb h R.l hp bH aX)
theorem Yw (h:SWO lt){a m b:Nat}{d:Array (β×Nat)}(R:Runs lt a m b d){p p' q q':Nat}(hp:a<=p)(bH:p<=p')(aX:p'<m)(hq:m<=q)(aZ:q<=q')(eH:q'<b)(hl:lt (d[q']!).1 (d[p]!).1=true):lt (d[q]!).1 (d[p']!).1=true:=by
 cases e:lt (d[q]!).1 (d[p']!).1 with
 | true=>rfl
 | false=>rw[VG h R hp bH aX hq aZ eH e]at hl;cases hl
def Shl (a i:Nat)(k:Nat)(d dk:Array (β×Nat)):Prop :=
 PermIn a i d dk/\(∀p,a<=p->p<k->dk[p]! = d[p+1]!)/\dk[k]! = d[a]!/\(∀p,k<p->dk[p]! = d[p]!)
theorem Shl.start (a i:Nat)(d:Array (β×Nat)):Shl a i a d d:=⟨permIn_refl _ _ _,λp h1 h2=>by omega,rfl,λ_ _=>rfl⟩
theorem Shl.step {a i k:Nat}{d dk:Array (β×Nat)}(h:Shl a i k d dk)(hk:a<=k)(hi:k+1<i)(hs:i<=d.size):Shl a i (k+1) d (swp dk k (k+1)):=by
 obtain⟨P,h1,h2,h3⟩:=h
 have hsz:dk.size=d.size:=P.1
 refine⟨permIn_trans _ _ _ _ _ P (swp_permIn dk a i k (k+1) Oz Oz Oz hi Oz),λp hp hpk=>?_,?_,λp hp=>?_⟩
 ·by_cases e:p=k
  ·subst e;rw[swp_left _ _ _ Oz (by omega)];exact h3 _ Oz
  ·rw[swp_other _ _ _ _ e (by omega)];exact h1 p hp Oz
 ·rw[swp_right _ _ _ (by omega)];exact h2
 ·rw[swp_other _ _ _ _ Oz (by omega)];exact h3 p Oz
theorem qdo (h:SWO lt){a b i k:Nat}{d dk:Array (β×Nat)}(R:Runs lt a (a+1) b d)(H:Shl a i k d dk)(hi:a+1<=i)(hib:i<=b)(hb:b<=d.size)(hk:k+1=i)
  (h1:∀q,a+1<=q->q<i->lt (d[q]!).1 (d[a]!).1=true) (h2:∀q,i<=q->q<b->lt (d[q]!).1 (d[a]!).1=false):QY lt a b d dk:=by
 obtain⟨P,g1,g2,g3⟩:=H
 refine⟨permIn_mono _ _ _ _ _ _ (Sq _) hib hb P,λp q hp aY hq=>?_⟩
 have hR:=J6 h
 have L1:∀q,a+1<=q->q<i->ltR lt d[q]! d[a]! = true:=λq hq bV=>by rw[<-R.cmp (Sq _) Oz hq (by omega)];exact h1 q hq bV
 have L2:∀q,i<=q->q<b->ltR lt d[q]! d[a]! = false:=λq hq eH=>by rw[<-R.cmp (Sq _) Oz Oz eH];exact h2 q hq eH
 rcases Ls q k with e|e|e
 ·rw[g1 p hp Oz,g1 q Oz e];exact R.r _ _ Oz Oz Oz
 ·subst e;rw[g2,g1 p hp aY];exact hR.asymmA (L1 _ Oz Oz)
 ·rw[g3 q e];rcases Ls p k with e'|e'|e'
  ·rw[g1 p hp e'];exact R.r _ _ Oz Oz hq
  ·subst e';rw[g2];exact L2 q Oz hq
  ·rw[g3 p e'];exact R.r _ _ Oz aY hq
def Shr (i m:Nat)(k:Nat)(d dk:Array (β×Nat)):Prop :=
 PermIn i (m+1) d dk/\(∀p,k<p->p<=m->dk[p]! = d[p-1]!)/\dk[k]! = d[m]!/\(∀p,p<k->dk[p]! = d[p]!)/\(∀p,m<p->dk[p]! = d[p]!)
theorem Shr.start (i m:Nat)(d:Array (β×Nat)):Shr i m m d d:=⟨permIn_refl _ _ _,λp h1 h2=>by omega,rfl,λ_ _=>rfl,λ_ _=>rfl⟩
theorem Shr.step {i m k:Nat}{d dk:Array (β×Nat)}(h:Shr i m (k+1) d dk)(hk:i<=k)(hm:k+1<=m)(hs:m<d.size):Shr i m k d (swp dk (k+1) k):=by
 obtain⟨P,h1,h2,h3,h4⟩:=h
 have hsz:dk.size=d.size:=P.1
 refine⟨permIn_trans _ _ _ _ _ P (swp_permIn dk i (m+1) (k+1) k Oz Oz Oz Oz Oz),λp hp aX=>?_,?_,λp hp=>?_,λp hp=>?_⟩
 ·by_cases e:p=k+1
  ·subst e;rw[swp_left _ _ _ Oz (by omega)];exact h3 _ Oz
  ·rw[swp_other _ _ _ _ e (by omega)];exact h1 p Oz aX
 ·rw[swp_right _ _ _ (by omega)];exact h2
 ·rw[swp_other _ _ _ _ Oz (by omega)];exact h3 p Oz
 ·rw[swp_other _ _ _ _ Oz (by omega)];exact h4 p hp
theorem qdp (h:SWO lt){a m i:Nat}{d dk:Array (β×Nat)}(R:Runs lt a m (m+1) d)(H:Shr i m i d dk)(hi:a<=i)(him:i<=m)(hb:m+1<=d.size)
  (h1:∀p,a<=p->p<i->lt (d[m]!).1 (d[p]!).1=false) (h2:∀p,i<=p->p<m->lt (d[m]!).1 (d[p]!).1=true):QY lt a (m+1) d dk:=by
 obtain⟨P,g1,g2,g3,_⟩:=H
 refine⟨permIn_mono _ _ _ _ _ _ hi (Sq _) hb P,λp q hp aY hq=>?_⟩
 have hR:=J6 h
 have L1:∀p,a<=p->p<i->ltR lt d[m]! d[p]! = false:=λp hp hpi=>by rw[<-R.cmp hp Oz (Sq _) (by omega)];exact h1 p hp hpi
 have L2:∀p,i<=p->p<m->ltR lt d[m]! d[p]! = true:=λp hp aX=>by rw[<-R.cmp Oz aX (Sq _) (by omega)];exact h2 p hp aX
 rcases Ls p i with e|e|e
 ·rw[g3 p e];rcases Ls q i with e'|e'|e'
  ·rw[g3 q e'];exact R.l _ _ hp aY Oz
  ·subst e';rw[g2];exact L1 p hp e
  ·rw[g1 q e' (by omega)];exact R.l _ _ hp Oz Oz
 ·subst e;rw[g2,g1 q Oz (by omega)];exact hR.asymmA (L2 _ Oz Oz)
 ·rw[g1 p e Oz,g1 q Oz (by omega)];exact R.l _ _ Oz Oz Oz
structure Cut (lt:β->β->Bool) (a m b s e:Nat) (d:Array (β×Nat)):Prop where
 lo:∀p q,a<=p->p<s->e<=q->q<b->ltR lt d[q]! d[p]! = false
 hi:∀p q,s<=p->p<m->m<=q->q<e->ltR lt d[q]! d[p]! = true
theorem DV (h:SWO lt){a m b s n lo hi:Nat}{d:Array (β×Nat)}(R:Runs lt a m b d)(hmid:n=(a+b) / 2+m)(kE:a<m)(hmb:m<b)
  (hb:(m > (a+b) / 2/\lo=n-b/\hi=(a+b) / 2)∨(m<=(a+b) / 2/\lo=a/\hi=m)) (hs1:lo<=s) (hs2:s<=hi)
  (h1:∀c,lo<=c->c<s->lt (d[n-1-c]!).1 (d[c]!).1=false) (h2:∀c,s<=c->c<hi->lt (d[n-1-c]!).1 (d[c]!).1=true) :
  a<=s/\s<=m/\m<=n-s/\n-s<=b/\s+((n-s)-m)=(a+b) / 2/\Cut lt a m b s (n-s) d:=by
 have hR:=J6 h
 refine⟨by omega,by omega,by omega,by omega,by omega,λp q hp hps hq eH=>?_,λp q hp aX hq hqe=>?_⟩
 ·have g:=h1 (s-1) Oz Oz;rw[R.cmp (p:=s-1) (q:=n-1-(s-1)) Oz Oz Oz (by omega)]at g;have g1:=Vb h R.l (p:=p) (q:=s-1) hp Oz Oz;have g2:=Vb h R.r (p:=n-1-(s-1)) (q:=q) Oz Oz eH;exact hR.ntrans _ _ _ (hR.ntrans _ _ _ g2 g) g1
 ·have g:=h2 s (Sq _) Oz;rw[R.cmp (p:=s) (q:=n-1-s) Oz Oz Oz (by omega)]at g;have g1:=Vb h R.l (p:=s) (q:=p) Oz hp aX;have g2:=Vb h R.r (p:=q) (q:=n-1-s) hq Oz Oz
  cases e:ltR lt d[q]! d[p]! with
  | true=>rfl
  | false =>
   have:=hR.ntrans _ _ _ (hR.ntrans _ _ _ (show ltR lt d[n-1-s]! d[q]! = false by
    exact g2) e) g1
   rw[g]at this;cases this
structure Turned (lt:β->β->Bool) (a s mid e b:Nat) (d:Array (β×Nat)):Prop where
 l:Runs lt a s mid d
 r:Runs lt mid e b d
 x:∀p q,a<=p->p<mid->mid<=q->q<b->ltR lt d[q]! d[p]! = false
theorem qdq {s m e p:Nat}(h:p<s):rho s m e p=p:=by unfold rho;(repeat' split)<;>omega
theorem qdr {s m e p:Nat}(h:e<=p)(hs:s<=m)(hm:m<=e):rho s m e p=p:=by unfold rho;(repeat' split)<;>omega
theorem qds {s m e p:Nat}(h:s<=p)(h2:p<s+(e-m)):rho s m e p=p+(m-s):=by unfold rho;rw[Sx ⟨h,h2⟩]
theorem qdt {s m e p:Nat}(h:s+(e-m)<=p)(h2:p<e):rho s m e p=p-(e-m):=by unfold rho;rw[Sw Oz,Sx ⟨h,h2⟩]
theorem DW {s m e p:Nat}(h:¬(s<m/\m<e))(hs:s<=m)(hm:m<=e):rho s m e p=p:=by unfold rho;(repeat' split)<;>omega
theorem Yx (h:SWO lt){a m b s e mid:Nat}{d d1:Array (β×Nat)}(R:Runs lt a m b d)(C:Cut lt a m b s e d)(has:a<=s)(hsm:s<=m)(hme:m<=e)(heb:e<=b)(hmid:s+(e-m)=mid)
  (hd:∀p,d1[p]! = d[rho s m e p]!):Turned lt a s mid e b d1:=by
 have hR:=J6 h
 have L:∀p,p<s->d1[p]! = d[p]!:=λp hp=>by rw[hd,qdq hp]
 have H:∀p,e<=p->d1[p]! = d[p]!:=λp hp=>by rw[hd,qdr hp hsm hme]
 have A:∀p,s<=p->p<mid->d1[p]! = d[p+(m-s)]!:=λp hp hq=>by rw[hd,qds hp (by omega)]
 have B:∀p,mid<=p->p<e->d1[p]! = d[p-(e-m)]!:=λp hp hq=>by rw[hd,qdt Oz hq]
 refine⟨⟨λp q hp aY hq=>?_,λp q hp aY hq=>?_,λp q hp hps hq fU=>?_⟩,⟨λp q hp aY hq=>?_,λp q hp aY hq=>?_,λp q hp hps hq fU=>?_⟩,λp q hp aX hq eH=>?_⟩
 ·rw[L p Oz,L q (by omega)];exact R.l _ _ hp aY Oz
 ·rw[A p hp Oz,A q Oz hq];exact R.r _ _ Oz Oz Oz
 ·rw[L p hps,A q hq fU];exact R.ix _ _ hp Oz Oz Oz
 ·rw[B p hp Oz,B q Oz hq];exact R.l _ _ Oz Oz Oz
 ·rw[H p hp,H q (by omega)];exact R.r _ _ Oz aY hq
 ·rw[B p hp hps,H q hq];exact R.ix _ _ Oz Oz Oz fU
 ·by_cases h1:p<s
  ·rw[L p h1];by_cases h2:q<e
   ·rw[B q hq h2];exact R.l _ _ hp Oz Oz
   ·rw[H q (by omega)];exact C.lo p q hp h1 Oz eH
  ·rw[A p Oz aX];by_cases h2:q<e
   ·rw[B q hq h2];exact hR.asymmA (C.hi (q-(e-m)) (p+(m-s)) Oz Oz Oz Oz)
   ·rw[H q (by omega)];exact R.r _ _ Oz Oz eH
theorem Yy {a s b:Nat}{d:Array (β×Nat)}(R:Runs lt a s b d)(h:¬(a<s/\s<b))(ha:a<=s)(hb:s<=b):QY lt a b d d:=by
 refine⟨permIn_refl _ _ _,?_⟩
 by_cases e:a=s
 ·subst e;exact R.r
 ·obtain rfl:s=b:=by omega
  exact R.l
theorem Runs.next {a s b:Nat}{d d':Array (β×Nat)}(R:Runs lt a s b d){c:Nat}(P:PermIn c a d d')(hs:a<=s):Runs lt a s b d':=by
 have e:∀p,a<=p->d'[p]! = d[p]!:=λp hp=>P.2.1 p (.inr hp)
 refine⟨λp q hp aY hq=>?_,λp q hp aY hq=>?_,λp q hp hps hq eH=>?_⟩
 ·rw[e p hp,e q (by omega)];exact R.l _ _ hp aY hq
 ·rw[e p Oz,e q (by omega)];exact R.r _ _ hp aY hq
 ·rw[e p hp,e q (by omega)];exact R.ix _ _ hp hps hq eH
theorem Yz {a mid b s e:Nat}{d d1 d2 d3:Array (β×Nat)}(T:Turned lt a s mid e b d1)(P:PermIn a b d d1)(M1:QY lt a mid d1 d2)(M2:QY lt mid b d2 d3)(kE:a<=mid)(hmb:mid<=b)(hb:b<=d.size):QY lt a b d d3:=by
 have s1:d1.size=d.size:=P.1
 have s2:d2.size=d1.size:=M1.1.1
 have s3:d3.size=d2.size:=M2.1.1
 refine⟨permIn_trans _ _ _ _ _ P (permIn_trans _ _ _ _ _ (permIn_mono _ _ _ _ _ _ (Sq _) hmb Oz M1.1) (permIn_mono _ _ _ _ _ _ kE (Sq _) Oz M2.1)),λp q hp aY hq=>?_⟩
 by_cases h1:q<mid
 ·rw[M2.1.2.1 p (.inl Oz),M2.1.2.1 q (.inl h1)];exact M1.2 p q hp aY h1
 ·by_cases h2:mid<=p
  ·exact M2.2 p q h2 aY hq
  ·rw[M2.1.2.1 p (.inl Oz)];refine permIn_all d1 d2 a mid (λx=>ltR lt d3[q]! x=false) Oz M1.1 (λp' hp' hpm'=>?_) p hp Oz;refine permIn_all d2 d3 mid b (λx=>ltR lt x d1[p']! = false) Oz M2.1 (λq' hq' hqb'=>?_) q Oz hq;rw[M1.1.2.1 q' (.inr hq')];exact T.x p' q' hp' hpm' hq' hqb'
end
end
section
open Go.RowKit Go.Sort Go.Lib Go.Shelf
def Qn (x:Od):List Value:=[.int .u64 x.id,.int .i64 x.acc,.int .i64 x.side,.int .i64 x.price,.int .i64 x.qty,.int .u64 x.seq]
abbrev Dd:=Od×Nat
def JM (x:Dd):List Value:=Qn x.1
theorem qdu (x:Dd):(JM x).length=6:=rfl
theorem Uf (x:Dd):∀v∈JM x,v.oneCell'=true:=by
 intro v hv
 simp only[JM,Qn,Iz,Iy,or_false]at hv
 rcases hv with rfl|rfl|rfl|rfl|rfl|rfl<;>rfl
abbrev SW6 (w0:World)(blk:Nat)(d:Array Dd)(w:World):Prop:=SWK JM 6 w0 blk 0 d w
abbrev Rw6 (w0:World)(blk:Nat)(d:Array Dd):Prop:=RowK JM 6 w0 blk 0 d
theorem YA:(prog.info? 38).map (·.size)=some 6:=by kernel_rfl
end
section
open Go.RowKit
def Qt (x y:Od):Bool:=VF x.id x.side x.price x.seq y.id y.side y.price y.seq
def Vc (x y:Od):Int:=if rkN x.side≠rkN y.side then rkN x.side-rkN y.side else if Qt x y=true then -1 else if Qt y x=true then 1 else 0
theorem DX (s:Int):0<=rkN s/\rkN s<=2:=by unfold rkN;(repeat' split)<;>omega
theorem KL (x y:Od)(w:World):Calls prog 82 #[x.val,y.val] w λe w'=>e=.returned (.bool (Qt x y))/\Gw w w':=DO _ _ _ _ _ _ _ _ _ _ _ _ w
section
variable {ops:Array Oper}{rest:List Oper}{o:Oper}{a:Act}{w:World}{Q:Exit → Act → World → Prop}
theorem JN (hgd:Region.wanted o (yielded ops a.tmps)=true)(x:Operand)(ho:o.op=.load 38 x)(g:Nat)(hx:a.eval x=.pointer (some ⟨g,0,none⟩))(z:Od)(t:TypeId)
  (hg:w.heap[g]? = some (.cells (Qn z).toArray t (0,0))) (h:wpList prog ops Q rest (a.put o.dst z.val) w):wpList prog ops Q (o :: rest) a w :=
 BigFrame.wpList_want hgd λ_ hK=>wp_load_row _ x ho g hx _ _ (0,0) _ hg underlying38 rfl YA (hK _ _ h)
end
theorem YB (w:World)(o1 o2:Obj)(n:Nat):(((w.alloc o1).alloc o2).drewN n).heap[w.heap.size]? = some o1/\(((w.alloc o1).alloc o2).drewN n).heap[w.heap.size+1]? = some o2/\Gw w (((w.alloc o1).alloc o2).drewN n)/\(((w.alloc o1).alloc o2).drewN n).heap.size=w.heap.size+2:=by
 refine⟨?_,?_,⟨?_,?_⟩,?_⟩
 ·show ((w.alloc o1).alloc o2).heap[w.heap.size]? = some o1;exact Qp Oy (Qe rfl)
 ·show ((w.alloc o1).alloc o2).heap[w.heap.size+1]? = some o2;exact Qe Oy
 ·exact QJ (((Oq _ _).alloc (Sq _) _).alloc Oy _) n
 ·exact Iw _ _
 ·show ((w.alloc o1).alloc o2).heap.size=_;simp
theorem YC (s:Int)(W:World):Calls prog 77 #[.int .i64 s] W λe w'=>e=.returned (.int .i64 (rkN s))/\w'=W:=(JJ s W).mono λ_ _ ⟨h1,h2⟩=>⟨h1,h2.symm⟩
theorem qdv (x y:Od)(w:World)(h1:rkN x.side≠rkN y.side) :
  Calls prog 81 #[.agg #[.int .u64 x.id,.int .i64 x.acc,.int .i64 x.side,.int .i64 x.price,.int .i64 x.qty,.int .u64 x.seq],.agg #[.int .u64 y.id,.int .i64 y.acc,.int .i64 y.side,.int .i64 y.price,.int .i64 y.qty,.int .u64 y.seq]] w λe w'=>e=.returned (.int .i64 (rkN x.side-rkN y.side))/\Gw w w':=by
 have mixed:prog.follows .mixedOrders=true:=by kernel_rfl
 have HR:=Ou YC
 have r1:=DX x.side
 have r2:=DX y.side
 have e1:(rkN x.side != rkN y.side)=true:=by simp[h1]
 have ew:IntKind.i64.wrap (rkN x.side-rkN y.side)=rkN x.side-rkN y.side:=by rw[Wz];omega
 clear h1 r1 r2
 go_enter func81,ntmps81
 go_wp2_with fail
 go_quiet ((go_at_call 77;with_reducible exact Ss (HR.out _ _)))
 have TB:=YB w (Obj.cells #[.int .u64 x.id,.int .i64 x.acc,.int .i64 x.side,.int .i64 x.price,.int .i64 x.qty,.int .u64 x.seq] 38) (Obj.cells #[.int .u64 y.id,.int .i64 y.acc,.int .i64 y.side,.int .i64 y.price,.int .i64 y.qty,.int .u64 y.seq] 38) nq
 generalize ((w.alloc (Obj.cells #[.int .u64 x.id,.int .i64 x.acc,.int .i64 x.side,.int .i64 x.price,.int .i64 x.qty,.int .u64 x.seq] 38)).alloc (Obj.cells #[.int .u64 y.id,.int .i64 y.acc,.int .i64 y.side,.int .i64 y.price,.int .i64 y.qty,.int .u64 y.seq] 38)).drewN nq=w1 at TB ⊢
 obtain⟨f1,f2,G1,z1⟩:=TB
 have c1:w1.cell? ⟨w.heap.size,2,none⟩=some (.int .i64 x.side):=by rw[cell_of_row _ _ _ _ _ _ f1];rfl
 have c2:w1.cell? ⟨w.heap.size+1,2,none⟩=some (.int .i64 y.side):=by rw[cell_of_row _ _ _ _ _ _ f2];rfl
 clear f1 f2
 go_wp2_with fail
 go_quiet ((go_at_call 77;with_reducible exact Ss (HR.out _ _)))
 go_wp2_with fail
 go_ret
 exact⟨rfl,G1.trans ⟨QJ (Oq _ _) _,Iw _ _⟩⟩
theorem qdw (x y:Od)(w:World)(h1:rkN x.side=rkN y.side)(h2:Qt x y=true) :
  Calls prog 81 #[.agg #[.int .u64 x.id,.int .i64 x.acc,.int .i64 x.side,.int .i64 x.price,.int .i64 x.qty,.int .u64 x.seq],.agg #[.int .u64 y.id,.int .i64 y.acc,.int .i64 y.side,.int .i64 y.price,.int .i64 y.qty,.int .u64 y.seq]] w λe w'=>e=.returned (.int .i64 (-1))/\Gw w w':=by
 have mixed:prog.follows .mixedOrders=true:=by kernel_rfl
 have HR:=Ou YC
 have e1:(rkN x.side != rkN y.side)=false:=by simp[h1]
 have HA:∀w,Calls prog 82 #[x.val,y.val] w λe w'=>e=.returned (.bool true)/\Gw w w':=λw=>by rw[<-h2];exact KL x y w
 have rS:=Ou HA
 clear h1 HA h2
 go_enter func81,ntmps81
 go_wp2_with fail
 go_quiet ((go_at_call 77;with_reducible exact Ss (HR.out _ _)))
 have TB:=YB w (Obj.cells #[.int .u64 x.id,.int .i64 x.acc,.int .i64 x.side,.int .i64 x.price,.int .i64 x.qty,.int .u64 x.seq] 38) (Obj.cells #[.int .u64 y.id,.int .i64 y.acc,.int .i64 y.side,.int .i64 y.price,.int .i64 y.qty,.int .u64 y.seq] 38) nq
 generalize ((w.alloc (Obj.cells #[.int .u64 x.id,.int .i64 x.acc,.int .i64 x.side,.int .i64 x.price,.int .i64 x.qty,.int .u64 x.seq] 38)).alloc (Obj.cells #[.int .u64 y.id,.int .i64 y.acc,.int .i64 y.side,.int .i64 y.price,.int .i64 y.qty,.int .u64 y.seq] 38)).drewN nq=w1 at TB ⊢
 obtain⟨f1,f2,G1,z1⟩:=TB
 go_wp2_with (first|((with_reducible apply JN (z:=x));rfl;rfl;rfl;exact f1;skip)|((with_reducible apply JN (z:=y));rfl;rfl;rfl;exact f2;skip))
 ((with_reducible refine(rS.out _).mono ?_);rintro e w2 ⟨rfl,k2⟩)
 have F2:w2.heap[w.heap.size]? = some (.cells (Qn x).toArray 38 (0,0)):=by rw[k2.b.block _ (by omega)];exact f1
 have F2':w2.heap[w.heap.size+1]? = some (.cells (Qn y).toArray 38 (0,0)):=by rw[k2.b.block _ (by omega)];exact f2
 have G2:=G1.trans k2
 have z2:w.heap.size+2<=w2.heap.size:=by have:=k2.b.size;omega
 clear k2 f1 f2 G1 z1
 go_wp2_with fail
 go_ret
 exact⟨rfl,G2⟩
theorem qdx (x y:Od)(w:World)(h1:rkN x.side=rkN y.side)(h2:Qt x y=false)(h3:Qt y x=true) :
  Calls prog 81 #[.agg #[.int .u64 x.id,.int .i64 x.acc,.int .i64 x.side,.int .i64 x.price,.int .i64 x.qty,.int .u64 x.seq],.agg #[.int .u64 y.id,.int .i64 y.acc,.int .i64 y.side,.int .i64 y.price,.int .i64 y.qty,.int .u64 y.seq]] w λe w'=>e=.returned (.int .i64 1)/\Gw w w':=by
 have mixed:prog.follows .mixedOrders=true:=by kernel_rfl
 have HR:=Ou YC
 have e1:(rkN x.side != rkN y.side)=false:=by simp[h1]
 have HA:∀w,Calls prog 82 #[x.val,y.val] w λe w'=>e=.returned (.bool false)/\Gw w w':=λw=>by rw[<-h2];exact KL x y w
 have rS:=Ou HA
 have HB:∀w,Calls prog 82 #[y.val,x.val] w λe w'=>e=.returned (.bool true)/\Gw w w':=λw=>by rw[<-h3];exact KL y x w
 have yN:=Ou HB
 clear HB h3
 clear h1 HA h2
 go_enter func81,ntmps81
 go_wp2_with fail
 go_quiet ((go_at_call 77;with_reducible exact Ss (HR.out _ _)))
 have TB:=YB w (Obj.cells #[.int .u64 x.id,.int .i64 x.acc,.int .i64 x.side,.int .i64 x.price,.int .i64 x.qty,.int .u64 x.seq] 38) (Obj.cells #[.int .u64 y.id,.int .i64 y.acc,.int .i64 y.side,.int .i64 y.price,.int .i64 y.qty,.int .u64 y.seq] 38) nq
 generalize ((w.alloc (Obj.cells #[.int .u64 x.id,.int .i64 x.acc,.int .i64 x.side,.int .i64 x.price,.int .i64 x.qty,.int .u64 x.seq] 38)).alloc (Obj.cells #[.int .u64 y.id,.int .i64 y.acc,.int .i64 y.side,.int .i64 y.price,.int .i64 y.qty,.int .u64 y.seq] 38)).drewN nq=w1 at TB ⊢
 obtain⟨f1,f2,G1,z1⟩:=TB
 go_wp2_with (first|((with_reducible apply JN (z:=x));rfl;rfl;rfl;exact f1;skip)|((with_reducible apply JN (z:=y));rfl;rfl;rfl;exact f2;skip))
 ((with_reducible refine(rS.out _).mono ?_);rintro e w2 ⟨rfl,k2⟩)
 have F2:w2.heap[w.heap.size]? = some (.cells (Qn x).toArray 38 (0,0)):=by rw[k2.b.block _ (by omega)];exact f1
 have F2':w2.heap[w.heap.size+1]? = some (.cells (Qn y).toArray 38 (0,0)):=by rw[k2.b.block _ (by omega)];exact f2
 have G2:=G1.trans k2
 have z2:w.heap.size+2<=w2.heap.size:=by have:=k2.b.size;omega
 clear k2 f1 f2 G1 z1
 go_wp2_with (first|((with_reducible apply JN (z:=x));rfl;rfl;rfl;exact F2;skip)|((with_reducible apply JN (z:=y));rfl;rfl;rfl;exact F2';skip))
 ((with_reducible refine(yN.out _).mono ?_);rintro e w3 ⟨rfl,k3⟩)
 have G3:=G2.trans k3
 clear k3
 go_wp2_with fail
 go_ret
 exact⟨rfl,G3⟩
theorem qdy (x y:Od)(w:World)(h1:rkN x.side=rkN y.side)(h2:Qt x y=false)(h3:Qt y x=false) :
  Calls prog 81 #[.agg #[.int .u64 x.id,.int .i64 x.acc,.int .i64 x.side,.int .i64 x.price,.int .i64 x.qty,.int .u64 x.seq],.agg #[.int .u64 y.id,.int .i64 y.acc,.int .i64 y.side,.int .i64 y.price,.int .i64 y.qty,.int .u64 y.seq]] w λe w'=>e=.returned (.int .i64 0)/\Gw w w':=by
 have mixed:prog.follows .mixedOrders=true:=by kernel_rfl
 have HR:=Ou YC
 have e1:(rkN x.side != rkN y.side)=false:=by simp[h1]
 have HA:∀w,Calls prog 82 #[x.val,y.val] w λe w'=>e=.returned (.bool false)/\Gw w w':=λw=>by rw[<-h2];exact KL x y w
 have rS:=Ou HA
 have HB:∀w,Calls prog 82 #[y.val,x.val] w λe w'=>e=.returned (.bool false)/\Gw w w':=λw=>by rw[<-h3];exact KL y x w
 have yN:=Ou HB
 clear HB h3
 clear h1 HA h2
 go_enter func81,ntmps81
 go_wp2_with fail
 go_quiet ((go_at_call 77;with_reducible exact Ss (HR.out _ _)))
 have TB:=YB w (Obj.cells #[.int .u64 x.id,.int .i64 x.acc,.int .i64 x.side,.int .i64 x.price,.int .i64 x.qty,.int .u64 x.seq] 38) (Obj.cells #[.int .u64 y.id,.int .i64 y.acc,.int .i64 y.side,.int .i64 y.price,.int .i64 y.qty,.int .u64 y.seq] 38) nq
 generalize ((w.alloc (Obj.cells #[.int .u64 x.id,.int .i64 x.acc,.int .i64 x.side,.int .i64 x.price,.int .i64 x.qty,.int .u64 x.seq] 38)).alloc (Obj.cells #[.int .u64 y.id,.int .i64 y.acc,.int .i64 y.side,.int .i64 y.price,.int .i64 y.qty,.int .u64 y.seq] 38)).drewN nq=w1 at TB ⊢
 obtain⟨f1,f2,G1,z1⟩:=TB
 go_wp2_with (first|((with_reducible apply JN (z:=x));rfl;rfl;rfl;exact f1;skip)|((with_reducible apply JN (z:=y));rfl;rfl;rfl;exact f2;skip))
 ((with_reducible refine(rS.out _).mono ?_);rintro e w2 ⟨rfl,k2⟩)
 have F2:w2.heap[w.heap.size]? = some (.cells (Qn x).toArray 38 (0,0)):=by rw[k2.b.block _ (by omega)];exact f1
 have F2':w2.heap[w.heap.size+1]? = some (.cells (Qn y).toArray 38 (0,0)):=by rw[k2.b.block _ (by omega)];exact f2
 have G2:=G1.trans k2
 have z2:w.heap.size+2<=w2.heap.size:=by have:=k2.b.size;omega
 clear k2 f1 f2 G1 z1
 go_wp2_with (first|((with_reducible apply JN (z:=x));rfl;rfl;rfl;exact F2;skip)|((with_reducible apply JN (z:=y));rfl;rfl;rfl;exact F2';skip))
 ((with_reducible refine(yN.out _).mono ?_);rintro e w3 ⟨rfl,k3⟩)
 have G3:=G2.trans k3
 clear k3
 go_wp2_with fail
 go_ret
 exact⟨rfl,G3⟩
theorem qdz (x y:Od)(w:World):Calls prog 81 #[x.val,y.val] w λe w'=>e=.returned (.int .i64 (Vc x y))/\Gw w w':=by
 unfold Vc
 by_cases h1:rkN x.side=rkN y.side
 ·rw[Sw (by simp[h1])]
  cases h2:Qt x y with
  | true=>rw[Sx rfl];exact qdw x y w h1 h2
  | false =>
   rw[Sw (by simp)]
   cases h3:Qt y x with
   | true=>rw[Sx rfl];exact qdx x y w h1 h2 h3
   | false=>rw[Sw (by simp)];exact qdy x y w h1 h2 h3
 ·rw[Sx h1];exact qdv x y w h1
end
section
open Go.Sort
section
variable {β:Type} [Inhabited β] {lt:β → β → Bool}
def Blk (lt:β->β->Bool)(bs lo hi:Nat)(d:Array (β×Nat)):Prop:=∀p q,lo<=p->p<q->q<hi->p / bs=q / bs->ltR lt d[q]! d[p]! = false
def Ixs (bs lo hi:Nat)(d:Array (β×Nat)):Prop:=∀p,lo<=p->p<hi->(d[p]!).2 / bs=p / bs
structure IInv (lt:β->β->Bool) (a n:Nat) (d dk:Array (β×Nat)):Prop where
 perm:PermIn 0 n d dk
 lo:Blk lt 20 0 a dk
 ix:Ixs 20 0 a dk
 rest:∀p,a<=p->p<n->(dk[p]!).2=p
 al:a % 20=0
theorem IInv.start (d:Array (β×Nat))(n:Nat)(h:∀p,p<n->(d[p]!).2=p):IInv lt 0 n d d :=
 ⟨permIn_refl _ _ _,λp q _ h1 h2 _=>by omega,λp _ h1=>by omega,λp _ hp=>h p hp,rfl⟩
theorem IInv.up {a n:Nat}{d dk:Array (β×Nat)}(I:IInv lt a n d dk){b:Nat}(hb:b<=n):∀p q,a<=p->p<q->q<b->(dk[p]!).2<(dk[q]!).2:=λp q hp aY hq=>by
 rw[I.rest p hp Oz,I.rest q Oz (by omega)];exact aY
theorem IInv.step {a n b:Nat}{d dk dk':Array (β×Nat)}(I:IInv lt a n d dk)(M:QY lt a b dk dk')(hab:a<=b)(hb:b<=n)(hb2:b<=a+20)(hn:n<=d.size) :
  PermIn 0 n d dk'/\Blk lt 20 0 b dk'/\Ixs 20 0 b dk'/\(∀p,b<=p->p<n->(dk'[p]!).2=p):=by
 have hs:dk.size=d.size:=I.perm.1
 refine⟨permIn_trans _ _ _ _ _ I.perm (permIn_mono _ _ _ _ _ _ (As _) hb Oz M.1),λp q hp aY hq he=>?_,λp hp hpb=>?_,λp hp vG=>?_⟩
 ·have al:=I.al;by_cases h1:q<a
  ·rw[M.1.2.1 p (.inl Oz),M.1.2.1 q (.inl h1)];exact I.lo p q hp aY h1 he
  ·exact M.2 p q Oz aY hq
 ·by_cases h1:p<a
  ·rw[M.1.2.1 p (.inl h1)];exact I.ix p hp h1
  ·have al:=I.al
   have:(dk'[p]!).2 / 20=a / 20:=permIn_all dk dk' a b (λx=>x.2 / 20=a / 20) Oz M.1 (λi hi hib=>by
    show (dk[i]!).2 / 20=a / 20
    rw[I.rest i hi (by omega)];omega) p Oz hpb
   omega
 ·rw[M.1.2.1 p (.inr hp)];exact I.rest p Oz vG
structure MInv (lt:β->β->Bool) (bs a n:Nat) (d dk:Array (β×Nat)):Prop where
 perm:PermIn 0 n d dk
 lo:Blk lt (2*bs) 0 a dk
 ixl:Ixs (2*bs) 0 a dk
 hi:Blk lt bs a n dk
 ixh:Ixs bs a n dk
 al:a % (2*bs)=0
theorem MInv.start {bs n:Nat}{d dk:Array (β×Nat)}(P:PermIn 0 n d dk)(hi:Blk lt bs 0 n dk)(ix:Ixs bs 0 n dk):MInv lt bs 0 n d dk :=
 ⟨P,λp q _ h1 h2 _=>by omega,λp _ h1=>by omega,hi,ix,Nat.zero_mod _⟩
theorem MInv.runs {bs a n b:Nat}{d dk:Array (β×Nat)}(I:MInv lt bs a n d dk)(hbs:bs=20∨bs=40∨bs=80)(h1:a+bs<b)(h2:b<=a+2*bs)(hb:b<=n):Runs lt a (a+bs) b dk:=by
 have al:=I.al
 refine⟨λp q hp aY hq=>I.hi p q hp aY Oz ?_,λp q hp aY hq=>I.hi p q Oz aY Oz ?_,λp q hp aX hq eH=>?_⟩
 ·rcases hbs with rfl|rfl|rfl<;>omega
 ·rcases hbs with rfl|rfl|rfl<;>omega
 ·have e1:=I.ixh p hp Oz;have e2:=I.ixh q Oz Oz;rcases hbs with rfl|rfl|rfl<;>omega
theorem MInv.step {bs a n b:Nat}{d dk dk':Array (β×Nat)}(I:MInv lt bs a n d dk)(hbs:bs=20∨bs=40∨bs=80)(M:QY lt a b dk dk')(hab:a<=b)(h2:b<=a+2*bs)(hb:b<=n)(hn:n<=d.size) :
  PermIn 0 n d dk'/\Blk lt (2*bs) 0 b dk'/\Ixs (2*bs) 0 b dk'/\Blk lt bs b n dk'/\Ixs bs b n dk':=by
 have al:=I.al
 have hs:dk.size=d.size:=I.perm.1
 have L:∀p,p<a->dk'[p]! = dk[p]!:=λp hp=>M.1.2.1 p (.inl hp)
 have H:∀p,b<=p->dk'[p]! = dk[p]!:=λp hp=>M.1.2.1 p (.inr hp)
 refine⟨permIn_trans _ _ _ _ _ I.perm (permIn_mono _ _ _ _ _ _ (As _) hb Oz M.1),λp q hp aY hq he=>?_,λp hp hpb=>?_,λp q hp aY hq he=>?_,λp hp vG=>?_⟩
 ·by_cases h1:q<a
  ·rw[L p Oz,L q h1];exact I.lo p q hp aY h1 he
  ·refine M.2 p q ?_ aY hq;rcases hbs with rfl|rfl|rfl<;>omega
 ·by_cases h1:p<a
  ·rw[L p h1];exact I.ixl p hp h1
  ·have:(dk'[p]!).2 / (2*bs)=a / (2*bs):=permIn_all dk dk' a b (λx=>x.2 / (2*bs)=a / (2*bs)) Oz M.1 (λi hi hib=>by
    have e:=I.ixh i hi Oz;show (dk[i]!).2 / (2*bs)=a / (2*bs)
    rcases hbs with rfl|rfl|rfl<;>omega) p Oz hpb
   rcases hbs with rfl|rfl|rfl<;>omega
 ·rw[H p hp,H q (by omega)];exact I.hi p q Oz aY hq he
 ·rw[H p hp];exact I.ixh p Oz vG
theorem MInv.one {bs a n:Nat}{d dk:Array (β×Nat)}(I:MInv lt bs a n d dk)(hbs:bs=20∨bs=40∨bs=80)(h:n<=a+bs):QY lt a n dk dk:=by
 have al:=I.al
 refine⟨permIn_refl _ _ _,λp q hp aY hq=>I.hi p q hp aY hq ?_⟩
 rcases hbs with rfl|rfl|rfl<;>omega
theorem qdA {bs n:Nat}{dk:Array (β×Nat)}(h:Blk lt bs 0 n dk)(hn:n<=bs):SortedIn (ltR lt) 0 n dk:=λp q hp aY hq=>h p q hp aY hq (by
 rw[Lw Oz,Lw (by omega)])
structure SInv (lt:β->β->Bool) (bs n:Nat) (d dk:Array (β×Nat)):Prop where
 sz:bs=20∨bs=40∨bs=80∨bs=160
 perm:PermIn 0 n d dk
 blk:Blk lt bs 0 n dk
 ix:Ixs bs 0 n dk
theorem SInv.less {bs n:Nat}{d dk:Array (β×Nat)}(I:SInv lt bs n d dk)(h:bs<n)(hn:n<=160):bs=20∨bs=40∨bs=80:=by
 have:=I.sz;omega
theorem SInv.next {bs n:Nat}{d dk:Array (β×Nat)}(hbs:bs=20∨bs=40∨bs=80)(h:PermIn 0 n d dk/\Blk lt (2*bs) 0 n dk/\Ixs (2*bs) 0 n dk/\Blk lt bs n n dk/\Ixs bs n n dk):SInv lt (2*bs) n d dk :=
 ⟨by omega,h.1,h.2.1,h.2.2.1⟩
end
def ltO (x y:Od):Bool:=decide (rkN x.side<rkN y.side)||(decide (rkN x.side=rkN y.side)&&Qt x y)
def kpO (x:Od):Int:=if x.side=1 then -x.price else if x.side=2 then x.price else 0
def kqO (x:Od):Int:=if x.side=1∨x.side=2 then x.seq else 0
def kiO (x:Od):Int:=if x.side=1∨x.side=2 then x.id else 0
def Lex (a b c d a' b' c' d':Int):Prop:=a<a'∨(a=a'/\(b<b'∨(b=b'/\(c<c'∨(c=c'/\d<d')))))
theorem DY (a b:Int):Z5 a b<0↔a<b:=by unfold Z5;(repeat' split)<;>omega
theorem DZ (a b:Int):Z5 a b=0↔a=b:=by unfold Z5;(repeat' split)<;>omega
theorem VH (x y:Od):Qt x y=true↔x.side=y.side/\((x.side=1/\(y.price<x.price∨(x.price=y.price/\(x.seq<y.seq∨(x.seq=y.seq/\x.id<y.id)))))∨(x.side=2/\(x.price<y.price∨(x.price=y.price/\(x.seq<y.seq∨(x.seq=y.seq/\x.id<y.id)))))):=by
 unfold Qt VF
 by_cases h1:x.side≠y.side∨(x.side≠1/\x.side≠2)
 ·rw[Sx h1];simp;omega
 ·rw[Sw h1];by_cases h2:x.price=y.price
  ·rw[Sw (by simp[h2])];rw[decide_eq_true_iff];by_cases h3:Z5 x.seq y.seq=0
   ·rw[Sx h3,DY];rw[DZ]at h3;omega
   ·rw[Sw h3,DY];rw[DZ]at h3;omega
  ·rw[Sx h2];unfold Qf;have e1:(x.side==1)=decide (x.side=1):=rfl;have e2:(x.side==2)=decide (x.side=2):=rfl;rw[e1,e2];simp only[Bool.or_eq_true,Iv,decide_eq_true_iff];omega
theorem Ug (x y:Od):ltO x y=true↔Lex (rkN x.side) (kpO x) (kqO x) (kiO x) (rkN y.side) (kpO y) (kqO y) (kiO y):=by
 unfold ltO Lex
 simp only[Bool.or_eq_true,Iv,decide_eq_true_iff,VH]
 unfold rkN kpO kqO kiO
 by_cases a1:x.side=1<;>by_cases b1:y.side=1<;>by_cases a2:x.side=2<;>by_cases b2:y.side=2<;>simp[a1,b1,a2,b2]<;>omega
theorem qdB (a b c d:Int):¬Lex a b c d a b c d:=by unfold Lex;omega
theorem qdC {a b c d a' b' c' d' x y z u:Int}(h:Lex a b c d a' b' c' d')(k:Lex a' b' c' d' x y z u):Lex a b c d x y z u:=by unfold Lex at *;omega
theorem qdD {a b c d a' b' c' d' x y z u:Int}(h:¬Lex a b c d a' b' c' d')(k:¬Lex a' b' c' d' x y z u):¬Lex a b c d x y z u:=by unfold Lex at *;omega
theorem Uh (x y:Od):ltO x y=false↔¬Lex (rkN x.side) (kpO x) (kqO x) (kiO x) (rkN y.side) (kpO y) (kqO y) (kiO y):=by
 rw[<-Ug];simp
theorem swo_ltO:SWO ltO:=by
 refine⟨λx=>?_,λx y z h k=>?_,λx y z h k=>?_⟩
 ·rw[Uh];exact qdB _ _ _ _
 ·rw[Ug]at *;exact qdC h k
 ·rw[Uh]at *;exact qdD h k
theorem qdE (x y:Od):decide (Vc x y<0)=ltO x y:=by
 unfold Vc ltO
 by_cases h:rkN x.side=rkN y.side
 ·rw[Sw (by simp[h]),h]
  cases Qt x y with
  | true=>simp
  | false=>cases Qt y x<;>simp
 ·rw[Sx h];have:decide (rkN x.side=rkN y.side)=false:=Sz h;rw[this,Fj,Bool.or_false];by_cases h2:rkN x.side<rkN y.side
  ·rw[Sy h2,Sy (by omega)]
  ·rw[Sz h2,Sz (by omega)]
def QZ (L:List Od):List Od:=(L.zipIdx.mergeSort (λx y=>!ltR ltO y x)).map Prod.fst
theorem qdF {L:List Od}{x y:Od×Nat}(hx:x∈L.zipIdx)(hy:y∈L.zipIdx)(h:x.2=y.2):x=y:=by
 have h1:=List.mem_zipIdx' hx
 have h2:=List.mem_zipIdx' hy
 obtain⟨x1,x2⟩:=x
 obtain⟨y1,y2⟩:=y
 simp only at h h1 h2
 subst h
 rw[h1.2,h2.2]
theorem qdG {L:List Od}{D:List (Od×Nat)}(hp:D.Perm L.zipIdx)(hs:D.Pairwise (λx y=>ltR ltO y x=false)):QZ L=D.map Prod.fst:=by
 have hR:=J6 swo_ltO
 unfold QZ
 congr 1
 have hm:(L.zipIdx.mergeSort (λx y=>!ltR ltO y x)).Pairwise (λx y=>ltR ltO y x=false):=by
  have:=List.pairwise_mergeSort (le:=λx y=>!ltR ltO y x) (λa b c h1 h2=>by
   simp only[Bool.not_eq_true']at *;exact hR.ntrans _ _ _ h2 h1) (λa b=>by
   cases h:ltR ltO b a with
   | true=>have:=hR.asymmA h;simp[this]
   | false=>simp) L.zipIdx
  exact this.imp (λh=>by simpa using h)
 refine List.Perm.eq_of_pairwise (le:=λx y=>ltR ltO y x=false) (λa b ha hb h1 h2=>?_) hm hs ((Iu _ _).trans hp.symm)
 have ha':=(Iu _ _).mem_iff.1 ha
 have hb':=hp.mem_iff.1 hb
 rw[ltR_no]at h1 h2
 refine qdF ha' hb' ?_
 rcases h1.2 with h|h
 ·rw[h2.1]at h;cases h
 ·rcases h2.2 with h'|h'
  ·rw[h1.1]at h';cases h'
  ·omega
theorem D0 (L:List Od):(QZ L).length=L.length:=by
 unfold QZ;rw[Fv,(Iu _ _).length_eq,List.length_zipIdx]
theorem qdH {d d':Array (Od×Nat)}{L:List Od}(hd:d.toList=L.zipIdx)(h:QY ltO 0 d.size d d'):d'.toList.map Prod.fst=QZ L:=by
 obtain⟨P,S⟩:=h
 have hs:d'.size=d.size:=P.1
 refine(qdG (D:=d'.toList) ?_ ?_).symm
 ·have:=P.2.2;rw[<-hd];have e1:d'.extract 0 d.size=d':=by rw[<-hs];exact It
  have e2:d.extract 0 d.size=d:=It;rw[e1,e2]at this;exact this
 ·rw[Is];intro i j hi hj hij;have:=S i j (As _) hij (by simpa [hs] using hj);rw[Sj d' j (by simpa using hj),Sj d' i (by simpa using hi)]at this;simpa using this
end
section
open Go.RowKit Go.Sort Go.Lib Go.Shelf
theorem qdI (k:Nat)(aE:∀w,(isAgg 38).run prog w=.ok true w)(zE:∀w,(Go.sizeOf 38).run prog w=.ok k w)(enc:Dd->List Value)(f:Value)(blk off cap a b n:Nat)(d0 d:Array Dd)(w0 w:World)
  (R:RowK enc k w0 blk off d0) (hs:d0.size=d.size) (S:SWK enc k w0 blk off d w) (hab:a+n<=b) (hb:b+n<=d.size) (hsz:d.size<4611686018427387904) :
  Calls prog 149 #[.slice (some ⟨blk,off,none⟩) d.size cap,.int .i64 a,.int .i64 b,.int .i64 n,f] w λe w'=>e=.returned (.tuple #[]) /\
   ∃d',SWK enc k w0 blk off d' w'/\PermIn a (b+n) d d'/\∀p,d'[p]! = d[sig a b n p]!:=by
 have mixed:prog.follows .mixedOrders=true:=by kernel_rfl
 have S0:Aside (SWK enc k w0 blk off d w):=S
 clear S
 go_enter func149,ntmps149
 go_wp2
 go_loopg [10] n (λkx cQ wr=>∃(i:Nat) (dk:Array Dd),cQ=.int .i64 i/\i<=n/\n-i<=kx/\dk.size=d.size/\Aside (SWK enc k w0 blk off dk wr)/\PermIn a (b+n) d dk/\Hid (∀p,dk[p]! = d[sig a b i p]!))
 case atStart=>exact⟨0,d,rfl,by omega,by omega,rfl,S0,permIn_refl _ _ _,Ou (λp=>by rw[qdk])⟩
 case round =>
  clear S0;obtain⟨i,dk,rfl,hin,aP,hds,S1,bQ,HP⟩:=hrel;by_cases hlt:i<n
  ·have bE:(i:Int)<(n:Int):=by omega
   go_wp2_with fail
   have ra:IntKind.i64.wrap ((a:Int)+(i:Int))=((a+i:Nat):Int):=by rw[Wz];omega
   have rb:IntKind.i64.wrap ((b:Int)+(i:Int))=((b+i:Nat):Int):=by rw[Wz];omega
   have S2:Aside (SWK enc k w0 blk off (swp dk (a+i) (b+i)) ((wr.drew.setCells blk (off+(a+i)*k) (enc dk[b+i]!)).setCells blk (off+(b+i)*k) (enc dk[a+i]!))):=S1.out.swapped R (a+i) (b+i) Oz Oz;have l44a:=S1.out.ld1 R Oz prog (a+i) Oz;have l44b:=S1.out.ld1 R Oz prog (b+i) Oz;have fO:=S1.out.st1 R Oz prog (a+i) Oz dk[b+i]!;have dG:=S1.out.st2 R Oz prog (a+i) (b+i) Oz Oz dk[b+i]! dk[a+i]!;have n44a:(enc dk[a+i]!).length=k:=R.hk _;have n44b:(enc dk[b+i]!).length=k:=R.hk _;have kX:PermIn a (b+n) d (swp dk (a+i) (b+i)):=permIn_trans _ _ _ _ _ bQ (swp_permIn dk a (b+n) (a+i) (b+i) Oz Oz Oz Oz Oz)
   have HQ:Hid (∀p,(swp dk (a+i) (b+i))[p]! = d[sig a b (i+1) p]!):=Ou (λp=>by
    rw[swp_get dk Oz Oz,HP.out,HP.out,HP.out];unfold sig
    (repeat' split)<;>first|omega|(congr 1;done)|(congr 1;omega))
   generalize enc dk[a+i]! = cI44 at S2 l44a dG n44a;generalize enc dk[b+i]! = cJ44 at S2 l44b fO dG n44b;clear S1 HP bQ;go_wp2_with fail
   go_big_region
   clear l44a l44b fO dG;generalize (wr.drew.setCells blk (off+(a+i)*k) cJ44).setCells blk (off+(b+i)*k) cI44=w2 at S2 ⊢;go_wp2;go_roundg (n-(i+1))
   case measure=>omega
   case rel=>exact⟨i+1,swp dk (a+i) (b+i),by go_num,by omega,Sq _,by rw[size_swp];exact hds,S2,kX,HQ⟩
  ·have bE:¬(i:Int)<(n:Int):=by omega
   go_wp2;go_end0;obtain rfl:i=n:=by omega
   exact⟨rfl,dk,S1.out,bQ,HP.out⟩
theorem qdJ (k:Nat)(aE:∀w,(isAgg 38).run prog w=.ok true w)(zE:∀w,(Go.sizeOf 38).run prog w=.ok k w)(enc:Dd->List Value)(f:Value)(blk off cap:Nat)(d0:Array Dd)(w0:World)(R:RowK enc k w0 blk off d0)
  (a b n:Nat) (za zb zn:Int) (ha:za=a) (hzb:zb=b) (hn:zn=n) (d:Array Dd) (w:World) (N:Nat) (hN:N=d.size) (hs:d0.size=d.size) (S:SWK enc k w0 blk off d w) (hab:a+n<=b) (hb:b+n<=d.size) (hsz:d.size<4611686018427387904) :
  Calls prog 149 #[.slice (some ⟨blk,off,none⟩) N cap,.int .i64 za,.int .i64 zb,.int .i64 zn,f] w λe w'=>e=.returned (.tuple #[]) /\
   ∃d',SWK enc k w0 blk off d' w'/\PermIn a (b+n) d d'/\∀p,d'[p]! = d[sig a b n p]!:=by
 subst ha hzb hn hN
 exact qdI k aE zE enc f blk off cap a b n d0 d w0 w R hs S hab hb hsz
theorem qdK (k:Nat)(aE:∀w,(isAgg 38).run prog w=.ok true w)(zE:∀w,(Go.sizeOf 38).run prog w=.ok k w)(enc:Dd->List Value)(f:Value)(blk off cap a m b:Nat)(d0 d:Array Dd)(w0 w:World)
  (R:RowK enc k w0 blk off d0) (hs:d0.size=d.size) (S:SWK enc k w0 blk off d w) (kE:a<m) (hmb:m<b) (hb:b<=d.size) (hsz:d.size<4611686018427387904) :
  Calls prog 148 #[.slice (some ⟨blk,off,none⟩) d.size cap,.int .i64 a,.int .i64 m,.int .i64 b,f] w λe w'=>e=.returned (.tuple #[]) /\
   ∃d',SWK enc k w0 blk off d' w'/\PermIn a b d d'/\∀p,d'[p]! = d[rho a m b p]!:=by
 have mixed:prog.follows .mixedOrders=true:=by kernel_rfl
 have S0:Aside (SWK enc k w0 blk off d w):=S
 have HZ:=Ou (qdJ k aE zE enc f blk off cap d0 w0 R)
 clear S aE zE
 go_enter func148,ntmps148
 go_wp2
 go_loopg [10,11] b (λkx cQ iI wr=>∃(i j:Nat) (dk:Array Dd),cQ=.int .i64 i/\iI=.int .i64 j/\0<i/\0<j/\i+a<=m/\m+j<=b/\i+j<=kx/\Aside (SWK enc k w0 blk off dk wr)/\PermIn a b d dk/\Hid (∀p,dk[rho (m-i) m (m+j) p]! = d[rho a m b p]!))
 case atStart=>exact⟨m-a,b-m,d,by rw[Iq (by omega)],by rw[Iq (by omega)],by omega,by omega,by omega,by omega,by omega,S0,permIn_refl _ _ _,Ou (λp=>by rw[show m-(m-a)=a by omega,show m+(b-m)=b by omega])⟩
 case round =>
  clear S0;obtain⟨i,j,dk,rfl,rfl,hi0,rI,him,hjm,aP,S1,bQ,HP⟩:=hrel;have hds:dk.size=d.size:=bQ.1;have E:Hid (dk.size=d.size):=hds;clear hds;rcases Ls i j with hlt|heq|hlt
  ·have e1:((i:Int) != (j:Int))=true:=by simp;omega
   have e2:¬(j:Int)<(i:Int):=by omega
   go_wp2_with (((with_reducible refine(HZ.out (m-i) (m+j-i) i _ _ _ ?_ ?_ ?_ dk _ d.size ?_ ?_ ?_ ?_ ?_ ?_).mono ?_);omega;omega;rfl;exact E.out.symm;(rw[E.out];exact hs);exact S1.out;omega;(rw[E.out];omega);(rw[E.out];omega));rintro e w2 ⟨rfl,d2,S2,P2,Q2⟩)
   have P3:PermIn a b d d2:=permIn_trans _ _ _ _ _ bQ (permIn_mono _ _ _ _ _ _ Oz Oz (by rw[E.out];exact hb) P2);have Q3:Hid (∀p,d2[rho (m-i) m (m+(j-i)) p]! = d[rho a m b p]!):=Ou (λp=>by rw[Q2,qdm i j m p Oz hlt,HP.out]);have S3:Aside (SWK enc k w0 blk off d2 w2):=S2;clear S2 P2 Q2 S1 HP bQ;go_roundg (j)
   case measure=>omega
   case rel=>exact⟨i,j-i,d2,rfl,by rw[Iq (by omega)],by omega,by omega,by omega,by omega,by omega,S3,P3,Q3⟩
  ·subst heq;have e1:((i:Int) != (i:Int))=false:=by simp
   go_wp2_with (((with_reducible refine(HZ.out (m-i) m i _ _ _ ?_ ?_ ?_ dk _ d.size ?_ ?_ ?_ ?_ ?_ ?_).mono ?_);omega;rfl;rfl;exact E.out.symm;(rw[E.out];exact hs);exact S1.out;omega;(rw[E.out];omega);(rw[E.out];omega));rintro e w2 ⟨rfl,d2,S2,P2,Q2⟩)
   have P3:PermIn a b d d2:=permIn_trans _ _ _ _ _ bQ (permIn_mono _ _ _ _ _ _ Oz Oz (by rw[E.out];exact hb) P2);have Q3:∀p,d2[p]! = d[rho a m b p]!:=λp=>by rw[Q2,qdn i m p Oz,HP.out]
   go_end0;exact⟨rfl,d2,S2,P3,Q3⟩
  ·have e1:((i:Int) != (j:Int))=true:=by simp;omega
   have e2:(j:Int)<(i:Int):=by omega
   go_wp2_with (((with_reducible refine(HZ.out (m-i) m j _ _ _ ?_ ?_ ?_ dk _ d.size ?_ ?_ ?_ ?_ ?_ ?_).mono ?_);omega;rfl;rfl;exact E.out.symm;(rw[E.out];exact hs);exact S1.out;omega;(rw[E.out];omega);(rw[E.out];omega));rintro e w2 ⟨rfl,d2,S2,P2,Q2⟩)
   have P3:PermIn a b d d2:=permIn_trans _ _ _ _ _ bQ (permIn_mono _ _ _ _ _ _ Oz Oz (by rw[E.out];exact hb) P2);have Q3:Hid (∀p,d2[rho (m-(i-j)) m (m+j) p]! = d[rho a m b p]!):=Ou (λp=>by rw[Q2,qdl m i j p Oz hlt,HP.out]);have S3:Aside (SWK enc k w0 blk off d2 w2):=S2;clear S2 P2 Q2 S1 HP bQ;go_roundg (i)
   case measure=>omega
   case rel=>exact⟨i-j,j,d2,by rw[Iq (by omega)],rfl,by omega,by omega,by omega,by omega,by omega,S3,P3,Q3⟩
end
end Go.Proofs.YtikapeaodobkjaaGreat
namespace Go.Proofs
open _root_.Go.Proofs.YtikapeaodobkjaaGreat
open Go.Shelf
def Tryz.insL_ren:Go.Shelf.Ren:=⟨fun|20=>139|n=>n,fun|24=>38|22=>22|3=>3|25=>151|4=>4|0=>0|n=>n,fun|n=>n⟩
theorem Tryz.insL:Go.Proofs.SlLaysF0.n20 prog Tryz.insL_ren:={
 mixed:=by kernel_rfl
 f20:=⟨Tryz.f139.name,by decide,func139.trans (congrArg some Ow)⟩
 t0:=underlying0
 a0:=Tryz.isAgg0
 z0:=Tryz.sizeOf0
 v0:=Tryz.zeroValue0
 t3:=underlying3
 a3:=Tryz.isAgg3
 z3:=Tryz.sizeOf3
 v3:=Tryz.zeroValue3
 t4:=underlying4
 a4:=Tryz.isAgg4
 z4:=Tryz.sizeOf4
 v4:=Tryz.zeroValue4
 t22:=underlying22
 a22:=Tryz.isAgg22
 z22:=Tryz.sizeOf22
 v22:=Tryz.zeroValue22
 t25:=underlying151
 a25:=Tryz.isAgg151
 z25:=Tryz.sizeOf151
 v25:=Tryz.zeroValue151 }
def Tryz.cloneL_ren:Go.Shelf.Ren:=⟨fun|41=>49|n=>n,fun|22=>22|23=>38|4=>4|n=>n,fun|n=>n⟩
theorem Tryz.cloneL:Go.Proofs.SlLaysE0.n41 prog Tryz.cloneL_ren:={
 mixed:=by kernel_rfl
 f41:=⟨Tryz.f49.name,by decide,func49.trans (congrArg some Ow)⟩
 t4:=underlying4
 a4:=Tryz.isAgg4
 z4:=Tryz.sizeOf4
 v4:=Tryz.zeroValue4
 t22:=underlying22
 a22:=Tryz.isAgg22
 z22:=Tryz.sizeOf22
 v22:=Tryz.zeroValue22 }
end Go.Proofs
namespace Go.Proofs.YtikapeaodobkjaaGreat
open _root_.Go.Proofs.Tryz
section
open Go.RowKit Go.Sort Go.Lib Go.Shelf
variable (k:Nat) (aE:∀ w, (isAgg 38).run prog w = .ok true w) (zE:∀ w, (Go.sizeOf 38).run prog w = .ok k w) (enc:Dd → List Value) (lt:Od → Od → Bool) (cf:Dd → Dd → Int) (bS:∀ x y, decide (cf x y < 0) = lt x.1 y.1) (hO:SWO lt)
 (g:Nat) (cb:Array Value) (blk off cap:Nat) (d0:Array Dd) (w0:World) (eg:∀args w,(callFunc g args).run prog w=.ok (.enter g args) w) (R:RowK enc k w0 blk off d0) (hC:CmpLays prog g cb enc k cf blk off d0.size w0)
include aE zE bS hO eg R hC
theorem qdL (a b:Nat)(za zb:Int)(d:Array Dd)(w:World)(n:Nat)(ha:za=a)(hb':zb=b)(hn:n=d.size)(hs:d0.size=d.size)(S:SWK enc k w0 blk off d w)(hab:a<=b)(hb:b<=d.size)(hsz:d.size<4611686018427387904)(hi:∀p q,a<=p->p<q->q<b->(d[p]!).2<(d[q]!).2) :
  Calls prog 139 #[.slice (some ⟨blk,off,none⟩) n cap,.int .i64 za,.int .i64 zb,.func (.func g) #[] cb] w λe w'=>e=.returned (.tuple #[]) /\
   ∃d',SWK enc k w0 blk off d' w'/\QY lt a b d d':=by
 subst ha hb' hn
 have hl:ltOf cf=ltS lt:=by funext x y;exact bS x y
 have M:=qdj hO d a b hab hb hi
 have hs':(Sort.insertionSort (ltS lt) d a b).size=d.size:=M.1.1
 have hC':CmpLays prog g cb enc k cf blk off d.size w:=λm os dk xS x y=>by
  obtain⟨n0,os0,rfl⟩:=S;rw[sortWorldK_on enc k w0 blk off n0 m d dk os0 os R.hblk xS];exact hC _ _ dk Oz x y
 refine(AnyQ.insertionSortCmpFunc (ρ:=Tryz.insL_ren) Tryz.insL k aE zE enc R.hk R.h1 cf g cb blk off cap a b d w eg hC' (S.holds R.hblk R.hH hs.symm) (S.lt R.hblk) hab hb hsz).mono ?_
 rintro e w' ⟨rfl,n,os,rfl⟩
 rw[hl]
 exact⟨rfl,_,S.on R.hblk n _ os hs',M⟩
end
end Go.Proofs.YtikapeaodobkjaaGreat
namespace Go.Proofs
open _root_.Go.Proofs.YtikapeaodobkjaaGreat
open Go.Shelf
def Tryz.compactL_ren:Go.Shelf.Ren:=⟨fun|43=>67|n=>n,fun|22=>124|23=>35|3=>3|4=>4|0=>0|n=>n,fun|n=>n⟩
theorem Tryz.compactL:Go.Proofs.SlLaysE.n43 prog Tryz.compactL_ren:={
 mixed:=by kernel_rfl
 f43:=⟨Tryz.f67.name,by decide,func67.trans (congrArg some Ow)⟩
 t0:=underlying0
 a0:=Tryz.isAgg0
 z0:=Tryz.sizeOf0
 v0:=Tryz.zeroValue0
 t3:=underlying3
 a3:=Tryz.isAgg3
 z3:=Tryz.sizeOf3
 v3:=Tryz.zeroValue3
 t4:=underlying4
 a4:=Tryz.isAgg4
 z4:=Tryz.sizeOf4
 v4:=Tryz.zeroValue4
 t22:=underlying124
 a22:=Tryz.isAgg124
 z22:=Tryz.sizeOf124
 v22:=Tryz.zeroValue124
 a23:=Tryz.isAgg35
 z23:=Tryz.sizeOf35 }
def Tryz.bitsLenL_ren:Go.Shelf.Ren:=⟨fun|125=>79|128=>113|129=>114|n=>n,fun|46=>148|3=>3|51=>188|53=>35|4=>4|5=>5|9=>9|n=>n,fun|n=>n⟩
theorem Tryz.bitsLenL:Go.Proofs.Lays.n125 prog Tryz.bitsLenL_ren:={
 mixed:=by kernel_rfl
 f125:=func79.trans (congrArg some Ow)
 f128:=func113.trans (congrArg some Ow)
 f129:=func114.trans (congrArg some Ow)
 t3:=underlying3
 a3:=Tryz.isAgg3
 z3:=Tryz.sizeOf3
 v3:=Tryz.zeroValue3
 t4:=underlying4
 a4:=Tryz.isAgg4
 z4:=Tryz.sizeOf4
 v4:=Tryz.zeroValue4
 t5:=underlying5
 a5:=Tryz.isAgg5
 z5:=Tryz.sizeOf5
 v5:=Tryz.zeroValue5
 t9:=underlying9
 a9:=Tryz.isAgg9
 z9:=Tryz.sizeOf9
 v9:=Tryz.zeroValue9
 t46:=underlying148
 a46:=Tryz.isAgg148
 z46:=Tryz.sizeOf148
 v46:=Tryz.zeroValue148
 t51:=underlying188
 a51:=Tryz.isAgg188
 z51:=Tryz.sizeOf188
 v51:=Tryz.zeroValue188
 t53:=underlying35
 a53:=Tryz.isAgg35
 z53:=Tryz.sizeOf35
 v53:=Tryz.zeroValue35 }
end Go.Proofs
namespace Go.Proofs
open _root_.Go.Proofs.YtikapeaodobkjaaGreat
open Go.Shelf
def Tryz.searchL_ren:Go.Shelf.Ren:=⟨fun|16=>188|n=>n,fun|3=>3|35=>120|4=>4|38=>148|n=>n,fun|n=>n⟩
theorem Tryz.searchL:Go.Proofs.SlLaysO.n16 prog Tryz.searchL_ren:={
 mixed:=by kernel_rfl
 f16:=func188.trans (congrArg some Ow)
 t3:=underlying3
 a3:=Tryz.isAgg3
 z3:=Tryz.sizeOf3
 v3:=Tryz.zeroValue3
 t4:=underlying4
 a4:=Tryz.isAgg4
 z4:=Tryz.sizeOf4
 v4:=Tryz.zeroValue4
 t35:=underlying120
 a35:=Tryz.isAgg120
 z35:=Tryz.sizeOf120
 v35:=Tryz.zeroValue120
 t38:=underlying148
 a38:=Tryz.isAgg148
 z38:=Tryz.sizeOf148
 v38:=Tryz.zeroValue148 }
end Go.Proofs
