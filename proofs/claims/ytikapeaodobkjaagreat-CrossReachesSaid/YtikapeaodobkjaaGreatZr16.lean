/- What the laws lean on, in a few texts (by shake.py): number 16 of 16. -/
import Derived.Test.YtikapeaodobkjaaGreatZr1
import Derived.Test.YtikapeaodobkjaaGreatZr2
import Derived.Test.YtikapeaodobkjaaGreatZr4
import Derived.Test.YtikapeaodobkjaaGreatZr6
import Derived.Test.YtikapeaodobkjaaGreatZr5
import Derived.Test.YtikapeaodobkjaaGreatZr7
import Derived.Test.YtikapeaodobkjaaGreatZr8
import Derived.Test.YtikapeaodobkjaaGreatZr12
import Derived.Test.YtikapeaodobkjaaGreatZr10
import Derived.Test.YtikapeaodobkjaaGreatZr9
import Derived.Test.YtikapeaodobkjaaGreatZr11
import Derived.Test.YtikapeaodobkjaaGreatZr13
import Derived.Test.YtikapeaodobkjaaGreatZr14
import Derived.Test.YtikapeaodobkjaaGreatZr15
import Derived.Test.YtikapeaodobkjaaGreatZr3
import Derived.Shelf.SlSortCmp.QuietGrown
import Derived.Laws.OwnMore
import Derived.Laws.AppendOwnNone
import Derived.Maps.RangeWalk
import Derived.Deep.DeepCutAuto

set_option maxHeartbeats 16000000
set_option maxRecDepth 1000000
set_option linter.unusedVariables false
set_option linter.unusedSimpArgs false
namespace Go.Proofs.YtikapeaodobkjaaGreat
open _root_.Go.Proofs.Tryz
section
open Go.RowKit Go.Lib Go.Maps Go.Deep
open Classical in
noncomputable def rF (R:Rl)(m:Mt)(p:Int)(i:Nat):Int:=if NoM R m p then 0 else fM R m p i
theorem Yi {R:Rl}{m:Mt}{p:Int}(h:NoM R m p)(i:Nat):rF R m p i=0:=Sx h
theorem K7 {R:Rl}{m:Mt}{p:Int}(h:¬NoM R m p)(i:Nat):rF R m p i=fM R m p i:=Sw h
theorem qb0 {pay:Bool}{l:List Od}{f:Nat->Int}{m:Mt}(h:∀i,f i=0):∀k,Qr pay l f m k=m
 | 0=>rfl
 | k+1=>by
  rw[show Qr pay l f m (k+1)=ZM pay (Qr pay l f m k) l[k]! (f k) from rfl,qb0 h k];unfold ZM;rw[Sw (by rw[h k];omega)]
theorem qkJ {R:Rl}{m:Mt}{p:Int}:Qr (Qy R m) (lvM R m p) (rF R m p) m (nM R m p)=Qq R m p:=by
 unfold Qq
 by_cases h:NoM R m p
 ·rw[Sx h];exact qb0 (λi=>Yi h i) _
 ·rw[Sw h,show rF R m p=fM R m p from funext λi=>K7 h i]
theorem qb1 {R:Rl}{m:Mt}{p:Int}(hg:GM m){i:Nat}(hi:i<nM R m p):0<=rF R m p i/\rF R m p i<=((lvM R m p)[i]!).qty:=by
 by_cases h:NoM R m p
 ·rw[Yi h];have:=J1 (hg.gd _ (Jn (JH (Ww hi ZU))).1);omega
 ·rw[K7 h];exact XK h hi
noncomputable def oB (R:Rl)(m:Mt)(p:Int):Nat->Bool
 | 0=>false
 | i+1=>oB R m p i||decide (rF R m p i<((lvM R m p)[i]!).qty)
theorem qb2 {R:Rl}{m:Mt}{p:Int}:∀i,oB R m p i=false↔∀j,j<i->¬rF R m p j<((lvM R m p)[j]!).qty
 | 0=>⟨λ_ j hj=>absurd hj (Ax _),λ_=>rfl⟩
 | i+1=>by
  rw[oB,Bool.or_eq_false_iff,qb2 i,decide_eq_false_iff_not];constructor
  ·rintro ⟨h1,h2⟩ j hj;by_cases e:j=i
   ·subst e;exact h2
   ·exact h1 j Oz
  ·exact λh=>⟨λj hj=>h j Oz,h i Oz⟩
theorem qkK {R:Rl}{m:Mt}{p:Int}(hg:GM m):oB R m p (nM R m p)=false↔Zi R m p:=by
 rw[qb2]
 unfold Zi
 by_cases hn:nM R m p=0
 ·exact⟨λ_=>.inl hn,λ_ j hj=>by omega⟩
 ·by_cases h:NoM R m p
  ·constructor
   ·intro h1;have:=h1 0 Oz;rw[Yi h]at this;have:=J1 (hg.gd _ (Jn (JH (show 0<(lvM R m p).length by have:=ZU (R:=R) (m:=m) (p:=p);omega))).1);omega
   ·rintro (h1 | ⟨h1,_⟩)
    ·exact absurd h1 hn
    ·exact absurd h h1
  ·constructor
   ·intro h1;refine .inr ⟨h,λi hi=>?_⟩;have:=h1 i hi;have:=XK h hi;rw[K7 h]at *;omega
   ·rintro (h1 | ⟨_,h1⟩) j hj
    ·exact absurd h1 hn
    ·rw[K7 h,h1 j hj];omega
theorem qkL {R:Rl}{m:Mt}{p:Int}(hg:GM m)(hp:1<=p)(hl:1<=R.lot)(h0:m.left<=1099511627776)(hc:InR m.cash){i:Nat}(hi:i<nM R m p)(hq:0<rF R m p i) :
  rF R m p i<=(Qr (Qy R m) (lvM R m p) (rF R m p) m i).left/\(Qr (Qy R m) (lvM R m p) (rF R m p) m i).left<=1099511627776/\(ZN R.side (Qr (Qy R m) (lvM R m p) (rF R m p) m i).cash=Qy R m) /\
  (Qy R m=true->((lvM R m p)[i]!).price*rF R m p i<=(Qr (Qy R m) (lvM R m p) (rF R m p) m i).cash)/\InR (Qr (Qy R m) (lvM R m p) (rF R m p) m i).cash:=by
 by_cases h:NoM R m p
 ·rw[Yi h]at hq;omega
 ·rw[K7 h]at hq;have e:rF R m p=fM R m p:=funext λi=>K7 h i;rw[e];have F:=qbH hg hp hl h h0 hc hi hq;exact⟨F.q1,F.q2,F.pay,λhp=>F.pc (by rw[F.pay];exact hp),F.cr⟩
def Km (ca p g:Int):Int:=if 0<=ca then IntKind.i64.wrap (ca-min ca (IntKind.i64.wrap (p*g))) else ca
theorem qkM (x:Int):InR (IntKind.i64.wrap x):=by unfold InR;rw[Wz];omega
theorem qkN {ca p g:Int}(h:InR ca):InR (Km ca p g):=by
 unfold Km;split
 ·exact qkM _
 ·exact h
theorem qkO {ca p g c:Int}{pay:Bool}(hs:ca=c)(cN:pay=decide (0<=ca))(h1:pay=true->p*g<=c)(h0:0<=p*g)(hr:InR c):Km ca p g=if pay=true then c-p*g else c:=by
 subst hs
 unfold Km
 by_cases hc:0<=ca
 ·have hp:pay=true:=by rw[cN];exact Sy hc
  have h2:=h1 hp;unfold InR at hr;have e1:IntKind.i64.wrap (p*g)=p*g:=by rw[Wz];omega
  rw[Sx hc,Sx hp,e1,Int.min_eq_right h2,Wz];omega
 ·have hp:¬pay=true:=by rw[cN];simpa using hc
  rw[Sw hc,Sw hp]
def qb3 (R:Rl)(m0 m:Mt):Prop:=(m.left=0/\crF R m0=(m,false))∨(0<m.left/\crF R m0=crF R m/\MOk m)
theorem qkP {R:Rl}{m0 m:Mt}{p:Int}(hr:ROk R)(hm:MOk m)(hc:crF R m0=crF R m)(aH:prM R m.L=some p)(he:Zi R m p)(h:nM R m p=(lvM R m p).length∨(Qq R m p).left=0) :
  qb3 R m0 (Qq R m p)/\((Qq R m p).left=0∨(Qq R m p).L.length<m.L.length):=by
 by_cases hl:(Qq R m p).left=0
 ·exact⟨.inl ⟨hl,hc.trans (XN aH (.inr hl))⟩,.inl hl⟩
 ·have h1:=h.resolve_right hl;obtain⟨c1,c2⟩:=GF hr.p hr.l1 hm.gm hm.l0 aH he hl h1;have hM:=hm.aft hr aH he;exact⟨.inr ⟨by have:=hM.l0;omega,hc.trans c1,hM⟩,.inr c2⟩
theorem JI {T:TypeId}{W:World}{c:Nat}{a0 a1 a2 a3:Value}(h:Cl T W c #[a0,a1,a2,a3]):W.cell? ⟨c,0,none⟩=some a0/\W.cell? ⟨c,1,none⟩=some a1/\W.cell? ⟨c,2,none⟩=some a2/\W.cell? ⟨c,3,none⟩=some a3 :=
 ⟨(h.c 0).trans rfl,(h.c 1).trans rfl,(h.c 2).trans rfl,(h.c 3).trans rfl⟩
section
variable {ops:Array Oper}{rest:List Oper}{o:Oper}{a:Act}{w:World}{Q:Exit → Act → World → Prop}
theorem GT:(prog.info? 77).map (·.size)=some 4:=by kernel_rfl
theorem K8 (hgd:o.guard=none)(x y:Operand)(ho:o.op=.store 77 x y)(g:Nat)(cs:Array Value)(hx:a.eval x=.pointer (some ⟨g,0,none⟩))(hy:a.eval y=.agg cs)(old:Array Value)(t:TypeId)
  (hg:Cl t w g old) (hs:old.size=4) (hc:cs.size=4) (h1:cs.all (·.oneCell')=true) (h:wpList prog ops Q rest (a.put o.dst undef) (w.setRow g cs)):wpList prog ops Q (o :: rest) a w :=
 wpList_plain hgd λK hK=>wp_store_row _ x y ho g _ hx hy _ _ hg (by rw[hc];exact GT) (by rw[hs,hc]) h1 (hK _ _ h)
end
theorem qb4 {fn:Func}{p q:Tmp}(h:fn.results=#[.cell p 77,.tmp q])(tmps:Array Value)(w:World)(g:Nat)(hp:tmps.getD p undef=.pointer (some ⟨g,0,none⟩))(cs:Array Value)(t:TypeId)
  (hg:Cl t w g cs) (hc:cs.size=4) (v:Value) (hq:tmps.getD q undef=v):(results fn tmps).run prog w=.ok (.tuple #[.agg cs,v]) w:=by
 have hp':tmps[p]?.getD undef=.pointer (some ⟨g,0,none⟩):=by simpa using hp
 have hq':tmps[q]?.getD undef=v:=by simpa using hq
 simp[results,h,hp',hq',asAddr,run_loadVar_row w g _ _ _ (0,0) _ hg underlying77 rfl (by rw[hc];exact GT)]
def ZV (M:List Od):Prop:=∀x∈M,(0<=x.id/\x.id<=18446744073709551615)/\(0<=x.seq/\x.seq<=18446744073709551615)
theorem GU {M:List Od}(h:ZV M)(i:Nat):ZV (M.eraseIdx i):=λx hx=>h x (OzZ hx)
theorem qkQ {M:List Od}(h:ZV M)(id q:Int):ZV (QU id q M).2:=by
 unfold QU
 split
 ·rename_i hlt
  split
  ·exact h
  ·split
   ·exact GU h _
   ·intro x hx;rcases List.mem_or_eq_of_mem_set hx with hx|rfl
    ·exact h x hx
    ·have:=h (M[QB id M]!) (JH hlt);exact this
 ·exact h
theorem GV {pay:Bool}{l:List Od}{f:Nat->Int}{m:Mt}(h:ZV m.L):∀k,ZV (Qr pay l f m k).L
 | 0=>h
 | k+1=>by
  rw[show Qr pay l f m (k+1)=ZM pay (Qr pay l f m k) l[k]! (f k) from rfl];unfold ZM
  split
  ·exact qkQ (GV h k) _ _
  ·exact GV h k
theorem GX {R:Rl}{m:Mt}{p:Int}(h:ZV m.L):ZV (Qq R m p).L:=by
 unfold Qq;split
 ·exact h
 ·exact GV h _
theorem qkR {x:Od}(hg:Qk x=true)(h:(0<=x.id/\x.id<=18446744073709551615)/\(0<=x.seq/\x.seq<=18446744073709551615))(w:World):Od.ok w x:=by
 have g:=J1 hg
 unfold Od.ok
 refine⟨h.1,?_,?_,?_,?_,h.2⟩<;>omega
structure RMIs (w w':World) (wb:Nat) (r:Mt×Bool) (fv dv:Value):Prop where
 rb:RB w' wb r.1.L
 fo:w'.ownsRow w.heap.size 114 7 fv r.1.F.length (flF r.1.F)
 dr:w'.ownsRow w.heap.size 49 6 dv r.1.D.length (ol r.1.D)
 fr:Fr (λk=>k=wb) w w'
def qb5 (w:World)(wb:Nat)(r:Mt×Bool)(e:Ending)(w':World):Prop :=
 ∃(fv dv:Value),e=.returned (.tuple #[Vy fv dv r.1.left r.2,.int .i64 0])/\Hid (RMIs w w' wb r fv dv)
theorem Yj {a:Act}{W w:World}{c wb:Nat}{fv dv:Value}{lf:Int}{st:Bool}{R:Rl}{m0:Mt}{r:Mt×Bool}(hcr:crF R m0=r)(h6:a.tmps.getD 6 undef=.pointer (some ⟨c,0,none⟩))(h7:a.tmps.getD 7 undef=.int .i64 0)(hd:a.defers=[])(hW:Cl 77 W c #[fv,dv,.int .i64 lf,.bool st])(h1:r.1.left=lf)(h2:r.2=st)(hi:Hid (RMIs w W wb r fv dv)) :
  bodyPost prog Tryz.f35 (qb5 w wb (crF R m0)) .ret a W:=by
 rw[hcr]
 refine bodyPost_ret (qb4 rfl _ _ c h6 _ _ hW rfl (.int .i64 0) h7) hd ?_
 exact⟨_,_,by rw[h1,h2],hi⟩
theorem Yk {w w5 w6:World}{c8 wb:Nat}{cs:Array Value}(hb:Ok w w5)(hc:Cl 77 w5 (w.heap.size+1+1) cs)(hw:wb<w.heap.size)(h8:w.heap.size+3<=c8)(hf:Fr (RFt w.heap.size c8 wb (.slice none 0 0) (.slice none 0 0)) w5 w6):Cl 77 w6 (w.heap.size+1+1) cs:=by
 refine hf.blk hc (λhj=>?_)
 rcases hj with hj|hj|hj|hj|hj
 ·omega
 ·omega
 ·omega
 ·simp[Value.ownBlock]at hj
 ·simp[Value.ownBlock]at hj
theorem Yl {w w5 w6:World}{c8 wb:Nat}{R:Rl}{q0:Int}{m:Mt}{ca:Int}{fv dv:Value}{st:Bool}{cs:Array Value}(hb:Ok w w5)(t:RTurn w5 w6 w.heap.size w.heap.size (w.heap.size+1) c8 wb R q0 m ca (.slice none 0 0) (.slice none 0 0) fv dv st)(h8:w.heap.size+3<=c8)(hw:wb<w.heap.size)
  (hcl:Cl 77 w6 (w.heap.size+1+1) cs) {r:Mt×Bool} (hr:r=(m,st)) (cs':Array Value):RMIs w (w6.setRow (w.heap.size+1+1) cs') wb r fv dv:=by
 subst hr
 have hf:Fr (λj=>j=w.heap.size+1+1) w6 (w6.setRow (w.heap.size+1+1) cs'):=⟨rfl,rfl,rfl,by simp[World.setRow],λj hj hne=>setRow_other _ _ _ _ hne⟩
 obtain⟨A,c,h1,h2,_⟩:=t.rw_.rb
 refine⟨⟨A,c,hf.blk h1 Oz,Qi h2 hf (λj hj h=>by subst h;exact Qo h2 hcl Ox hj)⟩,Qi t.rw_.fo hf (λj hj h=>by subst h;exact Qo t.rw_.fo hcl Ox hj),Qi t.rw_.dr hf (λj hj h=>by subst h;exact Qo t.rw_.dr hcl Ox hj),?_⟩
 refine((Fr.of_below hb:Fr (λk=>k=wb) w w5).trans t.fr (λj hj=>?_)).trans hf (λj hj=>.inr Oz)
 rcases hj with h|h|h|h|h
 ·right;omega
 ·right;omega
 ·exact .inl h
 ·simp[Value.ownBlock]at h
 ·simp[Value.ownBlock]at h
theorem qkS {w:World}{A:Option Addr}{n m:Nat}{L:List Od}(h:Ods w A n L)(hm:m<=n):Ods w A m (L.take m):=by
 obtain⟨h1,h2,h3,h4⟩:=h
 refine⟨by rw[Wy];omega,by omega,λx hx=>h3 x (Fx hx),?_⟩
 rcases h4 with h0 | ⟨b,off,e,hb,hc⟩
 ·exact .inl Oz
 ·refine .inr ⟨b,off,e,hb,λi hi=>?_⟩;rw[Vd hi];exact hc i Oz
structure RdIn (y5 wr:World) (base c4 c5 c8 wb:Nat) (R:Rl) (q0:Int) (m m1:Mt) (ca1:Int) (fv dv fv1:Value) (p:Int) (LA PA:Option Addr) (nl mm:Nat):Prop where
 tu:RTurn y5 wr base c4 c5 c8 wb R q0 m1 ca1 fv dv fv1 dv false
 run:Ods wr LA nl (lvM R m p)
 rf:∀b off,LA=some ⟨b,off,none⟩->¬RFt c4 c8 wb fv1 dv b
 par:mm=0∨∃b,PA=some ⟨b,0,none⟩/\wr.rowIs b 2 mm (λi=>.int .i64 (fM R m p i))/\¬RFt c4 c8 wb fv1 dv b
theorem qb6 {w w':World}{base c4 c5 c8 wb:Nat}{R:Rl}{q0:Int}{m1:Mt}{ca:Int}{fv dv fv1:Value}(t:RTurn w w' base c4 c5 c8 wb R q0 m1 ca fv dv fv1 dv false){b:Nat}(hb:b<w.heap.size)(hn:¬RFt c4 c8 wb fv dv b):¬RFt c4 c8 wb fv1 dv b:=λhf=>by
 rcases hf with hf|hf|hf|hf|hf
 ·exact hn (.inl hf)
 ·exact hn (.inr (.inl hf))
 ·exact hn (.inr (.inr (.inl hf)))
 ·rcases t.ff b hf with h1|h1
  ·exact hn (.inr (.inr (.inr (.inl h1))))
  ·omega
 ·exact hn (.inr (.inr (.inr (.inr hf))))
theorem RdIn.next {y5 wr w7:World}{base c4 c5 c8 wb:Nat}{R:Rl}{q0:Int}{m m1 m2:Mt}{ca1 ca2:Int}{fv dv fv1 fv2:Value}{p:Int}{LA PA:Option Addr}{nl mm:Nat}(h:RdIn y5 wr base c4 c5 c8 wb R q0 m m1 ca1 fv dv fv1 p LA PA nl mm)(t:RTurn wr w7 base c4 c5 c8 wb R q0 m2 ca2 fv1 dv fv2 dv false)(hl:∀b off,LA=some ⟨b,off,none⟩->b<wr.heap.size) :
  RdIn y5 w7 base c4 c5 c8 wb R q0 m m2 ca2 fv dv fv2 p LA PA nl mm:=by
 refine⟨h.tu.trans t,qan h.run t.fr (λb off e=>h.rf b off e),λb off e=>qb6 t (hl b off e) (h.rf b off e),?_⟩
 rcases h.par with h0 | ⟨b,e,hr,hn⟩
 ·exact .inl h0
 ·exact .inr ⟨b,e,qbK t.fr hn hr,qb6 t hr.lt hn⟩
theorem qkT {w w5 y1 y2 y4 y5:World}{base c4 c5 c8 wb:Nat}{R:Rl}{q0:Int}{m:Mt}{ca:Int}{fv dv:Value}{p:Int}{LA PA:Option Addr}{nl mm lc:Nat}
  (H:RW y1 base c4 c5 c8 wb R q0 m ca fv dv false) (hrow:y2.ownsRow y1.heap.size 49 6 (.slice LA nl lc) nl (ol (lvM R m p))) (hO:Ods y2 LA nl (lvM R m p)) (b12:Ok y1 y2) (b24:Ok y2 y4) (b45:Ok y4 y5)
  (hp:mm=0∨∃b,PA=some ⟨b,0,none⟩/\y4.heap.size<=b/\y5.rowIs b 2 mm (λi=>.int .i64 (fM R m p i))) :
  RdIn y5 y5 base c4 c5 c8 wb R q0 m m ca fv dv fv p LA PA nl mm/\(∀b off,LA=some ⟨b,off,none⟩->b<y5.heap.size):=by
 have b25:=b24.trans (b45.mono b24.size)
 have b15:=b12.trans (b25.mono b12.size)
 have uY:∀b off,LA=some ⟨b,off,none⟩->y1.heap.size<=b/\b<y2.heap.size:=λb off e=>hrow.lt b (by rw[e];rfl)
 refine⟨⟨RTurn.same (H.below b15),hO.below b25,λb off e=>H.far (uY b off e).1,?_⟩,λb off e=>Ww (uY b off e).2 b25.size⟩
 rcases hp with h0 | ⟨b,e,hb,hr⟩
 ·exact .inl h0
 ·exact .inr ⟨b,e,hr,H.far (by have:=b12.size;have:=b24.size;omega)⟩
theorem Ym {T:TypeId}{W:World}{c:Nat}{a0 a1 a2:Value}(h:Cl T W c #[a0,a1,a2]):W.cell? ⟨c,0,none⟩=some a0/\W.cell? ⟨c,1,none⟩=some a1/\W.cell? ⟨c,2,none⟩=some a2:=⟨(h.c 0).trans rfl,(h.c 1).trans rfl,(h.c 2).trans rfl⟩
theorem qb7 {pay:Bool}{l:List Od}{f:Nat->Int}{m:Mt}:∀k,(Qr pay l f m k).L.length<=m.L.length
 | 0=>Sq _
 | k+1=>by
  have ih:=qb7 (pay:=pay) (l:=l) (f:=f) (m:=m) k;rw[show Qr pay l f m (k+1)=ZM pay (Qr pay l f m k) l[k]! (f k) from rfl];unfold ZM
  split
  ·refine Sk ?_ ih;show (QU _ _ _).2.length<=_;unfold QU
   split
   ·split
    ·exact Sq _
    ·split
     ·rw[Ry];split<;>omega
     ·rw[Wk];exact Sq _
   ·exact Sq _
  ·exact ih
theorem qkU {w w7:World}{base c4 c5 c8 wb:Nat}{R:Rl}{q0:Int}{L':List Od}{lf' c c2:Int}{F':List (Od×Int)}{D':List Od}{ca p q:Int}{fv dv fv1 dv1:Value}{st:Bool}(H:RTurn w w7 base c4 c5 c8 wb R q0 ⟨L',lf',c,F',D'⟩ ca fv dv fv1 dv1 st)(hc:R.side=1->Km ca p q=c2) :
  (0<=ca->RTurn w (w7.setCell ⟨c4,4,none⟩ (.int .i64 (wrap64 (ca-min ca (wrap64 (p*q)))))) base c4 c5 c8 wb R q0 ⟨L',lf',c2,F',D'⟩ (Km ca p q) fv dv fv1 dv1 st)/\(¬0<=ca->RTurn w w7 base c4 c5 c8 wb R q0 ⟨L',lf',c2,F',D'⟩ (Km ca p q) fv dv fv1 dv1 st):=by
 constructor
 ·intro h0;have hw:∀x,IntKind.i64.wrap x=wrap64 x:=λx=>by rw[Wz];unfold wrap64;rfl
  have e:Km ca p q=wrap64 (ca-min ca (wrap64 (p*q))):=by rw[<-hw,<-hw];exact Sx h0
  refine H.trans (RTurn.setT (m':=⟨L',lf',c2,F',D'⟩) H.rw_ ?_ rfl rfl rfl rfl hc (qkN H.rw_.cr));rw[e];exact QK (k:=4) (v:=.int .i64 (wrap64 (ca-min ca (wrap64 (p*q))))) H.rw_.t
 ·intro h0;have e:Km ca p q=ca:=Sw h0;obtain⟨h,f,g1,g2⟩:=H;refine⟨⟨by rw[e];exact h.t,h.md,h.r,h.rb,h.fo,h.dr,h.lo,hc,by rw[e];exact h.cr⟩,f,g1,g2⟩
theorem qkV:(prog.info? 114).map (λi=>(i.zero,i.size,i.bytes))=some (some (.agg (Z4 (⟨0,0,0,0,0,0⟩,0)).toArray),7,56):=by kernel_rfl
theorem qkW:(prog.info? 49).map (λi=>(i.zero,i.size,i.bytes))=some (some (.agg (OC ⟨0,0,0,0,0,0⟩)),6,48):=by kernel_rfl
structure RHd (w w5 wr:World) (c8 wb:Nat) (R:Rl) (q0:Int) (m0 m:Mt) (ca:Int) (fv dv:Value):Prop where
 tu:RTurn w5 wr w.heap.size w.heap.size (w.heap.size+1) c8 wb R q0 m ca (.slice none 0 0) (.slice none 0 0) fv dv false
 ah:qb3 R m0 m
 ok:ZV m.L
theorem qkX (wb:Nat)(R:Rl)(q0 cash:Int)(L:List Od)(w:World)(HB:RB w wb L)(hL:L.length<=64)(hg:GM ⟨L,q0,cash,[],[]⟩)(hok:ZV L)(hf:FitP R q0)(hc:InR cash) :
  Calls prog 35 #[ptA wb,.agg #[.int .i64 R.acc,.int .i64 R.side,.int .i64 R.price,.int .i64 q0,.int .i64 cash],.agg #[.int .i64 R.lot,.int .i64 R.mode,.int .i64 R.self]] w (qb5 w wb (crF R ⟨L,q0,cash,[],[]⟩)):=by
 have hr:ROk R:=⟨hf.side,GH hf,by have:=hf.m0;have:=hf.m1;omega,hf.l0,hf.l1⟩
 have HR:=Ou hr
 have wX:Hid (MOk ⟨L,q0,cash,[],[]⟩):=Ou ⟨hg,by have:=hf.q0;show 0<=q0;omega,hf.q1,hc,by show 0+L.length<=64;omega,by show 0+L.length<=64;omega⟩
 have HQ0:=Ou hf.q0
 have x8:=Ou (λW=>qbD exX R q0 cash W true ⟨λ_=>hf,λ_=>rfl⟩)
 have dW:Hid (wb<w.heap.size):=Ou (by obtain⟨A,c,h1,_⟩:=HB;exact Qc h1)
 have gT:=Ou HB
 have zN:=Ou hok
 obtain⟨w3,hw3⟩:∃w3,((w.alloc (.cells #[.int .i64 R.acc,.int .i64 R.side,.int .i64 R.price,.int .i64 q0,.int .i64 cash] 80)).alloc (.cells #[.int .i64 R.lot,.int .i64 R.mode,.int .i64 R.self] 82)).alloc (.cells #[.slice none 0 0,.slice none 0 0,.int .i64 0,.bool false] 77)=w3:=⟨_,rfl⟩
 have b3:Ok w w3:=by rw[<-hw3];exact(((Oq _ _).alloc (Sq _) _).alloc Oy _).alloc (by simp;omega) _
 have s3:w3.heap.size=w.heap.size+3:=by rw[<-hw3];simp
 have c4:Cl 80 w3 w.heap.size #[.int .i64 R.acc,.int .i64 R.side,.int .i64 R.price,.int .i64 q0,.int .i64 cash]:=by rw[<-hw3];exact Qp (by simp;omega) (Qp Oy (Qe rfl))
 have c5:Cl 82 w3 (w.heap.size+1) #[.int .i64 R.lot,.int .i64 R.mode,.int .i64 R.self]:=by rw[<-hw3];exact Qp Oy (Qe Oy)
 have c6:Cl 77 w3 (w.heap.size+1+1) #[.slice none 0 0,.slice none 0 0,.int .i64 0,.bool false]:=by rw[<-hw3];exact Qe Oy
 have HC:=Ou (Sv b3 (Sv c4 (Sv c5 (Sv c6 s3))))
 obtain⟨t0,t1,t2,t3,t4⟩:=ZO c4
 have d0:w3.cell? ⟨w.heap.size+1,0,none⟩=some (.int .i64 R.lot):=(c5.c 0).trans rfl
 have d1:w3.cell? ⟨w.heap.size+1,1,none⟩=some (.int .i64 R.mode):=(c5.c 1).trans rfl
 have d2:w3.cell? ⟨w.heap.size+1,2,none⟩=some (.int .i64 R.self):=(c5.c 2).trans rfl
 clear HB hL hg hok hf hc hr b3 s3 c4 c5 c6
 go_enter func35,ntmps35
 go_wp2_with fail
 ((with_reducible refine(x8.out _).mono ?_);rintro e w4 ⟨rfl,hb4⟩)
 obtain⟨w5,hw5⟩:∃w5,(w4.alloc (.cells #[.slice none 0 0,.slice none 0 0,.int .i64 0,.bool false] 77)).setRow w4.heap.size #[.slice none 0 0,.slice none 0 0,.int .i64 q0,.bool false]=w5:=⟨_,rfl⟩
 have b45:Ok w4 w5:=by rw[<-hw5];exact Zy (Zp _ _) (Sq _)
 have b35:Ok w3 w5:=hb4.trans (b45.mono hb4.size)
 have c8:Cl 77 w5 w4.heap.size #[.slice none 0 0,.slice none 0 0,.int .i64 q0,.bool false]:=by rw[<-hw5];exact setRow_heap _ _ _ _ _ _ (Qe rfl)
 obtain⟨hC3,hC4,hC5,hC6,hs3⟩:=HC.out
 have gQ:Hid (Ok w w5):=Ou (hC3.trans (b35.mono hC3.size))
 have dQ:=Ou (Cl.bel hC6 b35)
 have gU:Hid (w.heap.size+3<=w4.heap.size):=Ou (by have:=hb4.size;omega)
 have tA:Hid (RW w5 w.heap.size w.heap.size (w.heap.size+1) w4.heap.size wb R q0 ⟨L,q0,cash,[],[]⟩ cash (.slice none 0 0) (.slice none 0 0) false):=Ou (by
  obtain⟨A,c,h1,h2⟩:=GI gT.out gQ.out
  exact⟨Cl.bel hC4 b35,Cl.bel hC5 b35,c8,⟨A,c,h1,h2,λj _ hj=>by simp[Value.ownBlock]at hj⟩,World.ownsRow_nil _ _ _ _,World.ownsRow_nil _ _ _ _,gQ.out.size,λ_=>rfl,wX.out.cr⟩)
 have e3:=(ZO (Cl.bel hC4 hb4)).2.2.2.1
 clear hb4 b45 b35 c8 hC3 hC4 hC5 hC6 hs3 HC x8 t0 t1 t2 t3 t4 d0 d1 d2 hw3 gT
 have HO1:=Ou (ZH (A:=none) (B:=none) (n:=0) (c:=0) (n':=0) (c':=0) (lf:=q0) (st:=false))
 go_wp2_with ((with_reducible apply K8);rfl;rfl;rfl;rfl;exact(show Cl 77 _ w4.heap.size _ from Qe rfl);rfl;rfl;exact HO1.out;skip)
 rw[hw5]
 go_simp
 go_loopg [9] (L.length+1) (λkx s9 wr=>∃(m:Mt) (ca:Int) (fv dv v9:Value),s9=v9/\(m.left=0∨m.L.length+1<=kx)/\Hid (RHd w w5 wr w4.heap.size wb R q0 ⟨L,q0,cash,[],[]⟩ m ca fv dv))
 case atStart=>exact⟨_,_,_,_,_,rfl,.inr (Sq _),Ou ⟨RTurn.same tA.out,.inr ⟨by have:=HQ0.out;show 0<q0;omega,rfl,wX.out⟩,zN.out⟩⟩
 case round =>
  clear tA e3;obtain⟨m,ca,fv,dv,v9,rfl,aP,hI⟩:=hrel;obtain⟨lf,aQ⟩:∃x,m.left=x:=⟨_,rfl⟩
  obtain⟨z0,z1,z2,z3⟩:=JI hI.out.tu.rw_.r;rw[aQ]at z2 aP;have mM:=Ou aQ;clear aQ;by_cases hl0:0<lf
  ·have hld:decide (0<lf)=true:=Sy hl0;obtain⟨hcm,hmo⟩:crF R ⟨L,q0,cash,[],[]⟩=crF R m/\MOk m:=by
    rcases hI.out.ah with ⟨h,_⟩ | ⟨_,h1,h2⟩
    ·rw[mM.out]at h;omega
    ·exact⟨h1,h2⟩
   have hkm:m.L.length+1<=gk:=by rcases aP with h|h;omega;exact h
   have HK:=Ou hkm;have rY:=Ou hcm;have cX:=Ou hmo;obtain⟨t0,t1,t2,t3,t4⟩:=ZO hI.out.tu.rw_.t;have mE:=Ou (qj7 wb m.L R q0 ca wr hI.out.tu.rw_.RB (by have:=hmo.fn;omega) HR.out.s);clear aP hcm hmo hkm hl0
   cases aH:prM R m.L with
   | none =>
    rw[aH]at mE;simp only[Option.getD_none,Option.isSome_none]at mE;have fW:Hid (crF R ⟨L,q0,cash,[],[]⟩=(m,false)):=Ou (rY.out.trans (qbx aH));clear aH z0 z1 z3;go_wp2_with fail
    ((with_reducible refine mE.out.mono ?_);rintro e y1 ⟨rfl,hb1⟩);have HE:=Ou (hI.out.tu.grow hb1);clear hb1 mE t0 t1 t2 t3 t4 z2
    as_aux_lemma =>
    obtain⟨FA9,fc9,eF⟩:=Zj HE.out.rw_.fo;obtain⟨DA9,dc9,eD⟩:=Zj HE.out.rw_.dr;(first|subst eF|clear eF);(first|subst eD|clear eD);obtain⟨z0,z1,z2,z3⟩:=JI HE.out.rw_.r;have bA:=Ou (Yk gQ.out dQ.out dW.out gU.out HE.out.fr);have lC:=Ou (Yl (w:=w) gQ.out HE.out gU.out dW.out bA.out (r:=(m,false)) rfl);clear HE;go_wp2_with (first|((with_reducible apply K8);rfl;rfl;rfl;rfl;exact bA.out;rfl;rfl;exact ZH;skip)|((with_reducible apply Yj fW.out);rfl;rfl;rfl;exact(setRow_heap _ _ _ _ _ _ bA.out);rfl;rfl;exact(Ou (lC.out _))))
   | some p =>
    rw[aH]at mE;simp only[Option.getD_some,Option.isSome_some]at mE;have bH:=Ki cX.out.gm aH;have HP:=Ou (Sv aH bH);have hw:(Lit.int .i64 (3-R.side)).wf=true:=by rcases HR.out.s with h|h<;>rw[h]<;>rfl
    have hsub:IntKind.i64.wrap (3-R.side)=3-R.side:=by rw[Wz];have:=HR.out.s;omega
    have l64:m.L.length<=64:=by have:=cX.out.fn;omega
    have iB:Hid (∀W,Ok wr W->Calls prog 29 #[ptA wb,.int .i64 (3-R.side),.int .i64 p] W λe w'=>∃v,e=.returned v/\Hid (w'.ownsRow W.heap.size 49 6 v (lvM R m p).length (ol (lvM R m p))/\Ok W w')):=Ou (λW hW=>qhV wb (3-R.side) p m.L W (GI hI.out.tu.rw_.RB hW) Oz);have pV:(lvM R m p).length<=64:=Sk (by unfold lvM;exact V4 _ _ _) l64;have qR:Hid ((lvM R m p).length<=1000):=Ou Oz;have kV:Hid (∀(W:World),∀x∈lvM R m p,Od.ok W x):=Ou (λW x hx=>qkR (cX.out.gm.gd x (Jn hx).1) (hI.out.ok x (Jn hx).1) W);have j6:Hid (∀W A n c,Ods W A n (lvM R m p)->Calls prog 58 #[.int .i64 R.self,.int .i64 R.acc,.slice A n c] W λe w'=>e=.returned (.int .i64 (nM R m p))/\Ok W w'):=Ou (λW A n c hO=>qfI R.self R.acc A n c (lvM R m p) W hO (by rw[<-hO.1];omega))
    obtain⟨d0,d1,d2⟩:=Ym hI.out.tu.rw_.md;clear aH bH l64 pV;go_wp2_with fail
    ((with_reducible refine mE.out.mono ?_);rintro e y1 ⟨rfl,hb1⟩);have H1:=Ou (hI.out.tu.rw_.below hb1);have tV:=iB.out y1 hb1;clear mE iB t0 t1 t2 t3 t4 z0 z1 z2 z3 d0 d1 d2;obtain⟨t0,t1,t2,t3,t4⟩:=ZO H1.out.t;obtain⟨d0,d1,d2⟩:=Ym H1.out.md;obtain⟨z0,z1,z2,z3⟩:=JI H1.out.r;rw[mM.out]at z2;go_wp2_with fail
    ((with_reducible refine tV.mono ?_);rintro e y2 ⟨vL,rfl,hL⟩);obtain⟨LA,lc,rfl,hlc,hO⟩:=VJ hL.out.1 qR.out (kV.out _);obtain⟨bL,oL,rfl⟩:∃b off,LA=some ⟨b,off,none⟩:=by
     rcases hO.2.2.2 with h | ⟨b,off,e,_⟩
     ·have:=XL HP.out.1;omega
     ·exact⟨b,off,e⟩
    replace hlc:=hlc.1;have HO:=Ou hO;have oG:=Ou hL.out;have H2:=Ou (H1.out.below hL.out.2);obtain⟨nl,hnl⟩:∃n,(lvM R m p).length=n:=⟨_,rfl⟩
    obtain⟨nr,xY⟩:∃n,nM R m p=n:=⟨_,rfl⟩
    have hRn:=j6.out y2 _ _ lc hO;rw[xY,hnl]at hRn;have kU:=Ou hnl;have iM:=Ou xY;have vB:nr<=nl:=by rw[<-xY,<-hnl];exact ZU
    have hnl6:nl<=1000:=by rw[<-hnl];exact qR.out
    rw[hnl]at hO hlc;have aN:=Ou hb1;clear hO hL tV hb1 j6 kV qR xY t0 t1 t2 t3 t4 z0 z1 z2 z3 d0 d1 d2;obtain⟨d0,d1,d2⟩:=Ym H2.out.md;obtain⟨t0,t1,t2,t3,t4⟩:=ZO H2.out.t;rw[hnl];clear hnl;go_wp2_with fail
    ((with_reducible refine hRn.mono ?_);rintro e y3 ⟨rfl,hb3⟩);have H3:=Ou (H2.out.below hb3);have bT:=Ou hb3;clear hRn hb3 d0 d1 d2 t0 t1 t2 t3 t4;obtain⟨t0,t1,t2,t3,t4⟩:=ZO H3.out.t;obtain⟨d0,d1,d2⟩:=Ym H3.out.md;obtain⟨z0,z1,z2,z3⟩:=JI H3.out.r;rw[mM.out]at z2;obtain⟨bP,hbP⟩:∃b,Qy R m=b:=⟨_,rfl⟩
    have mO:=Ou hbP;clear hbP;go_upto_region 11 with fail
    go_cut [61] from 28 to 186 (λs61 wx=>s61=.bool bP/\y3=wx)
    case first =>
     by_cases hs1:R.side=1
     ·have e1:(R.side==1)=true:=by simp[hs1]
      have HE:Hid (bP=decide (0<=ca)):=Ou (by rw[<-mO.out,H3.out.cs hs1];unfold Qy;rw[e1];rfl);clear hs1;go_wp2_with fail
      go_meet
      case rel=>exact⟨by rw[HE.out],rfl⟩
     ·have e1:(R.side==1)=false:=by simp[hs1]
      have HE:Hid (bP=false):=Ou (by rw[<-mO.out];unfold Qy;rw[e1];rfl);clear hs1;go_wp2_with fail
      go_meet
      case rel=>exact⟨by rw[HE.out],rfl⟩
    case rest =>
    obtain⟨rfl,rfl⟩:=hcut;go_upto_if 61 with fail
    have HMs:Hid (bP=true->R.side=1/\0<=ca):=Ou (λh=>by
     have h1:=mO.out.trans h;unfold Qy at h1;simp only[Iv,decide_eq_true_eq,beq_iff_eq]at h1
     exact⟨h1.1,by rw[H3.out.cs h1.1];exact h1.2⟩)
    obtain⟨ms,hms⟩:∃x,ZT R m p=x:=⟨_,rfl⟩
    have kS:=Ou hms;clear hms;go_cut [13] from 28 to 186 (λgP wx=>gP=.int .i64 ms/\Hid (Ok y3 wx))
    case first =>
     cases bP with
     | false =>
      go_wp2_with fail
      go_meet
      case rel=>exact⟨by rw[<-kS.out];unfold ZT;rw[mO.out,Sw (by simp)];rw[mM.out],Ou (Oq _ _)⟩
     | true =>
      obtain⟨hs1,hc0⟩:=HMs.out rfl;have hp0:¬p=0:=by have:=HP.out.2.1;omega
      have hpz:(p==0)=false:=by simp[hp0]
      have HQ:Hid (InR (ca / p)/\IntKind.i64.wrap (ca.tdiv p)=ca / p):=Ou (by
       have h1:=Ex hc0 (show (0:Int)<=p by have:=HP.out.2.1;omega);have h2:=Int.ediv_le_self p hc0;have h3:=H3.out.cr;unfold InR at *;rw[Mv hc0,Wz]
       omega)
      have cM:Hid (∀W,Calls prog 59 #[.int .i64 R.lot,.int .i64 (IntKind.i64.wrap (ca.tdiv p))] W λe w'=>e=.returned (.int .i64 (Qj R.lot (ca / p)))/\W=w'):=Ou (λW=>by
       rw[HQ.out.2];exact Jt _ _ HQ.out.1 (by have:=HR.out.l1;have:=HR.out.l2;unfold InR;omega) W)
      have oQ:Hid (∀W,Ok y3 W->W.cell? ⟨w.heap.size+1,0,none⟩=some (.int .i64 R.lot)):=Ou (λW hW=>((Cl.bel H3.out.md hW).c 0).trans rfl);have NCa:Hid (∀W,Ok y3 W->W.cell? ⟨w.heap.size,4,none⟩=some (.int .i64 ca)):=Ou (λW hW=>((Cl.bel H3.out.t hW).c 4).trans rfl);have zU:=Ou hs1;clear hs1 hc0;go_upto_region 12 with fail
      refine wp_region_held_drew (S:=λW=>Ok y3 W) Ow (by exact(Oq _ _).drew) (λhHeld=>?_);refine tkA 0 ?_;refine tkA 1 ?_;refine tkH 2 ?_ ?_ Ov ?_;rotate_left
      ·(intro w hSw;have hs:=oQ.out _ hSw;(try dsimp only at hSw);go_simp;try with_reducible rfl)
      (try simp only[zz]);refine tkA 3 ?_;refine tkH 4 ?_ ?_ Ov ?_;rotate_left
      ·(intro w hSw;have hs:=NCa.out _ hSw;(try dsimp only at hSw);go_simp;try with_reducible rfl)
      (try simp only[zz]);refine tkA 5 ?_;refine tkA 6 ?_;(try simp only[zz]);refine rdH 7 (λK hK=>?_);go_simp;((with_reducible refine(cM.out _).mono ?_);rintro e y9 ⟨rfl,rfl⟩);refine hK.out _ _ (by exact hHeld) (λhHeld=>?_);clear hK K;(try simp only[zz]);refine tkA 8 ?_;refine tkA 9 ?_;(try simp only[zz]);refine wpAnyH_done Ow ?_ _;go_wp2_with fail
      go_meet
      case rel=>exact⟨by rw[<-kS.out];unfold ZT;rw[mO.out,Sx rfl,mM.out,H3.out.cs zU.out],Ou (Oq _ _).drew⟩
    case rest =>
    obtain⟨rfl,i9⟩:=hcut;clear HMs t0 t1 t2 t3 t4 d0 d1 d2 z0 z1 z2 z3;have tN:Hid (∀W,Ok wc W->W.cell? ⟨w.heap.size+1,1,none⟩=some (.int .i64 R.mode)):=Ou (λW hW=>((Cl.bel (Cl.bel H3.out.md i9.out) hW).c 1).trans rfl);have oQ:Hid (∀W,Ok wc W->W.cell? ⟨w.heap.size+1,0,none⟩=some (.int .i64 R.lot)):=Ou (λW hW=>((Cl.bel (Cl.bel H3.out.md i9.out) hW).c 0).trans rfl)
    have jA:Hid (∀W,Ok wc W->Calls prog 60 #[.int .i64 R.mode,.slice (some ⟨bL,oL,none⟩) nr lc,.int .i64 ms,.int .i64 R.lot] W (YP W R.mode nr (QM R m p) ms R.lot)):=Ou (λW hW=>by
     have h:=qkS (HO.out.below ((bT.out.trans (i9.out.mono bT.out.size)).trans (hW.mono (Sk bT.out.size i9.out.size)))) (show nr<=(lvM R m p).length by rw[kU.out];exact vB);rw[show QM R m p=qs ((lvM R m p).take nr) by rw[<-iM.out];rfl]
     exact qfA R.mode (some ⟨bL,oL,none⟩) nr lc _ ms R.lot (by have:=HR.out.l1;have:=HR.out.l2;unfold InR;omega) W h Oz)
    have hcn:nr<=lc:=Sk vB hlc;go_upto_region 13 with fail
    refine wp_region_held_drew (S:=λW=>Ok wc W) Ow (by exact(Oq _ _).drew) (λhHeld=>?_);refine tkA 0 ?_;refine tkH 1 ?_ ?_ Ov ?_;rotate_left
    ·(intro w hSw;have hs:=tN.out _ hSw;(try dsimp only at hSw);go_simp;try with_reducible rfl)
    (try simp only[zz]);refine tkA 2 ?_;refine tkA 3 ?_;refine tkA 4 ?_;refine tkA 5 ?_;refine tkA 6 ?_;refine tkH 7 ?_ ?_ Ov ?_;rotate_left
    ·(intro w hSw;have hs:=oQ.out _ hSw;(try dsimp only at hSw);go_simp;try with_reducible rfl)
    (try simp only[zz]);refine rdH 8 (λK hK=>?_);go_simp;((with_reducible refine(jA.out _ hHeld).mono ?_);rintro e y5 ⟨PA,mm,PC,rfl,pX,hsh⟩);have hS1:=Ou hHeld.size;refine hK.out _ _ (by exact hHeld.trans (hsh.out.1.mono hHeld.size)) (λhHeld=>?_);clear hK K;(try simp only[zz]);refine tkA 9 ?_;(try simp only[zz]);refine wpAnyH_done Ow ?_ _;have H5:=Ou (Sv hHeld hsh.out);have hmr:=pX
    have HM:Hid ((mm=0/\NoM R m p)∨(mm=nr/\¬NoM R m p)):=Ou (by
     have e:NoM R m p=Jf R.mode (QM R m p) ms R.lot:=by unfold NoM;rw[kS.out]
     rw[e];rcases H5.out.2.2.2 with h | ⟨h1,h2,h3⟩
     ·exact .inl h
     ·refine .inr ⟨h1,?_⟩;rintro (h|h|h|h)
      ·exact h h2
      ·have:=h3.t;have:=h3.t1;omega
      ·have:=h3.y1;omega
      ·have:=h3.y2;omega)
    have eW:Hid (RdIn y5 y5 w.heap.size w.heap.size (w.heap.size+1) w4.heap.size wb R q0 m m ca fv dv fv p (some ⟨bL,oL,none⟩) PA nl mm/\(∀b off,(some ⟨bL,oL,none⟩:Option Addr)=some ⟨b,off,none⟩->b<y5.heap.size)):=Ou (by
     have hrow:=oG.out.1;have hOd:=HO.out;rw[kU.out]at hrow hOd;refine qkT (w:=w) (w5:=w5) H1.out hrow hOd oG.out.2 (bT.out.trans (i9.out.mono bT.out.size)) H5.out.1 ?_;rcases H5.out.2.2.1 with h | ⟨b,e,h1,h2⟩
     ·exact .inl h
     ·refine .inr ⟨b,e,Sk hS1.out h1,?_⟩;show y5.rowIs b _ mm (λi=>.int .i64 (gtN R.mode R.lot (ZT R m p) (QM R m p) i))
      rw[kS.out];exact h2)
    have HT5:Hid (RTurn wr y5 w.heap.size w.heap.size (w.heap.size+1) w4.heap.size wb R q0 m ca fv dv fv dv false):=Ou (by
     have h3:RTurn wr y3 w.heap.size w.heap.size (w.heap.size+1) w4.heap.size wb R q0 m ca fv dv fv dv false:=(((RTurn.bel hI.out.tu.rw_ aN.out).grow oG.out.2).grow bT.out)
     exact(h3.grow i9.out).grow H5.out.1)
    clear hHeld hsh hS1 jA tN oQ H1 H2 H3 HO oG bT i9 H5 aN;go_wp2_with fail
    go_loopg [15,16] nr (λkx mD i7 wr2=>∃(i:Nat) (b15:Bool) (ca1:Int) (fv1:Value),mD=.bool b15/\i7=.int .i64 (i:Int)/\i<=nr/\nr-i<=kx/\Hid (b15=oB R m p i/\RdIn y5 wr2 w.heap.size w.heap.size (w.heap.size+1) w4.heap.size wb R q0 m (Qr (Qy R m) (lvM R m p) (rF R m p) m i) ca1 fv dv fv1 p (some ⟨bL,oL,none⟩) PA nl mm))
    case atStart=>exact⟨0,false,ca,fv,rfl,rfl,by omega,by omega,Ou ⟨rfl,eW.out.1⟩⟩
    case round =>
     obtain⟨i,b15,ca1,fv1,rfl,rfl,hi,aP,oW⟩:=hrel;have HB:=Ou oW.out.1;have HI:=Ou oW.out.2;have HbL:=Ou (eW.out.2 bL oL rfl);clear oW eW;by_cases hlt:i<nr
     ·have aF:(i:Int)<(nr:Int):=by omega
      have hi0:(0:Int)<=(i:Int):=by omega
      obtain⟨q,hq⟩:∃q,rF R m p i=q:=⟨_,rfl⟩
      have HQ:=Ou hq;clear hq;go_upto_if 88 with fail
      go_cut [17] from 80 to 141 (λiJ wx=>iJ=.int .i64 q/\wr=wx)
      case first =>
       by_cases him:i<mm
       ·have himI:(i:Int)<(mm:Int):=by omega
        obtain⟨bp,rfl,rK,-⟩:∃b,PA=some ⟨b,0,none⟩/\wr.rowIs b 2 mm (λi=>.int .i64 (fM R m p i))/\True:=by
         rcases HI.out.par with h | ⟨b,h1,h2,_⟩
         ·omega
         ·exact⟨b,h1,h2,trivial⟩
        have cp:=rK.cell him;have hfq:fM R m p i=q:=by
         rw[<-HQ.out];rcases HM.out with h|h
         ·omega
         ·exact(K7 h.2 i).symm
        rw[hfq]at cp;clear rK him hfq;go_wp2_with fail
        go_meet
        case rel=>exact⟨rfl,rfl⟩
       ·have himI:¬(i:Int)<(mm:Int):=by omega
        have hq0:Hid (q=0):=Ou (by
         rw[<-HQ.out];rcases HM.out with h|h
         ·exact Yi h.2 i
         ·omega)
        clear him;go_wp2_with fail
        go_meet
        case rel=>exact⟨by rw[hq0.out],rfl⟩
      case rest =>
      obtain⟨rfl,rfl⟩:=hcut;obtain⟨b',o',gD,hbl,gW⟩:∃b' o',(some ⟨bL,oL,none⟩:Option Addr)=some ⟨b',o',none⟩/\b'<wr.heap.size/\∀j,j<nl->((lvM R m p)[j]!).at wr b' (o'+j*6):=by
       rcases HI.out.run.2.2.2 with h|h
       ·omega
       ·exact h
      injection gD with gD;injection gD with e1 e2;subst e1 e2;obtain⟨x,ex⟩:∃x,(lvM R m p)[i]! = x:=⟨_,rfl⟩
      have hil:i<nl:=by omega
      have hx:=gW i hil;have hok:Od.ok wr x:=by
       rw[<-ex];exact HI.out.run.2.2.1 _ (JH (by rw[kU.out];exact hil))
      have hrg:=qb1 (R:=R) (p:=p) cX.out.gm (show i<nM R m p by rw[iM.out];exact hlt);have lO:=λhq0=>qkL (R:=R) (p:=p) cX.out.gm HP.out.2.1 HR.out.l1 cX.out.l1 cX.out.cr (show i<nM R m p by rw[iM.out];exact hlt) hq0;rw[ex]at hx hrg;rw[ex]at lO;rw[HQ.out]at hrg lO;have HFK:=Ou lO;have HRG:=Ou hrg;have wP:=Ou ex;have HX:=Ou hx;have HOKx:=Ou hok;have hil6:oL+i*6+6<=oL+nl*6:=by omega
      have yP:=Ou hbl;clear gW ex hx hok hrg lO hbl;obtain⟨mi,xW⟩:∃mi,Qr (Qy R m) (lvM R m p) (rF R m p) m i=mi:=⟨_,rfl⟩
      obtain⟨m2,hm2⟩:∃m2,Qr (Qy R m) (lvM R m p) (rF R m p) m (i+1)=m2:=⟨_,rfl⟩
      have HSu:Hid (m2=ZM (Qy R m) mi x q):=Ou (by rw[<-hm2,<-xW,<-wP.out,<-HQ.out];rfl);rw[xW]at HI HFK;have wY:=Ou (Sv xW hm2);clear xW hm2;obtain⟨bq,hbq⟩:∃b,decide (0<q)=b:=⟨_,rfl⟩
      go_upto_if 94 with fail
      have HBq:=Ou hbq;clear hbq;go_cut [] from 80 to 141 (λwx=>∃(ca2:Int) (fv2:Value),Hid (RdIn y5 wx w.heap.size w.heap.size (w.heap.size+1) w4.heap.size wb R q0 m m2 ca2 fv dv fv2 p (some ⟨bL,oL,none⟩) PA nl mm))
      case first =>
       cases bq with
       | true =>
        have hq0:0<q:=of_decide_eq_true HBq.out;have oK:=Ou hq0;have kN:=Ou (HFK.out hq0);obtain⟨z0,z1,z2,z3⟩:=JI HI.out.tu.rw_.r;obtain⟨x0,x1,x2,x3,x4,x5⟩:=HX.out;have hilI:(i:Int)<(nl:Int):=by omega
        obtain⟨i0,pN,hz0,hz1,hz2⟩:=info_parts qkV;have mP:=Ou HI.out.tu.rw_.fo;have jZ:=Ou HI.out.tu.rw_.r;have tH:Hid (w.heap.size<=wr.heap.size):=Ou HI.out.tu.rw_.lo
        have oD:Hid (mi.F.length<100000):=Ou (by
         have h:=XO (pay:=Qy R m) (l:=lvM R m p) (f:=rF R m p) (m:=m) i;rw[wY.out.1]at h;have:=cX.out.fn
         omega)
        have Hn8:Hid (fv1.ownBlock≠some w4.heap.size):=Ou (Qo mP.out jZ.out Ox);have l8:=Qc jZ.out;clear hq0;go_upto_region 22 with fail
        go_cut [] from 80 to 141 (λwx=>∃(gg cp:Nat),Hid (RTurn wr wx w.heap.size w.heap.size (w.heap.size+1) w4.heap.size wb R q0 ⟨mi.L,mi.left,mi.cash,mi.F++[(x,q)],mi.D⟩ ca1 fv1 dv (.slice (some ⟨gg,0,none⟩) (mi.F.length+1) cp) dv false))
        case first =>
         go_region_law
          ((refine step_append_lies _ (by rfl) _ _ 75 (by rfl) w.heap.size 114 i0 (.agg (Z4 (⟨0,0,0,0,0,0⟩,0)).toArray) 7 56 underlying75 pN hz0 hz1 hz2 rfl Ox fv1 mi.F.length (flF mi.F) (by rfl) (GK mP.out _) ⟨wr.heap.size,0,none⟩ 1 1 (Z4 (x,q)) (by rfl) (by rfl) (qbG _ _ (x,q)) (qbF (x,q)) Ox (by unfold maxLen;have:=oD.out;omega) (by have:=oD.out;omega) (by have:=tH.out;simp;omega) (wr.heap.size+1) Oy ?_;intro gg cp w3 aV hgrow hat hlt;have hg3:Cl 77 w3 w4.heap.size #[fv1,dv,.int .i64 mi.left,.bool false]:=(hgrow.block w4.heap.size (Ww l8 Oy) (Ne.symm Hn8.out)).trans ((Below.heap_alloc wr.drew _ w4.heap.size l8).trans jZ.out);have mQ:=Ou aV;have sI:=Ou hgrow;have rU:=Ou hat;have cg0:w3.frozen? ⟨w4.heap.size,0,none⟩=false:=frozen_of_row _ _ _ _ _ hg3;have cv0:w3.cell? ⟨w4.heap.size,0,none⟩=some fv1:=(hg3.c 0).trans rfl;clear aV hgrow hat))
         all_goals
          go_wp2_with fail
          go_meet
          case rel=>exact⟨_,_,Ou (RTurn.fill HI.out.tu.rw_ mQ.out sI.out rU.out)⟩
        case rest =>
        obtain⟨gg,cp,eZ⟩:=hcut;clear mP jZ tH oD Hn8 z0 z1 z2 z3 x0 x1 x2 x3 x4 x5;obtain⟨xi,dK⟩:∃v,x.id=v:=⟨_,rfl⟩
        have rZ:Hid (Calls prog 21 #[ptA wb,.int .u64 xi,.int .i64 q] wc λe w'=>e=.returned (.int .i64 (QU xi q mi.L).1)/\Hid (RBt wc w' wb (QU xi q mi.L).2)):=Ou (by
         refine qkn wb xi q mi.L wc eZ.out.rw_.RB ?_ (λy hy=>?_)
         ·have h:=qb7 (pay:=Qy R m) (l:=lvM R m p) (f:=rF R m p) (m:=m) i;rw[wY.out.1]at h;have:=cX.out.fn;omega
         ·have h:=Gz (pay:=Qy R m) (l:=lvM R m p) (f:=rF R m p) (m:=m) cX.out.gm.ids cX.out.gm.gd (λz hz=>(Jn hz).1) (GC cX.out.gm) (nM R m p) ZU (λj hj=>qb1 cX.out.gm hj) i (by rw[iM.out];omega);rw[wY.out.1]at h
          exact(J1 (h y hy)).2.2.2.2.2.2)
        have hx1:wc.cell? ⟨bL,oL+i*6,none⟩=some (.int .u64 xi):=by
         have h:=(qbJ eZ.out.fr yP.out (HI.out.rf bL oL rfl) HX.out).1;rw[dK]at h;exact h
        have HXi:=Ou dK;clear dK;go_wp2_with fail
        ((with_reducible refine rZ.out.mono ?_);rintro e w6 ⟨rfl,hCt⟩);have f9:=Ou (eZ.out.trans (RTurn.book eZ.out.rw_ hCt.out));have qV:=f9.out.rw_.r;have z2:w6.cell? ⟨w4.heap.size,2,none⟩=some (.int .i64 mi.left):=(qV.c 2).trans rfl;have f2:w6.frozen? ⟨w4.heap.size,2,none⟩=false:=frozen_of_row _ _ _ _ _ qV;obtain⟨lm,hlm⟩:∃l,mi.left=l:=⟨_,rfl⟩
        rw[hlm]at z2;have hsub2:IntKind.i64.wrap (lm-q)=lm-q:=by
         have h1:=kN.out.1;have h2:=kN.out.2.1;have h3:=oK.out;rw[hlm]at h1 h2;rw[Wz];omega
        have HT3:=Ou (f9.out.trans (RTurn.setR (m':=⟨(QU xi q mi.L).2,lm-q,mi.cash,mi.F++[(x,q)],mi.D⟩) f9.out.rw_ (QK (k:=2) (v:=.int .i64 (lm-q)) f9.out.rw_.r) rfl rfl rfl rfl));have HLm:=Ou hlm;have fY:=HT3.out.rw_.t;have c4':(w6.setCell ⟨w4.heap.size,2,none⟩ (.int .i64 (lm-q))).cell? ⟨w.heap.size,4,none⟩=some (.int .i64 ca1):=(fY.c 4).trans rfl;have f4':(w6.setCell ⟨w4.heap.size,2,none⟩ (.int .i64 (lm-q))).frozen? ⟨w.heap.size,4,none⟩=false:=frozen_of_row _ _ _ _ _ fY
        have mG:=Ou (qkU (p:=p) (q:=q) (c2:=if Qy R m=true then mi.cash-x.price*q else mi.cash) HT3.out (λhs=>by
         obtain⟨k1,k2,k3,k4,k5⟩:=kN.out;have hp:=(Jn (JH (show i<(lvM R m p).length by rw[kU.out];omega))).2.2;rw[wP.out]at hp;rw[hp]at k4;rw[hp];have hca:=HI.out.tu.rw_.cs hs;refine qkO hca ?_ k4 (Ey (by have:=HP.out.2.1;omega) (Int.le_of_lt oK.out)) k5
         rw[<-k3,hca];unfold ZN;rw[hs];rfl))
        have zG:Hid (m2=⟨(QU xi q mi.L).2,lm-q,if Qy R m=true then mi.cash-x.price*q else mi.cash,mi.F++[(x,q)],mi.D⟩):=Ou (by
         rw[HSu.out,<-HXi.out,<-HLm.out];exact Sx oK.out)
        rw[<-zG.out]at mG;clear hCt rZ hx1 qV hlm fY kN;by_cases hca0:0<=ca1
        ·have xQ:decide (0<=ca1)=true:=Sy hca0;have zW:=Ou (mG.out.1 hca0);clear hca0;go_wp2_with fail
         go_meet
         case rel=>exact⟨_,_,Ou (HI.out.next zW.out (λb off e=>by injection e with e;injection e with e1 e2;subst e1;exact yP.out))⟩
        ·have xQ:decide (0<=ca1)=false:=Sz hca0;have zW:=Ou (mG.out.2 hca0);clear hca0;go_wp2_with fail
         go_meet
         case rel=>exact⟨_,_,Ou (HI.out.next zW.out (λb off e=>by injection e with e;injection e with e1 e2;subst e1;exact yP.out))⟩
       | false =>
        have HE:Hid (m2=mi):=Ou (HSu.out.trans (Sw (of_decide_eq_false HBq.out)));go_wp2_with fail
        go_meet
        case rel=>exact⟨ca1,fv1,by rw[HE.out];exact HI⟩
      case rest =>
      obtain⟨ca2,fv2,iL⟩:=hcut;obtain⟨xq,hxq⟩:∃v,x.qty=v:=⟨_,rfl⟩
      have hx4:wc.cell? ⟨bL,oL+i*6+4,none⟩=some (.int .i64 xq):=by
       obtain⟨b',o',gD,hbl,gW⟩:∃b' o',(some ⟨bL,oL,none⟩:Option Addr)=some ⟨b',o',none⟩/\b'<wc.heap.size/\∀j,j<nl->((lvM R m p)[j]!).at wc b' (o'+j*6):=by
        rcases iL.out.run.2.2.2 with h|h
        ·omega
        ·exact h
       injection gD with gD;injection gD with e1 e2;subst e1 e2;have h:=gW i hil;rw[wP.out]at h;rw[<-hxq];exact h.2.2.2.2.1
      have hilI:(i:Int)<(nl:Int):=by omega
      have HOn:Hid ((b15||decide (q<xq))=oB R m p (i+1)):=Ou (by
       rw[HB.out,<-hxq,<-wP.out,<-HQ.out];rfl)
      have HM9:=wY.out.2;have HI3:Hid (RdIn y5 wc w.heap.size w.heap.size (w.heap.size+1) w4.heap.size wb R q0 m (Qr (Qy R m) (lvM R m p) (rF R m p) m (i+1)) ca2 fv dv fv2 p (some ⟨bL,oL,none⟩) PA nl mm):=Ou (by rw[HM9];exact iL.out);clear HM9 hxq iL
      cases b15 with
      | true =>
       have oJ:Hid (true=oB R m p (i+1)):=HOn;go_wp2_with fail
       go_roundg (nr-(i+1))
       case measure=>omega
       case rel=>exact⟨i+1,true,_,_,rfl,by go_num,by omega,by omega,Ou ⟨oJ.out,HI3.out⟩⟩
      | false =>
       have oJ:Hid (decide (q<xq)=oB R m p (i+1)):=HOn;go_wp2_with fail
       go_roundg (nr-(i+1))
       case measure=>omega
       case rel=>exact⟨i+1,_,_,_,rfl,by go_num,by omega,by omega,Ou ⟨oJ.out,HI3.out⟩⟩
     ·obtain rfl:nr=i:=by omega
      have hnlt:¬(nr:Int)<(nr:Int):=by omega
      obtain⟨m1,pW⟩:∃m1,Qq R m p=m1:=⟨_,rfl⟩
      have HA:=Ou pW;have iL:=HI.out;rw[<-iM.out,qkJ,pW]at iL;have iA:Hid (RTurn w5 wr w.heap.size w.heap.size (w.heap.size+1) w4.heap.size wb R q0 m1 ca1 (.slice none 0 0) (.slice none 0 0) fv1 dv false):=Ou ((hI.out.tu.trans HT5.out).trans iL.tu);have HEm:Hid (b15=false↔Zi R m p):=Ou (by rw[HB.out,<-iM.out];exact qkK cX.out.gm);clear pW iL;have d2:wr.cell? ⟨w.heap.size+1,2,none⟩=some (.int .i64 R.self):=(iA.out.rw_.md.c 2).trans rfl
      cases b15 with
      | true =>
       have fW:Hid (crF R ⟨L,q0,cash,[],[]⟩=(m1,false)):=Ou (by
        rw[rY.out,XN HP.out.1 (.inl (λh=>by have:=HEm.out.2 h;cases this)),HA.out])
       have HE:=iA;clear d2 iA
       as_aux_lemma =>
       obtain⟨FA9,fc9,eF⟩:=Zj HE.out.rw_.fo;obtain⟨DA9,dc9,eD⟩:=Zj HE.out.rw_.dr;(first|subst eF|clear eF);(first|subst eD|clear eD);obtain⟨z0,z1,z2,z3⟩:=JI HE.out.rw_.r;have bA:=Ou (Yk gQ.out dQ.out dW.out gU.out HE.out.fr);have lC:=Ou (Yl (w:=w) gQ.out HE.out gU.out dW.out bA.out (r:=(m1,false)) rfl);clear HE;go_wp2_with (first|((with_reducible apply K8);rfl;rfl;rfl;rfl;exact bA.out;rfl;rfl;exact ZH;skip)|((with_reducible apply Yj fW.out);rfl;rfl;rfl;exact(setRow_heap _ _ _ _ _ _ bA.out);rfl;rfl;exact(Ou (lC.out _))))
      | false =>
       have wR:Hid (Zi R m p):=Ou (HEm.out.1 rfl);have hpos:1<=nl:=by rw[<-kU.out];exact XL HP.out.1
       obtain⟨l1,kG⟩:∃l,m1.left=l:=⟨_,rfl⟩
       have z2:wr.cell? ⟨w4.heap.size,2,none⟩=some (.int .i64 l1):=by rw[<-kG];exact(iA.out.rw_.r.c 2).trans rfl
       have wW:=Ou kG;clear kG
       have zS:Hid ((nr=nl∨l1=0)->RHd w w5 wr w4.heap.size wb R q0 ⟨L,q0,cash,[],[]⟩ m1 ca1 fv1 dv/\(m1.left=0∨m1.L.length+1<=m.L.length)):=Ou (λh=>by
        have h1:=qkP HR.out cX.out rY.out HP.out.1 wR.out (by rw[HA.out,iM.out,kU.out,wW.out];exact h);rw[HA.out]at h1
        exact⟨⟨iA.out,h1.1,by rw[<-HA.out];exact GX hI.out.ok⟩,h1.2.imp id (λh=>h)⟩)
       by_cases hall:nr=nl
       ·have g1:((nr:Int)==(nl:Int))=true:=by simp[hall]
        have g2:((nr:Int)==0)=false:=by simp;omega
        have j6:=Ou (zS.out (.inl hall));clear hall;go_wp2_with fail
        go_roundg (m.L.length)
        case measure=>have:=HK.out;omega
        case rel=>exact⟨m1,ca1,fv1,dv,_,rfl,j6.out.2,Ou j6.out.1⟩
       ·have g1:((nr:Int)==(nl:Int))=false:=by simp;omega
        by_cases hl0:l1=0
        ·have g2:(l1==0)=true:=by simp[hl0]
         have j6:=Ou (zS.out (.inr hl0));clear hall hl0;go_wp2_with fail
         go_roundg (m.L.length)
         case measure=>have:=HK.out;omega
         case rel=>exact⟨m1,ca1,fv1,dv,_,rfl,j6.out.2,Ou j6.out.1⟩
        ·have g2:(l1==0)=false:=by simp[hl0]
         have lW:nr<nl:=by omega
         have hnrI:(nr:Int)<(nl:Int):=by omega
         have hnr0:(0:Int)<=(nr:Int):=by omega
         have hil6:oL+nr*6+6<=oL+nl*6:=by omega
         obtain⟨⟨o0,o1,o2,o3,o4,o5⟩,hx⟩:∃x,(lvM R m p)[nr]! = x:=⟨_,rfl⟩
         have rC:=cX.out.aft HR.out HP.out.1 wR.out;rw[HA.out]at rC;have iH:(⟨o0,o1,o2,o3,o4,o5⟩:Od)∈m1.L:=by
          have h:=(Kj cX.out.gm HP.out.2.1 HR.out.l1 cX.out.l0).there nr (by rw[iM.out];exact Sq _) (by rw[kU.out];exact lW);rw[hx,HA.out]at h;exact h
         have hx0:wr.cell? ⟨bL,oL+nr*6,none⟩=some (.int .u64 o0):=by
          rcases HI.out.run.2.2.2 with h | ⟨b',o',e1,-,gW⟩
          ·omega
          ·injection e1 with e1;injection e1 with e1 e2;subst e1 e2;have h:=(gW nr lW).1;rw[hx]at h;exact h
         have HX:=Ou (Sv hx (Sv rC (Sv iH (Sv lW hl0))));have sD:=Ou (qfC R.self);have qW:=Ou (qfD R.self);obtain⟨dB,hdB⟩:∃b,drN R.self=b:=⟨_,rfl⟩
         obtain⟨sB,hsB⟩:∃b,stN R.self=b:=⟨_,rfl⟩
         rw[hdB]at sD;rw[hsB]at qW;have mI:=Ou (Sv hdB hsB)
         have eV:Hid (sB=true->crF R ⟨L,q0,cash,[],[]⟩=(Z3 R o0 m1,true)):=Ou (λh=>by
          have h1:=qby HP.out.1 wR.out (by rw[HA.out,wW.out];exact HX.out.2.2.2.2) (by rw[iM.out,kU.out];exact HX.out.2.2.2.1) (mI.out.2.trans h);rw[iM.out,HX.out.1,HA.out]at h1
          exact rY.out.trans h1)
         have mJ:Hid (sB=false->dB=true/\crF R ⟨L,q0,cash,[],[]⟩=crF R (Zb o0 m1)/\(Zb o0 m1).L.length<m.L.length):=Ou (λh=>by
          have h1:=qbz HR.out.p HR.out.l1 cX.out.gm cX.out.l0 HP.out.1 wR.out (by rw[HA.out,wW.out];exact HX.out.2.2.2.2) (by rw[iM.out,kU.out];exact HX.out.2.2.2.1) (mI.out.2.trans h);rw[iM.out,HX.out.1,HA.out]at h1
          exact⟨mI.out.1.symm.trans h1.1,rY.out.trans h1.2.1,h1.2.2⟩)
         clear hx rC iH hdB hsB lW hl0 hall zS
         cases dB with
         | false =>
          obtain rfl:sB=true:=by
           cases sB with
           | true=>rfl
           | false=>exact absurd (mJ.out rfl).1 Ox
          have fT:=iA.out.rw_.r;have f3:wr.frozen? ⟨w4.heap.size,3,none⟩=false:=frozen_of_row _ _ _ _ _ fT;have z3:wr.cell? ⟨w4.heap.size,3,none⟩=some (.bool false):=(fT.c 3).trans rfl;have HE:=Ou (iA.out.trans (RTurn.setR (m':=m1) iA.out.rw_ (QK (k:=3) (v:=.bool true) fT) rfl rfl rfl rfl))
          have fW:Hid (crF R ⟨L,q0,cash,[],[]⟩=(m1,true)):=Ou (by
           rw[eV.out rfl];unfold Z3;rw[mI.out.1,Sw (by decide)])
          clear iA fT eV mJ hx0;go_upto_region 36 with (first|((with_reducible refine(sD.out _).mono ?_);rintro e w6 ⟨rfl,rfl⟩)|((with_reducible refine(qW.out _).mono ?_);rintro e w6 ⟨rfl,rfl⟩))
          clear z2 z3 f3 d2 sD qW g1 g2;generalize hwE:(wr.setCell ⟨w4.heap.size,3,none⟩ (.bool true))=wE at HE ⊢;clear hwE
          as_aux_lemma =>
           obtain⟨FA9,fc9,eF⟩:=Zj HE.out.rw_.fo;obtain⟨DA9,dc9,eD⟩:=Zj HE.out.rw_.dr;(first|subst eF|clear eF);(first|subst eD|clear eD);obtain⟨z0,z1,z2,z3⟩:=JI HE.out.rw_.r;have bA:=Ou (Yk gQ.out dQ.out dW.out gU.out HE.out.fr);have lC:=Ou (Yl (w:=w) gQ.out HE.out gU.out dW.out bA.out (r:=(m1,true)) rfl);clear HE;go_wp2_with (first|((with_reducible apply K8);rfl;rfl;rfl;rfl;exact bA.out;rfl;rfl;exact ZH;skip)|((with_reducible apply Yj fW.out);rfl;rfl;rfl;exact(setRow_heap _ _ _ _ _ _ bA.out);rfl;rfl;exact(Ou (lC.out _))))
         | true =>
          have oO:Hid (Calls prog 19 #[ptA wb,.int .u64 o0] wr λe w'=>e=.returned (.tuple #[.agg #[.int .u64 o0,.int .i64 o1,.int .i64 o2,.int .i64 o3,.int .i64 o4,.int .u64 o5],.bool true])/\Hid (RBt wr w' wb (m1.L.eraseIdx (QB o0 m1.L)))):=Ou (by
           have h:=qbM wb o0 m1.L wr iA.out.rw_.RB (by have:=HX.out.2.1.fn;omega);rw[show Zg o0 m1.L=some ⟨o0,o1,o2,o3,o4,o5⟩ from(Vx HX.out.2.1.gm HX.out.2.2.1).get]at h
           exact h)
          have HGn:Hid (Zb o0 m1=⟨m1.L.eraseIdx (QB o0 m1.L),m1.left,m1.cash,m1.F,m1.D++[⟨o0,o1,o2,o3,o4,o5⟩]⟩):=Ou (by
           unfold Zb;rw[show Zg o0 m1.L=some ⟨o0,o1,o2,o3,o4,o5⟩ from(Vx HX.out.2.1.gm HX.out.2.2.1).get];rfl)
          go_wp2_with ((with_reducible refine(sD.out _).mono ?_);rintro e w6 ⟨rfl,rfl⟩)
          ((with_reducible refine oO.out.mono ?_);rintro e w6 ⟨rfl,hT⟩);have eZ:=Ou (iA.out.trans (RTurn.book iA.out.rw_ hT.out));clear hT oO iA z2 hx0;go_upto_region 33 with fail
          obtain⟨w7,lZ⟩:∃w7,w6.alloc (.cells #[.int .u64 o0,.int .i64 o1,.int .i64 o2,.int .i64 o3,.int .i64 o4,.int .u64 o5] 49)=w7:=⟨_,rfl⟩
          rw[lZ];have b7:Ok w6 w7:=by rw[<-lZ];exact Zp _ _
          have tZ:Cl 49 w7 w6.heap.size (OC ⟨o0,o1,o2,o3,o4,o5⟩):=by rw[<-lZ];exact Qe rfl
          have gA:=Ou (eZ.out.grow b7);obtain⟨x0,x1,x2,x3,x4,x5⟩:=Qm tZ;have y81:w7.cell? ⟨w4.heap.size,1,none⟩=some dv:=(gA.out.rw_.r.c 1).trans rfl;have mH:=Ou gA.out.rw_.dr;have wZ:=Ou gA.out.rw_.r;have rA:Hid (w.heap.size<=w7.heap.size):=Ou gA.out.rw_.lo;have HDn:Hid (m1.D.length<100000):=Ou (by have:=HX.out.2.1.dn;omega);have r9:Hid (dv.ownBlock≠some w4.heap.size):=Ou (Qo mH.out wZ.out Ox);have l8:=Qc wZ.out;obtain⟨i0,pN,hz0,hz1,hz2⟩:=info_parts qkW;clear lZ b7 tZ eZ;go_wp2_with (at_builtin;refine wpList_append_own_at _ rfl _ _ 29 rfl w.heap.size 49 i0 (.agg (OC ⟨0,0,0,0,0,0⟩)) 6 48 underlying29 pN hz0 hz1 hz2 rfl Ox dv m1.D.length (ol m1.D) rfl (mH.out.alloc _) ⟨w7.heap.size,0,none⟩ 1 1 (Qn ⟨o0,o1,o2,o3,o4,o5⟩) rfl rfl ?c1 ?c2 ?c3 ?c4 ?c5 ?_)
          case c1=>exact λj u h=>h
          case c2=>exact Jr _
          case c3=>unfold maxLen;have:=HDn.out;omega
          case c4=>have:=HDn.out;omega
          case c5=>have:=rA.out;simp;omega
          intro vA wA aV pK hnil3 uG;obtain⟨gg,cap,rfl,-,-⟩:=qbY aV Oz;have hg3:Cl 77 wA w4.heap.size #[fv1,dv,.int .i64 m1.left,.bool false]:=(pK.block w4.heap.size (Ww l8 Oy) (Ne.symm r9.out)).trans ((Below.heap_alloc w7 _ w4.heap.size l8).trans wZ.out);have cg1:wA.frozen? ⟨w4.heap.size,1,none⟩=false:=frozen_of_row _ _ _ _ _ hg3;have cv1:wA.cell? ⟨w4.heap.size,1,none⟩=some dv:=(hg3.c 1).trans rfl
          have lG:=Ou (gA.out.trans (RTurn.drop (z:=⟨o0,o1,o2,o3,o4,o5⟩) gA.out.rw_ aV (((Fr.refl (λj=>dv.ownBlock=some j) w7).alloc _).grown pK (λj hj=>.inl hj)) (by
           rcases uG with h|h
           ·exact .inl (h.symm.trans rfl)
           ·right
            have h2:gg=w7.heap.size+1:=by simpa [Value.ownBlock] using h
            omega)))
          dsimp only at lG;rw[<-HGn.out]at lG;have jZ:=Ou lG.out.rw_.r;have z3:(wA.setCell ⟨w4.heap.size,1,none⟩ (.slice (some ⟨gg,0,none⟩) (m1.D.length+1) cap)).cell? ⟨w4.heap.size,3,none⟩=some (.bool false):=(jZ.out.c 3).trans rfl;have f3:(wA.setCell ⟨w4.heap.size,1,none⟩ (.slice (some ⟨gg,0,none⟩) (m1.D.length+1) cap)).frozen? ⟨w4.heap.size,3,none⟩=false:=frozen_of_row _ _ _ _ _ jZ.out;have e2:(wA.setCell ⟨w4.heap.size,1,none⟩ (.slice (some ⟨gg,0,none⟩) (m1.D.length+1) cap)).cell? ⟨w.heap.size+1,2,none⟩=some (.int .i64 R.self):=(lG.out.rw_.md.c 2).trans rfl;clear aV pK hnil3 uG hg3 gA mH wZ rA HDn r9 l8 x0 x1 x2 x3 x4 x5 y81 d2
          cases sB with
          | true =>
           have HE:=Ou (lG.out.trans (RTurn.setR (m':=Zb o0 m1) lG.out.rw_ (QK (k:=3) (v:=.bool true) jZ.out) rfl rfl rfl rfl))
           have fW:Hid (crF R ⟨L,q0,cash,[],[]⟩=(Zb o0 m1,true)):=Ou (by
            rw[eV.out rfl];unfold Z3;rw[mI.out.1,Sx rfl])
           clear lG jZ eV mJ;go_upto_region 36 with ((with_reducible refine(qW.out _).mono ?_);rintro e w8 ⟨rfl,rfl⟩)
           clear z3 f3 e2 cg1 cv1 sD qW g1 g2;generalize hwE:((wA.setCell ⟨w4.heap.size,1,none⟩ (.slice (some ⟨gg,0,none⟩) (m1.D.length+1) cap)).setCell ⟨w4.heap.size,3,none⟩ (.bool true))=wE at HE ⊢;clear hwE;obtain⟨dvE,HE⟩:∃d,Hid (RTurn w5 wE w.heap.size w.heap.size (w.heap.size+1) w4.heap.size wb R q0 (Zb o0 m1) ca1 (.slice none 0 0) (.slice none 0 0) fv1 d true):=⟨_,HE⟩
           as_aux_lemma =>
            obtain⟨FA9,fc9,eF⟩:=Zj HE.out.rw_.fo;obtain⟨DA9,dc9,eD⟩:=Zj HE.out.rw_.dr;(first|subst eF|clear eF);(first|subst eD|clear eD);obtain⟨z0,z1,z2,z3⟩:=JI HE.out.rw_.r;have bA:=Ou (Yk gQ.out dQ.out dW.out gU.out HE.out.fr);have lC:=Ou (Yl (w:=w) gQ.out HE.out gU.out dW.out bA.out (r:=(Zb o0 m1,true)) rfl);clear HE;go_wp2_with (first|((with_reducible apply K8);rfl;rfl;rfl;rfl;exact bA.out;rfl;rfl;exact ZH;skip)|((with_reducible apply Yj fW.out);rfl;rfl;rfl;exact(setRow_heap _ _ _ _ _ _ bA.out);rfl;rfl;exact(Ou (lC.out _))))
          | false =>
           have j6:Hid (RHd w w5 (wA.setCell ⟨w4.heap.size,1,none⟩ (.slice (some ⟨gg,0,none⟩) (m1.D.length+1) cap)) w4.heap.size wb R q0 ⟨L,q0,cash,[],[]⟩ (Zb o0 m1) ca1 fv1 (.slice (some ⟨gg,0,none⟩) (m1.D.length+1) cap)/\(Zb o0 m1).L.length+1<=m.L.length):=Ou (by
            obtain⟨-,h1,h2⟩:=mJ.out rfl;obtain⟨-,rC,iH,-,hl0⟩:=HX.out;refine⟨⟨lG.out,.inr ⟨?_,h1,rC.gone iH⟩,?_⟩,h2⟩
            ·have h3:=rC.l0;have h4:=wW.out;show 0<m1.left;omega
            ·rw[<-HA.out];exact GU (GX hI.out.ok) _)
           clear lG jZ eV mJ;go_wp2_with ((with_reducible refine(qW.out _).mono ?_);rintro e w8 ⟨rfl,rfl⟩)
           go_roundg (m.L.length)
           case measure=>have:=HK.out;omega
           case rel=>exact⟨Zb o0 m1,ca1,fv1,_,_,rfl,.inr j6.out.2,Ou j6.out.1⟩
  ·have hld:decide (0<lf)=false:=Sz hl0;have HE:=Ou hI.out.tu
   have fW:Hid (crF R ⟨L,q0,cash,[],[]⟩=(m,false)):=Ou (by
    rcases hI.out.ah with ⟨_,h⟩ | ⟨h,_⟩
    ·exact h
    ·rw[mM.out]at h;exact absurd h hl0)
   clear hl0 aP z0 z1 z3
   as_aux_lemma =>
   obtain⟨FA9,fc9,eF⟩:=Zj HE.out.rw_.fo;obtain⟨DA9,dc9,eD⟩:=Zj HE.out.rw_.dr;(first|subst eF|clear eF);(first|subst eD|clear eD);obtain⟨z0,z1,z2,z3⟩:=JI HE.out.rw_.r;rw[mM.out]at z2;have bA:=Ou (Yk gQ.out dQ.out dW.out gU.out HE.out.fr);have lC:=Ou (Yl (w:=w) gQ.out HE.out gU.out dW.out bA.out (r:=(m,false)) rfl);clear HE;go_wp2_with (first|((with_reducible apply K8);rfl;rfl;rfl;rfl;exact bA.out;rfl;rfl;exact ZH;skip)|((with_reducible apply Yj fW.out);rfl;rfl;rfl;exact(setRow_heap _ _ _ _ _ _ bA.out);exact mM.out;rfl;exact(Ou (lC.out _))))
theorem qkY {W:World}{A B:Option Addr}{n c c':Nat}{L:List Od}(h:Ods W A n L)(k:Ods W B n L)(hn:n<=1000) :
  Calls prog 14 #[.slice A n c,.slice B n c'] W λe w'=>e=.returned (.bool true)/\Ok W w':=by
 refine(qey A B n c c' L L W h k hn).mono ?_
 rintro e w' ⟨rfl,g⟩
 exact⟨by rw[(VI L L).2 rfl],g.b⟩
theorem qb8:(prog.info? 82).map (·.size)=some 3:=by kernel_rfl
theorem qkZ {a b c:Int}:(#[Value.int .i64 a,.int .i64 b,.int .i64 c]:Array Value).all (·.oneCell')=true:=by
 refine all_oneCell_toArray (cs:=[.int .i64 a,.int .i64 b,.int .i64 c]) (λu hu=>?_)
 simp only[Iz,Iy,or_false]at hu
 rcases hu with rfl|rfl|rfl<;>rfl
section
variable {ops:Array Oper}{rest:List Oper}{o:Oper}{a:Act}{w:World}{Q:Exit → Act → World → Prop}
theorem qk0 (hgd:o.guard=none)(x y:Operand)(ho:o.op=.store 82 x y)(g:Nat)(cs:Array Value)(hx:a.eval x=.pointer (some ⟨g,0,none⟩))(hy:a.eval y=.agg cs)(old:Array Value)(t:TypeId)
  (hg:Cl t w g old) (hs:old.size=3) (hc:cs.size=3) (h1:cs.all (·.oneCell')=true) (h:wpList prog ops Q rest (a.put o.dst undef) (w.setRow g cs)):wpList prog ops Q (o :: rest) a w :=
 wpList_plain hgd λK hK=>wp_store_row _ x y ho g _ hx hy _ _ hg (by rw[hc];exact qb8) (by rw[hs,hc]) h1 (hK _ _ h)
end
theorem qk1 (X:Ruls)(R:Rl)(w:World) :
  Calls prog 36 #[.agg #[X.ver,X.ticks,.int .i64 R.lot,X.band,X.fees,X.round,.int .i64 R.mode,.int .i64 R.self,X.lay]] w λe w'=>e=.returned (.agg #[.int .i64 R.lot,.int .i64 R.mode,.int .i64 R.self])/\Ok w w':=by
 obtain⟨w2,hw2⟩:∃w2,(w.alloc (.cells #[X.ver,X.ticks,.int .i64 R.lot,X.band,X.fees,X.round,.int .i64 R.mode,.int .i64 R.self,X.lay] 68)).alloc (.cells #[.int .i64 0,.int .i64 0,.int .i64 0] 82)=w2:=⟨_,rfl⟩
 have b2:Ok w w2:=by rw[<-hw2];exact((Oq _ _).alloc (Sq _) _).alloc Oy _
 have c2:Cl 68 w2 w.heap.size #[X.ver,X.ticks,.int .i64 R.lot,X.band,X.fees,X.round,.int .i64 R.mode,.int .i64 R.self,X.lay]:=by rw[<-hw2];exact Qp Oy (Qe rfl)
 have c3:Cl 82 w2 (w.heap.size+1) #[.int .i64 0,.int .i64 0,.int .i64 0]:=by rw[<-hw2];exact Qe Oy
 obtain⟨r0,r1,r2,r3,r4,r5,r6,r7,r8⟩:=KF c2
 have aG:=Ou b2
 have HC3:=Ou c3
 clear b2 c2 c3
 go_enter func36,ntmps36
 go_wp2_with ((with_reducible apply qk0);rfl;rfl;rfl;rfl;exact HC3.out;rfl;rfl;exact qkZ;skip)
 refine bodyPost_ret (results_cell_row rfl _ _ _ _ #[.int .i64 R.lot,.int .i64 R.mode,.int .i64 R.self] (0,0) _ rfl (setRow_heap _ _ _ _ _ _ HC3.out) underlying82 rfl qb8) rfl ?_
 exact⟨rfl,Zy aG.out Oz⟩
def qb9 (w:World)(n:Nat)(L:List Od)(e:Ending)(w':World):Prop:=∃A c,e=.returned (.slice A n c)/\Hid (Ok w w'/\w'.ownsRow w.heap.size 49 6 (.slice A n c) n (ol L))
theorem qk2 (A:Option Addr)(n c:Nat)(L:List Od)(w:World)(H:Ods w A n L)(hn:n<=1000) :
  Calls prog 12 #[.slice A n c] w (qb9 w n L):=by
 obtain⟨i0,hi0,hz0,hz1,hz2⟩:=info_parts YJ
 have HO:Aside (Ods w A n L):=H
 have aJ:=Ou H.1
 clear H
 go_enter func12,ntmps12
 go_wp2_with fail
 go_loopg [3,8] n (λkx v s8 wr=>∃k:Nat,s8=.int .i64 k/\k<=n/\n-k<=kx/\wr.ownsRow w.heap.size 49 6 v k (ol (L.take k))/\Hid (Ok w wr))
 case atStart=>exact⟨0,rfl,by omega,by omega,World.ownsRow_nil _ _ _ _,Below.refl _ _⟩
 case round =>
  obtain⟨k,rfl,hk,aP,hown,hd⟩:=hrel;by_cases hlt:k<n
  ·have aF:(k:Int)<(n:Int):=by omega
   have h1:=(HO.out.below hd.out).2.2.2;rcases h1 with h1 | ⟨b,off,rfl,_,hc⟩
   ·omega
   have hx:=hc k hlt;clear hc;have HN:=Ou (qex (L:=L) (k:=k) (by rw[aJ.out];exact hlt));obtain⟨x,ex⟩:∃x,L[k]! = x:=⟨_,rfl⟩
   rw[ex]at hx HN;clear ex;obtain⟨x0,x1,x2,x3,x4,x5⟩:=hx;have hsz:=hd.out.size;go_wp2_with (at_builtin;refine wpList_append_own _ rfl _ _ 29 rfl w.heap.size 49 i0 (.agg (OC ⟨0,0,0,0,0,0⟩)) 6 48 underlying29 hi0 hz0 hz1 hz2 rfl Ox _ _ _ rfl ((hown.alloc (Obj.cells (OC x) 38)).alloc _) ⟨wr.heap.size+1,0,none⟩ 1 1 (Qn x) rfl rfl ?c1 ?c2 ?c3 ?c4 ?c5 ?_)
   case c1 =>
    have e1:wr.heap.size+1=(wr.alloc (Obj.cells (OC x) 38)).heap.size:=by simp
    rw[e1];exact Ct _ x
   case c2=>exact Jr x
   case c3=>unfold maxLen;omega
   case c4=>omega
   case c5=>simp;omega
   intro v1 w1 hown1 hg1 _;have cY:Hid (Ok w w1):=Below.grown ((hd.out.alloc hsz _).alloc (by simp;omega) _) hg1 (by simp;omega) (λk hk=>(hown.lt k hk).1);rw[<-HN.out]at hown1;clear hg1 hown hd;go_wp2_with fail
   go_roundg (n-(k+1))
   case measure=>omega
   case rel=>exact⟨k+1,by go_num,by omega,by omega,hown1,cY⟩
  ·have aF:¬(k:Int)<(n:Int):=by omega
   obtain rfl:n=k:=by omega
   rw[Fs (by rw[aJ.out];exact Sq _)]at hown;obtain⟨A',c',rfl⟩:=Zj hown;have HE:Hid (Ok w wr/\wr.ownsRow w.heap.size 49 6 (.slice A' n c') n (ol L)):=Ou ⟨hd.out,hown⟩;clear hown hd;go_wp2_with fail
   go_ret;exact⟨A',c',rfl,HE⟩
theorem qk3 (wb:Nat)(R:Rl)(q cash:Int)(w:World)(hf:¬FitP R q) :
  Calls prog 35 #[ptA wb,.agg #[.int .i64 R.acc,.int .i64 R.side,.int .i64 R.price,.int .i64 q,.int .i64 cash],.agg #[.int .i64 R.lot,.int .i64 R.mode,.int .i64 R.self]] w λe w'=>e=.returned (.tuple #[Vy (.slice none 0 0) (.slice none 0 0) 0 false,.int .i64 2])/\Ok w w':=by
 have x8:=Ou (λW=>qbD exX R q cash W false ⟨λh=>(by cases h),λh=>absurd h hf⟩)
 obtain⟨w3,hw3⟩:∃w3,((w.alloc (.cells #[.int .i64 R.acc,.int .i64 R.side,.int .i64 R.price,.int .i64 q,.int .i64 cash] 80)).alloc (.cells #[.int .i64 R.lot,.int .i64 R.mode,.int .i64 R.self] 82)).alloc (.cells #[.slice none 0 0,.slice none 0 0,.int .i64 0,.bool false] 77)=w3:=⟨_,rfl⟩
 have b3:Ok w w3:=by rw[<-hw3];exact(((Oq _ _).alloc (Sq _) _).alloc Oy _).alloc (by simp;omega) _
 have c4:Cl 80 w3 w.heap.size #[.int .i64 R.acc,.int .i64 R.side,.int .i64 R.price,.int .i64 q,.int .i64 cash]:=by rw[<-hw3];exact Qp (by simp;omega) (Qp Oy (Qe rfl))
 have c5:Cl 82 w3 (w.heap.size+1) #[.int .i64 R.lot,.int .i64 R.mode,.int .i64 R.self]:=by rw[<-hw3];exact Qp Oy (Qe Oy)
 have c6:Cl 77 w3 (w.heap.size+1+1) #[.slice none 0 0,.slice none 0 0,.int .i64 0,.bool false]:=by rw[<-hw3];exact Qe Oy
 have bT:=Ou b3
 have dQ:=Ou c6
 obtain⟨t0,t1,t2,t3,t4⟩:=ZO c4
 obtain⟨d0,d1,d2⟩:=Ym c5
 clear hf b3 c4 c5 c6
 go_enter func35,ntmps35
 go_wp2_with (first|((with_reducible refine(x8.out _).mono ?_);rintro e w4 ⟨rfl,hb4⟩;have rX:=Ou (Cl.bel dQ.out hb4);have i9:=Ou hb4;clear hb4)|((with_reducible apply K8);rfl;rfl;rfl;rfl;exact rX.out;rfl;rfl;exact ZH;skip))
 refine bodyPost_ret (qb4 rfl _ _ _ rfl _ _ (setRow_heap _ _ _ _ _ _ rX.out) rfl _ rfl) rfl ?_
 exact⟨rfl,Zy (bT.out.trans (i9.out.mono bT.out.size)) Oz⟩
def qk4 (w:World)(bk:Nat)(v:Value)(k:Int)(S:Nat->Prop)(r:Mt×Bool)(g:Int)(e:Ending)(w':World):Prop :=
 ∃(fv dv:Value) (S':Nat->Prop),e=.returned (.tuple #[Vy fv dv r.1.left r.2,.int .i64 g])/\Hid (MatchIs w w' bk v k S S' r fv dv)
def qk5 (w:World)(wb:Nat)(r:Mt×Bool)(g:Int)(e:Ending)(w':World):Prop :=
 ∃(fv dv:Value),e=.returned (.tuple #[Vy fv dv r.1.left r.2,.int .i64 g])/\Hid (RMIs w w' wb r fv dv)
theorem qk6 {w:World}{L:List Od}(h:∀x∈L,Od.ok w x):ZV L:=λx hx=>by
 obtain⟨h1,_,_,_,_,h2⟩:=h x hx
 exact⟨h1,h2⟩
structure EndF (m:Mt):Prop where
 fn:m.F.length<=128
 dn:m.D.length<=64
 dg:∀x∈m.D,Qk x=true/\(0<=x.id/\x.id<=18446744073709551615)/\(0<=x.seq/\x.seq<=18446744073709551615)
theorem GY {m:Mt}(hm:MOk m)(hd:∀x∈m.D,Qk x=true/\(0<=x.id/\x.id<=18446744073709551615)/\(0<=x.seq/\x.seq<=18446744073709551615)):EndF m:=⟨by have:=hm.fn;omega,by have:=hm.dn;omega,hd⟩
theorem qk7 {R:Rl}{m:Mt}{p:Int}(hr:ROk R)(hm:MOk m)(aH:prM R m.L=some p)(hd:∀x∈m.D,Qk x=true/\(0<=x.id/\x.id<=18446744073709551615)/\(0<=x.seq/\x.seq<=18446744073709551615)):EndF (Qq R m p):=by
 have A:=Kj hm.gm (Ki hm.gm aH).1 hr.l1 hm.l0
 have h1:=qbL (R:=R) (m:=m) (p:=p)
 have h2:nM R m p<=m.L.length:=Sk ZU (by unfold lvM;exact V4 _ _ _)
 refine⟨by have:=hm.fn;omega,by rw[A.D];have:=hm.dn;omega,by rw[A.D];exact hd⟩
theorem GZ {R:Rl}(hr:ROk R):∀(k:Nat) (m:Mt),MOk m->ZV m.L->(∀x∈m.D,Qk x=true/\(0<=x.id/\x.id<=18446744073709551615)/\(0<=x.seq/\x.seq<=18446744073709551615))->EndF (crM R k m).1
 | 0,m,hm,_,hd=>GY hm hd
 | k+1,m,hm,hi,hd=>by
  rw[crM]
  cases aH:prM R m.L with
  | none=>exact GY hm hd
  | some p =>
   have A:=Kj hm.gm (Ki hm.gm aH).1 hr.l1 hm.l0;simp only;by_cases h1:¬Zi R m p∨(Qq R m p).left=0
   ·rw[Sx h1];exact qk7 hr hm aH hd
   ·rw[Sw h1];have he:Zi R m p:=Classical.byContradiction λh=>h1 (.inl h);have hM:=hm.aft hr aH he;have hI:ZV (Qq R m p).L:=GX hi;have hD:∀x∈(Qq R m p).D,Qk x=true/\(0<=x.id/\x.id<=18446744073709551615)/\(0<=x.seq/\x.seq<=18446744073709551615):=by rw[A.D];exact hd
    by_cases h2:nM R m p=(lvM R m p).length
    ·rw[Sx h2];exact GZ hr k _ hM hI hD
    ·rw[Sw h2];have hx:=A.there _ (Sq _) (by have:=ZU (R:=R) (m:=m) (p:=p);omega);obtain⟨x,ex⟩:∃x,(lvM R m p)[nM R m p]! = x:=⟨_,rfl⟩
     rw[ex]at hx ⊢;have hG:MOk (Zb x.id (Qq R m p))/\ZV (Zb x.id (Qq R m p)).L/\∀y∈(Zb x.id (Qq R m p)).D,Qk y=true/\(0<=y.id/\y.id<=18446744073709551615)/\(0<=y.seq/\y.seq<=18446744073709551615):=by
      refine⟨hM.gone hx,GU hI _,λy hy=>?_⟩;have hg:=(Vx hM.gm hx).get;have e1:(Zb x.id (Qq R m p)).D=(Qq R m p).D++[x]:=by unfold Zb;rw[hg];rfl
      rw[e1,Fu,List.mem_singleton]at hy;rcases hy with hy|rfl
      ·exact hD y hy
      ·exact⟨hM.gm.gd _ hx,hI _ hx⟩
     have hP:MOk (Z3 R x.id (Qq R m p))/\ZV (Z3 R x.id (Qq R m p)).L/\∀y∈(Z3 R x.id (Qq R m p)).D,Qk y=true/\(0<=y.id/\y.id<=18446744073709551615)/\(0<=y.seq/\y.seq<=18446744073709551615):=by
      unfold Z3
      split
      ·exact hG
      ·exact⟨hM,hI,hD⟩
     by_cases h3:stN R.self=true
     ·rw[Sx h3];exact GY hP.1 hP.2.2
     ·rw[Sw h3];exact GZ hr k _ hP.1 hP.2.1 hP.2.2
structure Both (R:Rl) (X:Ruls) (q cash:Int) (k:Int) (L:List Od) (r:Mt×Bool) (g:Int):Prop where
 mt:∀(b:Nat) (v:Value) (S:Nat->Prop) (W:World),LyB W b v k L S->Calls prog 33 #[ptA b,.agg #[.int .i64 R.acc,.int .i64 R.side,.int .i64 R.price,.int .i64 q,.int .i64 cash],.agg #[X.ver,X.ticks,.int .i64 R.lot,X.band,X.fees,X.round,.int .i64 R.mode,.int .i64 R.self,X.lay]] W (qk4 W b v k S r g)
 rf:∀(wb:Nat) (W:World),RB W wb L->Calls prog 35 #[ptA wb,.agg #[.int .i64 R.acc,.int .i64 R.side,.int .i64 R.price,.int .i64 q,.int .i64 cash],.agg #[.int .i64 R.lot,.int .i64 R.mode,.int .i64 R.self]] W (qk5 W wb r g)
 ef:EndF r.1
theorem qk8 {R:Rl}{X:Ruls}{q cash k:Int}{L:List Od}(hf:FitP R q)(hc:InR cash)(hX:X.One)(hL:L.length<=64)(hg:GM ⟨L,q,cash,[],[]⟩)(hi:ZV L):Both R X q cash k L (crF R ⟨L,q,cash,[],[]⟩) 0:=by
 refine⟨λb v S W h=>qbR b X R v k L S q cash W h hf hc hX,λwb W h=>qkX wb R q cash L W h hL hg hi hf hc,?_⟩
 refine GZ ⟨hf.side,GH hf,by have:=hf.m0;have:=hf.m1;omega,hf.l0,hf.l1⟩ _ _ ⟨hg,by have:=hf.q0;show 0<=q;omega,hf.q1,hc,by show 0+L.length<=64;omega,by show 0+L.length<=64;omega⟩ hi (λx hx=>by cases hx)
theorem qk9 {R:Rl}{X:Ruls}{q cash k:Int}{L:List Od}(hf:¬FitP R q):Both R X q cash k L (⟨L,0,cash,[],[]⟩,false) 2:=by
 refine⟨λb v S W h=>(qku b X R v k L S q cash W h hf).mono ?_,λwb W h=>(qk3 wb R q cash W hf).mono ?_,⟨As _,As _,λx hx=>by cases hx⟩⟩
 ·rintro e w' ⟨rfl,hb⟩;exact⟨_,_,S,rfl,Ou ⟨h.below hb.out,World.ownsRow_nil _ _ _ _,World.ownsRow_nil _ _ _ _,Fr.of_below hb.out,λ_ h=>.inl h,As _⟩⟩
 ·rintro e w' ⟨rfl,hb⟩;exact⟨_,_,rfl,Ou ⟨KC h hb,World.ownsRow_nil _ _ _ _,World.ownsRow_nil _ _ _ _,Fr.of_below hb⟩⟩
theorem G4 {ops:Array Oper}{o:Oper}{a:Act}{w:World}{Q:Exit->Act->World->Prop}{K:Act->World->Prop}{E:Prop}(hgd:Region.wanted o (yielded ops a.tmps)=true)(x y:Operand)(ho:o.op=.store 77 x y)(g:Nat)(cs:Array Value)(hx:a.eval x=.pointer (some ⟨g,0,none⟩))(hy:a.eval y=.agg cs)(old:Array Value)(t:TypeId)
  (hg:Cl t w g old) (hs:old.size=4) (hc:cs.size=4) (h1:cs.all (·.oneCell')=true) (h:K (a.put o.dst undef) (w.setRow g cs)):if Region.wanted o (yielded ops a.tmps)=true then Oper.wp prog o a w K Q else E:=by
 rw[Sx hgd]
 exact wp_store_row _ x y ho g _ hx hy _ _ hg (by rw[hc];exact GT) (by rw[hs,hc]) h1 h
theorem G5 {S:Nat->Prop}{w X:World}{c:Nat}{cs:Array Value}(h:Fr S w X)(hc:w.heap.size<=c):Fr S w (X.setRow c cs) :=
 ⟨h.os,h.tape,h.output,by simpa [World.setRow] using h.size,λk hk hn=>(setRow_other X c k cs Oz).trans (h.block k hk hn)⟩
theorem G6 {W y1 wx:World}{wb c:Nat}{r:Mt×Bool}{gv ev:Value}(h:RMIs W y1 wb r gv ev)(hf:Fr (λj=>j=c) y1 wx)(hn:(∃cs,Cl 77 y1 c cs)∨y1.heap.size<=c) :
  RB wx wb r.1.L/\wx.ownsRow 0 114 7 gv r.1.F.length (flF r.1.F)/\wx.ownsRow 0 49 6 ev r.1.D.length (ol r.1.D):=by
 obtain⟨A,c',h1,h2⟩:=h.rb
 have n1:∀{T:TypeId} {k:Nat} {cs:Array Value},Cl T y1 k cs->T≠77->¬k=c:=λhk ht e=>by
  rcases hn with ⟨cs,hc⟩|hc
  ·exact Zu hk hc ht e
  ·have:=Qc hk;omega
 have n2:∀{base n size:Nat} {T:TypeId} {v:Value} {xs:List Value},y1.ownsRow base T size v n xs->T≠77->∀j,v.ownBlock=some j->¬j=c:=λho ht j hj e=>by
  subst e;rcases hn with ⟨cs,hc⟩|hc
  ·exact Qo ho hc ht hj
  ·have:=J2 ho _ hj;omega
 exact⟨⟨A,c',hf.blk h1 (n1 h1 Ox),Qi h2 hf (n2 h2 Ox)⟩,Ju (Qi h.fo hf (n2 h.fo Ox)) (As _),Ju (Qi h.dr hf (n2 h.dr Ox)) (As _)⟩
theorem G7 {ops:Array Oper}{o:Oper}{a:Act}{w:World}{Q:Exit->Act->World->Prop}{K:Act->World->Prop}{E:Prop}(hgd:Region.wanted o (yielded ops a.tmps)=true)(x y:Operand)(ho:o.op=.store 71 x y)(g:Nat)(cs:Array Value)(hx:a.eval x=.pointer (some ⟨g,0,none⟩))(hy:a.eval y=.agg cs)(old:Array Value)(t:TypeId)
  (hg:Cl t w g old) (hs:old.size=4) (hc:cs.size=4) (h1:cs.all (·.oneCell')=true) (h:K (a.put o.dst undef) (w.setRow g cs)):if Region.wanted o (yielded ops a.tmps)=true then Oper.wp prog o a w K Q else E:=by
 rw[Sx hgd]
 exact wp_store_row _ x y ho g _ hx hy _ _ hg (by rw[hc];exact GO) (by rw[hs,hc]) h1 h
def XS (w:World)(X:Ruls)(R:Rl)(q lf:Int)(st:Bool)(g:Int)(e:Ending)(w':World):Prop :=
 ∃p:Value,e=.returned p/\Hid (Ok w w'/\∀W,Ok w' W->Calls prog 33 #[p,.agg #[.int .i64 R.acc,.int .i64 R.side,.int .i64 R.price,.int .i64 q,.int .i64 (-1)],.agg #[X.ver,X.ticks,.int .i64 R.lot,X.band,X.fees,X.round,.int .i64 R.mode,.int .i64 R.self,X.lay]] W λe w''=>∃(FA DA:Option Addr) (nF fc nD dc:Nat),e=.returned (.tuple #[.agg #[.slice FA nF fc,.slice DA nD dc,.int .i64 lf,.bool st],.int .i64 g])/\Fr (λj=>w.heap.size<=j/\j<w'.heap.size) W w'')
theorem qca (bp:Value)(X:Ruls)(R:Rl)(q cash lf:Int)(st:Bool)(g rv:Int)(h0:g=0->IntKind.i64.wrap (q-lf)=rv)(h1:¬g=0->rv=0)(w:World)(H:∀W,Ok w W->Calls prog 22 #[bp] W (XS W X R q lf st g)) :
  Calls prog 37 #[bp,.agg #[.int .i64 R.acc,.int .i64 R.side,.int .i64 R.price,.int .i64 q,.int .i64 cash],.agg #[X.ver,X.ticks,.int .i64 R.lot,X.band,X.fees,X.round,.int .i64 R.mode,.int .i64 R.self,X.lay]] w λe w'=>e=.returned (.int .i64 rv)/\Ok w w':=by
 have HC:=Ou H
 unfold XS at HC
 have lD:=Ou (Sv h0 h1)
 clear H h0 h1
 obtain⟨w2,hw2⟩:∃w2,(w.alloc (.cells #[.int .i64 R.acc,.int .i64 R.side,.int .i64 R.price,.int .i64 q,.int .i64 (-1)] 64)).alloc (.cells #[X.ver,X.ticks,.int .i64 R.lot,X.band,X.fees,X.round,.int .i64 R.mode,.int .i64 R.self,X.lay] 68)=w2:=⟨_,rfl⟩
 have b2:Ok w w2:=by rw[<-hw2];exact((Oq _ _).alloc (Sq _) _).alloc Oy _
 have c4:Cl 64 w2 w.heap.size #[.int .i64 R.acc,.int .i64 R.side,.int .i64 R.price,.int .i64 q,.int .i64 (-1)]:=by rw[<-hw2];exact Qp Oy (Qe rfl)
 have c5:Cl 68 w2 (w.heap.size+1) #[X.ver,X.ticks,.int .i64 R.lot,X.band,X.fees,X.round,.int .i64 R.mode,.int .i64 R.self,X.lay]:=by rw[<-hw2];exact Qe Oy
 have aG:=Ou b2
 have NT:Hid (∀W,Ok w2 W->W.cell? ⟨w.heap.size,0,none⟩=some (.int .i64 R.acc)/\W.cell? ⟨w.heap.size,1,none⟩=some (.int .i64 R.side)/\W.cell? ⟨w.heap.size,2,none⟩=some (.int .i64 R.price)/\W.cell? ⟨w.heap.size,3,none⟩=some (.int .i64 q)/\W.cell? ⟨w.heap.size,4,none⟩=some (.int .i64 (-1))):=Ou (λW hW=>ZO (Cl.bel c4 hW))
 have NR:Hid (∀W,Ok w2 W->W.cell? ⟨w.heap.size+1,0,none⟩=some X.ver/\W.cell? ⟨w.heap.size+1,1,none⟩=some X.ticks/\W.cell? ⟨w.heap.size+1,2,none⟩=some (.int .i64 R.lot)/\W.cell? ⟨w.heap.size+1,3,none⟩=some X.band/\W.cell? ⟨w.heap.size+1,4,none⟩=some X.fees/\W.cell? ⟨w.heap.size+1,5,none⟩=some X.round/\W.cell? ⟨w.heap.size+1,6,none⟩=some (.int .i64 R.mode)/\W.cell? ⟨w.heap.size+1,7,none⟩=some (.int .i64 R.self)/\W.cell? ⟨w.heap.size+1,8,none⟩=some X.lay):=Ou (λW hW=>KF (Cl.bel c5 hW))
 clear b2 c4 c5
 go_enter func37,ntmps37
 go_upto_region 2 with fail
 clear hw2
 go_cut [7,8] (λs7 s8 wx=>∃(c nF fc nD dc:Nat) (FA DA:Option Addr),s7=.pointer (some ⟨c,0,none⟩)/\s8=.int .i64 g/\Hid (Ok w2 wx/\Cl 71 wx c #[.slice FA nF fc,.slice DA nD dc,.int .i64 lf,.bool st]))
 case first =>
  refine wp_region_held_drew (S:=λW=>Ok w2 W) Ow (by exact(Oq _ _).drew) (λhHeld=>?_);refine tkA 0 ?_;refine tkH 2 ?_ ?_ Ov ?_;rotate_left
  ·(intro w hSw;obtain⟨q0,q1,q2,q3,q4⟩:=NT.out _ hSw;(try dsimp only at hSw);go_simp;try with_reducible rfl)
  (try simp only[zz]);refine tkH 3 ?_ ?_ Ov ?_;rotate_left
  ·(intro w hSw;obtain⟨q0,q1,q2,q3,q4,q5,q6,q7,q8⟩:=NR.out _ hSw;(try dsimp only at hSw);go_simp;try with_reducible rfl)
  (try simp only[zz]);refine wpAnyH_ready (rs:=[1,8]) Ow Oy ?_;refine(AllReadyH.cons (o:=⟨some 12,_,_,_,_,_⟩) rfl (λK hK=>?_) (AllReadyH.cons (o:=⟨some 7,_,_,_,_,_⟩) rfl (λK hK=>?_) AllReadyH.nil))
  ·go_simp;((with_reducible refine(HC.out _ ?_).mono ?_);(exact aG.out.trans (hHeld.mono aG.out.size));rintro e y0 ⟨p,rfl,hN⟩);have bO:=Ou hN.out.2;have mG:=Ou hHeld.size;refine hK.out _ _ (by exact hHeld.trans (hN.out.1.mono hHeld.size)) (λhHeld=>?_);clear hK K;(try simp only[zz]);clear hN;refine wpAnyH_ready (rs:=[4,8]) Ow Oy ?_;refine(AllReadyH.cons (o:=⟨some 15,_,_,_,_,_⟩) rfl (λK hK=>?_) (AllReadyH.cons (o:=⟨some 7,_,_,_,_,_⟩) rfl (λK hK=>?_) AllReadyH.nil))
   ·go_simp;((with_reducible refine(bO.out _ ?_).mono ?_);(repeat (first|exact Below.refl _ _|refine Below.drew ?_|refine Below.alloc ?_ ?_ _|exact Sq _));rintro e y1 ⟨FA,DA,nF,fc,nD,dc,rfl,hf⟩);have iP:Hid (w2.heap.size<=y1.heap.size):=Ou (Sk hHeld.size hf.size);refine hK.out _ _ (by exact hHeld.trans (hf.below (B:=w2.heap.size) (λj hj=>Sk mG.out hj.1) hHeld.size)) (λhHeld=>?_);clear hK K;(try simp only[zz]);refine tkA 5 ?_;refine tkA 6 ?_;refine tkA 7 ?_;(try simp only[zz]);refine wpAnyH_ready (rs:=[8]) Ow Oy ?_;refine(AllReadyH.cons (o:=⟨some 7,_,_,_,_,_⟩) rfl (λK hK=>?_) AllReadyH.nil)
    go_simp;have HY8:=Ou hHeld.size;refine hK.out _ _ (by exact hHeld.alloc hHeld.size _) (λhHeld=>?_);clear hK K;(try simp only[zz]);refine wpAnyH_ready (rs:=[9]) Ow Oy ?_;refine(AllReadyH.cons (o:=⟨none,_,_,_,_,_⟩) rfl (λK hK=>?_) AllReadyH.nil);have dP:=setRow_heap _ _ _ #[.slice FA nF fc,.slice DA nD dc,.int .i64 lf,.bool st] _ _ ((show Cl 71 _ y1.heap.size #[.slice none 0 0,.slice none 0 0,.int .i64 0,.bool false] from Qh (Qe rfl)));((with_reducible apply G7);rfl;rfl;rfl;rfl;exact(show Cl 71 _ y1.heap.size #[.slice none 0 0,.slice none 0 0,.int .i64 0,.bool false] from Qh (Qe rfl));rfl;rfl;exact ZH;skip)
    refine hK.out _ _ (by exact Zy hHeld (iP.out)) (λhHeld=>?_);clear hK K;(try simp only[zz]);refine tkA 10 ?_;(try simp only[zz]);refine wpAnyH_done Ow ?_ _;go_wp2_with fail
    go_meet
    case rel=>exact⟨y1.heap.size,nF,fc,nD,dc,FA,DA,rfl,rfl,Ou ⟨hHeld,Qh dP⟩⟩
   ·go_simp;have HY8:=Ou hHeld.size;refine hK.out _ _ (by exact hHeld.alloc hHeld.size _) (λhHeld=>?_);clear hK K;(try simp only[zz]);refine wpAnyH_ready (rs:=[4]) Ow Oy ?_;refine(AllReadyH.cons (o:=⟨some 15,_,_,_,_,_⟩) rfl (λK hK=>?_) AllReadyH.nil);go_simp;((with_reducible refine(bO.out _ ?_).mono ?_);(repeat (first|exact Below.refl _ _|refine Below.drew ?_|refine Below.alloc ?_ ?_ _|exact Sq _));rintro e y1 ⟨FA,DA,nF,fc,nD,dc,rfl,hf⟩);have dL:Hid (Cl 71 y1 y0.heap.size #[.slice none 0 0,.slice none 0 0,.int .i64 0,.bool false]):=Ou (hf.blk (show Cl 71 _ y0.heap.size #[.slice none 0 0,.slice none 0 0,.int .i64 0,.bool false] from Qh (Qe rfl)) (λh=>by have h1:=h.2;omega))
    have iP:Hid (w2.heap.size<=y1.heap.size):=Ou (Sk hHeld.size hf.size);refine hK.out _ _ (by exact hHeld.trans (hf.below (B:=w2.heap.size) (λj hj=>Sk mG.out hj.1) hHeld.size)) (λhHeld=>?_);clear hK K;(try simp only[zz]);refine tkA 5 ?_;refine tkA 6 ?_;refine tkA 7 ?_;(try simp only[zz]);refine wpAnyH_ready (rs:=[9]) Ow Oy ?_;refine(AllReadyH.cons (o:=⟨none,_,_,_,_,_⟩) rfl (λK hK=>?_) AllReadyH.nil);have dP:=setRow_heap _ _ _ #[.slice FA nF fc,.slice DA nD dc,.int .i64 lf,.bool st] _ _ (Qh dL.out);((with_reducible apply G7);rfl;rfl;rfl;rfl;exact Qh dL.out;rfl;rfl;exact ZH;skip)
    refine hK.out _ _ (by exact Zy hHeld (HY8.out)) (λhHeld=>?_);clear hK K;(try simp only[zz]);refine tkA 10 ?_;(try simp only[zz]);refine wpAnyH_done Ow ?_ _;go_wp2_with fail
    go_meet
    case rel=>exact⟨y0.heap.size,nF,fc,nD,dc,FA,DA,rfl,rfl,Ou ⟨hHeld,Qh dP⟩⟩
  ·go_simp;refine hK.out _ _ (by exact hHeld.alloc hHeld.size _) (λhHeld=>?_);clear hK K;(try simp only[zz]);refine wpAnyH_ready (rs:=[1]) Ow Oy ?_;refine(AllReadyH.cons (o:=⟨some 12,_,_,_,_,_⟩) rfl (λK hK=>?_) AllReadyH.nil);go_simp;((with_reducible refine(HC.out _ ?_).mono ?_);(exact aG.out.trans (hHeld.mono aG.out.size));rintro e y0 ⟨p,rfl,hN⟩);have hA:Hid (Cl 71 y0 w2.heap.size #[.slice none 0 0,.slice none 0 0,.int .i64 0,.bool false]):=Ou (Cl.bel (show Cl 71 _ w2.heap.size #[.slice none 0 0,.slice none 0 0,.int .i64 0,.bool false] from Qh (Qe rfl)) hN.out.1);have bO:=Ou hN.out.2
   have mG:=Ou hHeld.size;refine hK.out _ _ (by exact hHeld.trans (hN.out.1.mono hHeld.size)) (λhHeld=>?_);clear hK K;(try simp only[zz]);clear hN;refine wpAnyH_ready (rs:=[4]) Ow Oy ?_;refine(AllReadyH.cons (o:=⟨some 15,_,_,_,_,_⟩) rfl (λK hK=>?_) AllReadyH.nil);go_simp;((with_reducible refine(bO.out _ ?_).mono ?_);(repeat (first|exact Below.refl _ _|refine Below.drew ?_|refine Below.alloc ?_ ?_ _|exact Sq _));rintro e y1 ⟨FA,DA,nF,fc,nD,dc,rfl,hf⟩);have dL:Hid (Cl 71 y1 w2.heap.size #[.slice none 0 0,.slice none 0 0,.int .i64 0,.bool false]):=Ou (hf.blk (Qh hA.out) (λh=>by have h1:=h.1;simp at h1;omega))
   have iP:Hid (w2.heap.size<=y1.heap.size):=Ou (Sk hHeld.size hf.size);refine hK.out _ _ (by exact hHeld.trans (hf.below (B:=w2.heap.size) (λj hj=>Sk mG.out hj.1) hHeld.size)) (λhHeld=>?_);clear hK K;(try simp only[zz]);refine tkA 5 ?_;refine tkA 6 ?_;refine tkA 7 ?_;(try simp only[zz]);refine wpAnyH_ready (rs:=[9]) Ow Oy ?_;refine(AllReadyH.cons (o:=⟨none,_,_,_,_,_⟩) rfl (λK hK=>?_) AllReadyH.nil);have dP:=setRow_heap _ _ _ #[.slice FA nF fc,.slice DA nD dc,.int .i64 lf,.bool st] _ _ (Qh dL.out);((with_reducible apply G7);rfl;rfl;rfl;rfl;exact Qh dL.out;rfl;rfl;exact ZH;skip)
   refine hK.out _ _ (by exact Zy hHeld (Sq _)) (λhHeld=>?_);clear hK K;(try simp only[zz]);refine tkA 10 ?_;(try simp only[zz]);refine wpAnyH_done Ow ?_ _;go_wp2_with fail
   go_meet
   case rel=>exact⟨w2.heap.size,nF,fc,nD,dc,FA,DA,rfl,rfl,Ou ⟨hHeld,Qh dP⟩⟩
 case rest =>
  obtain⟨c,nF,fc,nD,dc,FA,DA,rfl,rfl,hQ⟩:=hcut;obtain⟨q0,q1,q2,q3,q4⟩:=NT.out _ hQ.out.1;obtain⟨e0,e1,e2,e3⟩:=JI hQ.out.2;have BE:=Ou (aG.out.trans (hQ.out.1.mono aG.out.size));clear hQ HC NT NR aG;by_cases hg:g=0
  ·have g1:(g != 0)=false:=by simp[hg]
   have hz:=lD.out.1 hg;clear hg lD;go_wp2_with fail
   go_ret;exact⟨rfl,BE.out⟩
  ·have g1:(g != 0)=true:=by simp[hg]
   obtain rfl:=lD.out.2 hg;clear hg lD;go_wp2_with fail
   go_ret;exact⟨rfl,BE.out⟩
theorem qla (k:Int)(w:World):Calls prog 16 #[.pointer none,.int .i64 k] w λe w'=>e=.returned (.tuple #[.pointer none,.int .i64 1])/\w=w':=by
 have HM:=Ou (λw=>GP w)
 go_enter func16,ntmps16
 go_wp2_with ((with_reducible refine(HM.out _).mono ?_);rintro e w' ⟨rfl,rfl⟩)
 refine bodyPost_ret (results_tmp2 rfl _ _ _) rfl ?_
 exact⟨rfl,rfl⟩
theorem qlb (w:World):Calls prog 22 #[.pointer none] w λe w'=>e=.returned (.pointer none)/\w=w':=by
 have HK:=Ou (λw=>qbS w)
 have HT:=Ou (λw=>qla 0 w)
 go_enter func22,ntmps22
 go_wp2_with (first|((with_reducible refine(HK.out _).mono ?_);rintro e w' ⟨rfl,rfl⟩)|((with_reducible refine(HT.out _).mono ?_);rintro e w' ⟨rfl,rfl⟩))
 go_ret
 exact⟨rfl,rfl⟩
theorem qlc (X:Ruls)(R:Rl)(q:Int)(W:World):Calls prog 22 #[.pointer none] W (XS W X R q 0 false 1):=by
 refine(qlb W).mono ?_
 rintro e w' ⟨rfl,rfl⟩
 refine⟨_,rfl,Ou ⟨Below.refl _ _,λW' hW=>(qkt X R q (-1) W').mono ?_⟩⟩
 rintro e w'' ⟨rfl,h⟩
 exact⟨none,none,0,0,0,0,rfl,Fr.of_below h.out⟩
theorem qld {X:Ruls}{R:Rl}{q k:Int}{L:List Od}{r:Mt×Bool}{g:Int}(hB:Both R X q (-1) k L r g){b:Nat}{v:Value}{S:Nat->Prop}{W:World}(h:LyB W b v k L S):Calls prog 22 #[ptA b] W (XS W X R q r.1.left r.2 g):=by
 refine(qjS b v k L S W h).mono ?_
 rintro e w' ⟨b',v',S',rfl,hN⟩
 refine⟨_,rfl,Ou ⟨hN.out.be,λW' hW=>(hB.mt b' v' S' W' (hN.out.ly.below hW)).mono ?_⟩⟩
 rintro e w'' ⟨fv,dv,S2,rfl,hM⟩
 obtain⟨FA,fc,rfl⟩:=Zj hM.out.fo
 obtain⟨DA,dc,rfl⟩:=Zj hM.out.dr
 exact⟨FA,DA,_,fc,_,dc,rfl,hM.out.fr.mono (λj hj=>.inl ⟨hN.out.lo j hj,hN.out.ly.hd.lt j hj⟩)⟩
theorem qlf (w:World):Calls prog 48 #[.pointer none] w λe w'=>e=.returned (lvl w.heap.size)/\w'=w.alloc (.cells #[.map none] 132):=by
 have HM:=Ou (λw=>GP w)
 go_enter func48,ntmps48
 go_wp2_with ((with_reducible refine(HM.out _).mono ?_);rintro e w' ⟨rfl,rfl⟩)
 go_ret
 exact⟨rfl,rfl⟩
theorem qlg (w:World):Bk (w.alloc (.cells #[.map none] 132)) (some ⟨w.heap.size,0,none⟩) none Zm Zm :=
 ⟨.inr ⟨_,rfl,Qe rfl⟩,λ_=>⟨rfl,rfl⟩,λk h=>(by cases h),λ_=>rfl,λ_=>rfl,World.ownsRow_nil _ _ _ _,World.ownsRow_nil _ _ _ _,λr hr=>(by cases hr)⟩
theorem qlh (sd:Int)(hs:(Lit.int .i64 sd).wf=true)(w:World):Calls prog 25 #[.pointer none,.int .i64 sd] w (Kh w none):=by
 have hm:∀(x:Value) (w:World),(Go.method 386 102 x "Best").run prog w=.ok (170,x) w:=λx _=>by kernel_rfl
 obtain⟨w0,hw0⟩:∃w0,w.alloc (.cells (OC ⟨0,0,0,0,0,0⟩) 38)=w0:=⟨_,rfl⟩
 have b0:Ok w w0:=by rw[<-hw0];exact Zp _ _
 have c0:Cl 38 w0 w.heap.size (OC ⟨0,0,0,0,0,0⟩):=by rw[<-hw0];exact Yc w
 have HH:=Ou (qlf w0)
 obtain⟨w1,hw1⟩:∃w1,w0.alloc (.cells #[.map none] 132)=w1:=⟨_,rfl⟩
 have b1:Ok w0 w1:=by rw[<-hw1];exact Zp _ _
 have bY:Hid (Calls prog 170 #[ptA w0.heap.size,.int .i64 sd] w1 λe w'=>e=.returned (.tuple #[.agg (OC ⟨0,0,0,0,0,0⟩),.bool false])/\Hid (Ok w1 w')):=Ou (by
  have h:=Tj _ none Zm Zm sd hs w1 (hw1 ▸ qlg w0) (λr hr=>by cases hr);have e:Qu Zm Zm sd=[]:=by unfold Qu;split;rfl;split<;>rfl
  rw[e]at h;exact h)
 have HB:=Ou (Sv b0 (Sv c0 b1))
 rw[hw1]at HH
 clear b0 c0 b1 hw1
 go_enter func25,ntmps25
 go_wp2_with ((with_reducible refine HH.out.mono ?_);rintro e w' ⟨rfl,rfl⟩)
 ((with_reducible refine bY.out.mono ?_);rintro e w' ⟨rfl,h⟩)
 have c1:Cl 38 w' w.heap.size (OC ⟨0,0,0,0,0,0⟩):=Cl.bel (Cl.bel HB.out.2.1 HB.out.2.2) h.out
 have C1:=Ou c1
 go_wp2_with ((with_reducible apply K5);rfl;rfl;rfl;rfl;exact C1.out;skip)
 refine bodyPost_ret (ZK rfl _ _ _ rfl _ _ (setRow_heap _ _ _ _ _ _ C1.out) _ rfl) rfl ?_
 exact⟨rfl,Ou (Zy (HB.out.1.trans ((HB.out.2.2.trans (h.out.mono HB.out.2.2.size)).mono HB.out.1.size)) (Sq _))⟩
theorem qli (s p:Int)(w:World) :
  Calls prog 38 #[.pointer none,.int .i64 s,.int .i64 p] w λe w'=>e=.returned (.bool false)/\Ok w w':=by
 have HO:=Ou (λW=>Ye s W)
 have bY:=Ou (qlh (Zt s) (qbE s) w)
 unfold Kh at bY
 generalize Zt s=so at *
 have hz:oZ none=⟨0,0,0,0,0,0⟩:=rfl
 rw[hz]at bY
 go_enter func38,ntmps38
 go_wp2_with ((with_reducible refine(HO.out _).mono ?_);rintro e w' ⟨rfl,rfl⟩)
 ((with_reducible refine bY.out.mono ?_);rintro e y1 ⟨rfl,hb⟩)
 have BX:=Ou ((hb.out.alloc hb.out.size (.cells (OC ⟨0,0,0,0,0,0⟩) 38)))
 clear bY hb
 go_wp2_with fail
 go_ret
 exact⟨rfl,BX.out⟩
theorem qlj {ops:Array Oper}{rest:List Oper}{o:Oper}{a:Act}{w:World}{Q:Exit->Act->World->Prop}(hgd:o.guard=none)(x y:Operand)(ho:o.op=.store 49 x y)(g:Nat)(z:Od)(hx:a.eval x=.pointer (some ⟨g,0,none⟩))(hy:a.eval y=.agg (OC z))(z':Od)(t:TypeId)
  (hg:Cl t w g (OC z')) (h:wpList prog ops Q rest (a.put o.dst undef) (w.setRow g (OC z))):wpList prog ops Q (o :: rest) a w :=
 wpList_plain hgd λK hK=>wp_store_row _ x y ho g _ hx hy _ _ hg U8 rfl (all_oneCell_toArray (cs:=Qn z) (Jr z)) (hK _ _ h)
theorem qlk {s p:Int}{L:List Od}(h:s=1):Kk s p L=((QE 2 L).isSome&&QN s p (oZ (QE 2 L)).price):=by
 subst h
 unfold Kk
 rw[show Zt 1=2 from rfl]
 cases QE 2 L<;>rfl
theorem qll {s p:Int}{L:List Od}(h:¬s=1)(hg:∀x∈L,Qk x=true):Kk s p L=((QE 1 L).isSome&&QN s p (oZ (QE 1 L)).price):=by
 by_cases h2:s=2
 ·subst h2;unfold Kk;rw[show Zt 2=1 from rfl]
  cases QE 1 L<;>rfl
 ·have e1:QN s p (oZ (QE 1 L)).price=false:=by unfold QN;simp[h,h2]
  have e2:QE (Zt s) L=none:=by
   unfold Zt;rw[Sw h,Sw h2];unfold QE;have e3:Zo 0 L=[]:=by
    unfold Zo;rw[Pk];intro x hx h0;have:=(J1 (hg x hx)).2.2.1;simp only[beq_iff_eq]at h0;omega
   rw[e3];rfl
  unfold Kk;rw[e1,e2,Fk]
theorem qlm (k:Int)(A:Option Addr)(n c:Nat)(X:Ruls)(R:Rl)(q cash:Int)(w:World)(hz:(64:Int)<(n:Int)) :
  Calls prog 7 #[.int .i64 k,.slice A n c,.agg #[.int .i64 R.acc,.int .i64 R.side,.int .i64 R.price,.int .i64 q,.int .i64 cash],.agg #[X.ver,X.ticks,.int .i64 R.lot,X.band,X.fees,X.round,.int .i64 R.mode,.int .i64 R.self,X.lay]] w λe w'=>e=.returned (.bool true)/\Ok w w':=by
 have iB:=Ou (λW=>GS W)
 obtain⟨w2,hw2⟩:∃w2,(w.alloc (.cells #[.int .i64 R.acc,.int .i64 R.side,.int .i64 R.price,.int .i64 q,.int .i64 cash] 64)).alloc (.cells #[X.ver,X.ticks,.int .i64 R.lot,X.band,X.fees,X.round,.int .i64 R.mode,.int .i64 R.self,X.lay] 68)=w2:=⟨_,rfl⟩
 have b2:Ok w w2:=by rw[<-hw2];exact((Oq _ _).alloc (Sq _) _).alloc Oy _
 have c4:Cl 64 w2 w.heap.size #[.int .i64 R.acc,.int .i64 R.side,.int .i64 R.price,.int .i64 q,.int .i64 cash]:=by rw[<-hw2];exact Qp Oy (Qe rfl)
 have c5:Cl 68 w2 (w.heap.size+1) #[X.ver,X.ticks,.int .i64 R.lot,X.band,X.fees,X.round,.int .i64 R.mode,.int .i64 R.self,X.lay]:=by rw[<-hw2];exact Qe Oy
 have aG:=Ou b2
 have iW:=Ou c4
 have mF:=Ou c5
 clear b2 c4 c5
 go_enter func7,ntmps7
 go_wp2_with ((with_reducible refine(iB.out _).mono ?_);rintro e w9 ⟨rfl,gI⟩)
 go_ret
 exact⟨rfl,aG.out.trans (gI.mono aG.out.size)⟩
theorem qcb (k:Int)(A:Option Addr)(n c:Nat)(X:Ruls)(R:Rl)(q cash:Int)(w:World)(hz:n<=64)(HB:∀W,Ok w W->Calls prog 10 #[.int .i64 k,.slice A n c] W (XI W)) :
  Calls prog 7 #[.int .i64 k,.slice A n c,.agg #[.int .i64 R.acc,.int .i64 R.side,.int .i64 R.price,.int .i64 q,.int .i64 cash],.agg #[X.ver,X.ticks,.int .i64 R.lot,X.band,X.fees,X.round,.int .i64 R.mode,.int .i64 R.self,X.lay]] w λe w'=>e=.returned (.bool true)/\Ok w w':=by
 have hzI:decide ((64:Int)<(n:Int))=false:=Sz Oz
 have iB:=Ou (λW=>GS W)
 obtain⟨w2,hw2⟩:∃w2,(w.alloc (.cells #[.int .i64 R.acc,.int .i64 R.side,.int .i64 R.price,.int .i64 q,.int .i64 cash] 64)).alloc (.cells #[X.ver,X.ticks,.int .i64 R.lot,X.band,X.fees,X.round,.int .i64 R.mode,.int .i64 R.self,X.lay] 68)=w2:=⟨_,rfl⟩
 have b2:Ok w w2:=by rw[<-hw2];exact((Oq _ _).alloc (Sq _) _).alloc Oy _
 have c4:Cl 64 w2 w.heap.size #[.int .i64 R.acc,.int .i64 R.side,.int .i64 R.price,.int .i64 q,.int .i64 cash]:=by rw[<-hw2];exact Qp Oy (Qe rfl)
 have c5:Cl 68 w2 (w.heap.size+1) #[X.ver,X.ticks,.int .i64 R.lot,X.band,X.fees,X.round,.int .i64 R.mode,.int .i64 R.self,X.lay]:=by rw[<-hw2];exact Qe Oy
 have aG:=Ou b2
 have iW:=Ou c4
 have mF:=Ou c5
 have iV:=Ou (HB w2 b2)
 unfold XI at iV
 clear b2 c4 c5 HB hz
 go_enter func7,ntmps7
 go_wp2_with fail
 ((with_reducible refine iV.out.mono ?_);rintro e w3 ⟨rfl,h3⟩)
 have HRc:=Ou (qca (.pointer none) X R q cash 0 false 1 0 (λh=>absurd h Ox) (λ_=>rfl) w3 (λW _=>qlc X R q W))
 obtain⟨t0,t1,t2,t3,t4⟩:=ZO (Cl.bel iW.out h3.out);obtain⟨r0,r1,r2,r3,r4,r5,r6,r7,r8⟩:=KF (Cl.bel mF.out h3.out)
 have B23:=Ou h3.out
 have B3:=Ou (aG.out.trans (h3.out.mono aG.out.size))
 clear h3 iV
 go_wp2_with fail
 ((with_reducible refine HRc.out.mono ?_);rintro e w4 ⟨rfl,hb4⟩)
 have iC:=Ou (qli R.side R.price w4)
 have b24:=B23.out.trans (hb4.mono B23.out.size)
 have B4:=Ou (B3.out.trans (hb4.mono B3.out.size))
 clear t0 t1 t2 t3 t4 r0 r1 r2 r3 r4 r5 r6 r7 r8 hb4 HRc
 obtain⟨t0,t1,t2,t3,t4⟩:=ZO (Cl.bel iW.out b24)
 clear b24
 go_wp2_with fail
 ((with_reducible refine iC.out.mono ?_);rintro e w5 ⟨rfl,dH⟩)
 have B5:=Ou (B4.out.trans (dH.mono B4.out.size))
 clear dH iC
 go_wp2_with ((with_reducible refine(iB.out _).mono ?_);rintro e w9 ⟨rfl,gI⟩)
 go_ret
 exact⟨rfl,B5.out.trans (gI.mono B5.out.size)⟩
theorem qcc (k:Int)(hk:k=1∨k=2)(A:Option Addr)(n c:Nat)(L:List Od)(X:Ruls)(R:Rl)(q cash:Int)(w:World)(H:Ods w A n L)(hz:n<=64)(hB:QW L=true)(r:Mt×Bool)(g rv:Int)(hBo:Both R X q (-1) k L r g)(h0:g=0->IntKind.i64.wrap (q-r.1.left)=rv)(h1:¬g=0->rv=0) :
  Calls prog 7 #[.int .i64 k,.slice A n c,.agg #[.int .i64 R.acc,.int .i64 R.side,.int .i64 R.price,.int .i64 q,.int .i64 cash],.agg #[X.ver,X.ticks,.int .i64 R.lot,X.band,X.fees,X.round,.int .i64 R.mode,.int .i64 R.self,X.lay]] w λe w'=>e=.returned (.bool true)/\Ok w w':=by
 have hzI:decide ((64:Int)<(n:Int))=false:=Sz Oz
 have iB:=Ou (λW=>GS W)
 obtain⟨w2,hw2⟩:∃w2,(w.alloc (.cells #[.int .i64 R.acc,.int .i64 R.side,.int .i64 R.price,.int .i64 q,.int .i64 cash] 64)).alloc (.cells #[X.ver,X.ticks,.int .i64 R.lot,X.band,X.fees,X.round,.int .i64 R.mode,.int .i64 R.self,X.lay] 68)=w2:=⟨_,rfl⟩
 have b2:Ok w w2:=by rw[<-hw2];exact((Oq _ _).alloc (Sq _) _).alloc Oy _
 have c4:Cl 64 w2 w.heap.size #[.int .i64 R.acc,.int .i64 R.side,.int .i64 R.price,.int .i64 q,.int .i64 cash]:=by rw[<-hw2];exact Qp Oy (Qe rfl)
 have c5:Cl 68 w2 (w.heap.size+1) #[X.ver,X.ticks,.int .i64 R.lot,X.band,X.fees,X.round,.int .i64 R.mode,.int .i64 R.self,X.lay]:=by rw[<-hw2];exact Qe Oy
 have aG:=Ou b2
 have iW:=Ou c4
 have mF:=Ou c5
 have iV:=Ou (Gx k hk A n c L w2 (H.below b2) hB)
 obtain⟨M,st⟩:=r
 obtain⟨nF,hnF⟩:∃n,M.F.length=n:=⟨_,rfl⟩
 obtain⟨nD,pZ⟩:∃n,M.D.length=n:=⟨_,rfl⟩
 obtain⟨lf,aQ⟩:∃n,M.left=n:=⟨_,rfl⟩
 have qT:=Ou (Sv hnF (Sv pZ aQ))
 have h0':g=0->IntKind.i64.wrap (q-lf)=rv:=by rw[<-aQ];exact h0
 have lD:=Ou (Sv h0' h1)
 have HRt:Hid (∀(wb:Nat) (W:World),RB W wb L->Calls prog 35 #[ptA wb,.agg #[.int .i64 R.acc,.int .i64 R.side,.int .i64 R.price,.int .i64 q,.int .i64 (-1)],.agg #[.int .i64 R.lot,.int .i64 R.mode,.int .i64 R.self]] W λe w'=>∃(fv dv:Value),e=.returned (.tuple #[.agg #[fv,dv,.int .i64 lf,.bool st],.int .i64 g])/\Hid (RMIs W w' wb (M,st) fv dv)):=Ou (λwb W h=>(hBo.rf wb W h).mono (by
  rintro e w' ⟨fv,dv,rfl,h⟩;exact⟨fv,dv,by rw[<-aQ],h⟩))
 have HRe:Hid (∀(b:Nat) (v:Value) (S:Nat->Prop) (W:World),LyB W b v k L S->Calls prog 37 #[ptA b,.agg #[.int .i64 R.acc,.int .i64 R.side,.int .i64 R.price,.int .i64 q,.int .i64 cash],.agg #[X.ver,X.ticks,.int .i64 R.lot,X.band,X.fees,X.round,.int .i64 R.mode,.int .i64 R.self,X.lay]] W λe w'=>e=.returned (.int .i64 rv)/\Ok W w'):=Ou (λb v S W h=>qca (ptA b) X R q cash lf st g rv h0' h1 W (λW' hW=>by
  have h2:=qld hBo (h.below hW);dsimp only at h2
  rw[aQ]at h2;exact h2))
 have HO:=Ou H
 have aJ:=Ou H.1
 have mJ:=Ou (Yd hB).2.1
 clear b2 c4 c5 H hB hk hBo hnF pZ aQ h0 h0' h1
 go_enter func7,ntmps7
 go_wp2_with fail
 ((with_reducible refine iV.out.mono ?_);rintro e w3 ⟨b,v,S,rfl,hN⟩)
 have tC:=Ou (HRe.out b v S w3 hN.out.ly)
 obtain⟨t0,t1,t2,t3,t4⟩:=ZO (Cl.bel iW.out hN.out.be);obtain⟨r0,r1,r2,r3,r4,r5,r6,r7,r8⟩:=KF (Cl.bel mF.out hN.out.be)
 have HN:=Ou hN.out
 clear hN iV HRe
 go_wp2_with fail
 ((with_reducible refine tC.out.mono ?_);rintro e w4 ⟨rfl,hb4⟩)
 have iC:=Ou (qj8 b v k L S R.side R.price w4 (HN.out.ly.below hb4))
 obtain⟨mB,hmB⟩:∃x,Kk R.side R.price L=x:=⟨_,rfl⟩
 rw[hmB]at iC
 have HmB:=Ou hmB
 have yJ:=Ou hb4
 have b24:=HN.out.be.trans (hb4.mono HN.out.be.size)
 clear t0 t1 t2 t3 t4 r0 r1 r2 r3 r4 r5 r6 r7 r8 hmB hb4 tC
 obtain⟨t0,t1,t2,t3,t4⟩:=ZO (Cl.bel iW.out b24)
 clear b24
 go_wp2_with fail
 ((with_reducible refine iC.out.mono ?_);rintro e w5 ⟨rfl,dH⟩)
 have wO:=Ou (yJ.out.trans (dH.mono yJ.out.size))
 have rN:=Ou (HN.out.be.trans (wO.out.mono HN.out.be.size))
 have HP:=Ou (qk2 A n c L w5 (HO.out.below (aG.out.trans (rN.out.mono aG.out.size))) Oz)
 unfold qb9 at HP
 clear t0 t1 t2 t3 t4 dH iC yJ
 go_wp2_with fail
 ((with_reducible refine HP.out.mono ?_);rintro e w6 ⟨A1,c1,rfl,hP⟩)
 obtain⟨w7,lZ⟩:∃w7,w6.alloc (.cells #[.slice A1 n c1] 46)=w7:=⟨_,rfl⟩
 obtain⟨wb,hwb⟩:∃x,w6.heap.size=x:=⟨_,rfl⟩
 have b67:Ok w6 w7:=by rw[<-lZ];exact Zp _ _
 have b57:Ok w5 w7:=hP.out.1.trans (b67.mono hP.out.1.size)
 have cB:Cl 46 w7 wb #[.slice A1 n c1]:=by rw[<-hwb,<-lZ];exact Qe rfl
 have oB9:w7.ownsRow 0 49 6 (.slice A1 n c1) n (ol L):=Ju (Qi hP.out.2 (Fr.of_below b67:Fr (λ_=>False) w6 w7) (λ_ _ h=>h)) (As _)
 have hRB:RB w7 wb L:=⟨A1,c1,by rw[aJ.out];exact cB,by rw[aJ.out];exact oB9⟩
 have HCB:=Ou cB
 have jY:=Ou oB9
 have HWw:Hid (w5.heap.size<=wb/\wb<w7.heap.size):=Ou ⟨by rw[<-hwb];exact hP.out.1.size,Qc cB⟩
 have gT:=Ou hRB
 have B57:=Ou b57
 have rO:=Ou (rN.out.trans (b57.mono rN.out.size))
 have sP:=Ou (HN.out.ly.below (wO.out.trans (b57.mono wO.out.size)))
 have aN:=Ou (U9 wb 1 L w7 hRB (by rw[aJ.out];omega))
 rw[Kg]at aN
 obtain⟨⟨z0,z1,z2,z3,z4,z5⟩,hz1⟩:∃z,oZ (QE 1 L)=z:=⟨_,rfl⟩
 obtain⟨th1,qE⟩:∃t,(QE 1 L).isSome=t:=⟨_,rfl⟩
 rw[hz1,qE]at aN
 have zZ:=Ou (Sv hz1 qE)
 clear HP hP b67 b57 cB oB9 hRB hz1 qE
 go_upto_region 9 with fail
 (try rw[lZ])
 (try rw[hwb])
 clear lZ hwb
 go_wp2_with fail
 ((with_reducible refine aN.out.mono ?_);rintro e w8 ⟨rfl,jJ⟩)
 obtain⟨w9,kH⟩:∃w9,w8.alloc (.cells #[.int .u64 z0,.int .i64 z1,.int .i64 z2,.int .i64 z3,.int .i64 z4,.int .u64 z5] 49)=w9:=⟨_,rfl⟩
 have b89:Ok w8 w9:=by rw[<-kH];exact Zp _ _
 have cO:Cl 49 w9 w8.heap.size (OC ⟨z0,z1,z2,z3,z4,z5⟩):=by rw[<-kH];exact Qe rfl
 have yK:=Ou (jJ.out.trans (b89.mono jJ.out.size))
 have B29:=Ou (rO.out.trans (yK.out.mono rO.out.size))
 have zM:=Ou cO
 have rV:=Ou jJ.out
 have kK:=Ou b89
 have iT:=Ou (U9 wb 2 L w9 (KC gT.out yK.out) (by rw[aJ.out];omega))
 rw[Kg]at iT
 obtain⟨⟨y0,y1,y2,y3,y4,y5⟩,hz2⟩:∃z,oZ (QE 2 L)=z:=⟨_,rfl⟩
 obtain⟨th2,qF⟩:∃t,(QE 2 L).isSome=t:=⟨_,rfl⟩
 rw[hz2,qF]at iT
 have lH:=Ou (Sv hz2 qF)
 obtain⟨t0,t1,t2,t3,t4⟩:=ZO (Cl.bel iW.out B29.out)
 clear b89 cO jJ aN hz2 qF
 go_upto_if 68 with fail
 (try rw[kH])
 clear kH
 go_cut [15] (λmD wx=>∃(th:Bool) (z:Od),mD=.bool th/\mB=(th&&QN R.side R.price z.price)/\Hid (Ok w8 wx/\Cl 49 wx w8.heap.size (OC z)))
 case first =>
  by_cases hs:R.side=1
  ·have g1:(R.side==1)=true:=by simp[hs]
   have zF:Hid (mB=(th2&&QN R.side R.price y3)):=Ou (by
    have h:=qlk (p:=R.price) (L:=L) hs
    rw[HmB.out,lH.out.1,lH.out.2]at h;exact h)
   clear hs;go_wp2_with fail
   ((with_reducible refine iT.out.mono ?_);rintro e w10 ⟨rfl,pF⟩);have sX:=Ou (Cl.bel zM.out pF.out);have HBx:=Ou (kK.out.trans (pF.out.mono kK.out.size));clear pF iT;go_wp2_with ((with_reducible refine qlj rfl _ _ rfl _ ⟨y0,y1,y2,y3,y4,y5⟩ rfl rfl _ _ sX.out ?_);skip)
   go_meet
   case rel=>exact⟨th2,⟨y0,y1,y2,y3,y4,y5⟩,rfl,zF.out,Ou ⟨Zy HBx.out (Sq _),setRow_heap _ _ _ _ _ _ sX.out⟩⟩
  ·have g1:(R.side==1)=false:=by simp[hs]
   have zF:Hid (mB=(th1&&QN R.side R.price z3)):=Ou (by
    have h:=qll (p:=R.price) hs mJ.out
    rw[HmB.out,zZ.out.1,zZ.out.2]at h;exact h)
   clear hs;go_wp2_with fail
   go_meet
   case rel=>exact⟨th1,⟨z0,z1,z2,z3,z4,z5⟩,rfl,zF.out,Ou ⟨kK.out,zM.out⟩⟩
 case rest =>
 obtain⟨th,⟨p0,p1,p2,p3,p4,p5⟩,rfl,hmm,hQ⟩:=hcut
 obtain⟨wk,hwk⟩:∃x,x=wc:=⟨_,rfl⟩
 subst hwk
 have rR:=Ou (rV.out.trans (hQ.out.1.mono rV.out.size))
 have rQ:=Ou (rO.out.trans (rR.out.mono rO.out.size))
 have iY:=Ou (sP.out.below rR.out)
 have yQ:=Ou (Cl.bel HCB.out rR.out)
 have kV:=Ou (Qi jY.out (Fr.of_below rR.out:Fr (λ_=>False) w7 wk) (λ_ _ h=>h))
 have hB9:Ods wk A1 n L:=by
  obtain⟨A',c',e,_,ho⟩:=VJ kV.out Oz (λx hx=>(iY.out.hd.ok x hx).1);injection e with e1 _ e3;subst e1;exact ho
 have qM:Hid (∀W,Ok wk W->Calls prog 15 #[ptA b] W λe w'=>∃AL lc,e=.returned (.slice AL n lc)/\Hid (Ok W w'/\Ods w' AL n L)):=Ou (λW hW=>by
  have h:=qbk b v k L S W (iY.out.below hW);refine h.mono ?_;rintro e w' ⟨v',rfl,h⟩;obtain⟨A,c,rfl,ho,_⟩:=qbo h.out.1 iY.out.hd.len (λx hx=>((iY.out.below hW).hd.ok x hx).1);rw[aJ.out]at ho ⊢
  exact⟨A,c,rfl,Ou ⟨h.out.2,ho⟩⟩)
 have iD:Hid (∀W AL lc,Ok wk W->Ods W AL n L->Calls prog 14 #[.slice AL n lc,.slice A1 n c1] W λe w'=>e=.returned (.bool true)/\Ok W w'):=Ou (λW AL lc hW h=>qkY h (hB9.below hW) Oz)
 have xG:Hid (∀W,Ok wk W->W.cell? ⟨w.heap.size,1,none⟩=some (.int .i64 R.side)/\W.cell? ⟨w.heap.size,2,none⟩=some (.int .i64 R.price)/\W.cell? ⟨w8.heap.size,3,none⟩=some (.int .i64 p3)):=Ou (λW hW=>⟨((Cl.bel (Cl.bel iW.out rQ.out) hW).c 1).trans rfl,((Cl.bel (Cl.bel iW.out rQ.out) hW).c 2).trans rfl,((Cl.bel hQ.out.2 hW).c 3).trans rfl⟩)
 have NB:Hid (∀W,Ok wk W->W.cell? ⟨wb,0,none⟩=some (.slice A1 n c1)):=Ou (λW hW=>((Cl.bel yQ.out hW).c 0).trans rfl)
 have zH:=Ou hmm
 clear hQ hB9 hmm t0 t1 t2 t3 t4 rV kK zM iT zZ lH gT
 go_upto_region 12 with fail
 go_cut [95] (λs95 wx=>s95=.bool false/\Hid (Ok wk wx))
 case first =>
  cases th with
  | true =>
   have hbb:(mB != mB)=false:=by simp
   have eQ:Hid (∀W,Calls prog 40 #[.int .i64 R.side,.int .i64 R.price,.int .i64 p3] W λe w'=>e=.returned (.bool mB)/\W=w'):=Ou (λW=>by
    have h:=Cy R.side R.price p3 W;have e:QN R.side R.price p3=mB:=zH.out.symm
    rw[e]at h;exact h)
   refine wp_region_held_drew (S:=λW=>Ok wk W) Ow (by exact(Oq _ _).drew) (λhHeld=>?_);refine tkA 0 ?_;refine tkA 2 ?_;refine tkA 3 ?_;refine tkA 4 ?_;refine tkH 5 ?_ ?_ Ov ?_;rotate_left
   ·(intro w hSw;have hs:=NB.out _ hSw;(try dsimp only at hSw);go_simp;try with_reducible rfl)
   (try simp only[zz]);refine rdH 1 (λK hK=>?_);go_simp;((with_reducible refine(qM.out _ ?_).mono ?_);(exact hHeld);rintro e z2 ⟨AL,lc,rfl,hL⟩);have zL:=Ou hL.out.2;refine hK.out _ _ (by exact hHeld.trans (hL.out.1.mono hHeld.size)) (λhHeld=>?_);clear hK K;(try simp only[zz]);refine rdH 6 (λK hK=>?_);go_simp;((with_reducible refine(iD.out _ _ _ ?_ ?_).mono ?_);(exact hHeld);(exact zL.out);rintro e z3 ⟨rfl,hb3⟩);refine hK.out _ _ (by exact hHeld.trans (hb3.mono hHeld.size)) (λhHeld=>?_);clear hK K;(try simp only[zz]);refine tkA 7 ?_;refine tkA 8 ?_;refine tkA 9 ?_;refine tkA 10 ?_;refine tkA 11 ?_
   refine tkA 12 ?_;refine tkH 13 ?_ ?_ Ov ?_;rotate_left
   ·(intro w hSw;have hs:=(xG.out _ hSw).1;(try dsimp only at hSw);go_simp;try with_reducible rfl)
   (try simp only[zz]);refine tkA 14 ?_;refine tkH 15 ?_ ?_ Ov ?_;rotate_left
   ·(intro w hSw;have hs:=(xG.out _ hSw).2.1;(try dsimp only at hSw);go_simp;try with_reducible rfl)
   (try simp only[zz]);refine tkA 16 ?_;refine tkH 17 ?_ ?_ Ov ?_;rotate_left
   ·(intro w hSw;have hs:=(xG.out _ hSw).2.2;(try dsimp only at hSw);go_simp;try with_reducible rfl)
   (try simp only[zz]);refine rdH 18 (λK hK=>?_);go_simp;((with_reducible refine(eQ.out _).mono ?_);rintro e z4 ⟨rfl,rfl⟩);refine hK.out _ _ (by exact hHeld) (λhHeld=>?_);clear hK K;(try simp only[zz]);refine tkA 19 ?_;refine tkA 20 ?_;refine tkA 21 ?_;(try simp only[zz]);refine wpAnyH_done Ow ?_ _;go_wp2_with fail
   go_meet
   case rel=>exact⟨rfl,Ou hHeld⟩
  | false =>
   obtain rfl:mB=false:=zH.out;refine wp_region_held_drew (S:=λW=>Ok wk W) Ow (by exact(Oq _ _).drew) (λhHeld=>?_);refine tkA 0 ?_;refine tkA 2 ?_;refine tkA 3 ?_;refine tkA 4 ?_;refine tkH 5 ?_ ?_ Ov ?_;rotate_left
   ·(intro w hSw;have hs:=NB.out _ hSw;(try dsimp only at hSw);go_simp;try with_reducible rfl)
   (try simp only[zz]);refine rdH 1 (λK hK=>?_);go_simp;((with_reducible refine(qM.out _ ?_).mono ?_);(exact hHeld);rintro e z2 ⟨AL,lc,rfl,hL⟩);have zL:=Ou hL.out.2;refine hK.out _ _ (by exact hHeld.trans (hL.out.1.mono hHeld.size)) (λhHeld=>?_);clear hK K;(try simp only[zz]);refine rdH 6 (λK hK=>?_);go_simp;((with_reducible refine(iD.out _ _ _ ?_ ?_).mono ?_);(exact hHeld);(exact zL.out);rintro e z3 ⟨rfl,hb3⟩);refine hK.out _ _ (by exact hHeld.trans (hb3.mono hHeld.size)) (λhHeld=>?_);clear hK K;(try simp only[zz]);refine tkA 7 ?_;refine tkA 8 ?_;refine tkA 9 ?_;refine tkA 10 ?_;refine tkA 11 ?_
   (try simp only[zz]);refine wpAnyH_take (i:=12) (oi:=⟨some 86,_,_,_,_,_⟩) (v:=undef) rfl Ow Ow Ow (λ_ _ _ h=>h) (Or.inr ⟨by kernel_rfl,rfl⟩) Ov ?_;(try simp only[zz]);refine wpAnyH_take (i:=13) (oi:=⟨some 87,_,_,_,_,_⟩) (v:=undef) rfl Ow Ow Ow (λ_ _ _ h=>h) (Or.inr ⟨by kernel_rfl,rfl⟩) Ov ?_;(try simp only[zz]);refine wpAnyH_take (i:=14) (oi:=⟨some 88,_,_,_,_,_⟩) (v:=undef) rfl Ow Ow Ow (λ_ _ _ h=>h) (Or.inr ⟨by kernel_rfl,rfl⟩) Ov ?_;(try simp only[zz]);refine wpAnyH_take (i:=15) (oi:=⟨some 89,_,_,_,_,_⟩) (v:=undef) rfl Ow Ow Ow (λ_ _ _ h=>h) (Or.inr ⟨by kernel_rfl,rfl⟩) Ov ?_;(try simp only[zz])
   refine wpAnyH_take (i:=16) (oi:=⟨some 90,_,_,_,_,_⟩) (v:=undef) rfl Ow Ow Ow (λ_ _ _ h=>h) (Or.inr ⟨by kernel_rfl,rfl⟩) Ov ?_;(try simp only[zz]);refine wpAnyH_take (i:=17) (oi:=⟨some 91,_,_,_,_,_⟩) (v:=undef) rfl Ow Ow Ow (λ_ _ _ h=>h) (Or.inr ⟨by kernel_rfl,rfl⟩) Ov ?_;(try simp only[zz]);refine wpAnyH_take (i:=18) (oi:=⟨some 92,_,_,_,_,_⟩) (v:=undef) rfl Ow Ow Ow (λ_ _ _ h=>h) (Or.inr ⟨by kernel_rfl,rfl⟩) Ov ?_;(try simp only[zz]);refine tkA 19 ?_;refine tkA 20 ?_;refine tkA 21 ?_;(try simp only[zz]);refine wpAnyH_done Ow ?_ _;go_wp2_with fail
   go_meet
   case rel=>exact⟨rfl,Ou hHeld⟩
 case rest =>
 obtain⟨rfl,hQ⟩:=hcut
 have rP:=Ou (rQ.out.trans (hQ.out.mono rQ.out.size))
 have c4c:=Cl.bel iW.out rP.out
 have q4:wc.cell? ⟨w.heap.size,4,none⟩=some (.int .i64 cash):=(c4c.c 4).trans rfl
 have f4:wc.frozen? ⟨w.heap.size,4,none⟩=false:=frozen_of_row _ _ _ _ _ c4c
 obtain⟨wz,hwz⟩:∃x,wc.setCell ⟨w.heap.size,4,none⟩ (.int .i64 (-1))=x:=⟨_,rfl⟩
 have hfz:Fr (λj=>j=w.heap.size) wc wz:=by rw[<-hwz];exact(Fr.refl (λj=>j=w.heap.size) wc).set (p:=⟨w.heap.size,4,none⟩) (.inl rfl) _
 have c4z:Cl 64 wz w.heap.size #[.int .i64 R.acc,.int .i64 R.side,.int .i64 R.price,.int .i64 q,.int .i64 (-1)]:=by rw[<-hwz];exact QK (k:=4) (v:=.int .i64 (-1)) c4c
 have c5z:Cl 68 wz (w.heap.size+1) #[X.ver,X.ticks,.int .i64 R.lot,X.band,X.fees,X.round,.int .i64 R.mode,.int .i64 R.self,X.lay]:=hfz.blk (Cl.bel mF.out rP.out) Oz
 have hCc:=Cl.bel yQ.out hQ.out
 have hOc:=Qi kV.out (Fr.of_below hQ.out:Fr (λ_=>False) wk wc) (λ_ _ h=>h)
 have s2:w2.heap.size=w.heap.size+2:=by rw[<-hw2];simp
 have vX:w.heap.size+2<=wb:=by have h1:=HWw.out.1;have h2:=rN.out.size;omega
 have hRz:RB wz wb L:=⟨A1,c1,by rw[aJ.out];exact hfz.blk hCc Oz,by rw[aJ.out];exact Qi hOc hfz (λj hj e=>by subst e;exact Qo hOc c4c Ox hj)⟩
 have dW:Hid (wb<wz.heap.size/\w.heap.size+2<=wb):=Ou ⟨by(have h1:=Qc hCc;have h2:=hfz.size;omega),vX⟩
 have NT:Hid (∀W,Fr (λk=>k=wb) wz W->W.cell? ⟨w.heap.size,0,none⟩=some (.int .i64 R.acc)/\W.cell? ⟨w.heap.size,1,none⟩=some (.int .i64 R.side)/\W.cell? ⟨w.heap.size,2,none⟩=some (.int .i64 R.price)/\W.cell? ⟨w.heap.size,3,none⟩=some (.int .i64 q)/\W.cell? ⟨w.heap.size,4,none⟩=some (.int .i64 (-1))):=Ou (λW hW=>ZO (hW.blk c4z (by have:=dW.out;omega)))
 have NR:Hid (∀W,Fr (λk=>k=wb) wz W->W.cell? ⟨w.heap.size+1,0,none⟩=some X.ver/\W.cell? ⟨w.heap.size+1,1,none⟩=some X.ticks/\W.cell? ⟨w.heap.size+1,2,none⟩=some (.int .i64 R.lot)/\W.cell? ⟨w.heap.size+1,3,none⟩=some X.band/\W.cell? ⟨w.heap.size+1,4,none⟩=some X.fees/\W.cell? ⟨w.heap.size+1,5,none⟩=some X.round/\W.cell? ⟨w.heap.size+1,6,none⟩=some (.int .i64 R.mode)/\W.cell? ⟨w.heap.size+1,7,none⟩=some (.int .i64 R.self)/\W.cell? ⟨w.heap.size+1,8,none⟩=some X.lay):=Ou (λW hW=>KF (hW.blk c5z (by have:=dW.out;omega)))
 have cX:=Ou (λW=>qk1 X R W)
 have x9:=Ou (λW (hW:Ok wz W)=>HRt.out wb W (KC hRz hW))
 have BZ:Hid (Ok w wz):=Ou ((aG.out.trans (rP.out.mono aG.out.size)).trans (hfz.below (B:=w.heap.size) (λj hj=>by subst hj;exact Sq _) (Sk aG.out.size rP.out.size)))
 clear hQ c4c hfz c4z c5z hCc hOc s2 vX hRz HRt qM iD xG NB zH iY yQ kV rQ rR rP sP B29 yK rO B57 HWw jY HCB rN wO HN iW mF hw2 HO mJ HmB
 go_upto_region 15 with fail
 (try rw[hwz])
 clear hwz q4 f4
 go_cut [16,17] (λi7 iJ wx=>∃(cy:Nat) (GA EA:Option Addr) (gc ec:Nat),i7=.pointer (some ⟨cy,0,none⟩)/\iJ=.int .i64 g/\Hid (Fr (λk=>k=wb) wz wx/\Cl 77 wx cy #[.slice GA nF gc,.slice EA nD ec,.int .i64 lf,.bool st]/\RB wx wb M.L/\wx.ownsRow 0 114 7 (.slice GA nF gc) M.F.length (flF M.F)/\wx.ownsRow 0 49 6 (.slice EA nD ec) M.D.length (ol M.D)))
 case first =>
  refine wp_region_held_drew (S:=λW=>Fr (λk=>k=wb) wz W) Ow (by exact(Fr.refl _ _).drew) (λhHeld=>?_);refine tkA 0 ?_;refine tkH 1 ?_ ?_ Ov ?_;rotate_left
  ·(intro w hSw;obtain⟨q0,q1,q2,q3,q4⟩:=NT.out _ hSw;(try dsimp only at hSw);go_simp;try with_reducible rfl)
  (try simp only[zz]);refine tkH 2 ?_ ?_ Ov ?_;rotate_left
  ·(intro w hSw;obtain⟨q0,q1,q2,q3,q4,q5,q6,q7,q8⟩:=NR.out _ hSw;(try dsimp only at hSw);go_simp;try with_reducible rfl)
  (try simp only[zz]);refine wpAnyH_ready (rs:=[3,8]) Ow Oy ?_;refine(AllReadyH.cons (o:=⟨some 101,_,_,_,_,_⟩) rfl (λK hK=>?_) (AllReadyH.cons (o:=⟨some 16,_,_,_,_,_⟩) rfl (λK hK=>?_) AllReadyH.nil))
  ·go_simp;((with_reducible refine(cX.out _).mono ?_);rintro e y0 ⟨rfl,hb0⟩);have HY:Hid (Ok wz y0):=Ou (by refine Below.trans (b:=_) ?_ (hb0.mono ?_)<;>first|((repeat (first|exact Below.refl _ _|refine Below.drew ?_|refine Below.alloc ?_ ?_ _|exact Sq _));done)|simp);refine hK.out _ _ (by exact hHeld.trans (Fr.of_below hb0:Fr (λk=>k=wb) _ _) (λ_ h=>.inl h)) (λhHeld=>?_);clear hK K;(try simp only[zz]);refine wpAnyH_ready (rs:=[4,8]) Ow Oy ?_;refine(AllReadyH.cons (o:=⟨some 102,_,_,_,_,_⟩) rfl (λK hK=>?_) (AllReadyH.cons (o:=⟨some 16,_,_,_,_,_⟩) rfl (λK hK=>?_) AllReadyH.nil))
   ·go_simp;((with_reducible refine(x9.out _ ?_).mono ?_);(repeat (first|exact Below.refl _ _|exact HY.out|refine Below.drew ?_|refine Below.alloc ?_ ?_ _|exact Sq _|exact HY.out.size));rintro e y1 ⟨gv,ev,rfl,hR⟩);have hfo:=hR.out.fo;have hdr:=hR.out.dr;dsimp only at hfo hdr;rw[qT.out.1]at hfo;rw[qT.out.2.1]at hdr;obtain⟨GA,gc,rfl⟩:=Zj hfo;obtain⟨EA,ec,rfl⟩:=Zj hdr;have bU:=Ou hR.out;clear hfo hdr;refine hK.out _ _ (by exact hHeld.trans hR.out.fr (λ_ h=>.inl h)) (λhHeld=>?_);clear hK K;(try simp only[zz]);clear hR;refine tkA 5 ?_;refine tkA 6 ?_;refine tkA 7 ?_;(try simp only[zz])
    refine wpAnyH_ready (rs:=[8]) Ow Oy ?_;refine(AllReadyH.cons (o:=⟨some 16,_,_,_,_,_⟩) rfl (λK hK=>?_) AllReadyH.nil);go_simp;refine hK.out _ _ (by exact hHeld.alloc _) (λhHeld=>?_);clear hK K;(try simp only[zz]);refine wpAnyH_ready (rs:=[9]) Ow Oy ?_;refine(AllReadyH.cons (o:=⟨none,_,_,_,_,_⟩) rfl (λK hK=>?_) AllReadyH.nil);have dP:=setRow_heap _ _ _ #[.slice GA nF gc,.slice EA nD ec,.int .i64 lf,.bool st] _ _ ((show Cl 77 _ y1.heap.size #[.slice none 0 0,.slice none 0 0,.int .i64 0,.bool false] from Qh (Qe rfl)));((with_reducible apply G4);rfl;rfl;rfl;rfl;exact(show Cl 77 _ y1.heap.size #[.slice none 0 0,.slice none 0 0,.int .i64 0,.bool false] from Qh (Qe rfl));rfl;rfl;exact ZH;skip)
    refine hK.out _ _ (by exact G5 hHeld (by have h1:=dW.out;have h2:=bU.out.fr.size;have h3:=HY.out.size;omega)) (λhHeld=>?_);clear hK K;(try simp only[zz]);refine tkA 10 ?_;(try simp only[zz]);refine wpAnyH_done Ow ?_ _;go_wp2_with fail
    go_meet
    case rel=>exact⟨y1.heap.size,GA,EA,gc,ec,rfl,rfl,Ou ⟨hHeld,Qh dP,G6 (c:=y1.heap.size) bU.out (by(repeat (first|exact Fr.refl _ _|refine XA ?_|refine Fr.drew ?_|refine Fr.alloc ?_ _))) (.inr (Sq _))⟩⟩
   ·go_simp;refine hK.out _ _ (by exact hHeld.alloc _) (λhHeld=>?_);clear hK K;(try simp only[zz]);refine wpAnyH_ready (rs:=[4]) Ow Oy ?_;refine(AllReadyH.cons (o:=⟨some 102,_,_,_,_,_⟩) rfl (λK hK=>?_) AllReadyH.nil);go_simp;((with_reducible refine(x9.out _ ?_).mono ?_);(repeat (first|exact Below.refl _ _|exact HY.out|refine Below.drew ?_|refine Below.alloc ?_ ?_ _|exact Sq _|exact HY.out.size));rintro e y1 ⟨gv,ev,rfl,hR⟩);have dL:Hid (Cl 77 y1 y0.heap.size #[.slice none 0 0,.slice none 0 0,.int .i64 0,.bool false]):=Ou (hR.out.fr.blk (show Cl 77 _ y0.heap.size #[.slice none 0 0,.slice none 0 0,.int .i64 0,.bool false] from Qh (Qe rfl)) (by have h1:=dW.out;have h2:=HY.out.size;omega))
    have hfo:=hR.out.fo;have hdr:=hR.out.dr;dsimp only at hfo hdr;rw[qT.out.1]at hfo;rw[qT.out.2.1]at hdr;obtain⟨GA,gc,rfl⟩:=Zj hfo;obtain⟨EA,ec,rfl⟩:=Zj hdr;have bU:=Ou hR.out;clear hfo hdr;refine hK.out _ _ (by exact hHeld.trans hR.out.fr (λ_ h=>.inl h)) (λhHeld=>?_);clear hK K;(try simp only[zz]);clear hR;refine tkA 5 ?_;refine tkA 6 ?_;refine tkA 7 ?_;(try simp only[zz]);refine wpAnyH_ready (rs:=[9]) Ow Oy ?_;refine(AllReadyH.cons (o:=⟨none,_,_,_,_,_⟩) rfl (λK hK=>?_) AllReadyH.nil);have dP:=setRow_heap _ _ _ #[.slice GA nF gc,.slice EA nD ec,.int .i64 lf,.bool st] _ _ (Qh dL.out)
    ((with_reducible apply G4);rfl;rfl;rfl;rfl;exact Qh dL.out;rfl;rfl;exact ZH;skip);refine hK.out _ _ (by exact G5 hHeld (by have h1:=dW.out;have h2:=bU.out.fr.size;have h3:=HY.out.size;omega)) (λhHeld=>?_);clear hK K;(try simp only[zz]);refine tkA 10 ?_;(try simp only[zz]);refine wpAnyH_done Ow ?_ _;go_wp2_with fail
    go_meet
    case rel=>exact⟨y0.heap.size,GA,EA,gc,ec,rfl,rfl,Ou ⟨hHeld,Qh dP,G6 (c:=y0.heap.size) bU.out (by(repeat (first|exact Fr.refl _ _|refine XA ?_|refine Fr.drew ?_|refine Fr.alloc ?_ _))) (.inl ⟨_,dL.out⟩)⟩⟩
  ·go_simp;refine hK.out _ _ (by exact hHeld.alloc _) (λhHeld=>?_);clear hK K;(try simp only[zz]);refine wpAnyH_ready (rs:=[3]) Ow Oy ?_;refine(AllReadyH.cons (o:=⟨some 101,_,_,_,_,_⟩) rfl (λK hK=>?_) AllReadyH.nil);go_simp;((with_reducible refine(cX.out _).mono ?_);rintro e y0 ⟨rfl,hb0⟩);have HY:Hid (Ok wz y0):=Ou (by refine Below.trans (b:=_) ?_ (hb0.mono ?_)<;>first|((repeat (first|exact Below.refl _ _|refine Below.drew ?_|refine Below.alloc ?_ ?_ _|exact Sq _));done)|simp);have hA:Hid (Cl 77 y0 wz.heap.size #[.slice none 0 0,.slice none 0 0,.int .i64 0,.bool false]):=Ou (Cl.bel (show Cl 77 _ wz.heap.size #[.slice none 0 0,.slice none 0 0,.int .i64 0,.bool false] from Qh (Qe rfl)) hb0)
   refine hK.out _ _ (by exact hHeld.trans (Fr.of_below hb0:Fr (λk=>k=wb) _ _) (λ_ h=>.inl h)) (λhHeld=>?_);clear hK K;(try simp only[zz]);refine wpAnyH_ready (rs:=[4]) Ow Oy ?_;refine(AllReadyH.cons (o:=⟨some 102,_,_,_,_,_⟩) rfl (λK hK=>?_) AllReadyH.nil);go_simp;((with_reducible refine(x9.out _ ?_).mono ?_);(repeat (first|exact Below.refl _ _|exact HY.out|refine Below.drew ?_|refine Below.alloc ?_ ?_ _|exact Sq _|exact HY.out.size));rintro e y1 ⟨gv,ev,rfl,hR⟩);have dL:Hid (Cl 77 y1 wz.heap.size #[.slice none 0 0,.slice none 0 0,.int .i64 0,.bool false]):=Ou (hR.out.fr.blk (Qh hA.out) (by have h1:=dW.out;have h2:=HY.out.size;omega))
   have hfo:=hR.out.fo;have hdr:=hR.out.dr;dsimp only at hfo hdr;rw[qT.out.1]at hfo;rw[qT.out.2.1]at hdr;obtain⟨GA,gc,rfl⟩:=Zj hfo;obtain⟨EA,ec,rfl⟩:=Zj hdr;have bU:=Ou hR.out;clear hfo hdr;refine hK.out _ _ (by exact hHeld.trans hR.out.fr (λ_ h=>.inl h)) (λhHeld=>?_);clear hK K;(try simp only[zz]);clear hR;refine tkA 5 ?_;refine tkA 6 ?_;refine tkA 7 ?_;(try simp only[zz]);refine wpAnyH_ready (rs:=[9]) Ow Oy ?_;refine(AllReadyH.cons (o:=⟨none,_,_,_,_,_⟩) rfl (λK hK=>?_) AllReadyH.nil);have dP:=setRow_heap _ _ _ #[.slice GA nF gc,.slice EA nD ec,.int .i64 lf,.bool st] _ _ (Qh dL.out)
   ((with_reducible apply G4);rfl;rfl;rfl;rfl;exact Qh dL.out;rfl;rfl;exact ZH;skip);refine hK.out _ _ (by exact G5 hHeld (by have h1:=dW.out;have h2:=bU.out.fr.size;have h3:=HY.out.size;omega)) (λhHeld=>?_);clear hK K;(try simp only[zz]);refine tkA 10 ?_;(try simp only[zz]);refine wpAnyH_done Ow ?_ _;go_wp2_with fail
   go_meet
   case rel=>exact⟨wz.heap.size,GA,EA,gc,ec,rfl,rfl,Ou ⟨hHeld,Qh dP,G6 (c:=wz.heap.size) bU.out (by(repeat (first|exact Fr.refl _ _|refine XA ?_|refine Fr.drew ?_|refine Fr.alloc ?_ _))) (.inl ⟨_,dL.out⟩)⟩⟩
 case rest =>
 obtain⟨cy,GA,EA,gc,ec,rfl,rfl,hQ⟩:=hcut
 obtain⟨-,-,e2,-⟩:=JI hQ.out.2.1
 obtain⟨-,-,-,q3,-⟩:=NT.out _ hQ.out.1
 have BE:Hid (Ok w wc):=Ou (BZ.out.trans (hQ.out.1.below (B:=w.heap.size) (λj hj=>by have h1:=dW.out;subst hj;omega) BZ.out.size))
 clear hQ NT NR cX x9 BZ
 by_cases hg:g=0
 ·have g1:(g != 0)=false:=by simp[hg]
  have g2:(g==0)=true:=by simp[hg]
  have dP:=lD.out.1 hg;have hrr:(rv==rv)=true:=by simp
  clear hg lD;go_wp2_with ((with_reducible refine(iB.out _).mono ?_);rintro e w9 ⟨rfl,gI⟩)
  go_ret;exact⟨rfl,BE.out.trans (gI.mono BE.out.size)⟩
 ·have g1:(g != 0)=true:=by simp[hg]
  have g2:(g==0)=false:=by simp[hg]
  obtain rfl:=lD.out.2 hg;clear hg lD;go_wp2_with ((with_reducible refine(iB.out _).mono ?_);rintro e w9 ⟨rfl,gI⟩)
  go_ret;exact⟨rfl,BE.out.trans (gI.mono BE.out.size)⟩
theorem qln (k:Int)(A:Option Addr)(n c:Nat)(L:List Od)(X:Ruls)(R:Rl)(q cash:Int)(w:World)(H:Ods w A n L)(hX:X.One) :
  Calls prog 7 #[.int .i64 k,.slice A n c,.agg #[.int .i64 R.acc,.int .i64 R.side,.int .i64 R.price,.int .i64 q,.int .i64 cash],.agg #[X.ver,X.ticks,.int .i64 R.lot,X.band,X.fees,X.round,.int .i64 R.mode,.int .i64 R.self,X.lay]] w λe w'=>e=.returned (.bool true)/\Ok w w':=by
 by_cases hn:n<=64
 ·by_cases hk:k=1∨k=2
  ·cases hB:QW L with
   | true =>
    obtain⟨h1,h2,h3,h4⟩:=Yd hB;by_cases hf:FitP R q
    ·exact qcc k hk A n c L X R q cash w H hn hB _ _ _ (qk8 hf (by unfold InR;omega) hX h1 ⟨h3,h2⟩ (qk6 H.2.2.1)) (λ_=>rfl) (λh=>absurd rfl h)
    ·exact qcc k hk A n c L X R q cash w H hn hB _ _ 0 (qk9 hf) (λh=>absurd h Ox) (λ_=>rfl)
   | false=>exact qcb k A n c X R q cash w hn (λW hW=>qjP k hk A n c L W (H.below hW) hB)
  ·exact qcb k A n c X R q cash w hn (λW _=>qjO k (λh=>hk (.inl h)) (λh=>hk (.inr h)) A n c W)
 ·exact qlm k A n c X R q cash w Oz
end
end Go.Proofs.YtikapeaodobkjaaGreat
