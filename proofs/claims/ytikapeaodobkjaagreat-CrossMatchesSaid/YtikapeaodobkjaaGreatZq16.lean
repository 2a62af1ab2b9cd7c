/- What the laws lean on, in a few texts (by shake.py): number 16 of 16. -/
import Derived.Test.YtikapeaodobkjaaGreatZq1
import Derived.Test.YtikapeaodobkjaaGreatZq2
import Derived.Test.YtikapeaodobkjaaGreatZq4
import Derived.Test.YtikapeaodobkjaaGreatZq6
import Derived.Test.YtikapeaodobkjaaGreatZq5
import Derived.Test.YtikapeaodobkjaaGreatZq7
import Derived.Test.YtikapeaodobkjaaGreatZq8
import Derived.Test.YtikapeaodobkjaaGreatZq12
import Derived.Test.YtikapeaodobkjaaGreatZq10
import Derived.Test.YtikapeaodobkjaaGreatZq9
import Derived.Test.YtikapeaodobkjaaGreatZq11
import Derived.Test.YtikapeaodobkjaaGreatZq13
import Derived.Test.YtikapeaodobkjaaGreatZq14
import Derived.Test.YtikapeaodobkjaaGreatZq15
import Derived.Test.YtikapeaodobkjaaGreatZq3
import Derived.Shelf.SlSortCmp.QuietGrown
import Derived.Laws.OwnMore
import Derived.Laws.AppendOwnNone
import Derived.Maps.RangeWalk
import Derived.Deep.DeepCutAuto

set_option maxHeartbeats 16000000
set_option maxRecDepth 1000000
set_option linter.unusedVariables false
set_option linter.unusedSimpArgs false
namespace Go.Proofs.YtikapeaodobkjaaGreat
open _root_.Go.Proofs.Tryz
section
open Go.RowKit Go.Lib Go.Maps Go.Deep
open Classical in
noncomputable def rF (R:Rl)(m:Mt)(p:Int)(i:Nat):Int:=if NoM R m p then 0 else fM R m p i
theorem Yf {R:Rl}{m:Mt}{p:Int}(h:NoM R m p)(i:Nat):rF R m p i=0:=Sx h
theorem K5 {R:Rl}{m:Mt}{p:Int}(h:¬NoM R m p)(i:Nat):rF R m p i=fM R m p i:=Sw h
theorem qbM {pay:Bool}{l:List Od}{f:Nat->Int}{m:Mt}(h:∀i,f i=0):∀k,Qr pay l f m k=m
 | 0=>rfl
 | k+1=>by
  rw[show Qr pay l f m (k+1)=ZK pay (Qr pay l f m k) l[k]! (f k) from rfl,qbM h k];unfold ZK;rw[Sw (by rw[h k];omega)]
theorem qkI {R:Rl}{m:Mt}{p:Int}:Qr (Qy R m) (lvM R m p) (rF R m p) m (nM R m p)=Qq R m p:=by
 unfold Qq
 by_cases h:NoM R m p
 ·rw[Sx h];exact qbM (λi=>Yf h i) _
 ·rw[Sw h,show rF R m p=fM R m p from funext λi=>K5 h i]
theorem qbN {R:Rl}{m:Mt}{p:Int}(hg:GM m){i:Nat}(hi:i<nM R m p):0<=rF R m p i/\rF R m p i<=((lvM R m p)[i]!).qty:=by
 by_cases h:NoM R m p
 ·rw[Yf h];have:=Ke (hg.gd _ (Jl (JH (Ww hi ZT))).1);omega
 ·rw[K5 h];exact XI h hi
noncomputable def oB (R:Rl)(m:Mt)(p:Int):Nat->Bool
 | 0=>false
 | i+1=>oB R m p i||decide (rF R m p i<((lvM R m p)[i]!).qty)
theorem qbO {R:Rl}{m:Mt}{p:Int}:∀i,oB R m p i=false↔∀j,j<i->¬rF R m p j<((lvM R m p)[j]!).qty
 | 0=>⟨λ_ j hj=>absurd hj (Ax _),λ_=>rfl⟩
 | i+1=>by
  rw[oB,Bool.or_eq_false_iff,qbO i,decide_eq_false_iff_not];constructor
  ·rintro ⟨h1,h2⟩ j hj;by_cases e:j=i
   ·subst e;exact h2
   ·exact h1 j Oz
  ·exact λh=>⟨λj hj=>h j Oz,h i Oz⟩
theorem qkJ {R:Rl}{m:Mt}{p:Int}(hg:GM m):oB R m p (nM R m p)=false↔Zi R m p:=by
 rw[qbO]
 unfold Zi
 by_cases hn:nM R m p=0
 ·exact⟨λ_=>.inl hn,λ_ j hj=>by omega⟩
 ·by_cases h:NoM R m p
  ·constructor
   ·intro h1;have:=h1 0 Oz;rw[Yf h]at this;have:=Ke (hg.gd _ (Jl (JH (show 0<(lvM R m p).length by have:=ZT (R:=R) (m:=m) (p:=p);omega))).1);omega
   ·rintro (h1 | ⟨h1,_⟩)
    ·exact absurd h1 hn
    ·exact absurd h h1
  ·constructor
   ·intro h1;refine .inr ⟨h,λi hi=>?_⟩;have:=h1 i hi;have:=XI h hi;rw[K5 h]at *;omega
   ·rintro (h1 | ⟨_,h1⟩) j hj
    ·exact absurd h1 hn
    ·rw[K5 h,h1 j hj];omega
theorem qkK {R:Rl}{m:Mt}{p:Int}(hg:GM m)(hp:1<=p)(hl:1<=R.lot)(h0:m.left<=1099511627776)(hc:InR m.cash){i:Nat}(hi:i<nM R m p)(hq:0<rF R m p i) :
  rF R m p i<=(Qr (Qy R m) (lvM R m p) (rF R m p) m i).left/\(Qr (Qy R m) (lvM R m p) (rF R m p) m i).left<=1099511627776/\(ZL R.side (Qr (Qy R m) (lvM R m p) (rF R m p) m i).cash=Qy R m) /\
  (Qy R m=true->((lvM R m p)[i]!).price*rF R m p i<=(Qr (Qy R m) (lvM R m p) (rF R m p) m i).cash)/\InR (Qr (Qy R m) (lvM R m p) (rF R m p) m i).cash:=by
 by_cases h:NoM R m p
 ·rw[Yf h]at hq;omega
 ·rw[K5 h]at hq;have e:rF R m p=fM R m p:=funext λi=>K5 h i;rw[e];have F:=qbv hg hp hl h h0 hc hi hq;exact⟨F.q1,F.q2,F.pay,λhp=>F.pc (by rw[F.pay];exact hp),F.cr⟩
def Ki (ca p g:Int):Int:=if 0<=ca then IntKind.i64.wrap (ca-min ca (IntKind.i64.wrap (p*g))) else ca
theorem qkL (x:Int):InR (IntKind.i64.wrap x):=by unfold InR;rw[Wz];omega
theorem qkM {ca p g:Int}(h:InR ca):InR (Ki ca p g):=by
 unfold Ki;split
 ·exact qkL _
 ·exact h
theorem qkN {ca p g c:Int}{pay:Bool}(hs:ca=c)(cM:pay=decide (0<=ca))(h1:pay=true->p*g<=c)(h0:0<=p*g)(hr:InR c):Ki ca p g=if pay=true then c-p*g else c:=by
 subst hs
 unfold Ki
 by_cases hc:0<=ca
 ·have hp:pay=true:=by rw[cM];exact Sy hc
  have h2:=h1 hp;unfold InR at hr;have e1:IntKind.i64.wrap (p*g)=p*g:=by rw[Wz];omega
  rw[Sx hc,Sx hp,e1,Int.min_eq_right h2,Wz];omega
 ·have hp:¬pay=true:=by rw[cM];simpa using hc
  rw[Sw hc,Sw hp]
def qbP (R:Rl)(m0 m:Mt):Prop:=(m.left=0/\crF R m0=(m,false))∨(0<m.left/\crF R m0=crF R m/\MOk m)
theorem qkO {R:Rl}{m0 m:Mt}{p:Int}(hr:ROk R)(hm:MOk m)(hc:crF R m0=crF R m)(aH:prM R m.L=some p)(he:Zi R m p)(h:nM R m p=(lvM R m p).length∨(Qq R m p).left=0) :
  qbP R m0 (Qq R m p)/\((Qq R m p).left=0∨(Qq R m p).L.length<m.L.length):=by
 by_cases hl:(Qq R m p).left=0
 ·exact⟨.inl ⟨hl,hc.trans (XL aH (.inr hl))⟩,.inl hl⟩
 ·have h1:=h.resolve_right hl;obtain⟨c1,c2⟩:=Gv hr.p hr.l1 hm.gm hm.l0 aH he hl h1;have hM:=hm.aft hr aH he;exact⟨.inr ⟨by have:=hM.l0;omega,hc.trans c1,hM⟩,.inr c2⟩
theorem Jz {T:TypeId}{W:World}{c:Nat}{a0 a1 a2 a3:Value}(h:Cl T W c #[a0,a1,a2,a3]):W.cell? ⟨c,0,none⟩=some a0/\W.cell? ⟨c,1,none⟩=some a1/\W.cell? ⟨c,2,none⟩=some a2/\W.cell? ⟨c,3,none⟩=some a3 :=
 ⟨(h.c 0).trans rfl,(h.c 1).trans rfl,(h.c 2).trans rfl,(h.c 3).trans rfl⟩
section
variable {ops:Array Oper}{rest:List Oper}{o:Oper}{a:Act}{w:World}{Q:Exit → Act → World → Prop}
theorem GL:(prog.info? 77).map (·.size)=some 4:=by kernel_rfl
theorem K6 (hgd:o.guard=none)(x y:Operand)(ho:o.op=.store 77 x y)(g:Nat)(cs:Array Value)(hx:a.eval x=.pointer (some ⟨g,0,none⟩))(hy:a.eval y=.agg cs)(old:Array Value)(t:TypeId)
  (hg:Cl t w g old) (hs:old.size=4) (hc:cs.size=4) (h1:cs.all (·.oneCell')=true) (h:wpList prog ops Q rest (a.put o.dst undef) (w.setRow g cs)):wpList prog ops Q (o :: rest) a w :=
 wpList_plain hgd λK hK=>wp_store_row _ x y ho g _ hx hy _ _ hg (by rw[hc];exact GL) (by rw[hs,hc]) h1 (hK _ _ h)
end
theorem qbQ {fn:Func}{p q:Tmp}(h:fn.results=#[.cell p 77,.tmp q])(tmps:Array Value)(w:World)(g:Nat)(hp:tmps.getD p undef=.pointer (some ⟨g,0,none⟩))(cs:Array Value)(t:TypeId)
  (hg:Cl t w g cs) (hc:cs.size=4) (v:Value) (hq:tmps.getD q undef=v):(results fn tmps).run prog w=.ok (.tuple #[.agg cs,v]) w:=by
 have hp':tmps[p]?.getD undef=.pointer (some ⟨g,0,none⟩):=by simpa using hp
 have hq':tmps[q]?.getD undef=v:=by simpa using hq
 simp[results,h,hp',hq',asAddr,run_loadVar_row w g _ _ _ (0,0) _ hg underlying77 rfl (by rw[hc];exact GL)]
def ZU (M:List Od):Prop:=∀x∈M,(0<=x.id/\x.id<=18446744073709551615)/\(0<=x.seq/\x.seq<=18446744073709551615)
theorem GN {M:List Od}(h:ZU M)(i:Nat):ZU (M.eraseIdx i):=λx hx=>h x (List.mem_of_mem_eraseIdx hx)
theorem qkP {M:List Od}(h:ZU M)(id q:Int):ZU (QS id q M).2:=by
 unfold QS
 split
 ·rename_i hlt
  split
  ·exact h
  ·split
   ·exact GN h _
   ·intro x hx;rcases List.mem_or_eq_of_mem_set hx with hx|rfl
    ·exact h x hx
    ·have:=h (M[QB id M]!) (JH hlt);exact this
 ·exact h
theorem GO {pay:Bool}{l:List Od}{f:Nat->Int}{m:Mt}(h:ZU m.L):∀k,ZU (Qr pay l f m k).L
 | 0=>h
 | k+1=>by
  rw[show Qr pay l f m (k+1)=ZK pay (Qr pay l f m k) l[k]! (f k) from rfl];unfold ZK
  split
  ·exact qkP (GO h k) _ _
  ·exact GO h k
theorem GP {R:Rl}{m:Mt}{p:Int}(h:ZU m.L):ZU (Qq R m p).L:=by
 unfold Qq;split
 ·exact h
 ·exact GO h _
theorem qbR {x:Od}(hg:Qj x=true)(h:(0<=x.id/\x.id<=18446744073709551615)/\(0<=x.seq/\x.seq<=18446744073709551615))(w:World):Od.ok w x:=by
 have g:=Ke hg
 unfold Od.ok
 refine⟨h.1,?_,?_,?_,?_,h.2⟩<;>omega
structure RMIs (w w':World) (wb:Nat) (r:Mt×Bool) (fv dv:Value):Prop where
 rb:RB w' wb r.1.L
 fo:w'.ownsRow w.heap.size 114 7 fv r.1.F.length (flF r.1.F)
 dr:w'.ownsRow w.heap.size 49 6 dv r.1.D.length (ol r.1.D)
 fr:Fr (λk=>k=wb) w w'
def qbS (w:World)(wb:Nat)(r:Mt×Bool)(e:Ending)(w':World):Prop :=
 ∃(fv dv:Value),e=.returned (.tuple #[Vz fv dv r.1.left r.2,.int .i64 0])/\Hid (RMIs w w' wb r fv dv)
theorem Yg {a:Act}{W w:World}{c wb:Nat}{fv dv:Value}{lf:Int}{st:Bool}{R:Rl}{m0:Mt}{r:Mt×Bool}(hcr:crF R m0=r)(h6:a.tmps.getD 6 undef=.pointer (some ⟨c,0,none⟩))(h7:a.tmps.getD 7 undef=.int .i64 0)(hd:a.defers=[])(hW:Cl 77 W c #[fv,dv,.int .i64 lf,.bool st])(h1:r.1.left=lf)(h2:r.2=st)(hi:Hid (RMIs w W wb r fv dv)) :
  bodyPost prog Tryz.f35 (qbS w wb (crF R m0)) .ret a W:=by
 rw[hcr]
 refine bodyPost_ret (qbQ rfl _ _ c h6 _ _ hW rfl (.int .i64 0) h7) hd ?_
 exact⟨_,_,by rw[h1,h2],hi⟩
theorem Yh {w w5 w6:World}{c8 wb:Nat}{cs:Array Value}(hb:Ok w w5)(hc:Cl 77 w5 (w.heap.size+1+1) cs)(hw:wb<w.heap.size)(h8:w.heap.size+3<=c8)(hf:Fr (RFt w.heap.size c8 wb (.slice none 0 0) (.slice none 0 0)) w5 w6):Cl 77 w6 (w.heap.size+1+1) cs:=by
 refine hf.blk hc (λhj=>?_)
 rcases hj with hj|hj|hj|hj|hj
 ·omega
 ·omega
 ·omega
 ·simp[Value.ownBlock]at hj
 ·simp[Value.ownBlock]at hj
theorem Yi {w w5 w6:World}{c8 wb:Nat}{R:Rl}{q0:Int}{m:Mt}{ca:Int}{fv dv:Value}{st:Bool}{cs:Array Value}(hb:Ok w w5)(t:RTurn w5 w6 w.heap.size w.heap.size (w.heap.size+1) c8 wb R q0 m ca (.slice none 0 0) (.slice none 0 0) fv dv st)(h8:w.heap.size+3<=c8)(hw:wb<w.heap.size)
  (hcl:Cl 77 w6 (w.heap.size+1+1) cs) {r:Mt×Bool} (hr:r=(m,st)) (cs':Array Value):RMIs w (w6.setRow (w.heap.size+1+1) cs') wb r fv dv:=by
 subst hr
 have hf:Fr (λj=>j=w.heap.size+1+1) w6 (w6.setRow (w.heap.size+1+1) cs'):=⟨rfl,rfl,rfl,by simp[World.setRow],λj hj hne=>setRow_other _ _ _ _ hne⟩
 obtain⟨A,c,h1,h2,_⟩:=t.rw_.rb
 refine⟨⟨A,c,hf.blk h1 Oz,Qh h2 hf (λj hj h=>by subst h;exact Qn h2 hcl Ox hj)⟩,Qh t.rw_.fo hf (λj hj h=>by subst h;exact Qn t.rw_.fo hcl Ox hj),Qh t.rw_.dr hf (λj hj h=>by subst h;exact Qn t.rw_.dr hcl Ox hj),?_⟩
 refine((Fr.of_below hb:Fr (λk=>k=wb) w w5).trans t.fr (λj hj=>?_)).trans hf (λj hj=>.inr Oz)
 rcases hj with h|h|h|h|h
 ·right;omega
 ·right;omega
 ·exact .inl h
 ·simp[Value.ownBlock]at h
 ·simp[Value.ownBlock]at h
theorem qkQ {w:World}{A:Option Addr}{n m:Nat}{L:List Od}(h:Ods w A n L)(hm:m<=n):Ods w A m (L.take m):=by
 obtain⟨h1,h2,h3,h4⟩:=h
 refine⟨by rw[Wy];omega,by omega,λx hx=>h3 x (List.mem_of_mem_take hx),?_⟩
 rcases h4 with h0 | ⟨b,off,e,hb,hc⟩
 ·exact .inl Oz
 ·refine .inr ⟨b,off,e,hb,λi hi=>?_⟩;rw[Vc hi];exact hc i Oz
structure RdIn (y5 wr:World) (base c4 c5 c8 wb:Nat) (R:Rl) (q0:Int) (m m1:Mt) (ca1:Int) (fv dv fv1:Value) (p:Int) (LA PA:Option Addr) (nl mm:Nat):Prop where
 tu:RTurn y5 wr base c4 c5 c8 wb R q0 m1 ca1 fv dv fv1 dv false
 run:Ods wr LA nl (lvM R m p)
 rf:∀b off,LA=some ⟨b,off,none⟩->¬RFt c4 c8 wb fv1 dv b
 par:mm=0∨∃b,PA=some ⟨b,0,none⟩/\wr.rowIs b 2 mm (λi=>.int .i64 (fM R m p i))/\¬RFt c4 c8 wb fv1 dv b
theorem qbT {w w':World}{base c4 c5 c8 wb:Nat}{R:Rl}{q0:Int}{m1:Mt}{ca:Int}{fv dv fv1:Value}(t:RTurn w w' base c4 c5 c8 wb R q0 m1 ca fv dv fv1 dv false){b:Nat}(hb:b<w.heap.size)(hn:¬RFt c4 c8 wb fv dv b):¬RFt c4 c8 wb fv1 dv b:=λhf=>by
 rcases hf with hf|hf|hf|hf|hf
 ·exact hn (.inl hf)
 ·exact hn (.inr (.inl hf))
 ·exact hn (.inr (.inr (.inl hf)))
 ·rcases t.ff b hf with h1|h1
  ·exact hn (.inr (.inr (.inr (.inl h1))))
  ·omega
 ·exact hn (.inr (.inr (.inr (.inr hf))))
theorem RdIn.next {y5 wr w7:World}{base c4 c5 c8 wb:Nat}{R:Rl}{q0:Int}{m m1 m2:Mt}{ca1 ca2:Int}{fv dv fv1 fv2:Value}{p:Int}{LA PA:Option Addr}{nl mm:Nat}(h:RdIn y5 wr base c4 c5 c8 wb R q0 m m1 ca1 fv dv fv1 p LA PA nl mm)(t:RTurn wr w7 base c4 c5 c8 wb R q0 m2 ca2 fv1 dv fv2 dv false)(hl:∀b off,LA=some ⟨b,off,none⟩->b<wr.heap.size) :
  RdIn y5 w7 base c4 c5 c8 wb R q0 m m2 ca2 fv dv fv2 p LA PA nl mm:=by
 refine⟨h.tu.trans t,qad h.run t.fr (λb off e=>h.rf b off e),λb off e=>qbT t (hl b off e) (h.rf b off e),?_⟩
 rcases h.par with h0 | ⟨b,e,hr,hn⟩
 ·exact .inl h0
 ·exact .inr ⟨b,e,qby t.fr hn hr,qbT t hr.lt hn⟩
theorem qkR {w w5 y1 y2 y4 y5:World}{base c4 c5 c8 wb:Nat}{R:Rl}{q0:Int}{m:Mt}{ca:Int}{fv dv:Value}{p:Int}{LA PA:Option Addr}{nl mm lc:Nat}
  (H:RW y1 base c4 c5 c8 wb R q0 m ca fv dv false) (hrow:y2.ownsRow y1.heap.size 49 6 (.slice LA nl lc) nl (ol (lvM R m p))) (hO:Ods y2 LA nl (lvM R m p)) (b12:Ok y1 y2) (b24:Ok y2 y4) (b45:Ok y4 y5)
  (hp:mm=0∨∃b,PA=some ⟨b,0,none⟩/\y4.heap.size<=b/\y5.rowIs b 2 mm (λi=>.int .i64 (fM R m p i))) :
  RdIn y5 y5 base c4 c5 c8 wb R q0 m m ca fv dv fv p LA PA nl mm/\(∀b off,LA=some ⟨b,off,none⟩->b<y5.heap.size):=by
 have b25:=b24.trans (b45.mono b24.size)
 have b15:=b12.trans (b25.mono b12.size)
 have uM:∀b off,LA=some ⟨b,off,none⟩->y1.heap.size<=b/\b<y2.heap.size:=λb off e=>hrow.lt b (by rw[e];rfl)
 refine⟨⟨RTurn.same (H.below b15),hO.below b25,λb off e=>H.far (uM b off e).1,?_⟩,λb off e=>Ww (uM b off e).2 b25.size⟩
 rcases hp with h0 | ⟨b,e,hb,hr⟩
 ·exact .inl h0
 ·exact .inr ⟨b,e,hr,H.far (by have:=b12.size;have:=b24.size;omega)⟩
theorem Yj {T:TypeId}{W:World}{c:Nat}{a0 a1 a2:Value}(h:Cl T W c #[a0,a1,a2]):W.cell? ⟨c,0,none⟩=some a0/\W.cell? ⟨c,1,none⟩=some a1/\W.cell? ⟨c,2,none⟩=some a2:=⟨(h.c 0).trans rfl,(h.c 1).trans rfl,(h.c 2).trans rfl⟩
theorem qbU {pay:Bool}{l:List Od}{f:Nat->Int}{m:Mt}:∀k,(Qr pay l f m k).L.length<=m.L.length
 | 0=>Sq _
 | k+1=>by
  have ih:=qbU (pay:=pay) (l:=l) (f:=f) (m:=m) k;rw[show Qr pay l f m (k+1)=ZK pay (Qr pay l f m k) l[k]! (f k) from rfl];unfold ZK
  split
  ·refine Sk ?_ ih;show (QS _ _ _).2.length<=_;unfold QS
   split
   ·split
    ·exact Sq _
    ·split
     ·rw[List.length_eraseIdx];split<;>omega
     ·rw[Wk];exact Sq _
   ·exact Sq _
  ·exact ih
theorem qkS {w w7:World}{base c4 c5 c8 wb:Nat}{R:Rl}{q0:Int}{L':List Od}{lf' c c2:Int}{F':List (Od×Int)}{D':List Od}{ca p q:Int}{fv dv fv1 dv1:Value}{st:Bool}(H:RTurn w w7 base c4 c5 c8 wb R q0 ⟨L',lf',c,F',D'⟩ ca fv dv fv1 dv1 st)(hc:R.side=1->Ki ca p q=c2) :
  (0<=ca->RTurn w (w7.setCell ⟨c4,4,none⟩ (.int .i64 (wrap64 (ca-min ca (wrap64 (p*q)))))) base c4 c5 c8 wb R q0 ⟨L',lf',c2,F',D'⟩ (Ki ca p q) fv dv fv1 dv1 st)/\(¬0<=ca->RTurn w w7 base c4 c5 c8 wb R q0 ⟨L',lf',c2,F',D'⟩ (Ki ca p q) fv dv fv1 dv1 st):=by
 constructor
 ·intro h0;have hw:∀x,IntKind.i64.wrap x=wrap64 x:=λx=>by rw[Wz];unfold wrap64;rfl
  have e:Ki ca p q=wrap64 (ca-min ca (wrap64 (p*q))):=by rw[<-hw,<-hw];exact Sx h0
  refine H.trans (RTurn.setT (m':=⟨L',lf',c2,F',D'⟩) H.rw_ ?_ rfl rfl rfl rfl hc (qkM H.rw_.cr));rw[e];exact QK (k:=4) (v:=.int .i64 (wrap64 (ca-min ca (wrap64 (p*q))))) H.rw_.t
 ·intro h0;have e:Ki ca p q=ca:=Sw h0;obtain⟨h,f,g1,g2⟩:=H;refine⟨⟨by rw[e];exact h.t,h.md,h.r,h.rb,h.fo,h.dr,h.lo,hc,by rw[e];exact h.cr⟩,f,g1,g2⟩
theorem qkT:(prog.info? 114).map (λi=>(i.zero,i.size,i.bytes))=some (some (.agg (Zw (⟨0,0,0,0,0,0⟩,0)).toArray),7,56):=by kernel_rfl
theorem qkU:(prog.info? 49).map (λi=>(i.zero,i.size,i.bytes))=some (some (.agg (OC ⟨0,0,0,0,0,0⟩)),6,48):=by kernel_rfl
structure RHd (w w5 wr:World) (c8 wb:Nat) (R:Rl) (q0:Int) (m0 m:Mt) (ca:Int) (fv dv:Value):Prop where
 tu:RTurn w5 wr w.heap.size w.heap.size (w.heap.size+1) c8 wb R q0 m ca (.slice none 0 0) (.slice none 0 0) fv dv false
 ah:qbP R m0 m
 ok:ZU m.L
theorem qkV (wb:Nat)(R:Rl)(q0 cash:Int)(L:List Od)(w:World)(HB:RB w wb L)(hL:L.length<=64)(hg:GM ⟨L,q0,cash,[],[]⟩)(hok:ZU L)(hf:FitP R q0)(hc:InR cash) :
  Calls prog 35 #[ptA wb,.agg #[.int .i64 R.acc,.int .i64 R.side,.int .i64 R.price,.int .i64 q0,.int .i64 cash],.agg #[.int .i64 R.lot,.int .i64 R.mode,.int .i64 R.self]] w (qbS w wb (crF R ⟨L,q0,cash,[],[]⟩)):=by
 have hr:ROk R:=⟨hf.side,Gz hf,by have:=hf.m0;have:=hf.m1;omega,hf.l0,hf.l1⟩
 have HR:=Ou hr
 have wK:Hid (MOk ⟨L,q0,cash,[],[]⟩):=Ou ⟨hg,by have:=hf.q0;show 0<=q0;omega,hf.q1,hc,by show 0+L.length<=64;omega,by show 0+L.length<=64;omega⟩
 have HQ0:=Ou hf.q0
 have wO:=Ou (λW=>qbs exX R q0 cash W true ⟨λ_=>hf,λ_=>rfl⟩)
 have dO:Hid (wb<w.heap.size):=Ou (by obtain⟨A,c,h1,_⟩:=HB;exact Qc h1)
 have gT:=Ou HB
 have zA:=Ou hok
 obtain⟨w3,hw3⟩:∃w3,((w.alloc (.cells #[.int .i64 R.acc,.int .i64 R.side,.int .i64 R.price,.int .i64 q0,.int .i64 cash] 80)).alloc (.cells #[.int .i64 R.lot,.int .i64 R.mode,.int .i64 R.self] 82)).alloc (.cells #[.slice none 0 0,.slice none 0 0,.int .i64 0,.bool false] 77)=w3:=⟨_,rfl⟩
 have b3:Ok w w3:=by rw[<-hw3];exact(((Oq _ _).alloc (Sq _) _).alloc Oy _).alloc (by simp;omega) _
 have s3:w3.heap.size=w.heap.size+3:=by rw[<-hw3];simp
 have c4:Cl 80 w3 w.heap.size #[.int .i64 R.acc,.int .i64 R.side,.int .i64 R.price,.int .i64 q0,.int .i64 cash]:=by rw[<-hw3];exact Qp (by simp;omega) (Qp Oy (Qe rfl))
 have c5:Cl 82 w3 (w.heap.size+1) #[.int .i64 R.lot,.int .i64 R.mode,.int .i64 R.self]:=by rw[<-hw3];exact Qp Oy (Qe Oy)
 have c6:Cl 77 w3 (w.heap.size+1+1) #[.slice none 0 0,.slice none 0 0,.int .i64 0,.bool false]:=by rw[<-hw3];exact Qe Oy
 have HC:=Ou (Sv b3 (Sv c4 (Sv c5 (Sv c6 s3))))
 obtain⟨t0,t1,t2,t3,t4⟩:=Jm c4
 have d0:w3.cell? ⟨w.heap.size+1,0,none⟩=some (.int .i64 R.lot):=(c5.c 0).trans rfl
 have d1:w3.cell? ⟨w.heap.size+1,1,none⟩=some (.int .i64 R.mode):=(c5.c 1).trans rfl
 have d2:w3.cell? ⟨w.heap.size+1,2,none⟩=some (.int .i64 R.self):=(c5.c 2).trans rfl
 clear HB hL hg hok hf hc hr b3 s3 c4 c5 c6
 go_enter func35,ntmps35
 go_wp2_with fail
 ((with_reducible refine(wO.out _).mono ?_);rintro e w4 ⟨rfl,hb4⟩)
 obtain⟨w5,iQ⟩:∃w5,(w4.alloc (.cells #[.slice none 0 0,.slice none 0 0,.int .i64 0,.bool false] 77)).setRow w4.heap.size #[.slice none 0 0,.slice none 0 0,.int .i64 q0,.bool false]=w5:=⟨_,rfl⟩
 have b45:Ok w4 w5:=by rw[<-iQ];exact ZJ (Zq _ _) (Sq _)
 have b35:Ok w3 w5:=hb4.trans (b45.mono hb4.size)
 have c8:Cl 77 w5 w4.heap.size #[.slice none 0 0,.slice none 0 0,.int .i64 q0,.bool false]:=by rw[<-iQ];exact setRow_heap _ _ _ _ _ _ (Qe rfl)
 obtain⟨zU,zV,hC5,hC6,hs3⟩:=HC.out
 have gQ:Hid (Ok w w5):=Ou (zU.trans (b35.mono zU.size))
 have dN:=Ou (Cl.bel hC6 b35)
 have gU:Hid (w.heap.size+3<=w4.heap.size):=Ou (by have:=hb4.size;omega)
 have sN:Hid (RW w5 w.heap.size w.heap.size (w.heap.size+1) w4.heap.size wb R q0 ⟨L,q0,cash,[],[]⟩ cash (.slice none 0 0) (.slice none 0 0) false):=Ou (by
  obtain⟨A,c,h1,h2⟩:=GB gT.out gQ.out
  exact⟨Cl.bel zV b35,Cl.bel hC5 b35,c8,⟨A,c,h1,h2,λj _ hj=>by simp[Value.ownBlock]at hj⟩,World.ownsRow_nil _ _ _ _,World.ownsRow_nil _ _ _ _,gQ.out.size,λ_=>rfl,wK.out.cr⟩)
 have e3:=(Jm (Cl.bel zV hb4)).2.2.2.1
 clear hb4 b45 b35 c8 zU zV hC5 hC6 hs3 HC wO t0 t1 t2 t3 t4 d0 d1 d2 hw3 gT
 have HO1:=Ou (ZM (A:=none) (B:=none) (n:=0) (c:=0) (n':=0) (c':=0) (lf:=q0) (st:=false))
 go_wp2_with ((with_reducible apply K6);rfl;rfl;rfl;rfl;exact(show Cl 77 _ w4.heap.size _ from Qe rfl);rfl;rfl;exact HO1.out;skip)
 rw[iQ]
 go_simp
 go_loopg [9] (L.length+1) (λkx s9 wr=>∃(m:Mt) (ca:Int) (fv dv v9:Value),s9=v9/\(m.left=0∨m.L.length+1<=kx)/\Hid (RHd w w5 wr w4.heap.size wb R q0 ⟨L,q0,cash,[],[]⟩ m ca fv dv))
 case atStart=>exact⟨_,_,_,_,_,rfl,.inr (Sq _),Ou ⟨RTurn.same sN.out,.inr ⟨by have:=HQ0.out;show 0<q0;omega,rfl,wK.out⟩,zA.out⟩⟩
 case round =>
  clear sN e3;obtain⟨m,ca,fv,dv,v9,rfl,aM,hI⟩:=hrel;obtain⟨lf,aQ⟩:∃x,m.left=x:=⟨_,rfl⟩
  obtain⟨z0,z1,z2,z3⟩:=Jz hI.out.tu.rw_.r;rw[aQ]at z2 aM;have mD:=Ou aQ;clear aQ;by_cases hl0:0<lf
  ·have hld:decide (0<lf)=true:=Sy hl0;obtain⟨hcm,hmo⟩:crF R ⟨L,q0,cash,[],[]⟩=crF R m/\MOk m:=by
    rcases hI.out.ah with ⟨h,_⟩ | ⟨_,h1,h2⟩
    ·rw[mD.out]at h;omega
    ·exact⟨h1,h2⟩
   have hkm:m.L.length+1<=gk:=by rcases aM with h|h;omega;exact h
   have HK:=Ou hkm;have rO:=Ou hcm;have cV:=Ou hmo;obtain⟨t0,t1,t2,t3,t4⟩:=Jm hI.out.tu.rw_.t;have lV:=Ou (qj5 wb m.L R q0 ca wr hI.out.tu.rw_.RB (by have:=hmo.fn;omega) HR.out.s);clear aM hcm hmo hkm hl0
   cases aH:prM R m.L with
   | none =>
    rw[aH]at lV;simp only[Option.getD_none,Option.isSome_none]at lV;have fW:Hid (crF R ⟨L,q0,cash,[],[]⟩=(m,false)):=Ou (rO.out.trans (qbm aH));clear aH z0 z1 z3;go_wp2_with fail
    ((with_reducible refine lV.out.mono ?_);rintro e y1 ⟨rfl,hb1⟩);have HE:=Ou (hI.out.tu.grow hb1);clear hb1 lV t0 t1 t2 t3 t4 z2
    as_aux_lemma =>
    obtain⟨FA9,fc9,eF⟩:=Zj HE.out.rw_.fo;obtain⟨DA9,dc9,eD⟩:=Zj HE.out.rw_.dr;(first|subst eF|clear eF);(first|subst eD|clear eD);obtain⟨z0,z1,z2,z3⟩:=Jz HE.out.rw_.r;have aZ:=Ou (Yh gQ.out dN.out dO.out gU.out HE.out.fr);have kV:=Ou (Yi (w:=w) gQ.out HE.out gU.out dO.out aZ.out (r:=(m,false)) rfl);clear HE;go_wp2_with (first|((with_reducible apply K6);rfl;rfl;rfl;rfl;exact aZ.out;rfl;rfl;exact ZM;skip)|((with_reducible apply Yg fW.out);rfl;rfl;rfl;exact(setRow_heap _ _ _ _ _ _ aZ.out);rfl;rfl;exact(Ou (kV.out _))))
   | some p =>
    rw[aH]at lV;simp only[Option.getD_some,Option.isSome_some]at lV;have bG:=Kf cV.out.gm aH;have HP:=Ou (Sv aH bG);have hw:(Lit.int .i64 (3-R.side)).wf=true:=by rcases HR.out.s with h|h<;>rw[h]<;>rfl
    have hsub:IntKind.i64.wrap (3-R.side)=3-R.side:=by rw[Wz];have:=HR.out.s;omega
    have l64:m.L.length<=64:=by have:=cV.out.fn;omega
    have iK:Hid (∀W,Ok wr W->Calls prog 29 #[ptA wb,.int .i64 (3-R.side),.int .i64 p] W λe w'=>∃v,e=.returned v/\Hid (w'.ownsRow W.heap.size 49 6 v (lvM R m p).length (ol (lvM R m p))/\Ok W w')):=Ou (λW hW=>qhP wb (3-R.side) p m.L W (GB hI.out.tu.rw_.RB hW) Oz);have pR:(lvM R m p).length<=64:=Sk (by unfold lvM;exact V5 _ _ _) l64;have qM:Hid ((lvM R m p).length<=1000):=Ou Oz;have sI:Hid (∀(W:World),∀x∈lvM R m p,Od.ok W x):=Ou (λW x hx=>qbR (cV.out.gm.gd x (Jl hx).1) (hI.out.ok x (Jl hx).1) W);have iZ:Hid (∀W A n c,Ods W A n (lvM R m p)->Calls prog 58 #[.int .i64 R.self,.int .i64 R.acc,.slice A n c] W λe w'=>e=.returned (.int .i64 (nM R m p))/\Ok W w'):=Ou (λW A n c hO=>qfz R.self R.acc A n c (lvM R m p) W hO (by rw[<-hO.1];omega))
    obtain⟨d0,d1,d2⟩:=Yj hI.out.tu.rw_.md;clear aH bG l64 pR;go_wp2_with fail
    ((with_reducible refine lV.out.mono ?_);rintro e y1 ⟨rfl,hb1⟩);have H1:=Ou (hI.out.tu.rw_.below hb1);have tI:=iK.out y1 hb1;clear lV iK t0 t1 t2 t3 t4 z0 z1 z2 z3 d0 d1 d2;obtain⟨t0,t1,t2,t3,t4⟩:=Jm H1.out.t;obtain⟨d0,d1,d2⟩:=Yj H1.out.md;obtain⟨z0,z1,z2,z3⟩:=Jz H1.out.r;rw[mD.out]at z2;go_wp2_with fail
    ((with_reducible refine tI.mono ?_);rintro e y2 ⟨vL,rfl,hL⟩);obtain⟨LA,lc,rfl,hlc,hO⟩:=Vb hL.out.1 qM.out (sI.out _);obtain⟨bL,oL,rfl⟩:∃b off,LA=some ⟨b,off,none⟩:=by
     rcases hO.2.2.2 with h | ⟨b,off,e,_⟩
     ·have:=XJ HP.out.1;omega
     ·exact⟨b,off,e⟩
    replace hlc:=hlc.1;have HO:=Ou hO;have o7:=Ou hL.out;have H2:=Ou (H1.out.below hL.out.2);obtain⟨nl,hnl⟩:∃n,(lvM R m p).length=n:=⟨_,rfl⟩
    obtain⟨nr,xP⟩:∃n,nM R m p=n:=⟨_,rfl⟩
    have hRn:=iZ.out y2 _ _ lc hO;rw[xP,hnl]at hRn;have kN:=Ou hnl;have iL:=Ou xP;have uO:nr<=nl:=by rw[<-xP,<-hnl];exact ZT
    have hnl6:nl<=1000:=by rw[<-hnl];exact qM.out
    rw[hnl]at hO hlc;have aP:=Ou hb1;clear hO hL tI hb1 iZ sI qM xP t0 t1 t2 t3 t4 z0 z1 z2 z3 d0 d1 d2;obtain⟨d0,d1,d2⟩:=Yj H2.out.md;obtain⟨t0,t1,t2,t3,t4⟩:=Jm H2.out.t;rw[hnl];clear hnl;go_wp2_with fail
    ((with_reducible refine hRn.mono ?_);rintro e y3 ⟨rfl,hb3⟩);have H3:=Ou (H2.out.below hb3);have bQ:=Ou hb3;clear hRn hb3 d0 d1 d2 t0 t1 t2 t3 t4;obtain⟨t0,t1,t2,t3,t4⟩:=Jm H3.out.t;obtain⟨d0,d1,d2⟩:=Yj H3.out.md;obtain⟨z0,z1,z2,z3⟩:=Jz H3.out.r;rw[mD.out]at z2;obtain⟨bP,hbP⟩:∃b,Qy R m=b:=⟨_,rfl⟩
    have mF:=Ou hbP;clear hbP;go_upto_region 11 with fail
    go_cut [61] from 28 to 186 (λs61 wx=>s61=.bool bP/\y3=wx)
    case first =>
     by_cases hs1:R.side=1
     ·have e1:(R.side==1)=true:=by simp[hs1]
      have HE:Hid (bP=decide (0<=ca)):=Ou (by rw[<-mF.out,H3.out.cs hs1];unfold Qy;rw[e1];rfl);clear hs1;go_wp2_with fail
      go_meet
      case rel=>exact⟨by rw[HE.out],rfl⟩
     ·have e1:(R.side==1)=false:=by simp[hs1]
      have HE:Hid (bP=false):=Ou (by rw[<-mF.out];unfold Qy;rw[e1];rfl);clear hs1;go_wp2_with fail
      go_meet
      case rel=>exact⟨by rw[HE.out],rfl⟩
    case rest =>
    obtain⟨rfl,rfl⟩:=hcut;go_upto_if 61 with fail
    have HMs:Hid (bP=true->R.side=1/\0<=ca):=Ou (λh=>by
     have h1:=mF.out.trans h;unfold Qy at h1;simp only[Bool.and_eq_true,decide_eq_true_eq,beq_iff_eq]at h1
     exact⟨h1.1,by rw[H3.out.cs h1.1];exact h1.2⟩)
    obtain⟨ms,hms⟩:∃x,ZS R m p=x:=⟨_,rfl⟩
    have kM:=Ou hms;clear hms;go_cut [13] from 28 to 186 (λgP wx=>gP=.int .i64 ms/\Hid (Ok y3 wx))
    case first =>
     cases bP with
     | false =>
      go_wp2_with fail
      go_meet
      case rel=>exact⟨by rw[<-kM.out];unfold ZS;rw[mF.out,Sw (by simp)];rw[mD.out],Ou (Oq _ _)⟩
     | true =>
      obtain⟨hs1,hc0⟩:=HMs.out rfl;have hp0:¬p=0:=by have:=HP.out.2.1;omega
      have hpz:(p==0)=false:=by simp[hp0]
      have HQ:Hid (InR (ca / p)/\IntKind.i64.wrap (ca.tdiv p)=ca / p):=Ou (by
       have h1:=Int.ediv_nonneg hc0 (show (0:Int)<=p by have:=HP.out.2.1;omega);have h2:=Int.ediv_le_self p hc0;have h3:=H3.out.cr;unfold InR at *;rw[Int.tdiv_eq_ediv_of_nonneg hc0,Wz]
       omega)
      have cL:Hid (∀W,Calls prog 59 #[.int .i64 R.lot,.int .i64 (IntKind.i64.wrap (ca.tdiv p))] W λe w'=>e=.returned (.int .i64 (Qi R.lot (ca / p)))/\W=w'):=Ou (λW=>by
       rw[HQ.out.2];exact Jr _ _ HQ.out.1 (by have:=HR.out.l1;have:=HR.out.l2;unfold InR;omega) W)
      have oN:Hid (∀W,Ok y3 W->W.cell? ⟨w.heap.size+1,0,none⟩=some (.int .i64 R.lot)):=Ou (λW hW=>((Cl.bel H3.out.md hW).c 0).trans rfl);have NCa:Hid (∀W,Ok y3 W->W.cell? ⟨w.heap.size,4,none⟩=some (.int .i64 ca)):=Ou (λW hW=>((Cl.bel H3.out.t hW).c 4).trans rfl);have zH:=Ou hs1;clear hs1 hc0;go_upto_region 12 with fail
      refine wp_region_held_drew (S:=λW=>Ok y3 W) Ow (by exact(Oq _ _).drew) (λhHeld=>?_);refine tkA 0 ?_;refine tkA 1 ?_;refine tkH 2 ?_ ?_ Ov ?_;rotate_left
      ·(intro w hSw;have hs:=oN.out _ hSw;(try dsimp only at hSw);go_simp;try with_reducible rfl)
      (try simp only[zz]);refine tkA 3 ?_;refine tkH 4 ?_ ?_ Ov ?_;rotate_left
      ·(intro w hSw;have hs:=NCa.out _ hSw;(try dsimp only at hSw);go_simp;try with_reducible rfl)
      (try simp only[zz]);refine tkA 5 ?_;refine tkA 6 ?_;(try simp only[zz]);refine rdH 7 (λK hK=>?_);go_simp;((with_reducible refine(cL.out _).mono ?_);rintro e y9 ⟨rfl,rfl⟩);refine hK.out _ _ (by exact hHeld) (λhHeld=>?_);clear hK K;(try simp only[zz]);refine tkA 8 ?_;refine tkA 9 ?_;(try simp only[zz]);refine wpAnyH_done Ow ?_ _;go_wp2_with fail
      go_meet
      case rel=>exact⟨by rw[<-kM.out];unfold ZS;rw[mF.out,Sx rfl,mD.out,H3.out.cs zH.out],Ou (Oq _ _).drew⟩
    case rest =>
    obtain⟨rfl,iA⟩:=hcut;clear HMs t0 t1 t2 t3 t4 d0 d1 d2 z0 z1 z2 z3;have tC:Hid (∀W,Ok wc W->W.cell? ⟨w.heap.size+1,1,none⟩=some (.int .i64 R.mode)):=Ou (λW hW=>((Cl.bel (Cl.bel H3.out.md iA.out) hW).c 1).trans rfl);have oN:Hid (∀W,Ok wc W->W.cell? ⟨w.heap.size+1,0,none⟩=some (.int .i64 R.lot)):=Ou (λW hW=>((Cl.bel (Cl.bel H3.out.md iA.out) hW).c 0).trans rfl)
    have j5:Hid (∀W,Ok wc W->Calls prog 60 #[.int .i64 R.mode,.slice (some ⟨bL,oL,none⟩) nr lc,.int .i64 ms,.int .i64 R.lot] W (YL W R.mode nr (QM R m p) ms R.lot)):=Ou (λW hW=>by
     have h:=qkQ (HO.out.below ((bQ.out.trans (iA.out.mono bQ.out.size)).trans (hW.mono (Sk bQ.out.size iA.out.size)))) (show nr<=(lvM R m p).length by rw[kN.out];exact uO);rw[show QM R m p=qs ((lvM R m p).take nr) by rw[<-iL.out];rfl]
     exact qfr R.mode (some ⟨bL,oL,none⟩) nr lc _ ms R.lot (by have:=HR.out.l1;have:=HR.out.l2;unfold InR;omega) W h Oz)
    have hcn:nr<=lc:=Sk uO hlc;go_upto_region 13 with fail
    refine wp_region_held_drew (S:=λW=>Ok wc W) Ow (by exact(Oq _ _).drew) (λhHeld=>?_);refine tkA 0 ?_;refine tkH 1 ?_ ?_ Ov ?_;rotate_left
    ·(intro w hSw;have hs:=tC.out _ hSw;(try dsimp only at hSw);go_simp;try with_reducible rfl)
    (try simp only[zz]);refine tkA 2 ?_;refine tkA 3 ?_;refine tkA 4 ?_;refine tkA 5 ?_;refine tkA 6 ?_;refine tkH 7 ?_ ?_ Ov ?_;rotate_left
    ·(intro w hSw;have hs:=oN.out _ hSw;(try dsimp only at hSw);go_simp;try with_reducible rfl)
    (try simp only[zz]);refine rdH 8 (λK hK=>?_);go_simp;((with_reducible refine(j5.out _ hHeld).mono ?_);rintro e y5 ⟨PA,mm,PC,rfl,pT,hsh⟩);have hS1:=Ou hHeld.size;refine hK.out _ _ (by exact hHeld.trans (hsh.out.1.mono hHeld.size)) (λhHeld=>?_);clear hK K;(try simp only[zz]);refine tkA 9 ?_;(try simp only[zz]);refine wpAnyH_done Ow ?_ _;have H5:=Ou (Sv hHeld hsh.out);have hmr:=pT
    have HM:Hid ((mm=0/\NoM R m p)∨(mm=nr/\¬NoM R m p)):=Ou (by
     have e:NoM R m p=Jd R.mode (QM R m p) ms R.lot:=by unfold NoM;rw[kM.out]
     rw[e];rcases H5.out.2.2.2 with h | ⟨h1,h2,h3⟩
     ·exact .inl h
     ·refine .inr ⟨h1,?_⟩;rintro (h|h|h|h)
      ·exact h h2
      ·have:=h3.t;have:=h3.t1;omega
      ·have:=h3.y1;omega
      ·have:=h3.y2;omega)
    have eP:Hid (RdIn y5 y5 w.heap.size w.heap.size (w.heap.size+1) w4.heap.size wb R q0 m m ca fv dv fv p (some ⟨bL,oL,none⟩) PA nl mm/\(∀b off,(some ⟨bL,oL,none⟩:Option Addr)=some ⟨b,off,none⟩->b<y5.heap.size)):=Ou (by
     have hrow:=o7.out.1;have hOd:=HO.out;rw[kN.out]at hrow hOd;refine qkR (w:=w) (w5:=w5) H1.out hrow hOd o7.out.2 (bQ.out.trans (iA.out.mono bQ.out.size)) H5.out.1 ?_;rcases H5.out.2.2.1 with h | ⟨b,e,h1,h2⟩
     ·exact .inl h
     ·refine .inr ⟨b,e,Sk hS1.out h1,?_⟩;show y5.rowIs b _ mm (λi=>.int .i64 (gtN R.mode R.lot (ZS R m p) (QM R m p) i))
      rw[kM.out];exact h2)
    have HT5:Hid (RTurn wr y5 w.heap.size w.heap.size (w.heap.size+1) w4.heap.size wb R q0 m ca fv dv fv dv false):=Ou (by
     have h3:RTurn wr y3 w.heap.size w.heap.size (w.heap.size+1) w4.heap.size wb R q0 m ca fv dv fv dv false:=(((RTurn.bel hI.out.tu.rw_ aP.out).grow o7.out.2).grow bQ.out)
     exact(h3.grow iA.out).grow H5.out.1)
    clear hHeld hsh hS1 j5 tC oN H1 H2 H3 HO o7 bQ iA H5 aP;go_wp2_with fail
    go_loopg [15,16] nr (λkx qC i9 wr2=>∃(i:Nat) (b15:Bool) (ca1:Int) (fv1:Value),qC=.bool b15/\i9=.int .i64 (i:Int)/\i<=nr/\nr-i<=kx/\Hid (b15=oB R m p i/\RdIn y5 wr2 w.heap.size w.heap.size (w.heap.size+1) w4.heap.size wb R q0 m (Qr (Qy R m) (lvM R m p) (rF R m p) m i) ca1 fv dv fv1 p (some ⟨bL,oL,none⟩) PA nl mm))
    case atStart=>exact⟨0,false,ca,fv,rfl,rfl,by omega,by omega,Ou ⟨rfl,eP.out.1⟩⟩
    case round =>
     obtain⟨i,b15,ca1,fv1,rfl,rfl,hi,aM,oP⟩:=hrel;have HB:=Ou oP.out.1;have HI:=Ou oP.out.2;have HbL:=Ou (eP.out.2 bL oL rfl);clear oP eP;by_cases hlt:i<nr
     ·have aF:(i:Int)<(nr:Int):=by omega
      have hi0:(0:Int)<=(i:Int):=by omega
      obtain⟨q,hq⟩:∃q,rF R m p i=q:=⟨_,rfl⟩
      have HQ:=Ou hq;clear hq;go_upto_if 88 with fail
      go_cut [17] from 80 to 141 (λiH wx=>iH=.int .i64 q/\wr=wx)
      case first =>
       by_cases him:i<mm
       ·have himI:(i:Int)<(mm:Int):=by omega
        obtain⟨bp,rfl,rG,-⟩:∃b,PA=some ⟨b,0,none⟩/\wr.rowIs b 2 mm (λi=>.int .i64 (fM R m p i))/\True:=by
         rcases HI.out.par with h | ⟨b,h1,h2,_⟩
         ·omega
         ·exact⟨b,h1,h2,trivial⟩
        have cp:=rG.cell him;have hfq:fM R m p i=q:=by
         rw[<-HQ.out];rcases HM.out with h|h
         ·omega
         ·exact(K5 h.2 i).symm
        rw[hfq]at cp;clear rG him hfq;go_wp2_with fail
        go_meet
        case rel=>exact⟨rfl,rfl⟩
       ·have himI:¬(i:Int)<(mm:Int):=by omega
        have hq0:Hid (q=0):=Ou (by
         rw[<-HQ.out];rcases HM.out with h|h
         ·exact Yf h.2 i
         ·omega)
        clear him;go_wp2_with fail
        go_meet
        case rel=>exact⟨by rw[hq0.out],rfl⟩
      case rest =>
      obtain⟨rfl,rfl⟩:=hcut;obtain⟨b',o',gD,hbl,gW⟩:∃b' o',(some ⟨bL,oL,none⟩:Option Addr)=some ⟨b',o',none⟩/\b'<wr.heap.size/\∀j,j<nl->((lvM R m p)[j]!).at wr b' (o'+j*6):=by
       rcases HI.out.run.2.2.2 with h|h
       ·omega
       ·exact h
      injection gD with gD;injection gD with e1 e2;subst e1 e2;obtain⟨x,ex⟩:∃x,(lvM R m p)[i]! = x:=⟨_,rfl⟩
      have hil:i<nl:=by omega
      have hx:=gW i hil;have hok:Od.ok wr x:=by
       rw[<-ex];exact HI.out.run.2.2.1 _ (JH (by rw[kN.out];exact hil))
      have hrg:=qbN (R:=R) (p:=p) cV.out.gm (show i<nM R m p by rw[iL.out];exact hlt);have lI:=λhq0=>qkK (R:=R) (p:=p) cV.out.gm HP.out.2.1 HR.out.l1 cV.out.l1 cV.out.cr (show i<nM R m p by rw[iL.out];exact hlt) hq0;rw[ex]at hx hrg;rw[ex]at lI;rw[HQ.out]at hrg lI;have HFK:=Ou lI;have HRG:=Ou hrg;have wB:=Ou ex;have HX:=Ou hx;have HOKx:=Ou hok;have hil6:oL+i*6+6<=oL+nl*6:=by omega
      have yG:=Ou hbl;clear gW ex hx hok hrg lI hbl;obtain⟨mi,xM⟩:∃mi,Qr (Qy R m) (lvM R m p) (rF R m p) m i=mi:=⟨_,rfl⟩
      obtain⟨m2,hm2⟩:∃m2,Qr (Qy R m) (lvM R m p) (rF R m p) m (i+1)=m2:=⟨_,rfl⟩
      have HSu:Hid (m2=ZK (Qy R m) mi x q):=Ou (by rw[<-hm2,<-xM,<-wB.out,<-HQ.out];rfl);rw[xM]at HI HFK;have wL:=Ou (Sv xM hm2);clear xM hm2;obtain⟨bq,hbq⟩:∃b,decide (0<q)=b:=⟨_,rfl⟩
      go_upto_if 94 with fail
      have HBq:=Ou hbq;clear hbq;go_cut [] from 80 to 141 (λwx=>∃(ca2:Int) (fv2:Value),Hid (RdIn y5 wx w.heap.size w.heap.size (w.heap.size+1) w4.heap.size wb R q0 m m2 ca2 fv dv fv2 p (some ⟨bL,oL,none⟩) PA nl mm))
      case first =>
       cases bq with
       | true =>
        have hq0:0<q:=of_decide_eq_true HBq.out;have oH:=Ou hq0;have kJ:=Ou (HFK.out hq0);obtain⟨z0,z1,z2,z3⟩:=Jz HI.out.tu.rw_.r;obtain⟨x0,x1,x2,x3,x4,x5⟩:=HX.out;have hilI:(i:Int)<(nl:Int):=by omega
        obtain⟨i0,pJ,hz0,hz1,hz2⟩:=info_parts qkT;have mG:=Ou HI.out.tu.rw_.fo;have jX:=Ou HI.out.tu.rw_.r;have sV:Hid (w.heap.size<=wr.heap.size):=Ou HI.out.tu.rw_.lo
        have nY:Hid (mi.F.length<100000):=Ou (by
         have h:=XM (pay:=Qy R m) (l:=lvM R m p) (f:=rF R m p) (m:=m) i;rw[wL.out.1]at h;have:=cV.out.fn
         omega)
        have Hn8:Hid (fv1.ownBlock≠some w4.heap.size):=Ou (Qn mG.out jX.out Ox);have l8:=Qc jX.out;clear hq0;go_upto_region 22 with fail
        go_cut [] from 80 to 141 (λwx=>∃(gg cp:Nat),Hid (RTurn wr wx w.heap.size w.heap.size (w.heap.size+1) w4.heap.size wb R q0 ⟨mi.L,mi.left,mi.cash,mi.F++[(x,q)],mi.D⟩ ca1 fv1 dv (.slice (some ⟨gg,0,none⟩) (mi.F.length+1) cp) dv false))
        case first =>
         go_region_law
          ((refine step_append_lies _ (by rfl) _ _ 75 (by rfl) w.heap.size 114 i0 (.agg (Zw (⟨0,0,0,0,0,0⟩,0)).toArray) 7 56 underlying75 pJ hz0 hz1 hz2 rfl Ox fv1 mi.F.length (flF mi.F) (by rfl) (GD mG.out _) ⟨wr.heap.size,0,none⟩ 1 1 (Zw (x,q)) (by rfl) (by rfl) (qbu _ _ (x,q)) (qbt (x,q)) Ox (by unfold maxLen;have:=nY.out;omega) (by have:=nY.out;omega) (by have:=sV.out;simp;omega) (wr.heap.size+1) Oy ?_;intro gg cp w3 aV hgrow hat hlt;have hg3:Cl 77 w3 w4.heap.size #[fv1,dv,.int .i64 mi.left,.bool false]:=(hgrow.block w4.heap.size (Ww l8 Oy) (Ne.symm Hn8.out)).trans ((Below.heap_alloc wr.drew _ w4.heap.size l8).trans jX.out);have mI:=Ou aV;have rT:=Ou hgrow;have rL:=Ou hat;have cg0:w3.frozen? ⟨w4.heap.size,0,none⟩=false:=frozen_of_row _ _ _ _ _ hg3;have cv0:w3.cell? ⟨w4.heap.size,0,none⟩=some fv1:=(hg3.c 0).trans rfl;clear aV hgrow hat))
         all_goals
          go_wp2_with fail
          go_meet
          case rel=>exact⟨_,_,Ou (RTurn.fill HI.out.tu.rw_ mI.out rT.out rL.out)⟩
        case rest =>
        obtain⟨gg,cp,eW⟩:=hcut;clear mG jX sV nY Hn8 z0 z1 z2 z3 x0 x1 x2 x3 x4 x5;obtain⟨xi,dJ⟩:∃v,x.id=v:=⟨_,rfl⟩
        have rP:Hid (Calls prog 21 #[ptA wb,.int .u64 xi,.int .i64 q] wc λe w'=>e=.returned (.int .i64 (QS xi q mi.L).1)/\Hid (RBt wc w' wb (QS xi q mi.L).2)):=Ou (by
         refine qkk wb xi q mi.L wc eW.out.rw_.RB ?_ (λy hy=>?_)
         ·have h:=qbU (pay:=Qy R m) (l:=lvM R m p) (f:=rF R m p) (m:=m) i;rw[wL.out.1]at h;have:=cV.out.fn;omega
         ·have h:=Gq (pay:=Qy R m) (l:=lvM R m p) (f:=rF R m p) (m:=m) cV.out.gm.ids cV.out.gm.gd (λz hz=>(Jl hz).1) (Gs cV.out.gm) (nM R m p) ZT (λj hj=>qbN cV.out.gm hj) i (by rw[iL.out];omega);rw[wL.out.1]at h
          exact(Ke (h y hy)).2.2.2.2.2.2)
        have hx1:wc.cell? ⟨bL,oL+i*6,none⟩=some (.int .u64 xi):=by
         have h:=(qbx eW.out.fr yG.out (HI.out.rf bL oL rfl) HX.out).1;rw[dJ]at h;exact h
        have HXi:=Ou dJ;clear dJ;go_wp2_with fail
        ((with_reducible refine rP.out.mono ?_);rintro e w6 ⟨rfl,hCt⟩);have eY:=Ou (eW.out.trans (RTurn.book eW.out.rw_ hCt.out));have qP:=eY.out.rw_.r;have z2:w6.cell? ⟨w4.heap.size,2,none⟩=some (.int .i64 mi.left):=(qP.c 2).trans rfl;have f2:w6.frozen? ⟨w4.heap.size,2,none⟩=false:=frozen_of_row _ _ _ _ _ qP;obtain⟨lm,hlm⟩:∃l,mi.left=l:=⟨_,rfl⟩
        rw[hlm]at z2;have hsub2:IntKind.i64.wrap (lm-q)=lm-q:=by
         have h1:=kJ.out.1;have h2:=kJ.out.2.1;have h3:=oH.out;rw[hlm]at h1 h2;rw[Wz];omega
        have HT3:=Ou (eY.out.trans (RTurn.setR (m':=⟨(QS xi q mi.L).2,lm-q,mi.cash,mi.F++[(x,q)],mi.D⟩) eY.out.rw_ (QK (k:=2) (v:=.int .i64 (lm-q)) eY.out.rw_.r) rfl rfl rfl rfl));have HLm:=Ou hlm;have fY:=HT3.out.rw_.t;have c4':(w6.setCell ⟨w4.heap.size,2,none⟩ (.int .i64 (lm-q))).cell? ⟨w.heap.size,4,none⟩=some (.int .i64 ca1):=(fY.c 4).trans rfl;have f4':(w6.setCell ⟨w4.heap.size,2,none⟩ (.int .i64 (lm-q))).frozen? ⟨w.heap.size,4,none⟩=false:=frozen_of_row _ _ _ _ _ fY
        have yH:=Ou (qkS (p:=p) (q:=q) (c2:=if Qy R m=true then mi.cash-x.price*q else mi.cash) HT3.out (λhs=>by
         obtain⟨k1,k2,k3,k4,k5⟩:=kJ.out;have hp:=(Jl (JH (show i<(lvM R m p).length by rw[kN.out];omega))).2.2;rw[wB.out]at hp;rw[hp]at k4;rw[hp];have hca:=HI.out.tu.rw_.cs hs;refine qkN hca ?_ k4 (Int.mul_nonneg (by have:=HP.out.2.1;omega) (Int.le_of_lt oH.out)) k5
         rw[<-k3,hca];unfold ZL;rw[hs];rfl))
        have yV:Hid (m2=⟨(QS xi q mi.L).2,lm-q,if Qy R m=true then mi.cash-x.price*q else mi.cash,mi.F++[(x,q)],mi.D⟩):=Ou (by
         rw[HSu.out,<-HXi.out,<-HLm.out];exact Sx oH.out)
        rw[<-yV.out]at yH;clear hCt rP hx1 qP hlm fY kJ;by_cases hca0:0<=ca1
        ·have xH:decide (0<=ca1)=true:=Sy hca0;have zJ:=Ou (yH.out.1 hca0);clear hca0;go_wp2_with fail
         go_meet
         case rel=>exact⟨_,_,Ou (HI.out.next zJ.out (λb off e=>by injection e with e;injection e with e1 e2;subst e1;exact yG.out))⟩
        ·have xH:decide (0<=ca1)=false:=Sz hca0;have zJ:=Ou (yH.out.2 hca0);clear hca0;go_wp2_with fail
         go_meet
         case rel=>exact⟨_,_,Ou (HI.out.next zJ.out (λb off e=>by injection e with e;injection e with e1 e2;subst e1;exact yG.out))⟩
       | false =>
        have HE:Hid (m2=mi):=Ou (HSu.out.trans (Sw (of_decide_eq_false HBq.out)));go_wp2_with fail
        go_meet
        case rel=>exact⟨ca1,fv1,by rw[HE.out];exact HI⟩
      case rest =>
      obtain⟨ca2,fv2,iJ⟩:=hcut;obtain⟨xq,hxq⟩:∃v,x.qty=v:=⟨_,rfl⟩
      have hx4:wc.cell? ⟨bL,oL+i*6+4,none⟩=some (.int .i64 xq):=by
       obtain⟨b',o',gD,hbl,gW⟩:∃b' o',(some ⟨bL,oL,none⟩:Option Addr)=some ⟨b',o',none⟩/\b'<wc.heap.size/\∀j,j<nl->((lvM R m p)[j]!).at wc b' (o'+j*6):=by
        rcases iJ.out.run.2.2.2 with h|h
        ·omega
        ·exact h
       injection gD with gD;injection gD with e1 e2;subst e1 e2;have h:=gW i hil;rw[wB.out]at h;rw[<-hxq];exact h.2.2.2.2.1
      have hilI:(i:Int)<(nl:Int):=by omega
      have HOn:Hid ((b15||decide (q<xq))=oB R m p (i+1)):=Ou (by
       rw[HB.out,<-hxq,<-wB.out,<-HQ.out];rfl)
      have HM9:=wL.out.2;have HI3:Hid (RdIn y5 wc w.heap.size w.heap.size (w.heap.size+1) w4.heap.size wb R q0 m (Qr (Qy R m) (lvM R m p) (rF R m p) m (i+1)) ca2 fv dv fv2 p (some ⟨bL,oL,none⟩) PA nl mm):=Ou (by rw[HM9];exact iJ.out);clear HM9 hxq iJ
      cases b15 with
      | true =>
       have oF:Hid (true=oB R m p (i+1)):=HOn;go_wp2_with fail
       go_roundg (nr-(i+1))
       case measure=>omega
       case rel=>exact⟨i+1,true,_,_,rfl,by go_num,by omega,by omega,Ou ⟨oF.out,HI3.out⟩⟩
      | false =>
       have oF:Hid (decide (q<xq)=oB R m p (i+1)):=HOn;go_wp2_with fail
       go_roundg (nr-(i+1))
       case measure=>omega
       case rel=>exact⟨i+1,_,_,_,rfl,by go_num,by omega,by omega,Ou ⟨oF.out,HI3.out⟩⟩
     ·obtain rfl:nr=i:=by omega
      have hnlt:¬(nr:Int)<(nr:Int):=by omega
      obtain⟨m1,pS⟩:∃m1,Qq R m p=m1:=⟨_,rfl⟩
      have HA:=Ou pS;have iJ:=HI.out;rw[<-iL.out,qkI,pS]at iJ;have iB:Hid (RTurn w5 wr w.heap.size w.heap.size (w.heap.size+1) w4.heap.size wb R q0 m1 ca1 (.slice none 0 0) (.slice none 0 0) fv1 dv false):=Ou ((hI.out.tu.trans HT5.out).trans iJ.tu);have HEm:Hid (b15=false↔Zi R m p):=Ou (by rw[HB.out,<-iL.out];exact qkJ cV.out.gm);clear pS iJ;have d2:wr.cell? ⟨w.heap.size+1,2,none⟩=some (.int .i64 R.self):=(iB.out.rw_.md.c 2).trans rfl
      cases b15 with
      | true =>
       have fW:Hid (crF R ⟨L,q0,cash,[],[]⟩=(m1,false)):=Ou (by
        rw[rO.out,XL HP.out.1 (.inl (λh=>by have:=HEm.out.2 h;cases this)),HA.out])
       have HE:=iB;clear d2 iB
       as_aux_lemma =>
       obtain⟨FA9,fc9,eF⟩:=Zj HE.out.rw_.fo;obtain⟨DA9,dc9,eD⟩:=Zj HE.out.rw_.dr;(first|subst eF|clear eF);(first|subst eD|clear eD);obtain⟨z0,z1,z2,z3⟩:=Jz HE.out.rw_.r;have aZ:=Ou (Yh gQ.out dN.out dO.out gU.out HE.out.fr);have kV:=Ou (Yi (w:=w) gQ.out HE.out gU.out dO.out aZ.out (r:=(m1,false)) rfl);clear HE;go_wp2_with (first|((with_reducible apply K6);rfl;rfl;rfl;rfl;exact aZ.out;rfl;rfl;exact ZM;skip)|((with_reducible apply Yg fW.out);rfl;rfl;rfl;exact(setRow_heap _ _ _ _ _ _ aZ.out);rfl;rfl;exact(Ou (kV.out _))))
      | false =>
       have wD:Hid (Zi R m p):=Ou (HEm.out.1 rfl);have hpos:1<=nl:=by rw[<-kN.out];exact XJ HP.out.1
       obtain⟨l1,kE⟩:∃l,m1.left=l:=⟨_,rfl⟩
       have z2:wr.cell? ⟨w4.heap.size,2,none⟩=some (.int .i64 l1):=by rw[<-kE];exact(iB.out.rw_.r.c 2).trans rfl
       have wJ:=Ou kE;clear kE
       have zF:Hid ((nr=nl∨l1=0)->RHd w w5 wr w4.heap.size wb R q0 ⟨L,q0,cash,[],[]⟩ m1 ca1 fv1 dv/\(m1.left=0∨m1.L.length+1<=m.L.length)):=Ou (λh=>by
        have h1:=qkO HR.out cV.out rO.out HP.out.1 wD.out (by rw[HA.out,iL.out,kN.out,wJ.out];exact h);rw[HA.out]at h1
        exact⟨⟨iB.out,h1.1,by rw[<-HA.out];exact GP hI.out.ok⟩,h1.2.imp id (λh=>h)⟩)
       by_cases hall:nr=nl
       ·have g1:((nr:Int)==(nl:Int))=true:=by simp[hall]
        have g2:((nr:Int)==0)=false:=by simp;omega
        have iZ:=Ou (zF.out (.inl hall));clear hall;go_wp2_with fail
        go_roundg (m.L.length)
        case measure=>have:=HK.out;omega
        case rel=>exact⟨m1,ca1,fv1,dv,_,rfl,iZ.out.2,Ou iZ.out.1⟩
       ·have g1:((nr:Int)==(nl:Int))=false:=by simp;omega
        by_cases hl0:l1=0
        ·have g2:(l1==0)=true:=by simp[hl0]
         have iZ:=Ou (zF.out (.inr hl0));clear hall hl0;go_wp2_with fail
         go_roundg (m.L.length)
         case measure=>have:=HK.out;omega
         case rel=>exact⟨m1,ca1,fv1,dv,_,rfl,iZ.out.2,Ou iZ.out.1⟩
        ·have g2:(l1==0)=false:=by simp[hl0]
         have lQ:nr<nl:=by omega
         have hnrI:(nr:Int)<(nl:Int):=by omega
         have hnr0:(0:Int)<=(nr:Int):=by omega
         have hil6:oL+nr*6+6<=oL+nl*6:=by omega
         obtain⟨⟨o0,o1,o2,o3,o4,o5⟩,hx⟩:∃x,(lvM R m p)[nr]! = x:=⟨_,rfl⟩
         have qZ:=cV.out.aft HR.out HP.out.1 wD.out;rw[HA.out]at qZ;have iF:(⟨o0,o1,o2,o3,o4,o5⟩:Od)∈m1.L:=by
          have h:=(Kg cV.out.gm HP.out.2.1 HR.out.l1 cV.out.l0).there nr (by rw[iL.out];exact Sq _) (by rw[kN.out];exact lQ);rw[hx,HA.out]at h;exact h
         have hx0:wr.cell? ⟨bL,oL+nr*6,none⟩=some (.int .u64 o0):=by
          rcases HI.out.run.2.2.2 with h | ⟨b',o',e1,-,gW⟩
          ·omega
          ·injection e1 with e1;injection e1 with e1 e2;subst e1 e2;have h:=(gW nr lQ).1;rw[hx]at h;exact h
         have HX:=Ou (Sv hx (Sv qZ (Sv iF (Sv lQ hl0))));have rR:=Ou (qft R.self);have qR:=Ou (qfu R.self);obtain⟨dB,hdB⟩:∃b,drN R.self=b:=⟨_,rfl⟩
         obtain⟨sB,hsB⟩:∃b,stN R.self=b:=⟨_,rfl⟩
         rw[hdB]at rR;rw[hsB]at qR;have lZ:=Ou (Sv hdB hsB)
         have eO:Hid (sB=true->crF R ⟨L,q0,cash,[],[]⟩=(Z2 R o0 m1,true)):=Ou (λh=>by
          have h1:=qbn HP.out.1 wD.out (by rw[HA.out,wJ.out];exact HX.out.2.2.2.2) (by rw[iL.out,kN.out];exact HX.out.2.2.2.1) (lZ.out.2.trans h);rw[iL.out,HX.out.1,HA.out]at h1
          exact rO.out.trans h1)
         have rU:Hid (sB=false->dB=true/\crF R ⟨L,q0,cash,[],[]⟩=crF R (Zb o0 m1)/\(Zb o0 m1).L.length<m.L.length):=Ou (λh=>by
          have h1:=qbo HR.out.p HR.out.l1 cV.out.gm cV.out.l0 HP.out.1 wD.out (by rw[HA.out,wJ.out];exact HX.out.2.2.2.2) (by rw[iL.out,kN.out];exact HX.out.2.2.2.1) (lZ.out.2.trans h);rw[iL.out,HX.out.1,HA.out]at h1
          exact⟨lZ.out.1.symm.trans h1.1,rO.out.trans h1.2.1,h1.2.2⟩)
         clear hx qZ iF hdB hsB lQ hl0 hall zF
         cases dB with
         | false =>
          obtain rfl:sB=true:=by
           cases sB with
           | true=>rfl
           | false=>exact absurd (rU.out rfl).1 Ox
          have fR:=iB.out.rw_.r;have f3:wr.frozen? ⟨w4.heap.size,3,none⟩=false:=frozen_of_row _ _ _ _ _ fR;have z3:wr.cell? ⟨w4.heap.size,3,none⟩=some (.bool false):=(fR.c 3).trans rfl;have HE:=Ou (iB.out.trans (RTurn.setR (m':=m1) iB.out.rw_ (QK (k:=3) (v:=.bool true) fR) rfl rfl rfl rfl))
          have fW:Hid (crF R ⟨L,q0,cash,[],[]⟩=(m1,true)):=Ou (by
           rw[eO.out rfl];unfold Z2;rw[lZ.out.1,Sw (by decide)])
          clear iB fR eO rU hx0;go_upto_region 36 with (first|((with_reducible refine(rR.out _).mono ?_);rintro e w6 ⟨rfl,rfl⟩)|((with_reducible refine(qR.out _).mono ?_);rintro e w6 ⟨rfl,rfl⟩))
          clear z2 z3 f3 d2 rR qR g1 g2;generalize hwE:(wr.setCell ⟨w4.heap.size,3,none⟩ (.bool true))=wE at HE ⊢;clear hwE
          as_aux_lemma =>
           obtain⟨FA9,fc9,eF⟩:=Zj HE.out.rw_.fo;obtain⟨DA9,dc9,eD⟩:=Zj HE.out.rw_.dr;(first|subst eF|clear eF);(first|subst eD|clear eD);obtain⟨z0,z1,z2,z3⟩:=Jz HE.out.rw_.r;have aZ:=Ou (Yh gQ.out dN.out dO.out gU.out HE.out.fr);have kV:=Ou (Yi (w:=w) gQ.out HE.out gU.out dO.out aZ.out (r:=(m1,true)) rfl);clear HE;go_wp2_with (first|((with_reducible apply K6);rfl;rfl;rfl;rfl;exact aZ.out;rfl;rfl;exact ZM;skip)|((with_reducible apply Yg fW.out);rfl;rfl;rfl;exact(setRow_heap _ _ _ _ _ _ aZ.out);rfl;rfl;exact(Ou (kV.out _))))
         | true =>
          have oK:Hid (Calls prog 19 #[ptA wb,.int .u64 o0] wr λe w'=>e=.returned (.tuple #[.agg #[.int .u64 o0,.int .i64 o1,.int .i64 o2,.int .i64 o3,.int .i64 o4,.int .u64 o5],.bool true])/\Hid (RBt wr w' wb (m1.L.eraseIdx (QB o0 m1.L)))):=Ou (by
           have h:=qbA wb o0 m1.L wr iB.out.rw_.RB (by have:=HX.out.2.1.fn;omega);rw[show Zg o0 m1.L=some ⟨o0,o1,o2,o3,o4,o5⟩ from(Vy HX.out.2.1.gm HX.out.2.2.1).get]at h
           exact h)
          have HGn:Hid (Zb o0 m1=⟨m1.L.eraseIdx (QB o0 m1.L),m1.left,m1.cash,m1.F,m1.D++[⟨o0,o1,o2,o3,o4,o5⟩]⟩):=Ou (by
           unfold Zb;rw[show Zg o0 m1.L=some ⟨o0,o1,o2,o3,o4,o5⟩ from(Vy HX.out.2.1.gm HX.out.2.2.1).get];rfl)
          go_wp2_with ((with_reducible refine(rR.out _).mono ?_);rintro e w6 ⟨rfl,rfl⟩)
          ((with_reducible refine oK.out.mono ?_);rintro e w6 ⟨rfl,hT⟩);have eW:=Ou (iB.out.trans (RTurn.book iB.out.rw_ hT.out));clear hT oK iB z2 hx0;go_upto_region 33 with fail
          obtain⟨w7,xU⟩:∃w7,w6.alloc (.cells #[.int .u64 o0,.int .i64 o1,.int .i64 o2,.int .i64 o3,.int .i64 o4,.int .u64 o5] 49)=w7:=⟨_,rfl⟩
          rw[xU];have b7:Ok w6 w7:=by rw[<-xU];exact Zq _ _
          have tM:Cl 49 w7 w6.heap.size (OC ⟨o0,o1,o2,o3,o4,o5⟩):=by rw[<-xU];exact Qe rfl
          have gA:=Ou (eW.out.grow b7);obtain⟨x0,x1,x2,x3,x4,x5⟩:=Qm tM;have y81:w7.cell? ⟨w4.heap.size,1,none⟩=some dv:=(gA.out.rw_.r.c 1).trans rfl;have lY:=Ou gA.out.rw_.dr;have wM:=Ou gA.out.rw_.r;have qX:Hid (w.heap.size<=w7.heap.size):=Ou gA.out.rw_.lo;have HDn:Hid (m1.D.length<100000):=Ou (by have:=HX.out.2.1.dn;omega);have qW:Hid (dv.ownBlock≠some w4.heap.size):=Ou (Qn lY.out wM.out Ox);have l8:=Qc wM.out;obtain⟨i0,pJ,hz0,hz1,hz2⟩:=info_parts qkU;clear xU b7 tM eW;go_wp2_with (at_builtin;refine wpList_append_own_at _ rfl _ _ 29 rfl w.heap.size 49 i0 (.agg (OC ⟨0,0,0,0,0,0⟩)) 6 48 underlying29 pJ hz0 hz1 hz2 rfl Ox dv m1.D.length (ol m1.D) rfl (lY.out.alloc _) ⟨w7.heap.size,0,none⟩ 1 1 (Qo ⟨o0,o1,o2,o3,o4,o5⟩) rfl rfl ?c1 ?c2 ?c3 ?c4 ?c5 ?_)
          case c1=>exact λj u h=>h
          case c2=>exact JC _
          case c3=>unfold maxLen;have:=HDn.out;omega
          case c4=>have:=HDn.out;omega
          case c5=>have:=qX.out;simp;omega
          intro vA wA aV pG hnil3 tU;obtain⟨gg,cap,rfl,-,-⟩:=GJ aV Oz;have hg3:Cl 77 wA w4.heap.size #[fv1,dv,.int .i64 m1.left,.bool false]:=(pG.block w4.heap.size (Ww l8 Oy) (Ne.symm qW.out)).trans ((Below.heap_alloc w7 _ w4.heap.size l8).trans wM.out);have cg1:wA.frozen? ⟨w4.heap.size,1,none⟩=false:=frozen_of_row _ _ _ _ _ hg3;have cv1:wA.cell? ⟨w4.heap.size,1,none⟩=some dv:=(hg3.c 1).trans rfl
          have kX:=Ou (gA.out.trans (RTurn.drop (z:=⟨o0,o1,o2,o3,o4,o5⟩) gA.out.rw_ aV (((Fr.refl (λj=>dv.ownBlock=some j) w7).alloc _).grown pG (λj hj=>.inl hj)) (by
           rcases tU with h|h
           ·exact .inl (h.symm.trans rfl)
           ·right
            have h2:gg=w7.heap.size+1:=by simpa [Value.ownBlock] using h
            omega)))
          dsimp only at kX;rw[<-HGn.out]at kX;have jX:=Ou kX.out.rw_.r;have z3:(wA.setCell ⟨w4.heap.size,1,none⟩ (.slice (some ⟨gg,0,none⟩) (m1.D.length+1) cap)).cell? ⟨w4.heap.size,3,none⟩=some (.bool false):=(jX.out.c 3).trans rfl;have f3:(wA.setCell ⟨w4.heap.size,1,none⟩ (.slice (some ⟨gg,0,none⟩) (m1.D.length+1) cap)).frozen? ⟨w4.heap.size,3,none⟩=false:=frozen_of_row _ _ _ _ _ jX.out;have e2:(wA.setCell ⟨w4.heap.size,1,none⟩ (.slice (some ⟨gg,0,none⟩) (m1.D.length+1) cap)).cell? ⟨w.heap.size+1,2,none⟩=some (.int .i64 R.self):=(kX.out.rw_.md.c 2).trans rfl;clear aV pG hnil3 tU hg3 gA lY wM qX HDn qW l8 x0 x1 x2 x3 x4 x5 y81 d2
          cases sB with
          | true =>
           have HE:=Ou (kX.out.trans (RTurn.setR (m':=Zb o0 m1) kX.out.rw_ (QK (k:=3) (v:=.bool true) jX.out) rfl rfl rfl rfl))
           have fW:Hid (crF R ⟨L,q0,cash,[],[]⟩=(Zb o0 m1,true)):=Ou (by
            rw[eO.out rfl];unfold Z2;rw[lZ.out.1,Sx rfl])
           clear kX jX eO rU;go_upto_region 36 with ((with_reducible refine(qR.out _).mono ?_);rintro e w8 ⟨rfl,rfl⟩)
           clear z3 f3 e2 cg1 cv1 rR qR g1 g2;generalize hwE:((wA.setCell ⟨w4.heap.size,1,none⟩ (.slice (some ⟨gg,0,none⟩) (m1.D.length+1) cap)).setCell ⟨w4.heap.size,3,none⟩ (.bool true))=wE at HE ⊢;clear hwE;obtain⟨dvE,HE⟩:∃d,Hid (RTurn w5 wE w.heap.size w.heap.size (w.heap.size+1) w4.heap.size wb R q0 (Zb o0 m1) ca1 (.slice none 0 0) (.slice none 0 0) fv1 d true):=⟨_,HE⟩
           as_aux_lemma =>
            obtain⟨FA9,fc9,eF⟩:=Zj HE.out.rw_.fo;obtain⟨DA9,dc9,eD⟩:=Zj HE.out.rw_.dr;(first|subst eF|clear eF);(first|subst eD|clear eD);obtain⟨z0,z1,z2,z3⟩:=Jz HE.out.rw_.r;have aZ:=Ou (Yh gQ.out dN.out dO.out gU.out HE.out.fr);have kV:=Ou (Yi (w:=w) gQ.out HE.out gU.out dO.out aZ.out (r:=(Zb o0 m1,true)) rfl);clear HE;go_wp2_with (first|((with_reducible apply K6);rfl;rfl;rfl;rfl;exact aZ.out;rfl;rfl;exact ZM;skip)|((with_reducible apply Yg fW.out);rfl;rfl;rfl;exact(setRow_heap _ _ _ _ _ _ aZ.out);rfl;rfl;exact(Ou (kV.out _))))
          | false =>
           have iZ:Hid (RHd w w5 (wA.setCell ⟨w4.heap.size,1,none⟩ (.slice (some ⟨gg,0,none⟩) (m1.D.length+1) cap)) w4.heap.size wb R q0 ⟨L,q0,cash,[],[]⟩ (Zb o0 m1) ca1 fv1 (.slice (some ⟨gg,0,none⟩) (m1.D.length+1) cap)/\(Zb o0 m1).L.length+1<=m.L.length):=Ou (by
            obtain⟨-,h1,h2⟩:=rU.out rfl;obtain⟨-,qZ,iF,-,hl0⟩:=HX.out;refine⟨⟨kX.out,.inr ⟨?_,h1,qZ.gone iF⟩,?_⟩,h2⟩
            ·have h3:=qZ.l0;have h4:=wJ.out;show 0<m1.left;omega
            ·rw[<-HA.out];exact GN (GP hI.out.ok) _)
           clear kX jX eO rU;go_wp2_with ((with_reducible refine(qR.out _).mono ?_);rintro e w8 ⟨rfl,rfl⟩)
           go_roundg (m.L.length)
           case measure=>have:=HK.out;omega
           case rel=>exact⟨Zb o0 m1,ca1,fv1,_,_,rfl,.inr iZ.out.2,Ou iZ.out.1⟩
  ·have hld:decide (0<lf)=false:=Sz hl0;have HE:=Ou hI.out.tu
   have fW:Hid (crF R ⟨L,q0,cash,[],[]⟩=(m,false)):=Ou (by
    rcases hI.out.ah with ⟨_,h⟩ | ⟨h,_⟩
    ·exact h
    ·rw[mD.out]at h;exact absurd h hl0)
   clear hl0 aM z0 z1 z3
   as_aux_lemma =>
   obtain⟨FA9,fc9,eF⟩:=Zj HE.out.rw_.fo;obtain⟨DA9,dc9,eD⟩:=Zj HE.out.rw_.dr;(first|subst eF|clear eF);(first|subst eD|clear eD);obtain⟨z0,z1,z2,z3⟩:=Jz HE.out.rw_.r;rw[mD.out]at z2;have aZ:=Ou (Yh gQ.out dN.out dO.out gU.out HE.out.fr);have kV:=Ou (Yi (w:=w) gQ.out HE.out gU.out dO.out aZ.out (r:=(m,false)) rfl);clear HE;go_wp2_with (first|((with_reducible apply K6);rfl;rfl;rfl;rfl;exact aZ.out;rfl;rfl;exact ZM;skip)|((with_reducible apply Yg fW.out);rfl;rfl;rfl;exact(setRow_heap _ _ _ _ _ _ aZ.out);exact mD.out;rfl;exact(Ou (kV.out _))))
theorem qbV {W:World}{A B:Option Addr}{n c c':Nat}{L:List Od}(h:Ods W A n L)(k:Ods W B n L)(hn:n<=1000) :
  Calls prog 14 #[.slice A n c,.slice B n c'] W λe w'=>e=.returned (.bool true)/\Ok W w':=by
 refine(qen A B n c c' L L W h k hn).mono ?_
 rintro e w' ⟨rfl,g⟩
 exact⟨by rw[(VK L L).2 rfl],g.b⟩
theorem qbW:∀(F:List (Od×Int)) (i r:Nat),i<F.length->r<7->(flF F)[i*7+r]? = (Zw F[i]!)[r]?
 | [],i,r,h,_=>absurd h (Ax _)
 | y :: F,0,r,_,hr=>by
  show (Zw y++flF F)[0*7+r]? = _;rw[Nat.zero_mul,Nat.zero_add,List.getElem?_append_left (by show r<7;exact hr)];rfl
 | y :: F,i+1,r,h,hr=>by
  have ih:=qbW F i r (by simpa using h) hr;show (Zw y++flF F)[(i+1)*7+r]? = _;rw[List.getElem?_append_right (by show 7<=_;omega),show (i+1)*7+r-(Zw y).length=i*7+r by show (i+1)*7+r-7=_;omega,ih];rw[show (y :: F)[i+1]! = F[i]! by simp]
def Fls (w:World)(A:Option Addr)(n:Nat)(F:List (Od×Int)):Prop :=
 n=0∨∃g,A=some ⟨g,0,none⟩/\g<w.heap.size/\∀i,i<n->((F[i]!).1).at w g (i*7)/\w.cell? ⟨g,i*7+6,none⟩=some (.int .i64 (F[i]!).2)
theorem Fls.below {w w':World}{A:Option Addr}{n:Nat}{F:List (Od×Int)}(h:Fls w A n F)(hb:Ok w w'):Fls w' A n F:=by
 rcases h with h | ⟨g,e,hg,hc⟩
 ·exact .inl h
 ·exact .inr ⟨g,e,Ww hg hb.size,λi hi=>⟨Od.at_below (hc i hi).1 hg hb,(hb.cell (p:=⟨g,i*7+6,none⟩) hg).trans (hc i hi).2⟩⟩
theorem qbX {w:World}{base n c:Nat}{A:Option Addr}{T:TypeId}{F:List (Od×Int)}(hn:F.length=n)(h:w.ownsRow base T 7 (.slice A n c) n (flF F)):Fls w A n F:=by
 by_cases h0:n=0
 ·exact .inl h0
 ·obtain⟨g,cap,e,hg,hc⟩:=GJ h Oz;injection e with e1 _ _;refine .inr ⟨g,e1,hg,λi hi=>?_⟩;have cc:∀r u,r<7->(Zw F[i]!)[r]? = some u->w.cell? ⟨g,i*7+r,none⟩=some u:=λr u hr hu=>hc _ u (by rw[qbW F i r Oz hr];exact hu);exact⟨⟨cc 0 _ Oz rfl,cc 1 _ Oz rfl,cc 2 _ Oz rfl,cc 3 _ Oz rfl,cc 4 _ Oz rfl,cc 5 _ Oz rfl⟩,cc 6 _ Oz rfl⟩
theorem qbY (FA GA DA EA:Option Addr)(nF nD fc gc dc ec:Nat)(F:List (Od×Int))(D:List Od)(lf:Int)(st:Bool)(w:World)(HF:Fls w FA nF F)(HG:Fls w GA nF F)(HD:Ods w DA nD D)(HE:Ods w EA nD D)(hn:nD<=1000)(hf:nF<=1000) :
  Calls prog 34 #[.agg #[.slice FA nF fc,.slice DA nD dc,.int .i64 lf,.bool st],.agg #[.slice GA nF gc,.slice EA nD ec,.int .i64 lf,.bool st]] w λe w'=>e=.returned (.bool true)/\Ok w w':=by
 have mixed:prog.follows .mixedOrders=true:=by kernel_rfl
 obtain⟨w2,hw2⟩:∃w2,(w.alloc (.cells #[.slice FA nF fc,.slice DA nD dc,.int .i64 lf,.bool st] 71)).alloc (.cells #[.slice GA nF gc,.slice EA nD ec,.int .i64 lf,.bool st] 77)=w2:=⟨_,rfl⟩
 have b2:Ok w w2:=by rw[<-hw2];exact((Oq _ _).alloc (Sq _) _).alloc Oy _
 have c2:Cl 71 w2 w.heap.size #[.slice FA nF fc,.slice DA nD dc,.int .i64 lf,.bool st]:=by rw[<-hw2];exact Qp Oy (Qe rfl)
 have c3:Cl 77 w2 (w.heap.size+1) #[.slice GA nF gc,.slice EA nD ec,.int .i64 lf,.bool st]:=by rw[<-hw2];exact Qe Oy
 have aG:=Ou b2
 have NX:Hid (∀W,Ok w2 W->(W.cell? ⟨w.heap.size,0,none⟩=some (.slice FA nF fc)/\W.cell? ⟨w.heap.size,1,none⟩=some (.slice DA nD dc)/\W.cell? ⟨w.heap.size,2,none⟩=some (.int .i64 lf)/\W.cell? ⟨w.heap.size,3,none⟩=some (.bool st))/\(W.cell? ⟨w.heap.size+1,0,none⟩=some (.slice GA nF gc)/\W.cell? ⟨w.heap.size+1,1,none⟩=some (.slice EA nD ec)/\W.cell? ⟨w.heap.size+1,2,none⟩=some (.int .i64 lf)/\W.cell? ⟨w.heap.size+1,3,none⟩=some (.bool st))):=Ou (λW hW=>by
  have d2:=Cl.bel c2 hW;have d3:=Cl.bel c3 hW
  exact⟨⟨(d2.c 0).trans rfl,(d2.c 1).trans rfl,(d2.c 2).trans rfl,(d2.c 3).trans rfl⟩,⟨(d3.c 0).trans rfl,(d3.c 1).trans rfl,(d3.c 2).trans rfl,(d3.c 3).trans rfl⟩⟩)
 have qQ:Hid (Calls prog 14 #[.slice DA nD dc,.slice EA nD ec] w2 λe w'=>e=.returned (.bool true)/\Ok w2 w'):=Ou (qbV (HD.below b2) (HE.below b2) hn)
 have HF2:=Ou (HF.below b2)
 have HG2:=Ou (HG.below b2)
 have wX:((nF:Int) != (nF:Int))=false:=by simp
 obtain⟨⟨x0,x1,x2,x3⟩,⟨y0,y1,y2,y3⟩⟩:=NX.out w2 (Oq _ _)
 clear b2 c2 c3 HF HG HD HE
 go_enter func34,ntmps34
 go_wp2_with fail
 ((with_reducible refine qQ.out.mono ?_);rintro e w3 ⟨rfl,hb3⟩)
 have HF3:=Ou (HF2.out.below hb3)
 have o6:=Ou (HG2.out.below hb3)
 have bQ:=Ou hb3
 clear x0 x1 x2 x3 y0 y1 y2 y3 hw2
 obtain⟨⟨x0,x1,x2,x3⟩,⟨y0,y1,y2,y3⟩⟩:=NX.out w3 hb3
 clear hb3 qQ HF2 HG2 NX
 go_wp2_with fail
 go_loopg [24] nF (λkx lU wr=>∃i q:Nat,lU=.int .i64 (i:Int)/\i<=nF/\nF-i<=kx/\wr=w3.drewN q)
 case atStart=>exact⟨0,0,rfl,by omega,by omega,rfl⟩
 case round =>
  obtain⟨i,q,rfl,hin,aM,rfl⟩:=hrel;by_cases hlt:i<nF
  ·have aF:(i:Int)<(nF:Int):=by omega
   have hi0:(0:Int)<=(i:Int):=by omega
   obtain⟨g1,rfl,-,hc1⟩:=HF3.out.resolve_left Oz;obtain⟨g2,rfl,-,hc2⟩:=o6.out.resolve_left Oz;obtain⟨hx,hx6⟩:=hc1 i hlt;obtain⟨hy,hy6⟩:=hc2 i hlt;obtain⟨⟨x,qq⟩,ex⟩:∃y,F[i]! = y:=⟨_,rfl⟩
   rw[ex]at hx hx6 hy hy6;dsimp only at hx hx6 hy hy6;obtain⟨a0,a1,a2,a3,a4,a5⟩:=hx;obtain⟨e0,e1,e2,e3,e4,e5⟩:=hy;have hq:=Cd x x;rw[(VJ x x).2 rfl]at hq;have aW:(qq != qq)=false:=by simp
   clear hc1 hc2 ex;go_wp2_with fail
   go_quiet (fail)
   go_wp2_with fail
   go_roundg (nF-(i+1))
   case measure=>omega
   case rel=>exact⟨i+1,q+nq,by go_num,by omega,by omega,(by first|rfl|exact World.drewN_drewN _ _ _)⟩
  ·have aF:¬(i:Int)<(nF:Int):=by omega
   obtain rfl:nF=i:=by omega
   have hll:(lf==lf)=true:=by simp
   have vE:(st==st)=true:=by simp
   have BE:Hid (Ok w (w3.drewN q)):=Ou (aG.out.trans ((QI (bQ.out) q).mono aG.out.size));go_wp2_with fail
   go_ret;exact⟨by simp,BE.out⟩
theorem qbZ:(prog.info? 82).map (·.size)=some 3:=by kernel_rfl
theorem qkW {a b c:Int}:(#[Value.int .i64 a,.int .i64 b,.int .i64 c]:Array Value).all (·.oneCell')=true:=by
 refine all_oneCell_toArray (cs:=[.int .i64 a,.int .i64 b,.int .i64 c]) (λu hu=>?_)
 simp only[List.mem_cons,List.not_mem_nil,or_false]at hu
 rcases hu with rfl|rfl|rfl<;>rfl
section
variable {ops:Array Oper}{rest:List Oper}{o:Oper}{a:Act}{w:World}{Q:Exit → Act → World → Prop}
theorem qkX (hgd:o.guard=none)(x y:Operand)(ho:o.op=.store 82 x y)(g:Nat)(cs:Array Value)(hx:a.eval x=.pointer (some ⟨g,0,none⟩))(hy:a.eval y=.agg cs)(old:Array Value)(t:TypeId)
  (hg:Cl t w g old) (hs:old.size=3) (hc:cs.size=3) (h1:cs.all (·.oneCell')=true) (h:wpList prog ops Q rest (a.put o.dst undef) (w.setRow g cs)):wpList prog ops Q (o :: rest) a w :=
 wpList_plain hgd λK hK=>wp_store_row _ x y ho g _ hx hy _ _ hg (by rw[hc];exact qbZ) (by rw[hs,hc]) h1 (hK _ _ h)
end
theorem qkY (X:Ruls)(R:Rl)(w:World) :
  Calls prog 36 #[.agg #[X.ver,X.ticks,.int .i64 R.lot,X.band,X.fees,X.round,.int .i64 R.mode,.int .i64 R.self,X.lay]] w λe w'=>e=.returned (.agg #[.int .i64 R.lot,.int .i64 R.mode,.int .i64 R.self])/\Ok w w':=by
 obtain⟨w2,hw2⟩:∃w2,(w.alloc (.cells #[X.ver,X.ticks,.int .i64 R.lot,X.band,X.fees,X.round,.int .i64 R.mode,.int .i64 R.self,X.lay] 68)).alloc (.cells #[.int .i64 0,.int .i64 0,.int .i64 0] 82)=w2:=⟨_,rfl⟩
 have b2:Ok w w2:=by rw[<-hw2];exact((Oq _ _).alloc (Sq _) _).alloc Oy _
 have c2:Cl 68 w2 w.heap.size #[X.ver,X.ticks,.int .i64 R.lot,X.band,X.fees,X.round,.int .i64 R.mode,.int .i64 R.self,X.lay]:=by rw[<-hw2];exact Qp Oy (Qe rfl)
 have c3:Cl 82 w2 (w.heap.size+1) #[.int .i64 0,.int .i64 0,.int .i64 0]:=by rw[<-hw2];exact Qe Oy
 obtain⟨r0,r1,r2,r3,r4,r5,r6,r7,r8⟩:=K1 c2
 have aG:=Ou b2
 have HC3:=Ou c3
 clear b2 c2 c3
 go_enter func36,ntmps36
 go_wp2_with ((with_reducible apply qkX);rfl;rfl;rfl;rfl;exact HC3.out;rfl;rfl;exact qkW;skip)
 refine bodyPost_ret (results_cell_row rfl _ _ _ _ #[.int .i64 R.lot,.int .i64 R.mode,.int .i64 R.self] (0,0) _ rfl (setRow_heap _ _ _ _ _ _ HC3.out) underlying82 rfl qbZ) rfl ?_
 exact⟨rfl,ZJ aG.out Oz⟩
def qb0 (w:World)(n:Nat)(L:List Od)(e:Ending)(w':World):Prop:=∃A c,e=.returned (.slice A n c)/\Hid (Ok w w'/\w'.ownsRow w.heap.size 49 6 (.slice A n c) n (ol L))
theorem qkZ (A:Option Addr)(n c:Nat)(L:List Od)(w:World)(H:Ods w A n L)(hn:n<=1000) :
  Calls prog 12 #[.slice A n c] w (qb0 w n L):=by
 obtain⟨i0,hi0,hz0,hz1,hz2⟩:=info_parts YF
 have HO:Aside (Ods w A n L):=H
 have aN:=Ou H.1
 clear H
 go_enter func12,ntmps12
 go_wp2_with fail
 go_loopg [3,8] n (λkx v s8 wr=>∃k:Nat,s8=.int .i64 k/\k<=n/\n-k<=kx/\wr.ownsRow w.heap.size 49 6 v k (ol (L.take k))/\Hid (Ok w wr))
 case atStart=>exact⟨0,rfl,by omega,by omega,World.ownsRow_nil _ _ _ _,Below.refl _ _⟩
 case round =>
  obtain⟨k,rfl,hk,aM,hown,hd⟩:=hrel;by_cases hlt:k<n
  ·have aF:(k:Int)<(n:Int):=by omega
   have h1:=(HO.out.below hd.out).2.2.2;rcases h1 with h1 | ⟨b,off,rfl,_,hc⟩
   ·omega
   have hx:=hc k hlt;clear hc;have HN:=Ou (qem (L:=L) (k:=k) (by rw[aN.out];exact hlt));obtain⟨x,ex⟩:∃x,L[k]! = x:=⟨_,rfl⟩
   rw[ex]at hx HN;clear ex;obtain⟨x0,x1,x2,x3,x4,x5⟩:=hx;have hsz:=hd.out.size;go_wp2_with (at_builtin;refine wpList_append_own _ rfl _ _ 29 rfl w.heap.size 49 i0 (.agg (OC ⟨0,0,0,0,0,0⟩)) 6 48 underlying29 hi0 hz0 hz1 hz2 rfl Ox _ _ _ rfl ((hown.alloc (Obj.cells (OC x) 38)).alloc _) ⟨wr.heap.size+1,0,none⟩ 1 1 (Qo x) rfl rfl ?c1 ?c2 ?c3 ?c4 ?c5 ?_)
   case c1 =>
    have e1:wr.heap.size+1=(wr.alloc (Obj.cells (OC x) 38)).heap.size:=by simp
    rw[e1];exact Cm _ x
   case c2=>exact JC x
   case c3=>unfold maxLen;omega
   case c4=>omega
   case c5=>simp;omega
   intro v1 w1 hown1 hg1 _;have cY:Hid (Ok w w1):=Below.grown ((hd.out.alloc hsz _).alloc (by simp;omega) _) hg1 (by simp;omega) (λk hk=>(hown.lt k hk).1);rw[<-HN.out]at hown1;clear hg1 hown hd;go_wp2_with fail
   go_roundg (n-(k+1))
   case measure=>omega
   case rel=>exact⟨k+1,by go_num,by omega,by omega,hown1,cY⟩
  ·have aF:¬(k:Int)<(n:Int):=by omega
   obtain rfl:n=k:=by omega
   rw[List.take_of_length_le (by rw[aN.out];exact Sq _)]at hown;obtain⟨A',c',rfl⟩:=Zj hown;have HE:Hid (Ok w wr/\wr.ownsRow w.heap.size 49 6 (.slice A' n c') n (ol L)):=Ou ⟨hd.out,hown⟩;clear hown hd;go_wp2_with fail
   go_ret;exact⟨A',c',rfl,HE⟩
theorem qk0 (wb:Nat)(R:Rl)(q cash:Int)(w:World)(hf:¬FitP R q) :
  Calls prog 35 #[ptA wb,.agg #[.int .i64 R.acc,.int .i64 R.side,.int .i64 R.price,.int .i64 q,.int .i64 cash],.agg #[.int .i64 R.lot,.int .i64 R.mode,.int .i64 R.self]] w λe w'=>e=.returned (.tuple #[Vz (.slice none 0 0) (.slice none 0 0) 0 false,.int .i64 2])/\Ok w w':=by
 have wO:=Ou (λW=>qbs exX R q cash W false ⟨λh=>(by cases h),λh=>absurd h hf⟩)
 obtain⟨w3,hw3⟩:∃w3,((w.alloc (.cells #[.int .i64 R.acc,.int .i64 R.side,.int .i64 R.price,.int .i64 q,.int .i64 cash] 80)).alloc (.cells #[.int .i64 R.lot,.int .i64 R.mode,.int .i64 R.self] 82)).alloc (.cells #[.slice none 0 0,.slice none 0 0,.int .i64 0,.bool false] 77)=w3:=⟨_,rfl⟩
 have b3:Ok w w3:=by rw[<-hw3];exact(((Oq _ _).alloc (Sq _) _).alloc Oy _).alloc (by simp;omega) _
 have c4:Cl 80 w3 w.heap.size #[.int .i64 R.acc,.int .i64 R.side,.int .i64 R.price,.int .i64 q,.int .i64 cash]:=by rw[<-hw3];exact Qp (by simp;omega) (Qp Oy (Qe rfl))
 have c5:Cl 82 w3 (w.heap.size+1) #[.int .i64 R.lot,.int .i64 R.mode,.int .i64 R.self]:=by rw[<-hw3];exact Qp Oy (Qe Oy)
 have c6:Cl 77 w3 (w.heap.size+1+1) #[.slice none 0 0,.slice none 0 0,.int .i64 0,.bool false]:=by rw[<-hw3];exact Qe Oy
 have bQ:=Ou b3
 have dN:=Ou c6
 obtain⟨t0,t1,t2,t3,t4⟩:=Jm c4
 obtain⟨d0,d1,d2⟩:=Yj c5
 clear hf b3 c4 c5 c6
 go_enter func35,ntmps35
 go_wp2_with (first|((with_reducible refine(wO.out _).mono ?_);rintro e w4 ⟨rfl,hb4⟩;have rN:=Ou (Cl.bel dN.out hb4);have iA:=Ou hb4;clear hb4)|((with_reducible apply K6);rfl;rfl;rfl;rfl;exact rN.out;rfl;rfl;exact ZM;skip))
 refine bodyPost_ret (qbQ rfl _ _ _ rfl _ _ (setRow_heap _ _ _ _ _ _ rN.out) rfl _ rfl) rfl ?_
 exact⟨rfl,ZJ (bQ.out.trans (iA.out.mono bQ.out.size)) Oz⟩
def qk1 (w:World)(bk:Nat)(v:Value)(k:Int)(S:Nat->Prop)(r:Mt×Bool)(g:Int)(e:Ending)(w':World):Prop :=
 ∃(fv dv:Value) (S':Nat->Prop),e=.returned (.tuple #[Vz fv dv r.1.left r.2,.int .i64 g])/\Hid (MatchIs w w' bk v k S S' r fv dv)
def qk2 (w:World)(wb:Nat)(r:Mt×Bool)(g:Int)(e:Ending)(w':World):Prop :=
 ∃(fv dv:Value),e=.returned (.tuple #[Vz fv dv r.1.left r.2,.int .i64 g])/\Hid (RMIs w w' wb r fv dv)
theorem qk3 {w:World}{L:List Od}(h:∀x∈L,Od.ok w x):ZU L:=λx hx=>by
 obtain⟨h1,_,_,_,_,h2⟩:=h x hx
 exact⟨h1,h2⟩
structure EndF (m:Mt):Prop where
 fn:m.F.length<=128
 dn:m.D.length<=64
 dg:∀x∈m.D,Qj x=true/\(0<=x.id/\x.id<=18446744073709551615)/\(0<=x.seq/\x.seq<=18446744073709551615)
theorem GQ {m:Mt}(hm:MOk m)(hd:∀x∈m.D,Qj x=true/\(0<=x.id/\x.id<=18446744073709551615)/\(0<=x.seq/\x.seq<=18446744073709551615)):EndF m:=⟨by have:=hm.fn;omega,by have:=hm.dn;omega,hd⟩
theorem qk4 {R:Rl}{m:Mt}{p:Int}(hr:ROk R)(hm:MOk m)(aH:prM R m.L=some p)(hd:∀x∈m.D,Qj x=true/\(0<=x.id/\x.id<=18446744073709551615)/\(0<=x.seq/\x.seq<=18446744073709551615)):EndF (Qq R m p):=by
 have A:=Kg hm.gm (Kf hm.gm aH).1 hr.l1 hm.l0
 have h1:=qbz (R:=R) (m:=m) (p:=p)
 have h2:nM R m p<=m.L.length:=Sk ZT (by unfold lvM;exact V5 _ _ _)
 refine⟨by have:=hm.fn;omega,by rw[A.D];have:=hm.dn;omega,by rw[A.D];exact hd⟩
theorem GR {R:Rl}(hr:ROk R):∀(k:Nat) (m:Mt),MOk m->ZU m.L->(∀x∈m.D,Qj x=true/\(0<=x.id/\x.id<=18446744073709551615)/\(0<=x.seq/\x.seq<=18446744073709551615))->EndF (crM R k m).1
 | 0,m,hm,_,hd=>GQ hm hd
 | k+1,m,hm,hi,hd=>by
  rw[crM]
  cases aH:prM R m.L with
  | none=>exact GQ hm hd
  | some p =>
   have A:=Kg hm.gm (Kf hm.gm aH).1 hr.l1 hm.l0;simp only;by_cases h1:¬Zi R m p∨(Qq R m p).left=0
   ·rw[Sx h1];exact qk4 hr hm aH hd
   ·rw[Sw h1];have he:Zi R m p:=Classical.byContradiction λh=>h1 (.inl h);have hM:=hm.aft hr aH he;have hI:ZU (Qq R m p).L:=GP hi;have hD:∀x∈(Qq R m p).D,Qj x=true/\(0<=x.id/\x.id<=18446744073709551615)/\(0<=x.seq/\x.seq<=18446744073709551615):=by rw[A.D];exact hd
    by_cases h2:nM R m p=(lvM R m p).length
    ·rw[Sx h2];exact GR hr k _ hM hI hD
    ·rw[Sw h2];have hx:=A.there _ (Sq _) (by have:=ZT (R:=R) (m:=m) (p:=p);omega);obtain⟨x,ex⟩:∃x,(lvM R m p)[nM R m p]! = x:=⟨_,rfl⟩
     rw[ex]at hx ⊢;have hG:MOk (Zb x.id (Qq R m p))/\ZU (Zb x.id (Qq R m p)).L/\∀y∈(Zb x.id (Qq R m p)).D,Qj y=true/\(0<=y.id/\y.id<=18446744073709551615)/\(0<=y.seq/\y.seq<=18446744073709551615):=by
      refine⟨hM.gone hx,GN hI _,λy hy=>?_⟩;have hg:=(Vy hM.gm hx).get;have e1:(Zb x.id (Qq R m p)).D=(Qq R m p).D++[x]:=by unfold Zb;rw[hg];rfl
      rw[e1,List.mem_append,List.mem_singleton]at hy;rcases hy with hy|rfl
      ·exact hD y hy
      ·exact⟨hM.gm.gd _ hx,hI _ hx⟩
     have hP:MOk (Z2 R x.id (Qq R m p))/\ZU (Z2 R x.id (Qq R m p)).L/\∀y∈(Z2 R x.id (Qq R m p)).D,Qj y=true/\(0<=y.id/\y.id<=18446744073709551615)/\(0<=y.seq/\y.seq<=18446744073709551615):=by
      unfold Z2
      split
      ·exact hG
      ·exact⟨hM,hI,hD⟩
     by_cases h3:stN R.self=true
     ·rw[Sx h3];exact GQ hP.1 hP.2.2
     ·rw[Sw h3];exact GR hr k _ hP.1 hP.2.1 hP.2.2
structure Both (R:Rl) (X:Ruls) (q cash:Int) (k:Int) (L:List Od) (r:Mt×Bool) (g:Int):Prop where
 mt:∀(b:Nat) (v:Value) (S:Nat->Prop) (W:World),LyB W b v k L S->Calls prog 33 #[ptA b,.agg #[.int .i64 R.acc,.int .i64 R.side,.int .i64 R.price,.int .i64 q,.int .i64 cash],.agg #[X.ver,X.ticks,.int .i64 R.lot,X.band,X.fees,X.round,.int .i64 R.mode,.int .i64 R.self,X.lay]] W (qk1 W b v k S r g)
 rf:∀(wb:Nat) (W:World),RB W wb L->Calls prog 35 #[ptA wb,.agg #[.int .i64 R.acc,.int .i64 R.side,.int .i64 R.price,.int .i64 q,.int .i64 cash],.agg #[.int .i64 R.lot,.int .i64 R.mode,.int .i64 R.self]] W (qk2 W wb r g)
 ef:EndF r.1
theorem qk5 {R:Rl}{X:Ruls}{q cash k:Int}{L:List Od}(hf:FitP R q)(hc:InR cash)(hX:X.One)(hL:L.length<=64)(hg:GM ⟨L,q,cash,[],[]⟩)(hi:ZU L):Both R X q cash k L (crF R ⟨L,q,cash,[],[]⟩) 0:=by
 refine⟨λb v S W h=>qbG b X R v k L S q cash W h hf hc hX,λwb W h=>qkV wb R q cash L W h hL hg hi hf hc,?_⟩
 refine GR ⟨hf.side,Gz hf,by have:=hf.m0;have:=hf.m1;omega,hf.l0,hf.l1⟩ _ _ ⟨hg,by have:=hf.q0;show 0<=q;omega,hf.q1,hc,by show 0+L.length<=64;omega,by show 0+L.length<=64;omega⟩ hi (λx hx=>by cases hx)
theorem qk6 {R:Rl}{X:Ruls}{q cash k:Int}{L:List Od}(hf:¬FitP R q):Both R X q cash k L (⟨L,0,cash,[],[]⟩,false) 2:=by
 refine⟨λb v S W h=>(qkt b X R v k L S q cash W h hf).mono ?_,λwb W h=>(qk0 wb R q cash W hf).mono ?_,⟨Nat.zero_le _,Nat.zero_le _,λx hx=>by cases hx⟩⟩
 ·rintro e w' ⟨rfl,hb⟩;exact⟨_,_,S,rfl,Ou ⟨h.below hb.out,World.ownsRow_nil _ _ _ _,World.ownsRow_nil _ _ _ _,Fr.of_below hb.out,λ_ h=>.inl h,Nat.zero_le _⟩⟩
 ·rintro e w' ⟨rfl,hb⟩;exact⟨_,_,rfl,Ou ⟨Ky h hb,World.ownsRow_nil _ _ _ _,World.ownsRow_nil _ _ _ _,Fr.of_below hb⟩⟩
theorem GS {ops:Array Oper}{o:Oper}{a:Act}{w:World}{Q:Exit->Act->World->Prop}{K:Act->World->Prop}{E:Prop}(hgd:Region.wanted o (yielded ops a.tmps)=true)(x y:Operand)(ho:o.op=.store 77 x y)(g:Nat)(cs:Array Value)(hx:a.eval x=.pointer (some ⟨g,0,none⟩))(hy:a.eval y=.agg cs)(old:Array Value)(t:TypeId)
  (hg:Cl t w g old) (hs:old.size=4) (hc:cs.size=4) (h1:cs.all (·.oneCell')=true) (h:K (a.put o.dst undef) (w.setRow g cs)):if Region.wanted o (yielded ops a.tmps)=true then Oper.wp prog o a w K Q else E:=by
 rw[Sx hgd]
 exact wp_store_row _ x y ho g _ hx hy _ _ hg (by rw[hc];exact GL) (by rw[hs,hc]) h1 h
theorem GT {S:Nat->Prop}{w X:World}{c:Nat}{cs:Array Value}(h:Fr S w X)(hc:w.heap.size<=c):Fr S w (X.setRow c cs) :=
 ⟨h.os,h.tape,h.output,by simpa [World.setRow] using h.size,λk hk hn=>(setRow_other X c k cs Oz).trans (h.block k hk hn)⟩
theorem GU {W y1 wx:World}{wb c:Nat}{r:Mt×Bool}{gv ev:Value}(h:RMIs W y1 wb r gv ev)(hf:Fr (λj=>j=c) y1 wx)(hn:(∃cs,Cl 77 y1 c cs)∨y1.heap.size<=c) :
  RB wx wb r.1.L/\wx.ownsRow 0 114 7 gv r.1.F.length (flF r.1.F)/\wx.ownsRow 0 49 6 ev r.1.D.length (ol r.1.D):=by
 obtain⟨A,c',h1,h2⟩:=h.rb
 have n1:∀{T:TypeId} {k:Nat} {cs:Array Value},Cl T y1 k cs->T≠77->¬k=c:=λhk ht e=>by
  rcases hn with ⟨cs,hc⟩|hc
  ·exact Zr hk hc ht e
  ·have:=Qc hk;omega
 have n2:∀{base n size:Nat} {T:TypeId} {v:Value} {xs:List Value},y1.ownsRow base T size v n xs->T≠77->∀j,v.ownBlock=some j->¬j=c:=λho ht j hj e=>by
  subst e;rcases hn with ⟨cs,hc⟩|hc
  ·exact Qn ho hc ht hj
  ·have:=J0 ho _ hj;omega
 exact⟨⟨A,c',hf.blk h1 (n1 h1 Ox),Qh h2 hf (n2 h2 Ox)⟩,Js (Qh h.fo hf (n2 h.fo Ox)) (Nat.zero_le _),Js (Qh h.dr hf (n2 h.dr Ox)) (Nat.zero_le _)⟩
theorem qk7 (k:Int)(A:Option Addr)(n c:Nat)(X:Ruls)(R:Rl)(q cash:Int)(w:World)(hz:(64:Int)<(n:Int)) :
  Calls prog 6 #[.int .i64 k,.slice A n c,.agg #[.int .i64 R.acc,.int .i64 R.side,.int .i64 R.price,.int .i64 q,.int .i64 cash],.agg #[X.ver,X.ticks,.int .i64 R.lot,X.band,X.fees,X.round,.int .i64 R.mode,.int .i64 R.self,X.lay]] w λe w'=>e=.returned (.bool true)/\Ok w w':=by
 have iK:=Ou (λW=>GK W)
 obtain⟨w2,hw2⟩:∃w2,(w.alloc (.cells #[.int .i64 R.acc,.int .i64 R.side,.int .i64 R.price,.int .i64 q,.int .i64 cash] 64)).alloc (.cells #[X.ver,X.ticks,.int .i64 R.lot,X.band,X.fees,X.round,.int .i64 R.mode,.int .i64 R.self,X.lay] 68)=w2:=⟨_,rfl⟩
 have b2:Ok w w2:=by rw[<-hw2];exact((Oq _ _).alloc (Sq _) _).alloc Oy _
 have c4:Cl 64 w2 w.heap.size #[.int .i64 R.acc,.int .i64 R.side,.int .i64 R.price,.int .i64 q,.int .i64 cash]:=by rw[<-hw2];exact Qp Oy (Qe rfl)
 have c5:Cl 68 w2 (w.heap.size+1) #[X.ver,X.ticks,.int .i64 R.lot,X.band,X.fees,X.round,.int .i64 R.mode,.int .i64 R.self,X.lay]:=by rw[<-hw2];exact Qe Oy
 have aG:=Ou b2
 have qG:=Ou c4
 have lW:=Ou c5
 clear b2 c4 c5
 go_enter func6,ntmps6
 go_wp2_with ((with_reducible refine(iK.out _).mono ?_);rintro e w9 ⟨rfl,jI⟩)
 go_ret
 exact⟨rfl,aG.out.trans (jI.mono aG.out.size)⟩
theorem qb1 (k:Int)(A:Option Addr)(n c:Nat)(X:Ruls)(R:Rl)(q cash:Int)(w:World)(hz:n<=64)(HB:∀W,Ok w W->Calls prog 10 #[.int .i64 k,.slice A n c] W (XG W)) :
  Calls prog 6 #[.int .i64 k,.slice A n c,.agg #[.int .i64 R.acc,.int .i64 R.side,.int .i64 R.price,.int .i64 q,.int .i64 cash],.agg #[X.ver,X.ticks,.int .i64 R.lot,X.band,X.fees,X.round,.int .i64 R.mode,.int .i64 R.self,X.lay]] w λe w'=>e=.returned (.bool true)/\Ok w w':=by
 have hzI:decide ((64:Int)<(n:Int))=false:=Sz Oz
 have iK:=Ou (λW=>GK W)
 obtain⟨w2,hw2⟩:∃w2,(w.alloc (.cells #[.int .i64 R.acc,.int .i64 R.side,.int .i64 R.price,.int .i64 q,.int .i64 cash] 64)).alloc (.cells #[X.ver,X.ticks,.int .i64 R.lot,X.band,X.fees,X.round,.int .i64 R.mode,.int .i64 R.self,X.lay] 68)=w2:=⟨_,rfl⟩
 have b2:Ok w w2:=by rw[<-hw2];exact((Oq _ _).alloc (Sq _) _).alloc Oy _
 have c4:Cl 64 w2 w.heap.size #[.int .i64 R.acc,.int .i64 R.side,.int .i64 R.price,.int .i64 q,.int .i64 cash]:=by rw[<-hw2];exact Qp Oy (Qe rfl)
 have c5:Cl 68 w2 (w.heap.size+1) #[X.ver,X.ticks,.int .i64 R.lot,X.band,X.fees,X.round,.int .i64 R.mode,.int .i64 R.self,X.lay]:=by rw[<-hw2];exact Qe Oy
 have aG:=Ou b2
 have qG:=Ou c4
 have lW:=Ou c5
 have kH:=Ou (HB w2 b2)
 unfold XG at kH
 have qQ:=Ou (λW=>qbY none none none none 0 0 0 0 0 0 [] [] 0 false W (.inl rfl) (.inl rfl) ⟨rfl,by omega,(λx hx=>by cases hx),.inl rfl⟩ ⟨rfl,by omega,(λx hx=>by cases hx),.inl rfl⟩ Oz Oz)
 clear b2 c4 c5 HB hz
 go_enter func6,ntmps6
 go_wp2_with fail
 ((with_reducible refine kH.out.mono ?_);rintro e w3 ⟨rfl,h3⟩)
 have fP:=Ou (qks X R q cash w3)
 unfold GG at fP
 obtain⟨t0,t1,t2,t3,t4⟩:=Jm (Cl.bel qG.out h3.out);obtain⟨r0,r1,r2,r3,r4,r5,r6,r7,r8⟩:=K1 (Cl.bel lW.out h3.out)
 have B3:=Ou (aG.out.trans (h3.out.mono aG.out.size))
 clear h3 kH
 go_wp2_with fail
 ((with_reducible refine fP.out.mono ?_);rintro e w4 ⟨rfl,h4⟩)
 obtain⟨w5,iQ⟩:∃w5,(w4.alloc (.cells #[.slice none 0 0,.slice none 0 0,.int .i64 0,.bool false] 71)).setRow w4.heap.size #[.slice none 0 0,.slice none 0 0,.int .i64 0,.bool false]=w5:=⟨_,rfl⟩
 have b5:Ok w4 w5:=by rw[<-iQ];exact ZJ (Zq _ _) (Sq _)
 have c5:Cl 71 w5 w4.heap.size #[.slice none 0 0,.slice none 0 0,.int .i64 0,.bool false]:=by rw[<-iQ];exact setRow_heap _ _ _ _ _ _ (Qe rfl)
 obtain⟨e0,e1,e2,e3⟩:=Jz c5
 have B5:=Ou ((B3.out.trans (h4.out.mono B3.out.size)).trans (b5.mono (Sk B3.out.size h4.out.size)))
 clear b5 c5 fP h4
 go_wp2_with (first|((with_reducible apply K2);rfl;rfl;rfl;rfl;exact(show Cl 71 _ w4.heap.size _ from Qe rfl);rfl;rfl;exact ZM;rw[iQ];skip)|((with_reducible refine(qQ.out _).mono ?_);rintro e w8 ⟨rfl,lD⟩;have B8:=Ou (B5.out.trans (lD.mono B5.out.size));clear lD)|((with_reducible refine(iK.out _).mono ?_);rintro e w9 ⟨rfl,jI⟩))
 go_ret
 exact⟨rfl,B8.out.trans (jI.mono B8.out.size)⟩
theorem qb2 (k:Int)(hk:k=1∨k=2)(A:Option Addr)(n c:Nat)(L:List Od)(X:Ruls)(R:Rl)(q cash:Int)(w:World)(H:Ods w A n L)(hz:n<=64)(hB:QV L=true)(r:Mt×Bool)(g:Int)(x7:Both R X q cash k L r g) :
  Calls prog 6 #[.int .i64 k,.slice A n c,.agg #[.int .i64 R.acc,.int .i64 R.side,.int .i64 R.price,.int .i64 q,.int .i64 cash],.agg #[X.ver,X.ticks,.int .i64 R.lot,X.band,X.fees,X.round,.int .i64 R.mode,.int .i64 R.self,X.lay]] w λe w'=>e=.returned (.bool true)/\Ok w w':=by
 have hzI:decide ((64:Int)<(n:Int))=false:=Sz Oz
 have iK:=Ou (λW=>GK W)
 obtain⟨w2,hw2⟩:∃w2,(w.alloc (.cells #[.int .i64 R.acc,.int .i64 R.side,.int .i64 R.price,.int .i64 q,.int .i64 cash] 64)).alloc (.cells #[X.ver,X.ticks,.int .i64 R.lot,X.band,X.fees,X.round,.int .i64 R.mode,.int .i64 R.self,X.lay] 68)=w2:=⟨_,rfl⟩
 have b2:Ok w w2:=by rw[<-hw2];exact((Oq _ _).alloc (Sq _) _).alloc Oy _
 have c4:Cl 64 w2 w.heap.size #[.int .i64 R.acc,.int .i64 R.side,.int .i64 R.price,.int .i64 q,.int .i64 cash]:=by rw[<-hw2];exact Qp Oy (Qe rfl)
 have c5:Cl 68 w2 (w.heap.size+1) #[X.ver,X.ticks,.int .i64 R.lot,X.band,X.fees,X.round,.int .i64 R.mode,.int .i64 R.self,X.lay]:=by rw[<-hw2];exact Qe Oy
 have aG:=Ou b2
 have qG:=Ou c4
 have lW:=Ou c5
 have kH:=Ou (qbd k hk A n c L w2 (H.below b2) hB)
 obtain⟨M,st⟩:=r
 obtain⟨nF,hnF⟩:∃n,M.F.length=n:=⟨_,rfl⟩
 obtain⟨nD,lO⟩:∃n,M.D.length=n:=⟨_,rfl⟩
 obtain⟨nM,xO⟩:∃n,M.L.length=n:=⟨_,rfl⟩
 obtain⟨lf,aQ⟩:∃n,M.left=n:=⟨_,rfl⟩
 have eV:=Ou (Sv hnF (Sv lO (Sv xO aQ)))
 have fP:Hid (∀(b:Nat) (v:Value) (S:Nat->Prop) (W:World),LyB W b v k L S->Calls prog 33 #[ptA b,.agg #[.int .i64 R.acc,.int .i64 R.side,.int .i64 R.price,.int .i64 q,.int .i64 cash],.agg #[X.ver,X.ticks,.int .i64 R.lot,X.band,X.fees,X.round,.int .i64 R.mode,.int .i64 R.self,X.lay]] W λe w'=>∃(fv dv:Value) (S':Nat->Prop),e=.returned (.tuple #[.agg #[fv,dv,.int .i64 lf,.bool st],.int .i64 g])/\Hid (MatchIs W w' b v k S S' (M,st) fv dv)):=Ou (λb v S W h=>(x7.mt b v S W h).mono (by
  rintro e w' ⟨fv,dv,S',rfl,h⟩;exact⟨fv,dv,S',by rw[<-aQ],h⟩))
 have HRt:Hid (∀(wb:Nat) (W:World),RB W wb L->Calls prog 35 #[ptA wb,.agg #[.int .i64 R.acc,.int .i64 R.side,.int .i64 R.price,.int .i64 q,.int .i64 cash],.agg #[.int .i64 R.lot,.int .i64 R.mode,.int .i64 R.self]] W λe w'=>∃(fv dv:Value),e=.returned (.tuple #[.agg #[fv,dv,.int .i64 lf,.bool st],.int .i64 g])/\Hid (RMIs W w' wb (M,st) fv dv)):=Ou (λwb W h=>(x7.rf wb W h).mono (by
  rintro e w' ⟨fv,dv,rfl,h⟩;exact⟨fv,dv,by rw[<-aQ],h⟩))
 have HE:=Ou x7.ef
 have HO:=Ou H
 have aN:=Ou H.1
 clear b2 c4 c5 H hB hk x7 hnF lO xO aQ
 go_enter func6,ntmps6
 go_wp2_with fail
 ((with_reducible refine kH.out.mono ?_);rintro e w3 ⟨b,v,S,rfl,hN⟩)
 have B3:=Ou (aG.out.trans (hN.out.be.mono aG.out.size))
 have HP:=Ou (qkZ A n c L w3 (HO.out.below B3.out) Oz)
 unfold qb0 at HP
 have HN:=Ou hN.out
 clear hN kH
 go_wp2_with fail
 ((with_reducible refine HP.out.mono ?_);rintro e w4 ⟨A1,c1,rfl,hP⟩)
 obtain⟨w5,iQ⟩:∃w5,w4.alloc (.cells #[.slice A1 n c1] 46)=w5:=⟨_,rfl⟩
 obtain⟨wb,hwb⟩:∃x,w4.heap.size=x:=⟨_,rfl⟩
 have b45:Ok w4 w5:=by rw[<-iQ];exact Zq _ _
 have b35:Ok w3 w5:=hP.out.1.trans (b45.mono hP.out.1.size)
 have hRB:RB w5 wb L:=by
  refine⟨A1,c1,?_,?_⟩
  ·rw[<-hwb,<-iQ,aN.out];exact Qe rfl
  ·rw[aN.out];exact Js (Qh hP.out.2 (Fr.of_below b45:Fr (λ_=>False) w4 w5) (λ_ _ h=>h)) (Nat.zero_le _)
 have wR:Hid (w3.heap.size<=wb/\wb<w5.heap.size):=Ou ⟨by rw[<-hwb];exact hP.out.1.size,by(obtain⟨_,_,h,_⟩:=hRB;exact Qc h)⟩
 have gT:=Ou hRB
 have oC:=Ou (HN.out.ly.below b35)
 have HM5:=Ou (fP.out b v S w5 oC.out)
 have B35:=Ou b35
 have qF:=Ou (HN.out.be.trans (b35.mono HN.out.be.size))
 obtain⟨t0,t1,t2,t3,t4⟩:=Jm (Cl.bel qG.out qF.out)
 obtain⟨r0,r1,r2,r3,r4,r5,r6,r7,r8⟩:=K1 (Cl.bel lW.out qF.out)
 clear HP hP b45 b35 hRB fP
 go_upto_region 8 with fail
 (try rw[iQ])
 (try rw[hwb])
 clear iQ hwb
 go_wp2_with fail
 ((with_reducible refine HM5.out.mono ?_);rintro e w6 ⟨fv,dv,S2,rfl,hM⟩)
 have hfo:=hM.out.fo
 have hdr:=hM.out.dr
 dsimp only at hfo hdr
 rw[eV.out.1]at hfo
 rw[eV.out.2.1]at hdr
 obtain⟨FA,fc,rfl⟩:=Zj hfo
 obtain⟨DA,dc,rfl⟩:=Zj hdr
 obtain⟨wz,hwz⟩:∃wz,(w6.alloc (.cells #[.slice none 0 0,.slice none 0 0,.int .i64 0,.bool false] 71)).setRow w6.heap.size #[.slice FA nF fc,.slice DA nD dc,.int .i64 lf,.bool st]=wz:=⟨_,rfl⟩
 have b6:Ok w6 wz:=by rw[<-hwz];exact ZJ (Zq _ _) (Sq _)
 have cX:Cl 71 wz w6.heap.size #[.slice FA nF fc,.slice DA nD dc,.int .i64 lf,.bool st]:=by rw[<-hwz];exact setRow_heap _ _ _ _ _ _ (Qe rfl)
 have o9:=Ou (hM.out.ly.below b6)
 have iW:=Ou (Ky (qjO gT.out oC.out.hd hM.out.fr) b6)
 have B6:Hid (Ok w2 wz):=Ou ((qF.out.trans (hM.out.fr.below (λj hj=>HN.out.lo j hj) qF.out.size)).trans (b6.mono (Sk qF.out.size hM.out.fr.size)))
 have yP:=Ou (Qh hfo (Fr.of_below b6:Fr (λ_=>False) w6 wz) (λ_ _ h=>h))
 have qH:=Ou (Qh hdr (Fr.of_below b6:Fr (λ_=>False) w6 wz) (λ_ _ h=>h))
 have HX:=Ou cX
 have s2:w2.heap.size=w.heap.size+2:=by rw[<-hw2];simp
 have dO:Hid (wb<wz.heap.size/\w.heap.size+2<=wb/\w6.heap.size≠wb):=Ou ⟨by have:=wR.out.2;have:=hM.out.fr.size;have:=b6.size;omega,by have:=wR.out.1;have:=HN.out.be.size;omega,by have:=wR.out.2;have:=hM.out.fr.size;omega⟩
 have NT:Hid (∀W,Fr (λk=>k=wb) wz W->W.cell? ⟨w.heap.size,0,none⟩=some (.int .i64 R.acc)/\W.cell? ⟨w.heap.size,1,none⟩=some (.int .i64 R.side)/\W.cell? ⟨w.heap.size,2,none⟩=some (.int .i64 R.price)/\W.cell? ⟨w.heap.size,3,none⟩=some (.int .i64 q)/\W.cell? ⟨w.heap.size,4,none⟩=some (.int .i64 cash)):=Ou (λW hW=>Jm (hW.blk (Cl.bel qG.out B6.out) (by have:=dO.out;omega)))
 have NR:Hid (∀W,Fr (λk=>k=wb) wz W->W.cell? ⟨w.heap.size+1,0,none⟩=some X.ver/\W.cell? ⟨w.heap.size+1,1,none⟩=some X.ticks/\W.cell? ⟨w.heap.size+1,2,none⟩=some (.int .i64 R.lot)/\W.cell? ⟨w.heap.size+1,3,none⟩=some X.band/\W.cell? ⟨w.heap.size+1,4,none⟩=some X.fees/\W.cell? ⟨w.heap.size+1,5,none⟩=some X.round/\W.cell? ⟨w.heap.size+1,6,none⟩=some (.int .i64 R.mode)/\W.cell? ⟨w.heap.size+1,7,none⟩=some (.int .i64 R.self)/\W.cell? ⟨w.heap.size+1,8,none⟩=some X.lay):=Ou (λW hW=>K1 (hW.blk (Cl.bel lW.out B6.out) (by have:=dO.out;omega)))
 have cV:=Ou (λW=>qkY X R W)
 have wP:=Ou (λW (hW:Ok wz W)=>HRt.out wb W (Ky iW.out hW))
 clear hfo hdr b6 cX hM HM5 HRt s2 gT oC qF B35 B3 HN qG lW t0 t1 t2 t3 t4 r0 r1 r2 r3 r4 r5 r6 r7 r8 hw2
 go_upto_region 9 with ((with_reducible apply K2);rfl;rfl;rfl;rfl;exact(show Cl 71 _ w6.heap.size _ from Qe rfl);rfl;rfl;exact ZM;rw[hwz];skip)
 go_cut [16,17] (λi9 iH wx=>∃(cy:Nat) (GA EA:Option Addr) (gc ec:Nat),i9=.pointer (some ⟨cy,0,none⟩)/\iH=.int .i64 g/\Hid (Fr (λk=>k=wb) wz wx/\Cl 77 wx cy #[.slice GA nF gc,.slice EA nD ec,.int .i64 lf,.bool st]/\RB wx wb M.L/\wx.ownsRow 0 114 7 (.slice GA nF gc) M.F.length (flF M.F)/\wx.ownsRow 0 49 6 (.slice EA nD ec) M.D.length (ol M.D)))
 case first =>
  refine wp_region_held_drew (S:=λW=>Fr (λk=>k=wb) wz W) Ow (by exact(Fr.refl _ _).drew) (λhHeld=>?_);refine tkA 0 ?_;refine tkH 1 ?_ ?_ Ov ?_;rotate_left
  ·(intro w hSw;obtain⟨q0,q1,q2,q3,q4⟩:=NT.out _ hSw;(try dsimp only at hSw);go_simp;try with_reducible rfl)
  (try simp only[zz]);refine tkH 2 ?_ ?_ Ov ?_;rotate_left
  ·(intro w hSw;obtain⟨q0,q1,q2,q3,q4,q5,q6,q7,q8⟩:=NR.out _ hSw;(try dsimp only at hSw);go_simp;try with_reducible rfl)
  (try simp only[zz]);refine wpAnyH_ready (rs:=[3,8]) Ow Oy ?_;refine(AllReadyH.cons (o:=⟨some 66,_,_,_,_,_⟩) rfl (λK hK=>?_) (AllReadyH.cons (o:=⟨some 16,_,_,_,_,_⟩) rfl (λK hK=>?_) AllReadyH.nil))
  ·go_simp;((with_reducible refine(cV.out _).mono ?_);rintro e y0 ⟨rfl,hb0⟩);have HY:Hid (Ok wz y0):=Ou (by refine Below.trans (b:=_) ?_ (hb0.mono ?_)<;>first|((repeat (first|exact Below.refl _ _|refine Below.drew ?_|refine Below.alloc ?_ ?_ _|exact Sq _));done)|simp);refine hK.out _ _ (by exact hHeld.trans (Fr.of_below hb0:Fr (λk=>k=wb) _ _) (λ_ h=>.inl h)) (λhHeld=>?_);clear hK K;(try simp only[zz]);refine wpAnyH_ready (rs:=[4,8]) Ow Oy ?_;refine(AllReadyH.cons (o:=⟨some 67,_,_,_,_,_⟩) rfl (λK hK=>?_) (AllReadyH.cons (o:=⟨some 16,_,_,_,_,_⟩) rfl (λK hK=>?_) AllReadyH.nil))
   ·go_simp;((with_reducible refine(wP.out _ ?_).mono ?_);(repeat (first|exact Below.refl _ _|exact HY.out|refine Below.drew ?_|refine Below.alloc ?_ ?_ _|exact Sq _|exact HY.out.size));rintro e y1 ⟨gv,ev,rfl,hR⟩);have hfo:=hR.out.fo;have hdr:=hR.out.dr;dsimp only at hfo hdr;rw[eV.out.1]at hfo;rw[eV.out.2.1]at hdr;obtain⟨GA,gc,rfl⟩:=Zj hfo;obtain⟨EA,ec,rfl⟩:=Zj hdr;have bU:=Ou hR.out;clear hfo hdr;refine hK.out _ _ (by exact hHeld.trans hR.out.fr (λ_ h=>.inl h)) (λhHeld=>?_);clear hK K;(try simp only[zz]);clear hR;refine tkA 5 ?_;refine tkA 6 ?_;refine tkA 7 ?_;(try simp only[zz])
    refine wpAnyH_ready (rs:=[8]) Ow Oy ?_;refine(AllReadyH.cons (o:=⟨some 16,_,_,_,_,_⟩) rfl (λK hK=>?_) AllReadyH.nil);go_simp;refine hK.out _ _ (by exact hHeld.alloc _) (λhHeld=>?_);clear hK K;(try simp only[zz]);refine wpAnyH_ready (rs:=[9]) Ow Oy ?_;refine(AllReadyH.cons (o:=⟨none,_,_,_,_,_⟩) rfl (λK hK=>?_) AllReadyH.nil);have i7:=setRow_heap _ _ _ #[.slice GA nF gc,.slice EA nD ec,.int .i64 lf,.bool st] _ _ ((show Cl 77 _ y1.heap.size #[.slice none 0 0,.slice none 0 0,.int .i64 0,.bool false] from Qk (Qe rfl)));((with_reducible apply GS);rfl;rfl;rfl;rfl;exact(show Cl 77 _ y1.heap.size #[.slice none 0 0,.slice none 0 0,.int .i64 0,.bool false] from Qk (Qe rfl));rfl;rfl;exact ZM;skip)
    refine hK.out _ _ (by exact GT hHeld (by have h1:=dO.out;have h2:=bU.out.fr.size;have h3:=HY.out.size;omega)) (λhHeld=>?_);clear hK K;(try simp only[zz]);refine tkA 10 ?_;(try simp only[zz]);refine wpAnyH_done Ow ?_ _;go_wp2_with fail
    go_meet
    case rel=>exact⟨y1.heap.size,GA,EA,gc,ec,rfl,rfl,Ou ⟨hHeld,Qk i7,GU (c:=y1.heap.size) bU.out (by(repeat (first|exact Fr.refl _ _|refine Xs ?_|refine Fr.drew ?_|refine Fr.alloc ?_ _))) (.inr (Sq _))⟩⟩
   ·go_simp;refine hK.out _ _ (by exact hHeld.alloc _) (λhHeld=>?_);clear hK K;(try simp only[zz]);refine wpAnyH_ready (rs:=[4]) Ow Oy ?_;refine(AllReadyH.cons (o:=⟨some 67,_,_,_,_,_⟩) rfl (λK hK=>?_) AllReadyH.nil);go_simp;((with_reducible refine(wP.out _ ?_).mono ?_);(repeat (first|exact Below.refl _ _|exact HY.out|refine Below.drew ?_|refine Below.alloc ?_ ?_ _|exact Sq _|exact HY.out.size));rintro e y1 ⟨gv,ev,rfl,hR⟩);have gG:Hid (Cl 77 y1 y0.heap.size #[.slice none 0 0,.slice none 0 0,.int .i64 0,.bool false]):=Ou (hR.out.fr.blk (show Cl 77 _ y0.heap.size #[.slice none 0 0,.slice none 0 0,.int .i64 0,.bool false] from Qk (Qe rfl)) (by have h1:=dO.out;have h2:=HY.out.size;omega))
    have hfo:=hR.out.fo;have hdr:=hR.out.dr;dsimp only at hfo hdr;rw[eV.out.1]at hfo;rw[eV.out.2.1]at hdr;obtain⟨GA,gc,rfl⟩:=Zj hfo;obtain⟨EA,ec,rfl⟩:=Zj hdr;have bU:=Ou hR.out;clear hfo hdr;refine hK.out _ _ (by exact hHeld.trans hR.out.fr (λ_ h=>.inl h)) (λhHeld=>?_);clear hK K;(try simp only[zz]);clear hR;refine tkA 5 ?_;refine tkA 6 ?_;refine tkA 7 ?_;(try simp only[zz]);refine wpAnyH_ready (rs:=[9]) Ow Oy ?_;refine(AllReadyH.cons (o:=⟨none,_,_,_,_,_⟩) rfl (λK hK=>?_) AllReadyH.nil);have i7:=setRow_heap _ _ _ #[.slice GA nF gc,.slice EA nD ec,.int .i64 lf,.bool st] _ _ (Qk gG.out)
    ((with_reducible apply GS);rfl;rfl;rfl;rfl;exact Qk gG.out;rfl;rfl;exact ZM;skip);refine hK.out _ _ (by exact GT hHeld (by have h1:=dO.out;have h2:=bU.out.fr.size;have h3:=HY.out.size;omega)) (λhHeld=>?_);clear hK K;(try simp only[zz]);refine tkA 10 ?_;(try simp only[zz]);refine wpAnyH_done Ow ?_ _;go_wp2_with fail
    go_meet
    case rel=>exact⟨y0.heap.size,GA,EA,gc,ec,rfl,rfl,Ou ⟨hHeld,Qk i7,GU (c:=y0.heap.size) bU.out (by(repeat (first|exact Fr.refl _ _|refine Xs ?_|refine Fr.drew ?_|refine Fr.alloc ?_ _))) (.inl ⟨_,gG.out⟩)⟩⟩
  ·go_simp;refine hK.out _ _ (by exact hHeld.alloc _) (λhHeld=>?_);clear hK K;(try simp only[zz]);refine wpAnyH_ready (rs:=[3]) Ow Oy ?_;refine(AllReadyH.cons (o:=⟨some 66,_,_,_,_,_⟩) rfl (λK hK=>?_) AllReadyH.nil);go_simp;((with_reducible refine(cV.out _).mono ?_);rintro e y0 ⟨rfl,hb0⟩);have HY:Hid (Ok wz y0):=Ou (by refine Below.trans (b:=_) ?_ (hb0.mono ?_)<;>first|((repeat (first|exact Below.refl _ _|refine Below.drew ?_|refine Below.alloc ?_ ?_ _|exact Sq _));done)|simp);have hA:Hid (Cl 77 y0 wz.heap.size #[.slice none 0 0,.slice none 0 0,.int .i64 0,.bool false]):=Ou (Cl.bel (show Cl 77 _ wz.heap.size #[.slice none 0 0,.slice none 0 0,.int .i64 0,.bool false] from Qk (Qe rfl)) hb0)
   refine hK.out _ _ (by exact hHeld.trans (Fr.of_below hb0:Fr (λk=>k=wb) _ _) (λ_ h=>.inl h)) (λhHeld=>?_);clear hK K;(try simp only[zz]);refine wpAnyH_ready (rs:=[4]) Ow Oy ?_;refine(AllReadyH.cons (o:=⟨some 67,_,_,_,_,_⟩) rfl (λK hK=>?_) AllReadyH.nil);go_simp;((with_reducible refine(wP.out _ ?_).mono ?_);(repeat (first|exact Below.refl _ _|exact HY.out|refine Below.drew ?_|refine Below.alloc ?_ ?_ _|exact Sq _|exact HY.out.size));rintro e y1 ⟨gv,ev,rfl,hR⟩);have gG:Hid (Cl 77 y1 wz.heap.size #[.slice none 0 0,.slice none 0 0,.int .i64 0,.bool false]):=Ou (hR.out.fr.blk (Qk hA.out) (by have h1:=dO.out;have h2:=HY.out.size;omega))
   have hfo:=hR.out.fo;have hdr:=hR.out.dr;dsimp only at hfo hdr;rw[eV.out.1]at hfo;rw[eV.out.2.1]at hdr;obtain⟨GA,gc,rfl⟩:=Zj hfo;obtain⟨EA,ec,rfl⟩:=Zj hdr;have bU:=Ou hR.out;clear hfo hdr;refine hK.out _ _ (by exact hHeld.trans hR.out.fr (λ_ h=>.inl h)) (λhHeld=>?_);clear hK K;(try simp only[zz]);clear hR;refine tkA 5 ?_;refine tkA 6 ?_;refine tkA 7 ?_;(try simp only[zz]);refine wpAnyH_ready (rs:=[9]) Ow Oy ?_;refine(AllReadyH.cons (o:=⟨none,_,_,_,_,_⟩) rfl (λK hK=>?_) AllReadyH.nil);have i7:=setRow_heap _ _ _ #[.slice GA nF gc,.slice EA nD ec,.int .i64 lf,.bool st] _ _ (Qk gG.out)
   ((with_reducible apply GS);rfl;rfl;rfl;rfl;exact Qk gG.out;rfl;rfl;exact ZM;skip);refine hK.out _ _ (by exact GT hHeld (by have h1:=dO.out;have h2:=bU.out.fr.size;have h3:=HY.out.size;omega)) (λhHeld=>?_);clear hK K;(try simp only[zz]);refine tkA 10 ?_;(try simp only[zz]);refine wpAnyH_done Ow ?_ _;go_wp2_with fail
   go_meet
   case rel=>exact⟨wz.heap.size,GA,EA,gc,ec,rfl,rfl,Ou ⟨hHeld,Qk i7,GU (c:=wz.heap.size) bU.out (by(repeat (first|exact Fr.refl _ _|refine Xs ?_|refine Fr.drew ?_|refine Fr.alloc ?_ _))) (.inl ⟨_,gG.out⟩)⟩⟩
 case rest =>
  obtain⟨cy,GA,EA,gc,ec,rfl,rfl,hQ⟩:=hcut;obtain⟨bK,hcy,⟨A9,c9,hb1,hb2⟩,hg1,he1⟩:=hQ.out;rw[eV.out.1]at hg1;rw[eV.out.2.1]at he1;rw[eV.out.2.2.1]at hb1 hb2;have hok:∀(W:World),∀x∈M.D,Od.ok W x:=λW x hx=>qbR (HE.out.dg x hx).1 (HE.out.dg x hx).2 W;have lO:nD<=64:=by have:=HE.out.dn;rw[eV.out.2.1]at this;exact this
  have hnF:nF<=128:=by have:=HE.out.fn;rw[eV.out.1]at this;exact this
  have xO:nM<=64:=by have:M.L.length<=64:=o9.out.hd.len;rw[eV.out.2.2.1]at this;exact this
  have jG:LyB wc b v k M.L S2:=o9.out.fr bK (λh=>qjQ iW.out o9.out h) (λj hj=>qjP iW.out o9.out.hd j hj);have hXc:Cl 71 wc w6.heap.size #[.slice FA nF fc,.slice DA nD dc,.int .i64 lf,.bool st]:=bK.blk HX.out dO.out.2.2;obtain⟨A0,c0,hbz,-⟩:=iW.out;have mN:Fls wc FA nF M.F:=qbX eV.out.1 (Qh yP.out bK (λj hj e=>by subst e;exact Qn yP.out hbz Ox hj));have x8:Ods wc DA nD M.D:=by
   obtain⟨A',c',e,_,ho⟩:=Vb (Qh qH.out bK (λj hj e=>by subst e;exact Qn qH.out hbz Ox hj)) Oz (hok wc);injection e with e1 _ e3;subst e1;exact ho
  have hF2:Fls wc GA nF M.F:=qbX eV.out.1 hg1;have zW:Ods wc EA nD M.D:=by
   obtain⟨A',c',e,_,ho⟩:=Vb he1 Oz (hok wc);injection e with e1 _ e3;subst e1;exact ho
  have hB9:Ods wc A9 nM M.L:=by
   obtain⟨A',c',e,_,ho⟩:=Vb hb2 Oz (λx hx=>(jG.hd.ok x hx).1);injection e with e1 _ e3;subst e1;exact ho
  have qQ:=Ou (λW (hW:Ok wc W)=>qbY FA GA DA EA nF nD fc gc dc ec M.F M.D lf st W (mN.below hW) (hF2.below hW) (x8.below hW) (zW.below hW) Oz Oz)
  have HAl:Hid (∀W,Ok wc W->Calls prog 15 #[ptA b] W λe w'=>∃AL lc,e=.returned (.slice AL nM lc)/\Hid (Ok W w'/\Ods w' AL nM M.L)):=Ou (λW hW=>by
   have h:=qjx b v k M.L S2 W (jG.below hW);refine h.mono ?_;rintro e w' ⟨v',rfl,h⟩;obtain⟨A,c,rfl,ho,_⟩:=qjN h.out.1 jG.hd.len (λx hx=>((jG.below hW).hd.ok x hx).1);rw[eV.out.2.2.1]at ho ⊢
   exact⟨A,c,rfl,Ou ⟨h.out.2,ho⟩⟩)
  have j4:Hid (∀W AL lc,Ok wc W->Ods W AL nM M.L->Calls prog 14 #[.slice AL nM lc,.slice A9 nM c9] W λe w'=>e=.returned (.bool true)/\Ok W w'):=Ou (λW AL lc hW h=>qbV h (hB9.below hW) Oz);have NX:Hid (∀W,Ok wc W->W.cell? ⟨w6.heap.size,0,none⟩=some (.slice FA nF fc)/\W.cell? ⟨w6.heap.size,1,none⟩=some (.slice DA nD dc)/\W.cell? ⟨w6.heap.size,2,none⟩=some (.int .i64 lf)/\W.cell? ⟨w6.heap.size,3,none⟩=some (.bool st)):=Ou (λW hW=>Jz (Cl.bel hXc hW));have NY:Hid (∀W,Ok wc W->W.cell? ⟨cy,0,none⟩=some (.slice GA nF gc)/\W.cell? ⟨cy,1,none⟩=some (.slice EA nD ec)/\W.cell? ⟨cy,2,none⟩=some (.int .i64 lf)/\W.cell? ⟨cy,3,none⟩=some (.bool st)):=Ou (λW hW=>Jz (Cl.bel hcy hW))
  have NB:Hid (∀W,Ok wc W->W.cell? ⟨wb,0,none⟩=some (.slice A9 nM c9)):=Ou (λW hW=>((Cl.bel hb1 hW).c 0).trans rfl);have BE:Hid (Ok w wc):=Ou ((aG.out.trans (B6.out.mono aG.out.size)).trans (bK.below (B:=w.heap.size) (λj hj=>by have h1:=dO.out;subst hj;omega) (Sk aG.out.size B6.out.size)));clear hQ bK hcy hb1 hb2 hg1 he1 hok lO hnF xO jG hXc hbz mN x8 hF2 zW hB9 NT NR cV wP yP qH HX o9 iW B6 aG wR HO;go_upto_region 10 with fail
  refine wp_region_held_drew (S:=λW=>Ok wc W) Ow (by exact(Oq _ _).drew) (λhHeld=>?_);refine tkA 0 ?_;refine tkA 1 ?_;refine tkA 2 ?_;refine tkA 3 ?_;refine tkH 4 ?_ ?_ Ov ?_;rotate_left
  ·(intro w hSw;obtain⟨q0,q1,q2,q3⟩:=NX.out _ hSw;(try dsimp only at hSw);go_simp;try with_reducible rfl)
  (try simp only[zz]);refine tkH 5 ?_ ?_ Ov ?_;rotate_left
  ·(intro w hSw;obtain⟨q0,q1,q2,q3⟩:=NY.out _ hSw;(try dsimp only at hSw);go_simp;try with_reducible rfl)
  (try simp only[zz]);refine rdH 6 (λK hK=>?_);go_simp;((with_reducible refine(qQ.out _ ?_).mono ?_);(exact hHeld);rintro e z1 ⟨rfl,hb1⟩);refine hK.out _ _ (by exact hHeld.trans (hb1.mono hHeld.size)) (λhHeld=>?_);clear hK K;(try simp only[zz]);refine tkA 7 ?_;refine tkA 8 ?_;refine tkA 9 ?_;refine tkA 11 ?_;refine tkA 12 ?_;refine tkA 13 ?_;refine tkH 14 ?_ ?_ Ov ?_;rotate_left
  ·(intro w hSw;have hs:=NB.out _ hSw;(try dsimp only at hSw);go_simp;try with_reducible rfl)
  (try simp only[zz]);refine rdH 10 (λK hK=>?_);go_simp;((with_reducible refine(HAl.out _ ?_).mono ?_);(exact hHeld);rintro e z2 ⟨AL,lc,rfl,hL⟩);have HO6:=Ou hL.out.2;refine hK.out _ _ (by exact hHeld.trans (hL.out.1.mono hHeld.size)) (λhHeld=>?_);clear hK K;(try simp only[zz]);refine rdH 15 (λK hK=>?_);go_simp;((with_reducible refine(j4.out _ _ _ ?_ ?_).mono ?_);(exact hHeld);(exact HO6.out);rintro e z3 ⟨rfl,hb3⟩);refine hK.out _ _ (by exact hHeld.trans (hb3.mono hHeld.size)) (λhHeld=>?_);clear hK K;(try simp only[zz]);refine tkA 16 ?_;refine tkA 17 ?_;(try simp only[zz]);refine rdH 18 (λK hK=>?_)
  go_simp;((with_reducible refine(iK.out _).mono ?_);rintro e z4 ⟨rfl,hb4⟩);refine hK.out _ _ (by exact hHeld.trans (hb4.mono hHeld.size)) (λhHeld=>?_);clear hK K;(try simp only[zz]);refine tkA 19 ?_;refine tkA 20 ?_;(try simp only[zz]);refine wpAnyH_done Ow ?_ _;go_wp2_with fail
  go_ret;exact⟨rfl,BE.out.trans (hHeld.mono BE.out.size)⟩
theorem qk8 (k:Int)(A:Option Addr)(n c:Nat)(L:List Od)(X:Ruls)(R:Rl)(q cash:Int)(w:World)(H:Ods w A n L)(hc:InR cash)(hX:X.One) :
  Calls prog 6 #[.int .i64 k,.slice A n c,.agg #[.int .i64 R.acc,.int .i64 R.side,.int .i64 R.price,.int .i64 q,.int .i64 cash],.agg #[X.ver,X.ticks,.int .i64 R.lot,X.band,X.fees,X.round,.int .i64 R.mode,.int .i64 R.self,X.lay]] w λe w'=>e=.returned (.bool true)/\Ok w w':=by
 by_cases hn:n<=64
 ·by_cases hk:k=1∨k=2
  ·cases hB:QV L with
   | true =>
    obtain⟨h1,h2,h3,h4⟩:=XF hB;by_cases hf:FitP R q
    ·exact qb2 k hk A n c L X R q cash w H hn hB _ _ (qk5 hf hc hX h1 ⟨h3,h2⟩ (qk3 H.2.2.1))
    ·exact qb2 k hk A n c L X R q cash w H hn hB _ _ (qk6 hf)
   | false=>exact qb1 k A n c X R q cash w hn (λW hW=>qjM k hk A n c L W (H.below hW) hB)
  ·exact qb1 k A n c X R q cash w hn (λW _=>qjL k (λh=>hk (.inl h)) (λh=>hk (.inr h)) A n c W)
 ·exact qk7 k A n c X R q cash w Oz
end
end Go.Proofs.YtikapeaodobkjaaGreat
