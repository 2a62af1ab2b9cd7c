/- What the laws lean on, in a few texts (by shake.py): number 12 of 16. -/
import Derived.Test.YtikapeaodobkjaaGreatZq1
import Derived.Test.YtikapeaodobkjaaGreatZq2
import Derived.Test.YtikapeaodobkjaaGreatZq5
import Derived.Test.YtikapeaodobkjaaGreatZq10
import Derived.Test.YtikapeaodobkjaaGreatZq9
import Derived.Test.YtikapeaodobkjaaGreatZq3
import Derived.Shelf.SlSortCmp.QuietGrown
import Derived.Laws.OwnMore
import Derived.Laws.AppendOwnNone
import Derived.Maps.AppendAt
import Derived.Deep.MidRow

set_option maxHeartbeats 16000000
set_option maxRecDepth 1000000
set_option linter.unusedVariables false
set_option linter.unusedSimpArgs false
namespace Go.Proofs.YtikapeaodobkjaaGreat
open _root_.Go.Proofs.Tryz
section
open Go.RowKit Go.Sort Go.Lib Go.Shelf
def RB (W:World)(wb:Nat)(M:List Od):Prop:=∃A c,Cl 46 W wb #[.slice A M.length c]/\W.ownsRow 0 49 6 (.slice A M.length c) M.length (ol M)
def QB (id:Int)(M:List Od):Nat:=M.findIdx (λx=>x.id==id)
def atI (id:Int)(M:List Od):Int:=if QB id M<M.length then (QB id M:Int) else -1
theorem qhy {id:Int}{M:List Od}{i:Nat}(hi:i<M.length)(hn:∀k,k<i->¬(M[k]!).id=id)(he:(M[i]!).id=id):QB id M=i:=by
 unfold QB
 rw[List.findIdx_eq hi]
 refine⟨?_,λj hj=>?_⟩
 ·rw[Sj M i hi]at he;simp[he]
 ·have:=hn j hj;rw[Sj M j (by omega)]at this;simp[this]
theorem Xj {id:Int}{M:List Od}(hn:∀x∈M,¬x.id=id):QB id M=M.length:=by
 unfold QB
 rw[List.findIdx_eq_length]
 intro x hx
 simp[hn x hx]
theorem T0 {id:Int}{M:List Od}(h:QB id M<M.length):(M[QB id M]!).id=id:=by
 rw[Sj M _ h]
 have:=List.findIdx_getElem (w:=h)
 exact eq_of_beq this
theorem qhz {id:Int}{M:List Od}{x:Od}(hx:x∈M)(he:x.id=id):QB id M<M.length:=by
 unfold QB
 rw[List.findIdx_lt_length]
 exact⟨x,hx,by simp[he]⟩
theorem T3 (wb:Nat)(id:Int)(M:List Od)(w:World)(H:RB w wb M)(hn:M.length<=1000) :
  Calls prog 52 #[.pointer (some ⟨wb,0,none⟩),.int .u64 id] w λe w'=>e=.returned (.int .i64 (atI id M))/\w'=w:=by
 obtain⟨A,c,hc,hr⟩:=H
 have c0:w.cell? ⟨wb,0,none⟩=some (.slice A M.length c):=(hc.c 0).trans rfl
 obtain⟨A',c',hv,hq⟩:=Z0 hr
 injection hv with e1 _ _
 subst e1
 have HQ:=Ou hq.2
 obtain⟨n,hl⟩:∃n,M.length=n:=⟨_,rfl⟩
 obtain⟨R,hR⟩:∃R,atI id M=R:=⟨_,rfl⟩
 have HR:=Ou hR
 have HM:=Ou hl
 rw[hl]at c0 HQ hn
 rw[hR]
 clear hc hr hq hl hR
 go_enter func52,ntmps52
 go_wp2_with fail
 go_loopw [5] (λs wr=>∃i:Nat,s=.int .i64 (i:Int)/\wr=w/\Hid (i<=n/\∀k,k<i->¬(M[k]!).id=id)) (λs _=>match s with | .int _ z=>n-z.toNat|_=>0)
 case atStart=>exact⟨0,rfl,rfl,Nat.zero_le _,λk hk=>absurd hk (Ax _)⟩
 case round =>
  obtain⟨i,rfl,rfl,hd⟩:=hrel;by_cases hi:i<n
  ·obtain⟨g,rfl,hg⟩:∃g,A=some ⟨g,0,none⟩/\(M[i]!).at wr g (i*6):=by
    rcases HQ.out with h0 | ⟨g,h1,_,h3⟩
    ·omega
    ·exact⟨g,h1,h3 i hi⟩
   have lJ:=hg.1;obtain⟨y,hy⟩:∃y,(M[i]!).id=y:=⟨_,rfl⟩
   rw[hy]at lJ;have jK:(i:Int)<(n:Int):=by omega
   have Hi:=Ou (Sv hi hy);have vM:IntKind.i64.wrap ((i:Int)+1)=((i+1:Nat):Int):=by rw[Wz];omega
   clear hg hy hi;by_cases he:y=id
   ·have eb:(y==id)=true:=by simp[he]
    have hz:R=(i:Int):=by
     have h1:=qhy (id:=id) (M:=M) (i:=i) (by rw[HM.out];exact Hi.out.1) hd.out.2 (by rw[Hi.out.2];exact he);rw[<-HR.out];unfold atI;rw[h1,Sx (by rw[HM.out];exact Hi.out.1)]
    subst hz;clear he;go_wp2_with fail
    go_ret;exact⟨rfl,rfl⟩
   ·have eb:(y==id)=false:=by simp[he]
    have He:=Ou he;clear he;go_wp2_with fail
    refine⟨⟨i+1,rfl,(by first|rfl|trivial),Hi.out.1,λk hk=>?_⟩,KR Hi.out.1⟩;rcases Nat.lt_succ_iff_lt_or_eq.1 hk with h|h
    ·exact hd.out.2 k h
    ·rw[h,Hi.out.2];exact He.out
  ·have jK:¬(i:Int)<(n:Int):=by omega
   have hz:R = -1:=by
    rw[<-HR.out];unfold atI;rw[Sw];rw[Xj (CW HM.out hi hd.out.2)];omega
   subst hz;clear hi;go_wp2_with fail
   go_ret
   first|exact⟨rfl,rfl⟩|exact⟨trivial,rfl⟩
theorem qhA (W:World)(base:Nat)(ty:TypeId)(v:Value)(n:Nat)(xs:List Value)(hown:W.ownsRow base 49 6 v n xs)(A:Option Addr)(m c:Nat)(L:List Od)(hs:W.ownsRow 0 49 6 (.slice A m c) m (ol L))(hb:n+m<=3000)(hbase:base<=W.heap.size) :
  ∃v' w',(Builtin.append_ #[29,29] ty #[v,.slice A m c]).run prog W=.ok v' w'/\w'.ownsRow base 49 6 v' (n+m) (xs++ol L)/\W.grownBy w' v.ownBlock/\(v'.ownBlock=v.ownBlock∨v'.ownBlock=some W.heap.size):=by
 obtain⟨i0,hi0,hz0,hz1,hz2⟩:=info_parts YF
 rcases hs.2 with ⟨hv,h0⟩ | ⟨k,cap,cur,hv,_,hk,_,_,_,ht⟩
 ·have hL:L=[]:=by have:=hs.1;rw[Je,h0]at this;exact List.length_eq_zero_iff.1 Oz
  rw[hv,h0,hL];have hrun:=run_append_owned_none (P:=prog) (w:=W) base 29 ty _ i0 6 underlying29 hi0 v n xs hown;exact⟨v,W,hrun,by simpa [ol] using hown,World.grownBy.refl _ _,.inl rfl⟩
 ·injection hv with e1 e2 e3;subst e1
  obtain⟨v',w',h1,h2,h3,_,h5⟩:=run_append_own_at (P:=prog) W base 29 ty _ i0 (.agg (OC ⟨0,0,0,0,0,0⟩)) 6 48 underlying29 hi0 hz0 hz1 hz2 rfl Ox v n xs hown ⟨k,0,none⟩ m c (ol L) hs.1 (λj u hj=>by
   rw[QN,Nat.zero_add,cell_of_row _ _ _ _ _ _ hk];rw[<-ht,List.getElem?_take]at hj
   split at hj
   ·rw[Array.getElem?_toList]at hj;exact hj
   ·cases hj) (Kn _) (by unfold maxLen;omega) Oz hbase
  exact⟨v',w',h1,h2,h3,h5⟩
theorem U4 {w W w':World}{T:TypeId}{v:Value}{n size:Nat}{xs:List Value}(hb:Ok w W)(ho:W.ownsRow w.heap.size T size v n xs)(hg:W.grownBy w' v.ownBlock):Ok w w' :=
 hb.trans (Below.grown ((Oq _ _).mono hb.size) hg hb.size (λk hk=>(ho.lt k hk).1))
theorem T4 {w W:World}{base n size:Nat}{T:TypeId}{v:Value}{xs:List Value}(h:w.ownsRow base T size v n xs)(hb:Ok w W):W.ownsRow base T size v n xs:=Qh h (S:=λ_=>False) (Fr.of_below hb) (λ_ _ h=>h)
theorem qhB {W:World}{b:Option Addr}{m:Option Nat}{s1 s2:Sd}(H:Bk W b m s1 s2){k:Nat}(hk:QH b m s1 s2 k){cs:Array Value}{T:TypeId}(h:W.heap[k]? = some (.cells cs T (0,0))):T=132∨T=247∨T=38:=by
 rcases hk with e|e|e|e | ⟨r,hr,e⟩
 ·rcases H.shape with ⟨h0,_⟩ | ⟨p,hb,hp⟩
  ·rw[h0]at e;cases e
  ·rw[hb]at e;injection e with e;injection e with e;subst e;rw[h]at hp;injection hp with hp;injection hp with _ hp;exact .inl hp
 ·obtain⟨es,clock,hb,_⟩:=H.mp k e;rw[h]at hb;cases hb
 ·obtain⟨cs',hc⟩:=Q5 H.r1 e;rw[h]at hc;injection hc with hc;injection hc with _ hc;exact .inr (.inl hc)
 ·obtain⟨cs',hc⟩:=Q5 H.r2 e;rw[h]at hc;injection hc with hc;injection hc with _ hc;exact .inr (.inl hc)
 ·obtain⟨cs',hc⟩:=Q5 (H.q r hr) e;rw[h]at hc;injection hc with hc;injection hc with _ hc;exact .inr (.inr hc)
theorem Ky {W W':World}{wb:Nat}{M:List Od}(R:RB W wb M)(hb:Ok W W'):RB W' wb M:=by
 obtain⟨A,c,hc,hr⟩:=R
 exact⟨A,c,(hb.block _ (Qc hc)).trans hc,T4 hr hb⟩
theorem qhC {w w':World}{p m:Nat}{s1 s2 s1' s2':Sd}{o:Od}(h:PutIs w w' p m s1 s2 s1' s2' o):QY (Qa s1.rs s2.rs++[o])=Qa s1'.rs s2'.rs :=
 YO (h.perm.trans (List.perm_append_comm (l₁:=[o]) (l₂:=Qa s1.rs s2.rs))) h.wh.pw
end
section
open Go.RowKit Go.Shelf Go.Sort Go.Maps
theorem T5:(prog.info? 49).map (·.size)=some 6:=by kernel_rfl
theorem Xk {fn:Func}{p q:Tmp}(h:fn.results=#[.cell p 49,.tmp q])(tmps:Array Value)(w:World)(g:Nat)(hp:tmps.getD p undef=.pointer (some ⟨g,0,none⟩))(z:Od)(t:TypeId)
  (hg:Cl t w g (OC z)) (v:Value) (hq:tmps.getD q undef=v):(results fn tmps).run prog w=.ok (.tuple #[.agg (OC z),v]) w:=by
 have hp':tmps[p]?.getD undef=.pointer (some ⟨g,0,none⟩):=by simpa using hp
 have hq':tmps[q]?.getD undef=v:=by simpa using hq
 simp[results,h,hp',hq',asAddr,run_loadVar_row w g _ _ _ (0,0) _ hg underlying49 rfl T5]
theorem Xl {w:World}{wb:Nat}{M:List Od}(H:RB w wb M):∃A c,wb<w.heap.size/\Hid (∀W,Ok w W->Cl 46 W wb #[.slice A M.length c]/\W.cell? ⟨wb,0,none⟩=some (.slice A M.length c)/\∀i,i<M.length->∃g,A=some ⟨g,0,none⟩/\(M[i]!).at W g (i*6)):=by
 obtain⟨A,c,hc,hr⟩:=H
 refine⟨A,c,Qc hc,Ou (λW hW=>?_)⟩
 have hc':Cl 46 W wb #[.slice A M.length c]:=(hW.block _ (Qc hc)).trans hc
 obtain⟨A',c',hv,hq⟩:=Z0 (T4 hr hW)
 injection hv with e1 _ _
 subst e1
 refine⟨hc',(hc'.c 0).trans rfl,λi hi=>?_⟩
 rcases hq.2 with h0 | ⟨g,h1,_,h3⟩
 ·omega
 ·exact⟨g,h1,h3 i hi⟩
def Zg (id:Int)(M:List Od):Option Od:=if QB id M<M.length then some (M[QB id M]!) else none
theorem T6 {id:Int}{M:List Od}:(∃i:Nat,QB id M=i/\i<M.length/\atI id M=(i:Int)/\Zg id M=some (M[i]!))∨(atI id M = -1/\Zg id M=none):=by
 unfold atI Zg
 by_cases h:QB id M<M.length
 ·exact .inl ⟨_,rfl,h,Sx h,Sx h⟩
 ·exact .inr ⟨Sw h,Sw h⟩
theorem qhD {sd:Int}{M:List Od}{i:Nat}(hi:i<M.length)(h:∀k,k<i->¬(M[k]!).side=sd)(he:(M[i]!).side=sd):QW sd M=some (M[i]!):=by
 unfold QW Zu
 have e:M=M.take i++M[i]! :: M.drop (i+1):=by
  rw[Sj M i hi,<-List.drop_eq_getElem_cons hi,List.take_append_drop]
 have h1:(M.take i).filter (λx=>x.side==sd)=[]:=by
  rw[List.filter_eq_nil_iff];intro x hx;obtain⟨k,hk,rfl⟩:=List.mem_iff_getElem.1 hx;rw[List.getElem_take];rw[Wy]at hk;have:=h k Oz;rw[Sj M k (by omega)]at this;simpa using this
 rw[e,List.filter_append,h1,List.nil_append,List.filter_cons]
 rw[<-e,Sx (by simpa using he)]
 rfl
theorem qhE {sd:Int}{M:List Od}(h:∀k,k<M.length->¬(M[k]!).side=sd):QW sd M=none:=by
 unfold QW Zu
 have h1:M.filter (λx=>x.side==sd)=[]:=by
  rw[List.filter_eq_nil_iff];intro x hx;obtain⟨k,hk,rfl⟩:=List.mem_iff_getElem.1 hx;have:=h k hk;rw[Sj M k hk]at this;simpa using this
 rw[h1];rfl
theorem qhF (wb:Nat)(sd:Int)(M:List Od)(w:World)(H:RB w wb M)(hn:M.length<=1000) :
  Calls prog 39 #[.pointer (some ⟨wb,0,none⟩),.int .i64 sd] w λe w'=>e=.returned (.tuple #[QF (QW sd M),.bool (QW sd M).isSome])/\Hid (Ok w w'):=by
 obtain⟨A,c,hwb,HR⟩:=Xl H
 have B0:Ok w (w.alloc (.cells (OC ⟨0,0,0,0,0,0⟩) 49)):=(Oq _ _).alloc (Sq _) _
 have hC:Cl 49 (w.alloc (.cells (OC ⟨0,0,0,0,0,0⟩) 49)) w.heap.size (OC ⟨0,0,0,0,0,0⟩):=Qe rfl
 obtain⟨_,c0,hx⟩:=HR.out _ B0
 have bO:=Ou B0
 have HC:=Ou hC
 have HX:=Ou hx
 obtain⟨n,hl⟩:∃n,M.length=n:=⟨_,rfl⟩
 obtain⟨R,hR⟩:∃R,QW sd M=R:=⟨_,rfl⟩
 have HM:=Ou hl
 have HRs:=Ou hR
 rw[hl]at c0 HX hn
 rw[hR]
 clear B0 H hC HR hx hl hR hwb
 go_enter func39,ntmps39
 go_wp2_with fail
 go_loopw [6] (λs wr=>∃i:Nat,s=.int .i64 (i:Int)/\wr=w.alloc (.cells (OC ⟨0,0,0,0,0,0⟩) 49)/\Hid (i<=n/\∀k,k<i->¬(M[k]!).side=sd)) (λs _=>match s with | .int _ z=>n-z.toNat|_=>0)
 case atStart=>exact⟨0,rfl,rfl,Nat.zero_le _,λk hk=>absurd hk (Ax _)⟩
 case round =>
  obtain⟨i,rfl,rfl,hd⟩:=hrel;by_cases hi:i<n
  ·obtain⟨g,rfl,x0,x1,x2,x3,x4,x5⟩:=HX.out i hi;obtain⟨x,hx⟩:∃x,M[i]! = x:=⟨_,rfl⟩
   rw[hx]at x0 x1 x2 x3 x4 x5;have jK:(i:Int)<(n:Int):=by omega
   have hi0:(0:Int)<=(i:Int):=by omega
   have Hi:=Ou (Sv hi hx);have vM:IntKind.i64.wrap ((i:Int)+1)=((i+1:Nat):Int):=by rw[Wz];omega
   clear hx hi;by_cases he:x.side=sd
   ·have eb:(x.side==sd)=true:=by simp[he]
    have hz:R=some x:=by
     rw[<-HRs.out,<-Hi.out.2];exact qhD (by rw[HM.out];exact Hi.out.1) hd.out.2 (by rw[Hi.out.2];exact he)
    subst hz;clear he;go_wp2_with fail
    refine bodyPost_ret (Xk rfl _ _ _ rfl x _ (Qe rfl) _ rfl) rfl ?_;exact⟨rfl,Ou ((Oq _ _).alloc (Sq _) _)⟩
   ·have eb:(x.side==sd)=false:=by simp[he]
    have HN:Hid (i+1<=n/\∀k,k<i+1->¬(M[k]!).side=sd):=Ou ⟨Hi.out.1,λk hk=>by
     rcases Nat.lt_succ_iff_lt_or_eq.1 hk with h|rfl
     ·exact hd.out.2 k h
     ·rw[Hi.out.2];exact he⟩
    clear he;go_wp2_with fail
    first|exact⟨⟨i+1,by go_num,rfl,HN⟩,KR Hi.out.1⟩|exact⟨⟨i+1,by go_num,trivial,HN⟩,KR Hi.out.1⟩|exact⟨⟨i+1,rfl,trivial,HN⟩,KR Hi.out.1⟩
  ·obtain rfl:i=n:=by have:=hd.out;omega
   have jK:¬(i:Int)<(i:Int):=by omega
   have hz:R=none:=by
    rw[<-HRs.out];exact qhE (λk hk=>hd.out.2 k (by rw[HM.out]at hk;exact hk))
   subst hz;go_wp2_with fail
   refine bodyPost_ret (Xk rfl _ _ _ rfl ⟨0,0,0,0,0,0⟩ _ (Qe rfl) _ rfl) rfl ?_
   first|exact⟨rfl,Ou ((Oq _ _).alloc (Sq _) _)⟩|exact⟨trivial,Ou ((Oq _ _).alloc (Sq _) _)⟩
end
section
open Go.RowKit Go.Shelf Go.Sort Go.Maps Go.Lib
theorem U5 {P:Program}{rest:List Oper}{opa:Array Oper}{o:Oper}{a:Act}{w:World}{Q:Exit->Act->World->Prop}(hgd:o.guard=none)(s x:Operand)(t:TypeId)
  (ho:o.op=.call { callee:=.builtin .append,args:=#[s,x],argTypes:=#[t,t] }) (v u:Value) (hs:a.eval s=v) (hx:a.eval x=u) {v':Value} {w':World} (hr:(Builtin.append_ #[t,t] o.type #[v,u]).run P w=.ok v' w')
  (h:wpList P opa Q rest (a.put o.dst v') w'):wpList P opa Q (o :: rest) a w:=by
 refine wpList_plain hgd λK hK=>?_
 unfold Oper.wp execOp
 simp only[ho,resolve,invoke,builtin,Sem.run_bind,Sem.run_pure,Result.andThen_ok,List.map_toArray,List.map_cons,List.map_nil,hs,hx,hr]
 exact hK _ _ h
theorem T7:∀(M:List Od) (k:Nat),(ol M).drop (k*6)=ol (M.drop k)
 | M,0=>by simp
 | [],k+1=>by simp[ol]
 | x :: M,k+1=>by
  have e:(k+1)*6=6+k*6:=by omega
  rw[e,<-List.drop_drop];show ((Qo x++ol M).drop 6).drop (k*6)=_;rw[show (Qo x++ol M).drop 6=ol M from rfl];exact T7 M k
theorem T9:∀(M:List Od) (k:Nat),(ol M).take (k*6)=ol (M.take k)
 | M,0=>by simp[ol]
 | [],k+1=>by simp[ol]
 | x :: M,k+1=>by
  have e:(k+1)*6=6+k*6:=by omega
  rw[e];show (Qo x++ol M).take (6+k*6)=Qo x++ol (M.take k);rw[<-T9 M k];exact List.take_length_add_append (l₁:=Qo x) (k*6)
theorem Xm {w:World}{base:Nat}{T:TypeId}{A:Option Addr}{c n:Nat}{M:List Od}(h:w.ownsRow base T 6 (.slice A n c) n (ol M))(hn:0<n):∃g,A=some ⟨g,0,none⟩/\base<=g/\n<=c/\g<w.heap.size/\∀j u,(ol M)[j]? = some u->w.cell? ⟨g,j,none⟩=some u:=by
 rcases h.2 with ⟨_,h0⟩ | ⟨k,cap,cur,hv,hb,hk,hc,_,_,ht⟩
 ·omega
 ·injection hv with e1 e2 e3;subst e1 e3;refine⟨k,rfl,hb,hc,Qc hk,λj u hj=>?_⟩;rw[cell_of_row _ _ _ _ _ _ hk];rw[<-ht,List.getElem?_take]at hj
  split at hj
  ·rw[Array.getElem?_toList]at hj;exact hj
  ·cases hj
theorem qhG {w:World}{g i:Nat}{M:List Od}(hi:i<M.length)(h:∀j u,(ol M)[j]? = some u->w.cell? ⟨g,j,none⟩=some u):∀j u,(ol (M.take i))[j]? = some u->w.cell? ((⟨g,0,none⟩:Addr).add j)=some u:=by
 intro j u hj
 rw[<-T9,List.getElem?_take]at hj
 rw[QN,Nat.zero_add]
 split at hj
 ·exact h j u hj
 ·cases hj
theorem qhH {w:World}{g i:Nat}{M:List Od}(h:∀j u,(ol M)[j]? = some u->w.cell? ⟨g,j,none⟩=some u):∀j u,(ol (M.drop (i+1)))[j]? = some u->w.cell? ((⟨g,(i+1)*6,none⟩:Addr).add j)=some u:=by
 intro j u hj
 rw[<-T7,List.getElem?_drop]at hj
 rw[QN]
 exact h _ u hj
theorem qaa (W:World)(base:Nat)(ty:TypeId)(v:Value)(n:Nat)(xs:List Value)(hown:W.ownsRow base 49 6 v n xs)(ad:Addr)(m c:Nat)(L:List Od)(hL:L.length=m)(hs:∀j u,(ol L)[j]? = some u->W.cell? (ad.add j)=some u)(hb:n+m<=3000)(hbase:base<=W.heap.size) :
  ∃v' w',(Builtin.append_ #[29,29] ty #[v,.slice (some ad) m c]).run prog W=.ok v' w'/\w'.ownsRow base 49 6 v' (n+m) (xs++ol L)/\W.grownBy w' v.ownBlock/\(v'.ownBlock=v.ownBlock∨v'.ownBlock=some W.heap.size):=by
 obtain⟨i0,hi0,hz0,hz1,hz2⟩:=info_parts YF
 obtain⟨v',w',h1,h2,h3,_,h5⟩:=run_append_own_at (P:=prog) W base 29 ty _ i0 (.agg (OC ⟨0,0,0,0,0,0⟩)) 6 48 underlying29 hi0 hz0 hz1 hz2 rfl Ox v n xs hown ad m c (ol L) (by rw[Je,hL]) hs (Kn _) (by unfold maxLen;omega) Oz hbase
 exact⟨v',w',h1,h2,h3,h5⟩
theorem qab {S:Nat->Prop}{a X:World}(c:Nat)(o:Od)(h:Fr S a X)(hc:S c∨a.heap.size<=c):Fr S a (Zm X c o):=by
 unfold Zm
 exact(((((h.set (p:=⟨c,0,none⟩) hc _).set (p:=⟨c,1,none⟩) hc _).set (p:=⟨c,2,none⟩) hc _).set (p:=⟨c,3,none⟩) hc _).set (p:=⟨c,4,none⟩) hc _).set (p:=⟨c,5,none⟩) hc _
theorem qhI (id:Int)(M:List Od):QB id M<=M.length:=List.findIdx_le_length
def QS (id qty:Int)(M:List Od):Int×List Od :=
 if QB id M<M.length then (if qty<1∨(M[QB id M]!).qty<qty then (2,M) else if qty=(M[QB id M]!).qty then (0,M.eraseIdx (QB id M)) else (0,M.set (QB id M) (Qz (M[QB id M]!) qty))) else (51,M)
def Vq (X:World)(k o:Nat)(x:Od):World:=(((((X.setCell ⟨k,o,none⟩ (.int .u64 x.id)).setCell ⟨k,o+1,none⟩ (.int .i64 x.acc)).setCell ⟨k,o+2,none⟩ (.int .i64 x.side)).setCell ⟨k,o+3,none⟩ (.int .i64 x.price)).setCell ⟨k,o+4,none⟩ (.int .i64 x.qty)).setCell ⟨k,o+5,none⟩ (.int .u64 x.seq)
theorem qhJ (X:World){k j:Nat}(o:Nat)(x:Od)(h:j≠k):(Vq X k o x).heap[j]? = X.heap[j]?:=by
 unfold Vq
 rw[QJ (by exact h),QJ (by exact h),QJ (by exact h),QJ (by exact h),QJ (by exact h),QJ (by exact h)]
theorem qac:∀(M:List Od) (i:Nat) (x:Od),i<M.length->((((((ol M).set (i*6) (.int .u64 x.id)).set (i*6+1) (.int .i64 x.acc)).set (i*6+2) (.int .i64 x.side)).set (i*6+3) (.int .i64 x.price)).set (i*6+4) (.int .i64 x.qty)).set (i*6+5) (.int .u64 x.seq)=ol (M.set i x)
 | [],i,x,h=>absurd h (Ax _)
 | y :: M,0,x,h=>rfl
 | y :: M,i+1,x,h=>by
  have ih:=qac M i x (by simpa using h);have e:∀j,(i+1)*6+j=(i*6+j)+6:=λj=>by omega
  have e0:(i+1)*6=i*6+6:=by omega
  show ((((((Qo y++ol M).set ((i+1)*6) (.int .u64 x.id)).set ((i+1)*6+1) (.int .i64 x.acc)).set ((i+1)*6+2) (.int .i64 x.side)).set ((i+1)*6+3) (.int .i64 x.price)).set ((i+1)*6+4) (.int .i64 x.qty)).set ((i+1)*6+5) (.int .u64 x.seq)=Qo y++ol (M.set i x);rw[e 1,e 2,e 3,e 4,e 5,e0,<-ih];have s:∀(l:List Value) (j:Nat) (v:Value),(Qo y++l).set (j+6) v=Qo y++l.set j v:=λl j v=>by
   rw[List.set_append_right (s:=Qo y) _ _ (by show 6<=_;omega)];rfl
  rw[s,s,s,s,s,s]
theorem qhK {w:World}{base k n c i:Nat}{T:TypeId}{M:List Od}(x:Od)(h:w.ownsRow base T 6 (.slice (some ⟨k,0,none⟩) n c) n (ol M))(hi:i<M.length):(Vq w k (i*6) x).ownsRow base T 6 (.slice (some ⟨k,0,none⟩) n c) n (ol (M.set i x)):=by
 unfold Vq
 rw[<-qac M i x hi]
 exact JE (JE (JE (JE (JE (JE h rfl) rfl) rfl) rfl) rfl) rfl
theorem Xn {id qty:Int}{M:List Od}{i:Nat}(h:QB id M=i)(hi:i<M.length):QS id qty M=if qty<1∨(M[i]!).qty<qty then (2,M) else if qty=(M[i]!).qty then (0,M.eraseIdx i) else (0,M.set i (Qz (M[i]!) qty)):=by
 unfold QS
 rw[h,Sx hi]
theorem qhL {w:World}{base k n c j:Nat}{T:TypeId}{M:List Od}(h:w.ownsRow base T 6 (.slice (some ⟨k,0,none⟩) n c) n (ol M))(hj:j<n*6):∃v,w.cell? ⟨k,j,none⟩=some v/\w.frozen? ⟨k,j,none⟩=false:=by
 have hl:=h.1
 rcases h.2 with ⟨e,_⟩ | ⟨k',cap,cur,hv,_,hk,_⟩
 ·cases e
 ·injection hv with e1 e2 e3;injection e1 with e1;injection e1 with e1 _ _;subst e1;obtain⟨g,e4,_,_,_,h5⟩:=Xm h Oz;injection e4 with e4;injection e4 with e4 _ _;subst e4;exact⟨_,h5 j _ (List.getElem?_eq_getElem Oz),frozen_of_row _ _ _ _ _ hk⟩
theorem qhM (x:Od):(prog.info? 49).map (·.size)=some (OC x).size:=T5
theorem qhN {ops:Array Oper}{rest:List Oper}{o:Oper}{a:Act}{w:World}{Q:Exit->Act->World->Prop}(hgd:o.guard=none)(x y:Operand)(ho:o.op=.store 49 x y)(k f:Nat)(z:Od)(hx:a.eval x=.pointer (some ⟨k,f,none⟩))(hy:a.eval y=.agg (OC z))
  (base n c i:Nat) (T:TypeId) (M:List Od) (hown:w.ownsRow base T 6 (.slice (some ⟨k,0,none⟩) n c) n (ol M)) (hi:i<n) (hM:M.length=n) (hf:f=i*6)
  (h:∀w',w'.ownsRow base T 6 (.slice (some ⟨k,0,none⟩) n c) n (ol (M.set i z))->(∀j,j≠k->w'.heap[j]? = w.heap[j]?)->(∀B,B<=k->Below B w w')->wpList prog ops Q rest (a.put o.dst undef) w'):wpList prog ops Q (o :: rest) a w:=by
 subst hf
 have ht:w.there k (i*6) 6:=by
  intro j hj;obtain⟨v,h1,h2⟩:=qhL hown (j:=i*6+j) Oz;exact⟨by rw[h1];rfl,h2⟩
 have h1:(OC z).all (·.oneCell')=true:=all_oneCell_toArray (cs:=Qo z) (JC z)
 refine wpList_store_mid hgd _ x y ho k (i*6) (OC z) hx hy ht (qhM z) h1 ?_
 refine h (Vq w k (i*6) z) (qhK z hown Oz) (λj hj=>qhJ w _ z hj) (λB hB=>?_)
 unfold Vq
 exact((((((Below.refl B w).setCell (p:=⟨k,i*6,none⟩) hB _).setCell (p:=⟨k,i*6+1,none⟩) hB _).setCell (p:=⟨k,i*6+2,none⟩) hB _).setCell (p:=⟨k,i*6+3,none⟩) hB _).setCell (p:=⟨k,i*6+4,none⟩) hB _).setCell (p:=⟨k,i*6+5,none⟩) hB _
def QP (sd p:Int)(M:List Od):List Od:=M.filter (λx=>x.side==sd&&x.price==p)
theorem qhO {sd p:Int}{M:List Od}{i:Nat}(hi:i<M.length):QP sd p (M.take (i+1))=if ((M[i]!).side==sd&&(M[i]!).price==p)=true then QP sd p (M.take i)++[M[i]!] else QP sd p (M.take i):=by
 unfold QP
 rw[List.take_succ_eq_append_getElem hi,List.filter_append,Sj M i hi,List.filter_cons]
 split<;>simp
theorem V5 (sd p:Int)(M:List Od):(QP sd p M).length<=M.length:=List.length_filter_le _ _
theorem qhP (wb:Nat)(sd p:Int)(M:List Od)(w:World)(H:RB w wb M)(hn:M.length<=1000) :
  Calls prog 29 #[.pointer (some ⟨wb,0,none⟩),.int .i64 sd,.int .i64 p] w λe w'=>∃v,e=.returned v/\Hid (w'.ownsRow w.heap.size 49 6 v (QP sd p M).length (ol (QP sd p M))/\Ok w w'):=by
 obtain⟨i0,hi0,hz0,hz1,hz2⟩:=info_parts YF
 obtain⟨A,c,hwb,HR⟩:=Xl H
 obtain⟨n,hl⟩:∃n,M.length=n:=⟨_,rfl⟩
 have HM:=Ou hl
 rw[hl]at hn HR
 have c0:=(HR.out w (Oq _ _)).2.1
 clear H hl
 go_enter func29,ntmps29
 go_wp2_with fail
 clear c0
 go_loopg [7,8] n (λkx v s8 wr=>∃k:Nat,s8=.int .i64 k/\k<=n/\n-k<=kx/\Aside (wr.ownsRow w.heap.size 49 6 v (QP sd p (M.take k)).length (ol (QP sd p (M.take k))))/\Hid (Ok w wr))
 case atStart=>exact⟨0,rfl,by omega,by omega,World.ownsRow_nil _ _ _ _,Ou (Oq _ _)⟩
 case round =>
  obtain⟨k,rfl,hk,aM,hown,hd⟩:=hrel;have c0:=(HR.out _ hd.out).2.1;by_cases hlt:k<n
  ·have aF:(k:Int)<(n:Int):=by omega
   have d8:(0:Int)<=(k:Int):=by omega
   obtain⟨g,rfl,x0,x1,x2,x3,x4,x5⟩:=(HR.out _ hd.out).2.2 k hlt;have hs:=Ou (qhO (sd:=sd) (p:=p) (M:=M) (i:=k) (by rw[HM.out];exact hlt));have hll:=V5 sd p (M.take k);rw[Wy]at hll;obtain⟨x,ex⟩:∃x,M[k]! = x:=⟨_,rfl⟩
   rw[ex]at x0 x1 x2 x3 x4 x5 hs;have vM:IntKind.i64.wrap ((k:Int)+1)=((k+1:Nat):Int):=by rw[Wz];omega
   clear ex;by_cases e1:x.side=sd
   ·have f1:(x.side==sd)=true:=by simp[e1]
    by_cases e2:x.price=p
    ·have f2:(x.price==p)=true:=by simp[e2]
     have HS:Hid (QP sd p (M.take (k+1))=QP sd p (M.take k)++[x]):=Ou (by rw[hs.out,f1,f2];rfl);have hbl:(QP sd p (M.take k)).length<=1000:=by omega
     have hsz:=hd.out.size;have HW:=Ou hown.out;clear hs e1 e2 hll hown;go_wp2_with (at_builtin;refine wpList_append_own _ rfl _ _ 29 rfl w.heap.size 49 i0 (.agg (OC ⟨0,0,0,0,0,0⟩)) 6 48 underlying29 hi0 hz0 hz1 hz2 rfl Ox _ _ _ rfl (HW.out.alloc _) ⟨wr.heap.size,0,none⟩ 1 1 (Qo x) rfl rfl ?c1 ?c2 ?c3 ?c4 ?c5 ?_)
     case c1=>exact Cm _ x
     case c2=>exact JC x
     case c3=>unfold maxLen;omega
     case c4=>omega
     case c5=>simp;omega
     intro v1 w1 hown1 hg1 _;have cY:Hid (Ok w w1):=Below.grown (hd.out.alloc hsz _) hg1 (by simp;omega) (λk hk=>(HW.out.lt k hk).1);have gG:Aside (w1.ownsRow w.heap.size 49 6 v1 (QP sd p (M.take (k+1))).length (ol (QP sd p (M.take (k+1))))):=by
      rw[HS.out,Su,Ku];exact hown1
     clear hg1 hown1 HW hd c0;go_wp2_with fail
     go_roundg (n-(k+1))
     case measure=>omega
     case rel=>exact⟨k+1,by go_num,by omega,by omega,gG,cY⟩
    ·have f2:(x.price==p)=false:=by simp[e2]
     have HS:Hid (QP sd p (M.take (k+1))=QP sd p (M.take k)):=Ou (by rw[hs.out,f1,f2];rfl);have gG:=hown;rw[<-HS.out]at gG;clear hs e1 e2 hll hown;go_wp2_with fail
     go_roundg (n-(k+1))
     case measure=>omega
     case rel=>exact⟨k+1,by go_num,by omega,by omega,gG,hd⟩
   ·have f1:(x.side==sd)=false:=by simp[e1]
    have HS:Hid (QP sd p (M.take (k+1))=QP sd p (M.take k)):=Ou (by rw[hs.out,f1];rfl);have gG:=hown;rw[<-HS.out]at gG;clear hs e1 hll hown;go_wp2_with fail
    go_roundg (n-(k+1))
    case measure=>omega
    case rel=>exact⟨k+1,by go_num,by omega,by omega,gG,hd⟩
  ·have aF:¬(k:Int)<(n:Int):=by omega
   have h:=hown.out;rw[List.take_of_length_le (by rw[HM.out];omega)]at h;have hF:=Ou (Sv h hd.out);clear hown h;go_wp2_with fail
   go_ret;exact⟨_,rfl,hF⟩
theorem qad {S:Nat->Prop}{w w':World}{A:Option Addr}{n:Nat}{L:List Od}(h:Ods w A n L)(hf:Fr S w w')(hn:∀b off,A=some ⟨b,off,none⟩->¬S b):Ods w' A n L:=by
 obtain⟨h1,h2,h3,h4⟩:=h
 refine⟨h1,h2,h3,?_⟩
 rcases h4 with h0 | ⟨b,off,rfl,hlt,hc⟩
 ·exact .inl h0
 ·have e:∀o,w'.cell? ⟨b,o,none⟩=w.cell? ⟨b,o,none⟩:=λo=>World.cell?_of_block (w:=w) (a:=⟨b,o,none⟩) (hf.block b hlt (hn b off rfl));refine .inr ⟨b,off,rfl,Ww hlt hf.size,λi hi=>?_⟩;have:=hc i hi;unfold Od.at at this ⊢;simpa only[e] using this
def Trn (W W':World)(p m:Nat)(s1 s2 s1' s2':Sd):Prop :=
 Whole W' p m s1' s2'/\Fr (QH (some ⟨p,0,none⟩) (some m) s1 s2) W W'/\∀k,QH (some ⟨p,0,none⟩) (some m) s1' s2' k->QH (some ⟨p,0,none⟩) (some m) s1 s2 k∨W.heap.size<=k
structure Pl (w W:World) (p m:Nat) (s1 s2:Sd) (wb:Nat) (M:List Od):Prop where
 wh:Whole W p m s1 s2
 rb:RB W wb M
 be:Ok w W
 lo:∀k,QH (some ⟨p,0,none⟩) (some m) s1 s2 k->w.heap.size<=k
 low:w.heap.size<=wb
section
variable {w W W':World}{p m wb:Nat}{s1 s2 s1' s2':Sd}{M M':List Od}
theorem qae (H:Whole W p m s1 s2)(hb:Ok W W'):Trn W W' p m s1 s2 s1 s2:=⟨H.below hb,Fr.of_below hb,λ_ h=>.inl h⟩
end
theorem JZ {id:Int}{M:List Od}{x:Od}(hi:M.Pairwise (λx y=>¬x.id=y.id))(hx:x∈M)(he:x.id=id):QB id M<M.length/\M[QB id M]! = x:=by
 have hl:=qhz hx he
 exact⟨hl,KV hi (by rw[Sj M _ hl];exact Wt hl) hx ((T0 hl).trans he.symm)⟩
theorem U6 {id:Int}{M:List Od}{x:Od}(hi:M.Pairwise (λx y=>¬x.id=y.id))(hx:x∈M)(he:x.id=id):Zg id M=some x:=by
 obtain⟨h1,h2⟩:=JZ hi hx he
 unfold Zg
 rw[Sx h1,h2]
theorem qaf {id:Int}{M:List Od}(h:∀x∈M,¬x.id=id):Zg id M=none:=by
 unfold Zg
 rw[Sw]
 intro hl
 exact h _ (by rw[Sj M _ hl];exact Wt hl) (T0 hl)
theorem qag {id:Int}{M:List Od}(h:∀x∈M,¬x.id=id):M.eraseIdx (QB id M)=M:=by
 rw[Xj h];exact List.eraseIdx_of_length_le (Sq _)
theorem qah {w w':World}{p m:Nat}{s1 s2 s1' s2':Sd}{o:Od}{id:Int}(H:Whole w p m s1 s2)(k:TakeIs w w' p m s1 s2 s1' s2' o)(ho:o∈Qa s1.rs s2.rs)(he:o.id=id):(Qa s1.rs s2.rs).eraseIdx (QB id (Qa s1.rs s2.rs))=Qa s1'.rs s2'.rs:=by
 obtain⟨h1,h2⟩:=JZ H.ids ho he
 have hp:=Xc h1 h2
 refine Uy ?_ ?_ k.tu.wh.pw
 ·exact(List.Perm.cons_inv (hp.symm.trans k.perm))
 ·exact H.pw.sublist (List.eraseIdx_sublist _ _)
theorem qhQ {w w':World}{p m:Nat}{s1 s2 s1' s2':Sd}{id qty c:Int}(H:Whole w p m s1 s2)(k:TJ w w' p m s1 s2 s1' s2' id qty c):(QS id qty (Qa s1.rs s2.rs))=(c,Qa s1'.rs s2'.rs)/\Trn w w' p m s1 s2 s1' s2':=by
 rcases k with ⟨rfl,hno,rfl,rfl,hb⟩ | ⟨o,ho,hid,k⟩
 ·refine⟨?_,qae H hb⟩;unfold QS;rw[Sw];rw[Xj hno];exact Ay _
 ·obtain⟨h1,h2⟩:=JZ H.ids ho hid;rw[Xn rfl h1,h2];rcases k with ⟨rfl,hq,rfl,rfl,hb⟩ | ⟨rfl,hq,he,ht⟩ | ⟨rfl,hq,hl,ht⟩
  ·exact⟨Sx hq,qae H hb⟩
  ·rw[Sw Oz,Sx he];exact⟨by rw[qah H ht ho hid],ht.tu.wh,ht.tu.fr,ht.tu.ft⟩
  ·rw[Sw Oz,Sw (by omega)];refine⟨?_,ht.tu.wh,ht.tu.fr,ht.tu.ft⟩;rw[ht.now]
   congr 1
   have e:Qa s1.rs s2.rs=(Qa s1.rs s2.rs).take (QB id (Qa s1.rs s2.rs))++o :: (Qa s1.rs s2.rs).drop (QB id (Qa s1.rs s2.rs)+1):=by
    have h3:o=(Qa s1.rs s2.rs)[QB id (Qa s1.rs s2.rs)]'h1:=by rw[<-h2,Sj (Qa s1.rs s2.rs) _ h1]
    rw[h3,<-List.drop_eq_getElem_cons h1,List.take_append_drop]
   have h4:=Vm (P:=(Qa s1.rs s2.rs).take (QB id (Qa s1.rs s2.rs))) (T:=(Qa s1.rs s2.rs).drop (QB id (Qa s1.rs s2.rs)+1)) (o:=o) (qty:=qty) (by rw[<-e];exact H.ids);rw[<-e]at h4;rw[h4,List.set_eq_take_append_cons_drop,Sx h1]
theorem U7 {s p:Int}:∀{R:List Rw},(∀r∈R,∀x∈r.q,x.side=s/\x.price=r.pr)->(∀r∈R,¬r.pr=p)->(Qb R).filter (λx=>x.price==p)=[]:=by
 intro R hm h
 rw[List.filter_eq_nil_iff]
 intro x hx
 obtain⟨r,hr,hx⟩:=List.mem_flatMap.1 hx
 have:=(hm r hr x hx).2
 have h2:=h r hr
 simp only[beq_iff_eq]
 rw[this];exact h2
theorem U8 {s a b:Int}(h:Qf s a b=true):¬a=b:=by
 intro e
 subst e
 rw[Y9]at h
 cases h
theorem qhR {w:World}{p m:Nat}{s1 s2:Sd}(H:Whole w p m s1 s2)(sd pr:Int):V1 sd pr (Qu s1 s2 sd)=QP sd pr (Qa s1.rs s2.rs):=by
 have e1:QP sd pr (Qa s1.rs s2.rs)=(Zu sd (Qa s1.rs s2.rs)).filter (λx=>x.price==pr):=by
  unfold QP Zu;rw[List.filter_filter]
  congr 1
  funext x
  exact Bool.and_comm _ _
 rw[e1,Tn H sd]
 rcases qgC H sd with h | ⟨hs,h⟩
 ·rw[h];rfl
 ·obtain⟨h1,h2,h3,h4⟩:=Kr (p:=pr) hs h.rows;unfold V1;generalize Qu s1 s2 sd=R at *;have e2:Qb R=Qb (R.take (atN sd pr R))++Qb (R.drop (atN sd pr R)):=by
   unfold Qb;rw[<-Wv,List.take_append_drop]
  have e3:(Qb (R.take (atN sd pr R))).filter (λx=>x.price==pr)=[]:=U7 (s:=sd) (λr hr=>h.mem r (List.mem_of_mem_take hr)) (λr hr=>U8 (h1 r hr));rw[e2,List.filter_append,e3,List.nil_append];by_cases hi:atN sd pr R<R.length
  ·have e4:R.drop (atN sd pr R)=R[atN sd pr R]! :: R.drop (atN sd pr R+1):=by rw[Sj R _ hi];exact List.drop_eq_getElem_cons hi
   have hm4:∀r∈R[atN sd pr R]! :: R.drop (atN sd pr R+1),r∈R:=λr hr=>List.mem_of_mem_drop (by rw[e4];exact hr);by_cases hp:(R[atN sd pr R]!).pr=pr
   ·rw[Sx ⟨hi,hp⟩,e4];have h5:=h4 _ _ e4 hp;have e5:(Qb (R.drop (atN sd pr R+1))).filter (λx=>x.price==pr)=[]:=U7 (s:=sd) (λr hr=>h.mem r (hm4 r (List.mem_cons_of_mem _ hr))) (λr hr e=>U8 (h5 r hr) e.symm);show _=((R[atN sd pr R]!).q++Qb (R.drop (atN sd pr R+1))).filter _;rw[List.filter_append,e5,List.append_nil,List.filter_eq_self.2];intro x hx;have:=(h.mem _ (hm4 _ List.mem_cons_self) x hx).2;simp only[beq_iff_eq];rw[this];exact hp
   ·rw[Sw (λhh=>hp hh.2),e4];have h5:=h3 _ _ e4 hp;exact(U7 (s:=sd) (λr hr=>h.mem r (hm4 r hr)) (λr hr e=>U8 (h5 r hr) e.symm)).symm
  ·rw[Sw (λhh=>hi hh.1),List.drop_of_length_le (by omega)];rfl
end
end Go.Proofs.YtikapeaodobkjaaGreat
