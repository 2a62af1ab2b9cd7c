/- What the laws lean on, in a few texts (by shake.py): number 10 of 16. -/
import Derived.Test.YtikapeaodobkjaaGreatZr1
import Derived.Test.YtikapeaodobkjaaGreatZr2
import Derived.Test.YtikapeaodobkjaaGreatZr5
import Derived.Test.YtikapeaodobkjaaGreatZr9
import Derived.Test.YtikapeaodobkjaaGreatZr3
import Derived.Shelf.SlSortCmp.QuietGrown
import Derived.Laws.OwnMore
import Derived.Laws.AppendOwnNone

set_option maxHeartbeats 16000000
set_option maxRecDepth 1000000
set_option linter.unusedVariables false
set_option linter.unusedSimpArgs false
namespace Go.Proofs.YtikapeaodobkjaaGreat
open _root_.Go.Proofs.Tryz
section
open Go.RowKit Go.Sort Go.Lib Go.Shelf
def ZR (cur z:List Value)(n i k:Nat):List Value:=cur.take (i*k)++(cur.drop ((i+1)*k)).take ((n-1-i)*k)++z++cur.drop (n*k)
theorem TD {cur z:List Value}{n i k c:Nat}(hi:i<n)(hc:n<=c)(hl:cur.length=c*k)(hz:z.length=k) :
  (cur.take (i*k)++(cur.drop ((i+1)*k)).take ((n-1-i)*k)++cur.drop (i*k+((cur.drop ((i+1)*k)).take ((n-1-i)*k)).length)).take ((n-1)*k)++z ++
   (cur.take (i*k)++(cur.drop ((i+1)*k)).take ((n-1-i)*k)++cur.drop (i*k+((cur.drop ((i+1)*k)).take ((n-1-i)*k)).length)).drop ((n-1)*k+z.length)=ZR cur z n i k:=by
 obtain⟨m,rfl⟩:∃m,n=i+1+m:=⟨n-(i+1),by omega⟩
 have e0:i+1+m-1-i=m:=by omega
 have e1:(i+1)*k=i*k+k:=Nq i k
 have e2:(i+1+m)*k=i*k+k+m*k:=by rw[Bu,e1]
 have e3:(i+1+m-1)*k=i*k+m*k:=by rw[show i+1+m-1=i+m by omega,Bu]
 have h2:i*k+k+m*k<=c*k:=by rw[<-e2];exact Bj k hc
 unfold ZR
 rw[e0,e2,e3]
 have lx:((cur.drop ((i+1)*k)).take (m*k)).length=m*k:=by rw[Wy,Az];omega
 have ly:(cur.take (i*k)).length=i*k:=by rw[Wy];omega
 rw[lx,Nk (by rw[Su];omega),Fs (by rw[Su];omega),List.drop_append,Su,lx,ly]
 rw[Ms («as»:=cur.take (i*k)++(cur.drop ((i+1)*k)).take (m*k)) (by rw[Su];omega),Mu,List.drop_drop,hz]
 rw[show i*k+m*k+(i*k+m*k+k-(i*k+m*k))=i*k+k+m*k by omega]
theorem TE {cur z xs:List Value}{n i k c:Nat}(hi:i<n)(hc:n<=c)(hl:cur.length=c*k)(hz:z.length=k)(hx:cur.take (n*k)=xs) :
  (ZR cur z n i k).length=c*k/\(ZR cur z n i k).take ((n-1)*k)=xs.take (i*k)++xs.drop ((i+1)*k):=by
 obtain⟨m,rfl⟩:∃m,n=i+1+m:=⟨n-(i+1),by omega⟩
 have e0:i+1+m-1-i=m:=by omega
 have e1:(i+1)*k=i*k+k:=Nq i k
 have e2:(i+1+m)*k=i*k+k+m*k:=by rw[Bu,e1]
 have e3:(i+1+m-1)*k=i*k+m*k:=by rw[show i+1+m-1=i+m by omega,Bu]
 have h2:i*k+k+m*k<=c*k:=by rw[<-e2];exact Bj k hc
 subst hx
 unfold ZR
 rw[e0,e2,e3,e1]
 have lx:((cur.drop (i*k+k)).take (m*k)).length=m*k:=by rw[Wy,Az];omega
 have ly:(cur.take (i*k)).length=i*k:=by rw[Wy];omega
 refine⟨?_,?_⟩
 ·simp only[Su,lx,ly,hz,Az];omega
 ·rw[St,Nk (by rw[Su];omega),Fs (by rw[Su];omega)];rw[Nj,Pz Oz,Py,show i*k+k+m*k-(i*k+k)=m*k by omega]
theorem TG {P:Program}{ops:Array Oper}{o:Oper}{a:Act}{w:World}{K:Act->World->Prop}{Q:Exit->Act->World->Prop}{E:Prop}
  (hg:o.guard=none) (s x:Operand) (t:TypeId) (hop:o.op=Op.call { callee:=Callee.builtin Builtin.append,args:=#[s,x],argTypes:=#[t,t] })
  (v u:Value) (hs:a.eval s=v) (hx:a.eval x=u) {v':Value} {w':World} (hr:(Builtin.append_ #[t,t] o.type #[v,u]).run P w=.ok v' w') (hK:K (a.put o.dst v') w') :
  if Region.wanted o (yielded ops a.tmps)=true then Oper.wp P o a w K Q else E:=by
 have hw:Region.wanted o (yielded ops a.tmps)=true:=by simp[Region.wanted,hg]
 rw[Sx hw]
 unfold Oper.wp
 simp[execOp,hop,resolve,invoke,builtin,hs,hx,hr,Result.andThen]
 exact hK
theorem qgP (w:World)(ty:TypeId)(g o n c:Nat)(cur:Array Value)(hn:n=1)(hg:w.heap[g]? = some (.cells cur 247 (0,0)))(hfit:o+2<=cur.size) :
  (Builtin.clear_ #[248] ty #[.slice (some ⟨g,o,none⟩) n c]).run prog w=.ok (.tuple #[]) (w.setRow g (cur.toList.take o++(#[.int .i64 0,.slice none 0 0]:Array Value).toList++cur.toList.drop (o+(#[.int .i64 0,.slice none 0 0]:Array Value).toList.length)).toArray):=by
 subst hn
 have hst:=run_storeCells_at prog g o 247 (#[.int .i64 0,.slice none 0 0]:Array Value).toList 0 cur w hg (by simpa using hfit) Ox
 simp only[Ak]at hst
 have hz:(Builtin.zeroCells (Value.cells (.agg #[.int .i64 0,.slice none 0 0])) 1).toList=(#[.int .i64 0,.slice none 0 0]:Array Value).toList:=by kernel_rfl
 simp[Builtin.clear_,run_underlying underlying248,hz,hst]
theorem qgQ (w:World)(g n c i:Nat)(cur:List Value)(hg:w.heap[g]? = some (.cells cur.toArray 247 (0,0)))(hl:cur.length=c*2)(hc:n<=c)(hi:i<n)(hcm:c<=maxLen)(h1:∀v∈cur.take (n*2),v.oneCell'=true) :
  Calls prog 184 #[.slice (some ⟨g,0,none⟩) n c,.int .i64 i,.int .i64 ((i:Int)+1)] w λe w'=>e=.returned (.slice (some ⟨g,0,none⟩) (n-1) c)/\Hid (ZP w g 247 (ZR cur (#[.int .i64 0,.slice none 0 0]:Array Value).toList n i 2) w'):=by
 have mixed:prog.follows .mixedOrders=true:=by kernel_rfl
 obtain⟨i0,hi0,hz0,hz1,hz2⟩:=info_parts UO
 have lN:c<=9223372036854775807:=by unfold maxLen at hcm;omega
 have q1:¬((i:Int)=(i:Int)+1):=by omega
 have q2:(i:Int)<=(i:Int)+1:=by omega
 have q3:(0:Int)<=(i:Int)+1:=by omega
 have q4:(i:Int)+1<=(n:Int):=by omega
 have q5:(n:Int)<=(c:Int):=by omega
 have q6:¬(n=i):=by omega
 have q7:(i:Int)+1<=(c:Int):=by omega
 have q8:(i:Int)<=(c:Int):=by omega
 have m9:((i:Int)+1).toNat=i+1:=by omega
 have rM:¬(c=n-1):=by omega
 have qI:((n-1:Nat):Int)<=(n:Int):=by omega
 have hni:(n-1-i)*2=n*2-(i+1)*2:=by omega
 have hnc:n*2<=c*2:=by omega
 obtain⟨X,eX⟩:∃X,X=(cur.drop ((i+1)*2)).take ((n-1-i)*2):=⟨_,rfl⟩
 have lX:X.length=(n-1-i)*2:=by rw[eX,Wy,Az];omega
 obtain⟨A1,e1⟩:∃A1,A1=(cur.take (i*2)++X++cur.drop (i*2+X.length)):=⟨_,rfl⟩
 have l1:A1.length=c*2:=by rw[e1];simp only[Su,Wy,Az,lX];omega
 have e2:A1.take ((n-1)*2)++(#[.int .i64 0,.slice none 0 0]:Array Value).toList++A1.drop ((n-1)*2+(#[.int .i64 0,.slice none 0 0]:Array Value).toList.length)=ZR cur (#[.int .i64 0,.slice none 0 0]:Array Value).toList n i 2:=by rw[e1,eX];exact TD hi hc hl rfl
 obtain⟨A,hA,hsrc⟩:∃A:Addr,(if c=i+1 then some (⟨g,0,none⟩:Addr) else some ⟨g,(i+1)*2,none⟩)=some A/\(∀j v,X[j]? = some v->w.drew.cell? (A.add j)=some v):=by
  by_cases h:c=i+1
  ·refine⟨_,Sx h,λj v hj=>?_⟩;have h0:X.length=0:=by rw[lX];omega
   rw[List.length_eq_zero_iff.1 h0]at hj
   cases hj
  ·refine⟨_,Sw h,λj v hj=>?_⟩;rw[QP,cell_of_row _ _ _ _ _ _ (Qh hg)];rw[eX,List.getElem?_take]at hj
   split at hj
   ·rw[List.getElem?_drop]at hj;rw[List.getElem?_toArray];exact hj
   ·cases hj
 have C1:Hid (∀ty,(Builtin.append_ #[248,248] ty #[.slice (some ⟨g,0,none⟩) i c,.slice (some A) (n-(i+1)) (c-(i+1))]).run prog w.drew=.ok (.slice (some ⟨g,0,none⟩) (n-1) c) (w.drew.setRow g A1.toArray)):=Ou (λty=>by
  rw[show n-(i+1)=n-1-i by omega];have:=run_append_room w.drew 248 ty 247 i0 underlying248 hi0 g i c cur.toArray (Qh hg) A (n-1-i) (c-(i+1)) X (by rw[hz1];exact lX) hsrc (λv hv=>h1 v (by rw[eX,hni,<-Py]at hv;exact Fy hv)) Oz (by rw[hz1,lX];simp only[Wu];omega);rw[hz1,show i+(n-1-i)=n-1 by omega]at this;rw[e1]
  exact this)
 have G1:(w.drew.setRow g A1.toArray).heap[g]? = some (.cells A1.toArray 247 (0,0)):=setRow_heap _ _ _ _ _ _ (Qh hg)
 have C2:Hid (∀ty m c',m=1->(Builtin.clear_ #[248] ty #[.slice (some ⟨g,(n-1)*2,none⟩) m c']).run prog (w.drew.setRow g A1.toArray)=.ok (.tuple #[]) ((w.drew.setRow g A1.toArray).setRow g (ZR cur (#[.int .i64 0,.slice none 0 0]:Array Value).toList n i 2).toArray)):=Ou (λty m c' hm=>by
  have:=qgP (w.drew.setRow g A1.toArray) ty g ((n-1)*2) m c' A1.toArray hm G1 (by simp only[Wu];omega);rw[<-e2]
  exact this)
 have F:Hid (ZP w g 247 (ZR cur (#[.int .i64 0,.slice none 0 0]:Array Value).toList n i 2) ((w.drew.setRow g A1.toArray).setRow g (ZR cur (#[.int .i64 0,.slice none 0 0]:Array Value).toList n i 2).toArray)):=JY (JY (VS hg) (JX (Qh hg))) (JX G1)
 clear eX lX e1 l1 e2 G1 hni hnc hsrc
 have HX:=Ou (Sv hl (Sv hc (Sv hi h1)))
 clear hg hl hc h1 hcm
 go_enter func184,ntmps184
 go_wp2_with fail
 refine wp_region_held_drew (S:=λ_=>True) Ow (by trivial) (λhHeld=>?_)
 refine tkA 0 ?_
 refine tkA 1 ?_
 refine tkA 2 ?_
 refine tkA 3 ?_
 refine tkA 4 ?_
 refine tkA 5 ?_
 (try simp only[zz])
 refine rdH 6 (λK hK=>?_)
 refine TG rfl (.tmp 22) (.tmp 25) 248 rfl _ _ rfl (by simp[Act.eval]) (C1.out _) ?_
 refine hK.out _ _ (by trivial) (λhHeld=>?_)
 clear hK K
 (try simp only[zz])
 refine tkA 7 ?_
 (try simp only[zz])
 refine wpAnyH_done Ow ?_ _
 clear C1
 go_wp2_with fail
 rw[C2.out _ _ _ (by omega)]
 go_wp2_with fail
 go_ret
 exact⟨rfl,F.out⟩
theorem qgR (w:World)(ty:TypeId)(g o n c:Nat)(cur:Array Value)(hn:n=1)(hg:w.heap[g]? = some (.cells cur 38 (0,0)))(hfit:o+6<=cur.size) :
  (Builtin.clear_ #[22] ty #[.slice (some ⟨g,o,none⟩) n c]).run prog w=.ok (.tuple #[]) (w.setRow g (cur.toList.take o++((OC ⟨0,0,0,0,0,0⟩):Array Value).toList++cur.toList.drop (o+((OC ⟨0,0,0,0,0,0⟩):Array Value).toList.length)).toArray):=by
 subst hn
 have hst:=run_storeCells_at prog g o 38 ((OC ⟨0,0,0,0,0,0⟩):Array Value).toList 0 cur w hg (by simpa using hfit) Ox
 simp only[Ak]at hst
 have hz:(Builtin.zeroCells (Value.cells (.agg (OC ⟨0,0,0,0,0,0⟩))) 1).toList=((OC ⟨0,0,0,0,0,0⟩):Array Value).toList:=by kernel_rfl
 simp[Builtin.clear_,run_underlying underlying22,hz,hst]
theorem TH (w:World)(g n c i:Nat)(cur:List Value)(hg:w.heap[g]? = some (.cells cur.toArray 38 (0,0)))(hl:cur.length=c*6)(hc:n<=c)(hi:i<n)(hcm:c<=maxLen)(h1:∀v∈cur.take (n*6),v.oneCell'=true) :
  Calls prog 183 #[.slice (some ⟨g,0,none⟩) n c,.int .i64 i,.int .i64 ((i:Int)+1)] w λe w'=>e=.returned (.slice (some ⟨g,0,none⟩) (n-1) c)/\Hid (ZP w g 38 (ZR cur ((OC ⟨0,0,0,0,0,0⟩):Array Value).toList n i 6) w'):=by
 have mixed:prog.follows .mixedOrders=true:=by kernel_rfl
 obtain⟨i0,hi0,hz0,hz1,hz2⟩:=info_parts Y3
 have lN:c<=9223372036854775807:=by unfold maxLen at hcm;omega
 have q1:¬((i:Int)=(i:Int)+1):=by omega
 have q2:(i:Int)<=(i:Int)+1:=by omega
 have q3:(0:Int)<=(i:Int)+1:=by omega
 have q4:(i:Int)+1<=(n:Int):=by omega
 have q5:(n:Int)<=(c:Int):=by omega
 have q6:¬(n=i):=by omega
 have q7:(i:Int)+1<=(c:Int):=by omega
 have q8:(i:Int)<=(c:Int):=by omega
 have m9:((i:Int)+1).toNat=i+1:=by omega
 have rM:¬(c=n-1):=by omega
 have qI:((n-1:Nat):Int)<=(n:Int):=by omega
 have hni:(n-1-i)*6=n*6-(i+1)*6:=by omega
 have hnc:n*6<=c*6:=by omega
 obtain⟨X,eX⟩:∃X,X=(cur.drop ((i+1)*6)).take ((n-1-i)*6):=⟨_,rfl⟩
 have lX:X.length=(n-1-i)*6:=by rw[eX,Wy,Az];omega
 obtain⟨A1,e1⟩:∃A1,A1=(cur.take (i*6)++X++cur.drop (i*6+X.length)):=⟨_,rfl⟩
 have l1:A1.length=c*6:=by rw[e1];simp only[Su,Wy,Az,lX];omega
 have e2:A1.take ((n-1)*6)++((OC ⟨0,0,0,0,0,0⟩):Array Value).toList++A1.drop ((n-1)*6+((OC ⟨0,0,0,0,0,0⟩):Array Value).toList.length)=ZR cur ((OC ⟨0,0,0,0,0,0⟩):Array Value).toList n i 6:=by rw[e1,eX];exact TD hi hc hl rfl
 obtain⟨A,hA,hsrc⟩:∃A:Addr,(if c=i+1 then some (⟨g,0,none⟩:Addr) else some ⟨g,(i+1)*6,none⟩)=some A/\(∀j v,X[j]? = some v->w.drew.cell? (A.add j)=some v):=by
  by_cases h:c=i+1
  ·refine⟨_,Sx h,λj v hj=>?_⟩;have h0:X.length=0:=by rw[lX];omega
   rw[List.length_eq_zero_iff.1 h0]at hj
   cases hj
  ·refine⟨_,Sw h,λj v hj=>?_⟩;rw[QP,cell_of_row _ _ _ _ _ _ (Qh hg)];rw[eX,List.getElem?_take]at hj
   split at hj
   ·rw[List.getElem?_drop]at hj;rw[List.getElem?_toArray];exact hj
   ·cases hj
 have C1:Hid (∀ty,(Builtin.append_ #[22,22] ty #[.slice (some ⟨g,0,none⟩) i c,.slice (some A) (n-(i+1)) (c-(i+1))]).run prog w.drew=.ok (.slice (some ⟨g,0,none⟩) (n-1) c) (w.drew.setRow g A1.toArray)):=Ou (λty=>by
  rw[show n-(i+1)=n-1-i by omega];have:=run_append_room w.drew 22 ty 38 i0 underlying22 hi0 g i c cur.toArray (Qh hg) A (n-1-i) (c-(i+1)) X (by rw[hz1];exact lX) hsrc (λv hv=>h1 v (by rw[eX,hni,<-Py]at hv;exact Fy hv)) Oz (by rw[hz1,lX];simp only[Wu];omega);rw[hz1,show i+(n-1-i)=n-1 by omega]at this;rw[e1]
  exact this)
 have G1:(w.drew.setRow g A1.toArray).heap[g]? = some (.cells A1.toArray 38 (0,0)):=setRow_heap _ _ _ _ _ _ (Qh hg)
 have C2:Hid (∀ty m c',m=1->(Builtin.clear_ #[22] ty #[.slice (some ⟨g,(n-1)*6,none⟩) m c']).run prog (w.drew.setRow g A1.toArray)=.ok (.tuple #[]) ((w.drew.setRow g A1.toArray).setRow g (ZR cur ((OC ⟨0,0,0,0,0,0⟩):Array Value).toList n i 6).toArray)):=Ou (λty m c' hm=>by
  have:=qgR (w.drew.setRow g A1.toArray) ty g ((n-1)*6) m c' A1.toArray hm G1 (by simp only[Wu];omega);rw[<-e2]
  exact this)
 have F:Hid (ZP w g 38 (ZR cur ((OC ⟨0,0,0,0,0,0⟩):Array Value).toList n i 6) ((w.drew.setRow g A1.toArray).setRow g (ZR cur ((OC ⟨0,0,0,0,0,0⟩):Array Value).toList n i 6).toArray)):=JY (JY (VS hg) (JX (Qh hg))) (JX G1)
 clear eX lX e1 l1 e2 G1 hni hnc hsrc
 have HX:=Ou (Sv hl (Sv hc (Sv hi h1)))
 clear hg hl hc h1 hcm
 go_enter func183,ntmps183
 go_wp2_with fail
 refine wp_region_held_drew (S:=λ_=>True) Ow (by trivial) (λhHeld=>?_)
 refine tkA 0 ?_
 refine tkA 1 ?_
 refine tkA 2 ?_
 refine tkA 3 ?_
 refine tkA 4 ?_
 refine tkA 5 ?_
 (try simp only[zz])
 refine rdH 6 (λK hK=>?_)
 refine TG rfl (.tmp 22) (.tmp 25) 22 rfl _ _ rfl (by simp[Act.eval]) (C1.out _) ?_
 refine hK.out _ _ (by trivial) (λhHeld=>?_)
 clear hK K
 (try simp only[zz])
 refine tkA 7 ?_
 (try simp only[zz])
 refine wpAnyH_done Ow ?_ _
 clear C1
 go_wp2_with fail
 rw[C2.out _ _ _ (by omega)]
 go_wp2_with fail
 go_ret
 exact⟨rfl,F.out⟩
end
section
open Go.RowKit Go.Shelf Go.Sort Go.Maps
def VZ (W4 w5:World)(qv v':Value)(n':Nat)(q':List Od):Prop :=
 w5.ownsRow 0 38 6 v' n' (ol q')/\W4.grownBy w5 qv.ownBlock/\v'.ownBlock=qv.ownBlock
theorem TI {W4 w5:World}{qn i c g:Nat}{q:List Od}{cur:Array Value}(hq:q.length=qn)(hi:i<qn)(_hg:W4.heap[g]? = some (.cells cur 38 (0,0)))(hc:qn<=c)(hcm:c<=maxLen)(hs:cur.size=c*6)(ht:cur.toList.take (qn*6)=ol q)
  (h:ZP W4 g 38 (ZR cur.toList (OC ⟨0,0,0,0,0,0⟩).toList qn i 6) w5):VZ W4 w5 (.slice (some ⟨g,0,none⟩) qn c) (.slice (some ⟨g,0,none⟩) (qn-1) c) (qn-1) (q.eraseIdx i):=by
 obtain⟨h1,h2⟩:=TE (k:=6) (z:=(OC ⟨0,0,0,0,0,0⟩).toList) hi hc (by simpa using hs) rfl ht
 have e:ol (q.eraseIdx i)=(ol q).take (i*6)++(ol q).drop ((i+1)*6):=by
  rw[(US q i Oz).1,(US q (i+1) Oz).2,<-Ky,Rz]
 refine⟨⟨?_,.inr ⟨g,c,_,rfl,As _,h.2,by omega,hcm,by rw[Wu];exact h1,?_⟩⟩,h.1,rfl⟩
 ·rw[Jg,Ry,Sx (by omega)];omega
 ·rw[List.toList_toArray,h2,e]
theorem KX {w2 W4 w5:World}{g n c n':Nat}{qv v':Value}{qn:Nat}{q q':List Od}{xs:List Value}(hR:w2.ownsRow 0 247 2 (.slice (some ⟨g,0,none⟩) n c) n xs)(hq:w2.ownsRow 0 38 6 qv qn (ol q))(G:Gw w2 W4)(hI:VZ W4 w5 qv v' n' q') :
  w5.ownsRow 0 247 2 (.slice (some ⟨g,0,none⟩) n c) n xs:=by
 refine Qi hR (S:=λj=>qv.ownBlock=some j) ?_ (λk hk e=>?_)
 ·exact((Fr.of_below G.b).grown hI.2.1 (λj e=>.inl e))
 ·injection hk with hk;subst hk;obtain⟨cs,hcs⟩:=Zf hR rfl;exact Qo hq hcs Ox e
theorem TJ {w w2 W4 w5:World}{g c n':Nat}{qv v':Value}{R:List Rw}{qn k:Nat}{q q':List Od}{p:Int}(hk:k<R.length)(hp:(R[k]!).pr=p)(hR:w2.ownsRow 0 247 2 (.slice (some ⟨g,0,none⟩) R.length c) R.length (rl R))(hq:w2.ownsRow 0 38 6 qv qn (ol q))(G2:Ok w w2)(G:Gw w2 W4)(hI:VZ W4 w5 qv v' n' q') :
  (w5.setCell ⟨g,k*2+1,none⟩ v').ownsRow 0 38 6 v' n' (ol q')/\(w5.setCell ⟨g,k*2+1,none⟩ v').ownsRow 0 247 2 (.slice (some ⟨g,0,none⟩) R.length c) R.length (rl (R.take k++⟨p,v',q'⟩ :: R.drop (k+1))) /\
   Fr (λj=>(Value.slice (some ⟨g,0,none⟩) R.length c).ownBlock=some j∨qv.ownBlock=some j) w (w5.setCell ⟨g,k*2+1,none⟩ v'):=by
 have fE:=KX hR hq G hI
 obtain⟨cs,hcs⟩:=Zf fE rfl
 refine⟨?_,?_,?_⟩
 ·exact Qi hI.1 (S:=λj=>j=g) ((Fr.refl (λj=>j=g) w5).set (p:=⟨g,k*2+1,none⟩) (.inl rfl) _) (λj hj e=>by subst e;exact Qo hI.1 hcs Ox hj)
 ·rw[Y7 R k hk ⟨p,v',q'⟩ hp.symm];exact JE fE rfl
 ·refine Fr.set ?_ (p:=⟨g,k*2+1,none⟩) (.inl (.inl rfl)) _;exact(Fr.of_below (G2.trans (G.b.mono G2.size))).grown hI.2.1 (λj e=>.inl (.inr e))
theorem Vm (X:World)(c:Nat)(o:Od):Fr (λk=>k=c) X (Zn X c o):=by
 unfold Zn
 exact((((((Fr.refl (λk=>k=c) X).set (p:=⟨c,0,none⟩) (.inl rfl) _).set (p:=⟨c,1,none⟩) (.inl rfl) _).set (p:=⟨c,2,none⟩) (.inl rfl) _).set (p:=⟨c,3,none⟩) (.inl rfl) _).set (p:=⟨c,4,none⟩) (.inl rfl) _).set (p:=⟨c,5,none⟩) (.inl rfl) _
theorem TN (p m:Nat)(s1 s2:Sd)(o:Od)(id:Int)(w:World)(H:Bk w (some ⟨p,0,none⟩) (some m) s1 s2)(hwf:(Lit.int .i64 o.side).wf=true)
  (aC:Hid (∀W,Ok w W->Calls prog 172 #[.pointer (some ⟨p,0,none⟩),.int .u64 id] W λe w'=>e=.returned (.tuple #[QG (some o),.bool true])/\Hid (Ok W w')))
  (R:List Rw) (hR:Qu s1 s2 o.side=R) (hs:R.Pairwise (λa b=>Qf o.side a.pr b.pr=true))
  (hn:R.length<=1000) (k:Nat) (hk:atN o.side o.price R=k) (hkl:k<R.length) (hp:(R[k]!).pr=o.price) (hq:(R[k]!).q.Pairwise (λx y=>Qt x y=true)) (aU:(R[k]!).q.length<=1000) (i:Nat) (hi:plN o (R[k]!).q=i) (hil:i<(R[k]!).q.length) (h2:2<=(R[k]!).q.length) :
  Calls prog 176 #[.pointer (some ⟨p,0,none⟩),.int .u64 id] w λe w'=>e=.returned (.tuple #[QG (some o),.bool true])/\∃v',Hid (w'.ownsRow 0 38 6 v' ((R[k]!).q.length-1) (ol ((R[k]!).q.eraseIdx i)) /\
   w'.ownsRow 0 247 2 (Ze s1 s2 o.side) R.length (rl (R.take k++⟨o.price,v',(R[k]!).q.eraseIdx i⟩ :: R.drop (k+1)))/\Fr (λj=>(Ze s1 s2 o.side).ownBlock=some j∨(R[k]!).v.ownBlock=some j) w w'/\v'.ownBlock=(R[k]!).v.ownBlock):=by
 have mixed:prog.follows .mixedOrders=true:=by kernel_rfl
 have hmem:R[k]!∈s1.rs++s2.rs:=by
  rw[Sj R k hkl];exact JU (by rw[hR];exact Wt hkl)
 obtain⟨Q,fD⟩:∃Q,(R[k]!).q=Q:=⟨_,rfl⟩
 obtain⟨V,cZ⟩:∃V,(R[k]!).v=V:=⟨_,rfl⟩
 rw[fD]at hq aU hi hil h2 ⊢
 rw[cZ]
 obtain⟨qn,cG⟩:∃qn,Q.length=qn:=⟨_,rfl⟩
 rw[cG]at aU hil h2 ⊢
 have hown0:=H.own o.side
 rw[hR]at hown0
 obtain⟨g,c,hv,_,_⟩:=Kz hown0 hkl
 clear hown0
 have dD:=H.q _ hmem
 rw[fD,cZ,cG]at dD
 obtain⟨g2,qc,cur,cE,hg2⟩:∃g2 qc cur,V=.slice (some ⟨g2,0,none⟩) qn qc/\w.heap[g2]? = some (.cells cur 38 (0,0))/\qn<=qc/\qc<=maxLen/\cur.size=qc*6/\cur.toList.take (qn*6)=ol Q:=by
  rcases dD.2 with ⟨_,h0⟩ | ⟨g2,cap,cur,e,_,h1,h2,h3,h4,h5⟩
  ·omega
  ·exact⟨g2,cap,cur,e,h1,h2,h3,h4,h5⟩
 have hgl:g<w.heap.size:=by
  obtain⟨A,c',hv',_,hf⟩:=H.rows o.side;rw[hR]at hv' hf;rw[hv]at hv';injection hv' with e1 e2 e3;exact H.lt (hf g e1.symm Oz)
 have HH:=Ou H
 have HG:=Ou hgl
 have kZ:=Ou hg2
 have bF:Hid (∀W,Ok w W->(W.cell? ⟨p,0,none⟩=some (.map (some m)))/\W.ownsRow 0 247 2 (.slice (some ⟨g,0,none⟩) R.length c) R.length (rl R)/\W.ownsRow 0 38 6 (.slice (some ⟨g2,0,none⟩) qn qc) qn (ol Q)/\W.cell? ⟨g,k*2,none⟩=some (.int .i64 o.price)/\W.cell? ⟨g,k*2+1,none⟩=some (.slice (some ⟨g2,0,none⟩) qn qc)):=λW hW=>by
  have hB:=HH.out.below hW;have hown:=hB.own o.side;rw[hR]at hown;obtain⟨g',c',hv',hc1,hc2⟩:=Kz hown hkl;rw[hv]at hv' hown;injection hv' with e1 e2 e3;injection e1 with e1;injection e1 with e1;subst e1;have fU:=hB.q _ hmem;rw[fD,cZ,cE,cG]at fU;refine⟨?_,hown,fU,by rw[hc1,hp],by rw[hc2,cZ,cE]⟩;rcases hB.shape with ⟨h,_⟩ | ⟨pp,hb,hp⟩
  ·cases h
  ·injection hb with hb';injection hb' with hb'';subst hb'';rw[cell_of_row _ _ _ _ _ _ hp];rfl
 have HF:Hid (∀W,Ok w W->Calls prog 181 #[.slice (some ⟨g,0,none⟩) R.length c,.int .i64 o.side,.int .i64 o.price] W λe w'=>e=.returned (.tuple #[.int .i64 (k:Nat),.bool true])/\Gw W w'):=λW hW=>by
  have:=Vg (some ⟨g,0,none⟩) R.length c R o.side o.price W ?_ hs hn
  ·rw[hk,Sy hkl,hp]at this;simpa using this
  ·obtain⟨A,c',hv',hr⟩:=Ku (bF.out W hW).2.1;injection hv' with e1 e2 e3;rw[e1];exact hr
 have HP:Hid (∀W,Ok w W->Calls prog 182 #[.slice (some ⟨g2,0,none⟩) qn qc,.agg #[.int .u64 o.id,.int .i64 o.acc,.int .i64 o.side,.int .i64 o.price,.int .i64 o.qty,.int .u64 o.seq]] W λe w'=>e=.returned (.int .i64 (i:Nat))/\Gw W w'):=λW hW=>by
  have:=VO (some ⟨g2,0,none⟩) qn qc Q o W ?_ hq aU
  ·rw[hi]at this;exact this
  ·obtain⟨A,c',hv',hr⟩:=Z1 (bF.out W hW).2.2.1;injection hv' with e1 e2 e3;rw[e1];exact hr
 have HD:Hid (∀W,Ok w W->Calls prog 183 #[.slice (some ⟨g2,0,none⟩) qn qc,.int .i64 i,.int .i64 ((i:Int)+1)] W λe w'=>e=.returned (.slice (some ⟨g2,0,none⟩) (qn-1) qc)/\Hid (VZ W w' (.slice (some ⟨g2,0,none⟩) qn qc) (.slice (some ⟨g2,0,none⟩) (qn-1) qc) (qn-1) (Q.eraseIdx i))):=λW hW=>by
  obtain⟨a1,a2,a3,a4,a5⟩:=kZ.out;have hg:=(hW.block _ (Qc a1)).trans a1;refine(TH W g2 qn qc i cur.toList (by rw[Pw];exact hg) (by simpa using a4) a2 hil a3 (by rw[a5];exact Kr Q)).mono ?_;rintro e w' ⟨rfl,h⟩;exact⟨rfl,Ou (TI cG hil hg a2 a3 a4 a5 h.out)⟩
 have hlk:=λq W (hW:Ok w W)=>Vi ((HH.out.below (hW.trans (QJ ((Oq _ _).mono hW.size) q))).mp m rfl) HH.out.t1 HH.out.t2 o.side hwf
 rw[hv]at hlk
 have sO:=Ou hlk
 have HV:=Ou (Sv hv (Sv cE (Sv cG hmem)))
 have HK:=Ou (Sv hkl hp)
 obtain⟨n1,lU⟩:∃n1,qn-1=n1:=⟨_,rfl⟩
 rw[lU]at HD ⊢
 have hn10:¬((n1:Int)=0):=by omega
 have eK:=Ou lU
 have H2N:=Ou h2
 clear lU h2
 have HC:Hid ((rl R)[k*2+1]? = some (.slice (some ⟨g2,0,none⟩) qn qc)):=by
  have:=JR R k 1 hkl Oz;rw[this,<-cE,<-cZ];rfl
 clear H hs hn hwf hmem hgl hg2 hlk dD hk hi hq
 obtain⟨W0,hW0⟩:∃W0,w.alloc (.cells (OC ⟨0,0,0,0,0,0⟩) 38)=W0:=⟨_,rfl⟩
 have bN:Hid (Ok w W0):=by rw[<-hW0];exact(Oq _ _).alloc (Sq _) _
 have fQ:Hid (Cl 38 W0 w.heap.size (OC ⟨0,0,0,0,0,0⟩)):=by rw[<-hW0];exact Qe rfl
 obtain⟨rb,yA⟩:∃rb,w.heap.size=rb:=⟨_,rfl⟩
 go_enter func176,ntmps176
 go_wp2_with ((with_reducible refine(aC.out _ bN.out).mono ?_);rintro e w1 ⟨rfl,hb1⟩;dsimp only[QG])
 obtain⟨W1,hW1⟩:∃W1,w1.alloc (.cells (OC o) 38)=W1:=⟨_,rfl⟩
 have aN:Hid (Ok w W1):=by rw[<-hW1];exact(bN.out.trans (hb1.out.mono bN.out.size)).alloc (Sk bN.out.size hb1.out.size) _
 have aT:Cl 38 W1 w1.heap.size (OC o):=by rw[<-hW1];exact Qe rfl
 have iE:Cl 38 W1 w.heap.size (OC ⟨0,0,0,0,0,0⟩):=by rw[<-hW1];exact Qp (Qc ((hb1.out.block _ (Qc fQ.out)).trans fQ.out)) ((hb1.out.block _ (Qc fQ.out)).trans fQ.out)
 have jY:Hid (w.heap.size<w1.heap.size):=Ww (Qc fQ.out) hb1.out.size
 rw[hW1]
 obtain⟨ob,dO⟩:∃ob,w1.heap.size=ob:=⟨_,rfl⟩
 rw[dO]at aT jY ⊢
 rw[yA]at iE jY
 obtain⟨x0,x1,x2,x3,x4,x5⟩:=Qm aT
 have hpc:=(bF.out W1 aN.out).1
 have hlk:=λq=>sO.out q W1 aN.out
 clear dO hW1 hb1 aC bN fQ hW0
 clear w1 W0
 go_quiet (fail)
 go_wp2_with ((with_reducible refine(HF.out _ (QJ aN.out _)).mono ?_);rintro e w2 ⟨rfl,k2⟩;have aG:Hid (Ok w w2):=(QJ aN.out _).trans (k2.b.mono (QJ aN.out _).size);have eO:Cl 38 w2 ob (OC o):=Cl.gw (X:=W1.drewN _) aT k2;have uF:Cl 38 w2 rb (OC ⟨0,0,0,0,0,0⟩):=Cl.gw (X:=W1.drewN _) iE k2;clear x0 x1 x2 x3 x4 x5 hpc hlk)
 clear aT iE k2 aN
 clear W1
 have aM:Hid (∀W,Gw w2 W->Cl 38 W ob (OC o)):=λW hW=>eO.gw hW
 have lH:Hid (∀W,Gw w2 W->Cl 38 W rb (OC ⟨0,0,0,0,0,0⟩)):=λW hW=>uF.gw hW
 have kM:Hid (∀W,Gw w2 W->Ok w W):=λW hW=>aG.out.trans (hW.b.mono aG.out.size)
 clear eO uF
 refine wp_region_held_drew (S:=λW=>Gw w2 W) Ow (by exact⟨(Oq _ _).drew,Fq _⟩) (λhHeld=>?_)
 refine tkA 0 ?_
 refine tkA 1 ?_
 refine tkA 2 ?_
 refine tkH 3 ?_ ?_ Ov ?_
 rotate_left
 ·(intro w hSw;have hs:=(bF.out _ (kM.out _ hSw)).2.2.2.2;(try dsimp only at hSw);go_simp;try with_reducible rfl)
 (try simp only[zz])
 refine tkH 4 ?_ ?_ Ov ?_
 rotate_left
 ·(intro w hSw;obtain⟨hs0,hs1,hs2,hs3,hs4,hs5⟩:=Qm (aM.out _ hSw);(try dsimp only at hSw);go_simp;try with_reducible rfl)
 (try simp only[zz])
 refine rdH 5 (λK hK=>?_)
 go_simp
 ((with_reducible refine(HP.out _ (kM.out _ hHeld)).mono ?_);rintro e w3 ⟨rfl,k3⟩)
 refine hK.out _ _ (by exact hHeld.trans k3) (λhHeld=>?_)
 clear hK K
 (try simp only[zz])
 refine tkA 6 ?_
 (try simp only[zz])
 refine wpAnyH_done Ow ?_ _
 have fR:Hid (ob≠g/\some ob≠(Value.slice (some ⟨g2,0,none⟩) qn qc).ownBlock/\rb≠g/\some rb≠(Value.slice (some ⟨g2,0,none⟩) qn qc).ownBlock):=by
  have a:=HG.out;have b:=Qc kZ.out.1;have c:=jY.out;refine⟨by omega,λe=>?_,by omega,λe=>?_⟩<;>(injection e with e;(try simp only at e);omega)
 have z0:=(bF.out _ (kM.out _ hHeld)).2.2.2.2
 go_wp2_with ((with_reducible refine(HD.out _ (kM.out _ hHeld)).mono ?_);rintro e w5 ⟨rfl,hI⟩;have z5:w5.cell? ⟨g,k*2+1,none⟩=some (.slice (some ⟨g2,0,none⟩) qn qc):=(Ji (KX (bF.out _ aG.out).2.1 (bF.out _ aG.out).2.2.1 hHeld hI.out) rfl HC.out).1;have f5:w5.frozen? ⟨g,k*2+1,none⟩=false:=(Ji (KX (bF.out _ aG.out).2.1 (bF.out _ aG.out).2.2.1 hHeld hI.out) rfl HC.out).2;have tY:Cl 38 (w5.setCell ⟨g,k*2+1,none⟩ (.slice (some ⟨g2,0,none⟩) n1 qc)) ob (OC o):=(QL (a:=⟨g,k*2+1,none⟩) fR.out.1).trans ((hI.out.2.1.block _ (Qc (aM.out _ hHeld)) fR.out.2.1).trans (aM.out _ hHeld));have kD:Cl 38 (w5.setCell ⟨g,k*2+1,none⟩ (.slice (some ⟨g2,0,none⟩) n1 qc)) rb (OC ⟨0,0,0,0,0,0⟩):=(QL (a:=⟨g,k*2+1,none⟩) fR.out.2.2.1).trans ((hI.out.2.1.block _ (Qc (lH.out _ hHeld)) fR.out.2.2.2).trans (lH.out _ hHeld));have tJ:=Ou kD;have o9:=Ou (TJ HK.out.1 HK.out.2 (bF.out _ aG.out).2.1 (bF.out _ aG.out).2.2.1 aG.out hHeld hI.out);have c6:(w5.setCell ⟨g,k*2+1,none⟩ (.slice (some ⟨g2,0,none⟩) n1 qc)).cell? ⟨g,k*2+1,none⟩=some (.slice (some ⟨g2,0,none⟩) n1 qc):=(Ji (JE (j:=k*2+1) (u:=(.slice (some ⟨g2,0,none⟩) n1 qc)) (KX (bF.out _ aG.out).2.1 (bF.out _ aG.out).2.2.1 hHeld hI.out) rfl) rfl (List.getElem?_set_self (List.getElem?_eq_some_iff.1 HC.out).1)).1;obtain⟨x0,x1,x2,x3,x4,x5⟩:=Qm tY;obtain⟨z0',z1',z2',z3',z4',z5'⟩:=Qm kD;have g0:=kD.f (k:=0);have g1:=kD.f (k:=1);have g2':=kD.f (k:=2);have g3:=kD.f (k:=3);have g4:=kD.f (k:=4);have g5:=kD.f (k:=5);clear z0 hI)
 have hf:=JW o tJ.out
 refine bodyPost_ret (ZK rfl _ _ _ rfl o _ hf _ rfl) rfl ?_
 refine⟨rfl,.slice (some ⟨g2,0,none⟩) n1 qc,Ou ?_⟩
 rw[HV.out.1,HV.out.2.1]
 obtain⟨a1,a2,a3⟩:=o9.out
 have hne:=fR.out
 refine⟨Qi a1 (Vm _ rb o) (λj hj e=>hne.2.2.2 (by rw[<-e];exact hj.symm)),Qi a2 (Vm _ rb o) (λj hj e=>?_),a3.trans (Vm _ rb o) (λj e=>.inr Oz),rfl⟩
 injection hj with hj
 exact hne.2.2.1 (by rw[<-e,<-hj])
def qgS (W w7:World)(g c:Nat)(R:List Rw)(k:Nat):Prop :=
 w7.ownsRow 0 247 2 (.slice (some ⟨g,0,none⟩) (R.length-1) c) (R.length-1) (rl (R.take k++R.drop (k+1)))/\W.grownBy w7 (some g)
theorem qgT {R:List Rw}(h:∀r∈R,r.v.oneCell'=true):∀u∈rl R,u.oneCell'=true:=by
 intro u hu
 obtain⟨r,hr,hu⟩:=List.mem_flatMap.1 hu
 exact Tn r u hu (h r hr)
theorem qgU {W:World}{g c k:Nat}{R:List Rw}{x:Rw}(hk:k<R.length)(ho:∀u∈rl (R.take k++x :: R.drop (k+1)),u.oneCell'=true)(h:W.ownsRow 0 247 2 (.slice (some ⟨g,0,none⟩) R.length c) R.length (rl (R.take k++x :: R.drop (k+1)))) :
  Calls prog 184 #[.slice (some ⟨g,0,none⟩) R.length c,.int .i64 k,.int .i64 ((k:Int)+1)] W λe w'=>e=.returned (.slice (some ⟨g,0,none⟩) (R.length-1) c)/\Hid (qgS W w' g c R k):=by
 rcases h.2 with ⟨h0,_⟩ | ⟨g',cap,cur,e,_,h1,h2,h3,h4,h5⟩
 ·cases h0
 injection e with e1 e2 e3
 injection e1 with e1;injection e1 with e1
 subst e1 e3
 have h6:cur.toList.length=c*2:=by simpa using h4
 refine(qgQ W g R.length c k cur.toList (by rw[Pw];exact h1) h6 h2 hk h3 (by rw[h5];exact ho)).mono ?_
 rintro e w' ⟨rfl,hi⟩
 obtain⟨b1,b2⟩:=TE (k:=2) (z:=(#[.int .i64 0,.slice none 0 0]:Array Value).toList) hk h2 h6 rfl h5
 have hl:(R.take k++x :: R.drop (k+1)).length=R.length:=KV R k hk x
 have e:rl (R.take k++R.drop (k+1))=(rl (R.take k++x :: R.drop (k+1))).take (k*2)++(rl (R.take k++x :: R.drop (k+1))).drop ((k+1)*2):=by
  rw[(UR _ k Oz).1,(UR _ (k+1) Oz).2,<-VU];have lk:(R.take k).length=k:=by rw[Wy];omega
  rw[List.take_left' lk,List.drop_append,lk,Ms («as»:=R.take k) Oz,Mu,show k+1-k=1 by omega];rfl
 refine⟨rfl,Ou ⟨⟨?_,.inr ⟨g,c,_,rfl,As _,hi.out.2,by omega,h3,by rw[Wu];exact b1,?_⟩⟩,hi.out.1⟩⟩
 ·rw[YQ,Su,Wy,Az];omega
 ·rw[List.toList_toArray,b2,e]
theorem TO (p m:Nat)(s1 s2:Sd)(o:Od)(id:Int)(w:World)(H:Bk w (some ⟨p,0,none⟩) (some m) s1 s2)(hwf:(Lit.int .i64 o.side).wf=true)
  (aC:Hid (∀W,Ok w W->Calls prog 172 #[.pointer (some ⟨p,0,none⟩),.int .u64 id] W λe w'=>e=.returned (.tuple #[QG (some o),.bool true])/\Hid (Ok W w')))
  (R:List Rw) (hR:Qu s1 s2 o.side=R) (hs:R.Pairwise (λa b=>Qf o.side a.pr b.pr=true))
  (hn:R.length<=1000) (k:Nat) (hk:atN o.side o.price R=k) (hkl:k<R.length) (hp:(R[k]!).pr=o.price) (hq:(R[k]!).q.Pairwise (λx y=>Qt x y=true)) (aU:(R[k]!).q.length<=1000) (i:Nat) (hi:plN o (R[k]!).q=i) (hil:i<(R[k]!).q.length) (h2:(R[k]!).q.length=1) :
  Calls prog 176 #[.pointer (some ⟨p,0,none⟩),.int .u64 id] w λe w'=>e=.returned (.tuple #[QG (some o),.bool true])/\∃v2,Hid (w'.ownsRow 0 247 2 v2 (R.length-1) (rl (R.take k++R.drop (k+1)))/\w'.ownsMap prog 3 RV m 3 ((QC s1 s2).put (.int .i64 o.side) (.held v2)) /\
   Fr (λj=>j=m∨(Ze s1 s2 o.side).ownBlock=some j∨(R[k]!).v.ownBlock=some j) w w'/\v2.ownBlock=(Ze s1 s2 o.side).ownBlock):=by
 have mixed:prog.follows .mixedOrders=true:=by kernel_rfl
 have hmem:R[k]!∈s1.rs++s2.rs:=by
  rw[Sj R k hkl];exact JU (by rw[hR];exact Wt hkl)
 obtain⟨Q,fD⟩:∃Q,(R[k]!).q=Q:=⟨_,rfl⟩
 obtain⟨V,cZ⟩:∃V,(R[k]!).v=V:=⟨_,rfl⟩
 rw[fD]at hq aU hi hil h2
 rw[cZ]
 obtain⟨qn,cG⟩:∃qn,Q.length=qn:=⟨_,rfl⟩
 rw[cG]at aU hil h2
 have hown0:=H.own o.side
 rw[hR]at hown0
 obtain⟨g,c,hv,_,_⟩:=Kz hown0 hkl
 clear hown0
 have dD:=H.q _ hmem
 rw[fD,cZ,cG]at dD
 obtain⟨g2,qc,cur,cE,hg2⟩:∃g2 qc cur,V=.slice (some ⟨g2,0,none⟩) qn qc/\w.heap[g2]? = some (.cells cur 38 (0,0))/\qn<=qc/\qc<=maxLen/\cur.size=qc*6/\cur.toList.take (qn*6)=ol Q:=by
  rcases dD.2 with ⟨_,h0⟩ | ⟨g2,cap,cur,e,_,h1,h2,h3,h4,h5⟩
  ·omega
  ·exact⟨g2,cap,cur,e,h1,h2,h3,h4,h5⟩
 have hgl:g<w.heap.size:=by
  obtain⟨A,c',hv',_,hf⟩:=H.rows o.side;rw[hR]at hv' hf;rw[hv]at hv';injection hv' with e1 e2 e3;exact H.lt (hf g e1.symm Oz)
 have HH:=Ou H
 have HG:=Ou hgl
 have kZ:=Ou hg2
 have bF:Hid (∀W,Ok w W->(W.cell? ⟨p,0,none⟩=some (.map (some m)))/\W.ownsRow 0 247 2 (.slice (some ⟨g,0,none⟩) R.length c) R.length (rl R)/\W.ownsRow 0 38 6 (.slice (some ⟨g2,0,none⟩) qn qc) qn (ol Q)/\W.cell? ⟨g,k*2,none⟩=some (.int .i64 o.price)/\W.cell? ⟨g,k*2+1,none⟩=some (.slice (some ⟨g2,0,none⟩) qn qc)):=λW hW=>by
  have hB:=HH.out.below hW;have hown:=hB.own o.side;rw[hR]at hown;obtain⟨g',c',hv',hc1,hc2⟩:=Kz hown hkl;rw[hv]at hv' hown;injection hv' with e1 e2 e3;injection e1 with e1;injection e1 with e1;subst e1;have fU:=hB.q _ hmem;rw[fD,cZ,cE,cG]at fU;refine⟨?_,hown,fU,by rw[hc1,hp],by rw[hc2,cZ,cE]⟩;rcases hB.shape with ⟨h,_⟩ | ⟨pp,hb,hp⟩
  ·cases h
  ·injection hb with hb';injection hb' with hb'';subst hb'';rw[cell_of_row _ _ _ _ _ _ hp];rfl
 have HF:Hid (∀W,Ok w W->Calls prog 181 #[.slice (some ⟨g,0,none⟩) R.length c,.int .i64 o.side,.int .i64 o.price] W λe w'=>e=.returned (.tuple #[.int .i64 (k:Nat),.bool true])/\Gw W w'):=λW hW=>by
  have:=Vg (some ⟨g,0,none⟩) R.length c R o.side o.price W ?_ hs hn
  ·rw[hk,Sy hkl,hp]at this;simpa using this
  ·obtain⟨A,c',hv',hr⟩:=Ku (bF.out W hW).2.1;injection hv' with e1 e2 e3;rw[e1];exact hr
 have HP:Hid (∀W,Ok w W->Calls prog 182 #[.slice (some ⟨g2,0,none⟩) qn qc,.agg #[.int .u64 o.id,.int .i64 o.acc,.int .i64 o.side,.int .i64 o.price,.int .i64 o.qty,.int .u64 o.seq]] W λe w'=>e=.returned (.int .i64 (i:Nat))/\Gw W w'):=λW hW=>by
  have:=VO (some ⟨g2,0,none⟩) qn qc Q o W ?_ hq aU
  ·rw[hi]at this;exact this
  ·obtain⟨A,c',hv',hr⟩:=Z1 (bF.out W hW).2.2.1;injection hv' with e1 e2 e3;rw[e1];exact hr
 have HD:Hid (∀W,Ok w W->Calls prog 183 #[.slice (some ⟨g2,0,none⟩) qn qc,.int .i64 i,.int .i64 ((i:Int)+1)] W λe w'=>e=.returned (.slice (some ⟨g2,0,none⟩) (qn-1) qc)/\Hid (VZ W w' (.slice (some ⟨g2,0,none⟩) qn qc) (.slice (some ⟨g2,0,none⟩) (qn-1) qc) (qn-1) (Q.eraseIdx i))):=λW hW=>by
  obtain⟨a1,a2,a3,a4,a5⟩:=kZ.out;have hg:=(hW.block _ (Qc a1)).trans a1;refine(TH W g2 qn qc i cur.toList (by rw[Pw];exact hg) (by simpa using a4) a2 hil a3 (by rw[a5];exact Kr Q)).mono ?_;rintro e w' ⟨rfl,h⟩;exact⟨rfl,Ou (TI cG hil hg a2 a3 a4 a5 h.out)⟩
 have hlk:=λq W (hW:Ok w W)=>Vi ((HH.out.below (hW.trans (QJ ((Oq _ _).mono hW.size) q))).mp m rfl) HH.out.t1 HH.out.t2 o.side hwf
 rw[hv]at hlk
 have sO:=Ou hlk
 have HV:=Ou (Sv hv (Sv cE (Sv cG hmem)))
 have HK:=Ou (Sv hkl hp)
 obtain⟨n1,lU⟩:∃n1,qn-1=n1:=⟨_,rfl⟩
 obtain rfl:n1=0:=by omega
 rw[lU]at HD
 have HWF:=Ou hwf
 have HRN:=Ou hn
 clear lU h2
 have HC:Hid ((rl R)[k*2+1]? = some (.slice (some ⟨g2,0,none⟩) qn qc)):=by
  have:=JR R k 1 hkl Oz;rw[this,<-cE,<-cZ];rfl
 clear H hs hn hwf hmem hgl hg2 hlk dD hk hi hq
 obtain⟨W0,hW0⟩:∃W0,w.alloc (.cells (OC ⟨0,0,0,0,0,0⟩) 38)=W0:=⟨_,rfl⟩
 have bN:Hid (Ok w W0):=by rw[<-hW0];exact(Oq _ _).alloc (Sq _) _
 have fQ:Hid (Cl 38 W0 w.heap.size (OC ⟨0,0,0,0,0,0⟩)):=by rw[<-hW0];exact Qe rfl
 obtain⟨rb,yA⟩:∃rb,w.heap.size=rb:=⟨_,rfl⟩
 go_enter func176,ntmps176
 go_wp2_with ((with_reducible refine(aC.out _ bN.out).mono ?_);rintro e w1 ⟨rfl,hb1⟩;dsimp only[QG])
 obtain⟨W1,hW1⟩:∃W1,w1.alloc (.cells (OC o) 38)=W1:=⟨_,rfl⟩
 have aN:Hid (Ok w W1):=by rw[<-hW1];exact(bN.out.trans (hb1.out.mono bN.out.size)).alloc (Sk bN.out.size hb1.out.size) _
 have aT:Cl 38 W1 w1.heap.size (OC o):=by rw[<-hW1];exact Qe rfl
 have iE:Cl 38 W1 w.heap.size (OC ⟨0,0,0,0,0,0⟩):=by rw[<-hW1];exact Qp (Qc ((hb1.out.block _ (Qc fQ.out)).trans fQ.out)) ((hb1.out.block _ (Qc fQ.out)).trans fQ.out)
 have jY:Hid (w.heap.size<w1.heap.size):=Ww (Qc fQ.out) hb1.out.size
 rw[hW1]
 obtain⟨ob,dO⟩:∃ob,w1.heap.size=ob:=⟨_,rfl⟩
 rw[dO]at aT jY ⊢
 rw[yA]at iE jY
 obtain⟨x0,x1,x2,x3,x4,x5⟩:=Qm aT
 have hpc:=(bF.out W1 aN.out).1
 have hlk:=λq=>sO.out q W1 aN.out
 clear dO hW1 hb1 aC bN fQ hW0
 clear w1 W0
 go_quiet (fail)
 go_wp2_with ((with_reducible refine(HF.out _ (QJ aN.out _)).mono ?_);rintro e w2 ⟨rfl,k2⟩;have aG:Hid (Ok w w2):=(QJ aN.out _).trans (k2.b.mono (QJ aN.out _).size);have eO:Cl 38 w2 ob (OC o):=Cl.gw (X:=W1.drewN _) aT k2;have uF:Cl 38 w2 rb (OC ⟨0,0,0,0,0,0⟩):=Cl.gw (X:=W1.drewN _) iE k2;clear x0 x1 x2 x3 x4 x5 hpc hlk)
 clear aT iE k2 aN
 clear W1
 have aM:Hid (∀W,Gw w2 W->Cl 38 W ob (OC o)):=λW hW=>eO.gw hW
 have lH:Hid (∀W,Gw w2 W->Cl 38 W rb (OC ⟨0,0,0,0,0,0⟩)):=λW hW=>uF.gw hW
 have kM:Hid (∀W,Gw w2 W->Ok w W):=λW hW=>aG.out.trans (hW.b.mono aG.out.size)
 clear eO uF
 refine wp_region_held_drew (S:=λW=>Gw w2 W) Ow (by exact⟨(Oq _ _).drew,Fq _⟩) (λhHeld=>?_)
 refine tkA 0 ?_
 refine tkA 1 ?_
 refine tkA 2 ?_
 refine tkH 3 ?_ ?_ Ov ?_
 rotate_left
 ·(intro w hSw;have hs:=(bF.out _ (kM.out _ hSw)).2.2.2.2;(try dsimp only at hSw);go_simp;try with_reducible rfl)
 (try simp only[zz])
 refine tkH 4 ?_ ?_ Ov ?_
 rotate_left
 ·(intro w hSw;obtain⟨hs0,hs1,hs2,hs3,hs4,hs5⟩:=Qm (aM.out _ hSw);(try dsimp only at hSw);go_simp;try with_reducible rfl)
 (try simp only[zz])
 refine rdH 5 (λK hK=>?_)
 go_simp
 ((with_reducible refine(HP.out _ (kM.out _ hHeld)).mono ?_);rintro e w3 ⟨rfl,k3⟩)
 refine hK.out _ _ (by exact hHeld.trans k3) (λhHeld=>?_)
 clear hK K
 (try simp only[zz])
 refine tkA 6 ?_
 (try simp only[zz])
 refine wpAnyH_done Ow ?_ _
 have fR:Hid (ob≠g/\some ob≠(Value.slice (some ⟨g2,0,none⟩) qn qc).ownBlock/\rb≠g/\some rb≠(Value.slice (some ⟨g2,0,none⟩) qn qc).ownBlock):=by
  have a:=HG.out;have b:=Qc kZ.out.1;have c:=jY.out;refine⟨by omega,λe=>?_,by omega,λe=>?_⟩<;>(injection e with e;(try simp only at e);omega)
 have z0:=(bF.out _ (kM.out _ hHeld)).2.2.2.2
 go_wp2_with ((with_reducible refine(HD.out _ (kM.out _ hHeld)).mono ?_);rintro e w5 ⟨rfl,hI⟩;have z5:w5.cell? ⟨g,k*2+1,none⟩=some (.slice (some ⟨g2,0,none⟩) qn qc):=(Ji (KX (bF.out _ aG.out).2.1 (bF.out _ aG.out).2.2.1 hHeld hI.out) rfl HC.out).1;have f5:w5.frozen? ⟨g,k*2+1,none⟩=false:=(Ji (KX (bF.out _ aG.out).2.1 (bF.out _ aG.out).2.2.1 hHeld hI.out) rfl HC.out).2;have tY:Cl 38 (w5.setCell ⟨g,k*2+1,none⟩ (.slice (some ⟨g2,0,none⟩) 0 qc)) ob (OC o):=(QL (a:=⟨g,k*2+1,none⟩) fR.out.1).trans ((hI.out.2.1.block _ (Qc (aM.out _ hHeld)) fR.out.2.1).trans (aM.out _ hHeld));have kD:Cl 38 (w5.setCell ⟨g,k*2+1,none⟩ (.slice (some ⟨g2,0,none⟩) 0 qc)) rb (OC ⟨0,0,0,0,0,0⟩):=(QL (a:=⟨g,k*2+1,none⟩) fR.out.2.2.1).trans ((hI.out.2.1.block _ (Qc (lH.out _ hHeld)) fR.out.2.2.2).trans (lH.out _ hHeld));have tJ:=Ou kD;have o9:=Ou (TJ HK.out.1 HK.out.2 (bF.out _ aG.out).2.1 (bF.out _ aG.out).2.2.1 aG.out hHeld hI.out);have c6:(w5.setCell ⟨g,k*2+1,none⟩ (.slice (some ⟨g2,0,none⟩) 0 qc)).cell? ⟨g,k*2+1,none⟩=some (.slice (some ⟨g2,0,none⟩) 0 qc):=(Ji (JE (j:=k*2+1) (u:=(.slice (some ⟨g2,0,none⟩) 0 qc)) (KX (bF.out _ aG.out).2.1 (bF.out _ aG.out).2.2.1 hHeld hI.out) rfl) rfl (List.getElem?_set_self (List.getElem?_eq_some_iff.1 HC.out).1)).1;clear z0 hI)
 obtain⟨W6,hW6⟩:∃W6,w5.setCell ⟨g,k*2+1,none⟩ (.slice (some ⟨g2,0,none⟩) 0 qc)=W6:=⟨_,rfl⟩
 rw[hW6]at tY tJ o9 c6 ⊢
 have zR:p≠g/\W6.cell? ⟨p,0,none⟩=some (.map (some m)):=by
  rcases HH.out.shape with ⟨h,_⟩ | ⟨pp,hb,hp⟩
  ·cases h
  ·injection hb with hb';injection hb' with hb'';subst hb'';have hw:=bF.out w (Oq _ _);refine⟨λe=>Qo hw.2.1 hp Ox (by rw[e];rfl),?_⟩
   have:=o9.out.2.2.blk hp (λh=>by
    rcases h with h|h
    ·exact Qo hw.2.1 hp Ox h
    ·exact Qo hw.2.2.1 hp Ox h)
   rw[cell_of_row _ _ _ _ _ _ this];rfl
 have HPG:=Ou zR.1
 have hp6:=zR.2
 have HM6:Hid (W6.drew.ownsMap prog 3 RV m 2 (QC s1 s2)/\m≠g):=by
  have hw:=bF.out w (Oq _ _);have hm:=HH.out.mp m rfl;obtain⟨c1,h1⟩:=Zf hw.2.1 rfl;obtain⟨c2,h2⟩:=Zf hw.2.2.1 rfl;refine⟨(QS hm o9.out.2.2 (λh=>?_)).drew,λe=>ZG hm h1 e.symm⟩;rcases h with h|h
  ·exact ZG hm h1 (Option.some.inj h)
  ·exact ZG hm h2 (Option.some.inj h)
 have sY:∀u∈rl (R.take k++(⟨o.price,(.slice (some ⟨g2,0,none⟩) 0 qc),Q.eraseIdx i⟩:Rw) :: R.drop (k+1)),u.oneCell'=true:=qgT (λr hr=>by
  have key:∀r∈R,r.v.oneCell'=true:=λr hr=>by
   obtain⟨A,c',hv,_⟩:=ZQ (HH.out.q r (JU (by rw[hR];exact hr)));rw[hv];rfl
  rcases List.mem_append.1 hr with hr|hr
  ·exact key r (Fx hr)
  ·rcases List.mem_cons.1 hr with rfl|hr
   ·rfl
   ·exact key r (Fy hr))
 have mH:=Ou (qgU HK.out.1 sY (show W6.drew.ownsRow _ _ _ _ _ _ from o9.out.2.1))
 have hkw:IntKind.i64.wrap ((k:Int)+1)=(k:Int)+1:=by
  rw[Wz];have h1:=HK.out.1;have h2:=HRN.out;omega
 clear zR hW6 c6 sY
 refine wp_region_held_drew (S:=λW=>Cl 38 W ob (OC o)/\W.cell? ⟨p,0,none⟩=some (.map (some m))) Ow (by exact⟨Qh tY,hp6⟩) (λhHeld=>?_)
 refine tkA 0 ?_
 refine tkA 1 ?_
 refine tkA 2 ?_
 refine tkH 3 ?_ ?_ Ov ?_
 rotate_left
 ·(intro w hSw;have hs:=hSw.2;(try dsimp only at hSw);go_simp;try with_reducible rfl)
 (try simp only[zz])
 refine tkA 4 ?_
 refine tkH 5 ?_ ?_ Ov ?_
 rotate_left
 ·(intro w hSw;obtain⟨hs0,hs1,hs2,hs3,hs4,hs5⟩:=Qm hSw.1;(try dsimp only at hSw);go_simp;try with_reducible rfl)
 (try simp only[zz])
 refine tkA 6 ?_
 refine tkA 7 ?_
 refine tkA 8 ?_
 refine tkA 9 ?_
 (try simp only[zz])
 refine rdH 10 (λK hK=>?_)
 go_simp
 ((with_reducible refine(mH.out).mono ?_);rintro e w7 ⟨rfl,h7⟩)
 have tZ:Cl 38 w7 ob (OC o):=(h7.out.2.block _ (Qc hHeld.1) (λe=>fR.out.1 (Option.some.inj e))).trans hHeld.1
 have hp7:w7.cell? ⟨p,0,none⟩=some (.map (some m)):=(World.cell?_of_block (w:=W6.drew) (a:=⟨p,0,none⟩) (h7.out.2.block p (World.block_lt_of_cell? W6.drew ⟨p,0,none⟩ hHeld.2) (λe=>HPG.out (Option.some.inj e)))).trans hHeld.2
 have gY:w7.ownsMap prog 3 RV m 2 (QC s1 s2):=by
  obtain⟨es,clock,hb,F,hs,hD⟩:=HM6.out.1;exact⟨es,clock,(h7.out.2.block m (Qc hb) (λe=>HM6.out.2 (Option.some.inj e))).trans hb,F,hs,hD⟩
 obtain⟨w8,hrun,nU,hturn⟩:=gY.store Vh underlying130 Ox (keyOf_int_mk underlying3 HWF.out) (show RV (.slice (some ⟨g,0,none⟩) (R.length-1) c)=some (.held (.slice (some ⟨g,0,none⟩) (R.length-1) c),[]) from rfl)
 have HT:=Ou (Sv nU hturn)
 clear nU hturn gY
 refine hK.out _ _ (by exact⟨tZ,hp7⟩) (λhHeld=>?_)
 clear hK K
 (try simp only[zz])
 refine rdH 11 (λK hK=>?_)
 go_simp
 refine hK.out _ _ (by exact⟨VX HT.out.2 hHeld.1,Tp HT.out.2 hHeld.2⟩) (λhHeld=>?_)
 clear hK K
 (try simp only[zz])
 refine wpAnyH_done Ow ?_ _
 have hO8:Cl 38 w8 ob (OC o):=hHeld.1
 have lK:Cl 38 w8 rb (OC ⟨0,0,0,0,0,0⟩):=VX HT.out.2 ((h7.out.2.block _ (Qc tJ.out) (λe=>fR.out.2.2.1 (Option.some.inj e))).trans tJ.out)
 have HZ8:=Ou lK
 have rV:Hid (Fr (λj=>j=m∨(Value.slice (some ⟨g,0,none⟩) R.length c).ownBlock=some j∨(Value.slice (some ⟨g2,0,none⟩) qn qc).ownBlock=some j) w w8):=by
  have f1:Fr (λj=>j=m∨(Value.slice (some ⟨g,0,none⟩) R.length c).ownBlock=some j∨(Value.slice (some ⟨g2,0,none⟩) qn qc).ownBlock=some j) w W6.drew:=(o9.out.2.2.mono (λj h=>.inl (.inr h))).drew;exact(f1.grown h7.out.2 (λj e=>.inl (.inr (.inl e)))).grown HT.out.2.grown (λj e=>.inl (.inl (Option.some.inj e).symm))
 obtain⟨x0,x1,x2,x3,x4,x5⟩:=Qm hO8
 obtain⟨z0',z1',z2',z3',z4',z5'⟩:=Qm lK
 have g0:=lK.f (k:=0)
 have g1:=lK.f (k:=1)
 have g2':=lK.f (k:=2)
 have g3:=lK.f (k:=3)
 have g4:=lK.f (k:=4)
 have g5:=lK.f (k:=5)
 clear hO8 lK hHeld hp7 tZ hrun hp6 tY z5 f5
 go_wp2_with fail
 have hf:=JW o HZ8.out
 refine bodyPost_ret (ZK rfl _ _ _ rfl o _ hf _ rfl) rfl ?_
 refine⟨rfl,.slice (some ⟨g,0,none⟩) (R.length-1) c,Ou ?_⟩
 (try rw[HV.out.1])
 (try rw[HV.out.2.1])
 have hne:=fR.out
 refine⟨Qi (UU HT.out.2 h7.out.1) (Vm _ rb o) (λj hj e=>?_),QS HT.out.1 (Vm _ rb o) (λe=>?_),rV.out.trans (Vm _ rb o) (λj e=>.inr Oz),rfl⟩
 ·injection hj with hj;exact hne.2.2.1 (by rw[<-e,<-hj])
 ·exact ZG HT.out.1 HZ8.out e.symm
structure TurnIs (w w':World) (p m:Nat) (s1 s2 s1' s2':Sd):Prop where
 wh:Whole w' p m s1' s2'
 fr:Fr (QI (some ⟨p,0,none⟩) (some m) s1 s2) w w'
 ft:∀k,QI (some ⟨p,0,none⟩) (some m) s1' s2' k->QI (some ⟨p,0,none⟩) (some m) s1 s2 k∨w.heap.size<=k
structure TakeIs (w w':World) (p m:Nat) (s1 s2 s1' s2':Sd) (o:Od):Prop where
 tu:TurnIs w w' p m s1 s2 s1' s2'
 perm:(Qa s1.rs s2.rs).Perm (o :: Qa s1'.rs s2'.rs)
 e2:o.side=1->s2'=s2
 e1:o.side=2->s1'=s1
theorem qgV (x:Od):Qt x x=false:=by
 cases h:Qt x x with
 | false=>rfl
 | true=>have:=VN h;rw[UA]at this;cases this
theorem Xd (s a:Int):Qf s a a=false:=by
 cases h:Qf s a a with
 | false=>rfl
 | true=>have:=(JS s a a).1 h;omega
theorem Xe {o:Od}{q:List Od}(hp:q.Pairwise (λx y=>Qt x y=true))(ho:o∈q):plN o q<q.length/\q[plN o q]! = o:=by
 obtain⟨h1,h2⟩:=YR (λx=>Qt x o) q (YU hp)
 have hd:o∈q.drop (plN o q):=by
  have:=ho;rw[<-Fz (plN o q) q]at this;rcases List.mem_append.1 this with h|h
  ·have h':Qt o o=true:=h1 o h;rw[qgV]at h';cases h'
  ·exact h
 cases e:q.drop (plN o q) with
 | nil=>rw[e]at hd;cases hd
 | cons y rest =>
  have hlt:plN o q<q.length:=by
   rcases Av (plN o q) q.length with h|h
   ·exact h
   ·rw[Ms h]at e;cases e
  refine⟨hlt,?_⟩;have hy:q[plN o q]! = y:=by
   rw[Sj q _ hlt];have:=Au hlt;rw[e]at this;injection this with a _;exact a.symm
  rw[hy];rw[e]at hd;rcases List.mem_cons.1 hd with h|h
  ·exact h.symm
  ·exfalso;have i4:(q.drop (plN o q)).Pairwise (λx y=>Qt x y=true):=List.Pairwise.sublist (List.drop_sublist _ _) hp;rw[e,Mk]at i4;have a:=i4.1 o h;have b:Qt y o=false:=h2 y (by show y∈q.drop (plN o q);rw[e];exact Eu);rw[a]at b;cases b
theorem Xf {s:Int}{o:Od}{R:List Rw}(hs:s=1∨s=2)(h:SideOk s R)(ho:o∈Qb R):atN s o.price R<R.length/\(R[atN s o.price R]!).pr=o.price/\o∈(R[atN s o.price R]!).q:=by
 obtain⟨r,hr,vE⟩:=List.mem_flatMap.1 ho
 have hp:r.pr=o.price:=(h.mem r hr o vE).2.symm
 obtain⟨h1,h2,h3,h4⟩:=Kv (p:=o.price) hs h.rows
 have hd:r∈R.drop (atN s o.price R):=by
  have:=hr;rw[<-Fz (atN s o.price R) R]at this;rcases List.mem_append.1 this with h'|h'
  ·have h'':=h1 r h';rw[hp,Xd]at h'';cases h''
  ·exact h'
 cases e:R.drop (atN s o.price R) with
 | nil=>rw[e]at hd;cases hd
 | cons y rest =>
  have hlt:atN s o.price R<R.length:=by
   rcases Av (atN s o.price R) R.length with h'|h'
   ·exact h'
   ·rw[Ms h']at e;cases e
  have hy:R[atN s o.price R]! = y:=by
   rw[Sj R _ hlt];have:=Au hlt;rw[e]at this;injection this with a _;exact a.symm
  rw[hy];rw[e]at hd;have hry:r=y:=by
   by_cases hyp:y.pr=o.price
   ·rcases List.mem_cons.1 hd with h'|h'
    ·exact h'
    ·have:=h4 y rest e hyp r h';rw[hp,Xd]at this;cases this
   ·have:=h3 y rest e hyp r hd;rw[hp,Xd]at this;cases this
  rw[<-hry];exact⟨hlt,hp,vE⟩
theorem Xg {q:List Od}{i:Nat}{o:Od}(h:i<q.length)(e:q[i]! = o):q.Perm (o :: q.eraseIdx i):=by
 rw[Sj q i h]at e
 have h1:q=q.take i++o :: q.drop (i+1):=by
  rw[<-e,<-Au h,Fz]
 rw[Rz]
 conv=>lhs;rw[h1]
 exact Ps
theorem KY:∀{L:List Od},L.Pairwise (λx y=>¬x.id=y.id)->∀{x y:Od},x∈L->y∈L->x.id=y.id->x=y
 | [],_,_,_,hx,_,_=>by cases hx
 | a :: L,h,x,y,hx,hy,e=>by
  rw[Mk]at h;rcases List.mem_cons.1 hx with rfl|hx'
  ·rcases List.mem_cons.1 hy with rfl|hy'
   ·rfl
   ·exact absurd e (h.1 y hy')
  ·rcases List.mem_cons.1 hy with rfl|hy'
   ·exact absurd e.symm (h.1 x hx')
   ·exact KY h.2 hx' hy' e
theorem TP {A B M X:List Rw}{o:Od}(h:(Qb M).Perm (o :: Qb X)):(Qb (A++M++B)).Perm (o :: Qb (A++X++B)):=by
 have e:∀Y:List Rw,Qb (A++Y++B)=Qb A++Qb Y++Qb B:=λY=>by unfold Qb;rw[Wv,Wv]
 rw[e,e]
 refine((h.append_left _).append_right _).trans ?_
 rw[St,Ew]
 refine List.perm_middle.trans ?_
 rw[St]
theorem TQ {w w':World}{p m:Nat}{s1 s2:Sd}{A B M X:List Rw}{v2:Value}(H:Whole w p m s1 s2)
  (hR:s1.rs=A++M++B) (hX:J9 w.heap.size M X) (hv2:v2.ownBlock=s1.v.ownBlock∨∃j,v2.ownBlock=some j/\w.heap.size<=j)
  (hx:∀r∈X,w'.ownsRow 0 38 6 r.v r.q.length (ol r.q)) (hr:w'.ownsRow 0 247 2 v2 (A++X++B).length (rl (A++X++B))) (hm:w'.ownsMap prog 3 RV m 2 (QC ⟨true,v2,A++X++B⟩ s2)) (hF:Fr (Ka m s1.v M) w w')
  (c1:SideOk 1 (A++X++B)) (cA:(Qa (A++X++B) s2.rs).Pairwise (λx y=>¬x.id=y.id)) (hlen:(Qa (A++X++B) s2.rs).length<=64) (jK:∀x∈Qa (A++X++B) s2.rs,Od.ok w x/\Qk x=true):TurnIs w w' p m s1 s2 ⟨true,v2,A++X++B⟩ s2:=by
 obtain⟨b1,b2,b3⟩:=Tv H hR hX hv2 hx hr hm hF
 refine⟨⟨b1,c1,H.ok2,b2,b3,cA,hlen,jK⟩,?_,?_⟩
 ·refine hF.mono (λk hk=>.inl ?_);rcases hk with rfl|e | ⟨r,hr,e⟩
  ·exact .inr (.inl rfl)
  ·exact .inr (.inr (.inl e))
  ·exact .inr (.inr (.inr (.inr ⟨r,Ws _ (by rw[hR];simp[hr]),e⟩)))
 ·intro k hk;have hn:∀u:Value,(u.ownBlock=s1.v.ownBlock∨∃j,u.ownBlock=some j/\w.heap.size<=j)->u.ownBlock=some k->QI (some ⟨p,0,none⟩) (some m) s1 s2 k∨w.heap.size<=k:=by
   intro u hu e;rcases hu with e' | ⟨j,e',hj⟩
   ·rw[e']at e;exact .inl (.inr (.inr (.inl e)))
   ·rw[e']at e;injection e with e;exact .inr Oz
  rcases hk with e|e|e|e | ⟨r,hr,e⟩
  ·exact .inl (.inl e)
  ·exact .inl (.inr (.inl e))
  ·exact hn v2 hv2 e
  ·exact .inl (.inr (.inr (.inr (.inl e))))
  ·have hr':r∈X∨r∈s1.rs++s2.rs:=by
    have hr2:r∈A++X++B++s2.rs:=hr;rw[hR];simp only[Fu]at hr2 ⊢;rcases hr2 with ((h|h)|h)|h
    ·exact .inr (.inl (.inl (.inl h)))
    ·exact .inl h
    ·exact .inr (.inl (.inr h))
    ·exact .inr (.inr h)
   rcases hr' with h|h
   ·rcases hX.2 with rfl | ⟨x,rfl,hx'⟩
    ·cases h
    ·obtain rfl:=List.mem_singleton.1 h;rcases hx' with ⟨y,rfl,e'⟩ | ⟨j,e',hj⟩
     ·rw[e']at e;exact .inl (.inr (.inr (.inr (.inr ⟨y,Ws _ (by rw[hR];simp),e⟩))))
     ·rw[e']at e;injection e with e;exact .inr Oz
   ·exact .inl (.inr (.inr (.inr (.inr ⟨r,h,e⟩))))
theorem TR {w w':World}{p m:Nat}{s1 s2:Sd}{A B M X:List Rw}{v2:Value}{o:Od}(H:Whole w p m s1 s2)(hs:o.side=1)
  (hR:s1.rs=A++M++B) (hX:J9 w.heap.size M X) (hv2:v2.ownBlock=s1.v.ownBlock∨∃j,v2.ownBlock=some j/\w.heap.size<=j)
  (hx:∀r∈X,w'.ownsRow 0 38 6 r.v r.q.length (ol r.q)) (hr:w'.ownsRow 0 247 2 v2 (A++X++B).length (rl (A++X++B))) (hm:w'.ownsMap prog 3 RV m 2 (QC ⟨true,v2,A++X++B⟩ s2)) (hF:Fr (Ka m s1.v M) w w')
  (c1:SideOk 1 (A++X++B)) (hP:(Qb M).Perm (o :: Qb X)):TakeIs w w' p m s1 s2 ⟨true,v2,A++X++B⟩ s2 o:=by
 have hperm:(Qa s1.rs s2.rs).Perm (o :: Qa (A++X++B) s2.rs):=by
  unfold Qa;rw[hR];exact(TP hP).append_right _
 have cA:=List.pairwise_cons.1 (Xb hperm.symm H.ids)
 have hl:=hperm.length_eq
 rw[Wq]at hl
 refine⟨TQ H hR hX hv2 hx hr hm hF c1 cA.2 (by have:=H.len;omega) (λx hx=>H.ok x (hperm.mem_iff.2 (Ev _ hx))),hperm,λ_=>rfl,(λh=>by rw[hs]at h;cases h)⟩
theorem TS {w w':World}{p m:Nat}{s1 s2:Sd}{A B M X:List Rw}{v2:Value}(H:Whole w p m s1 s2)
  (hR:s2.rs=A++M++B) (hX:J9 w.heap.size M X) (hv2:v2.ownBlock=s2.v.ownBlock∨∃j,v2.ownBlock=some j/\w.heap.size<=j)
  (hx:∀r∈X,w'.ownsRow 0 38 6 r.v r.q.length (ol r.q)) (hr:w'.ownsRow 0 247 2 v2 (A++X++B).length (rl (A++X++B))) (hm:w'.ownsMap prog 3 RV m 2 (QC s1 ⟨true,v2,A++X++B⟩)) (hF:Fr (Ka m s2.v M) w w')
  (c1:SideOk 2 (A++X++B)) (cA:(Qa s1.rs (A++X++B)).Pairwise (λx y=>¬x.id=y.id)) (hlen:(Qa s1.rs (A++X++B)).length<=64) (jK:∀x∈Qa s1.rs (A++X++B),Od.ok w x/\Qk x=true):TurnIs w w' p m s1 s2 s1 ⟨true,v2,A++X++B⟩:=by
 obtain⟨b1,b2,b3⟩:=Tx H hR hX hv2 hx hr hm hF
 refine⟨⟨b1,H.ok1,c1,b2,b3,cA,hlen,jK⟩,?_,?_⟩
 ·refine hF.mono (λk hk=>.inl ?_);rcases hk with rfl|e | ⟨r,hr,e⟩
  ·exact .inr (.inl rfl)
  ·exact .inr (.inr (.inr (.inl e)))
  ·exact .inr (.inr (.inr (.inr ⟨r,Wx _ (by rw[hR];simp[hr]),e⟩)))
 ·intro k hk;have hn:∀u:Value,(u.ownBlock=s2.v.ownBlock∨∃j,u.ownBlock=some j/\w.heap.size<=j)->u.ownBlock=some k->QI (some ⟨p,0,none⟩) (some m) s1 s2 k∨w.heap.size<=k:=by
   intro u hu e;rcases hu with e' | ⟨j,e',hj⟩
   ·rw[e']at e;exact .inl (.inr (.inr (.inr (.inl e))))
   ·rw[e']at e;injection e with e;exact .inr Oz
  rcases hk with e|e|e|e | ⟨r,hr,e⟩
  ·exact .inl (.inl e)
  ·exact .inl (.inr (.inl e))
  ·exact .inl (.inr (.inr (.inl e)))
  ·exact hn v2 hv2 e
  ·have hr':r∈X∨r∈s1.rs++s2.rs:=by
    have hr2:r∈s1.rs++(A++X++B):=hr;rw[hR];simp only[Fu]at hr2 ⊢;rcases hr2 with h|(h|h)|h
    ·exact .inr (.inl h)
    ·exact .inr (.inr (.inl (.inl h)))
    ·exact .inl h
    ·exact .inr (.inr (.inr h))
   rcases hr' with h|h
   ·rcases hX.2 with rfl | ⟨x,rfl,hx'⟩
    ·cases h
    ·obtain rfl:=List.mem_singleton.1 h;rcases hx' with ⟨y,rfl,e'⟩ | ⟨j,e',hj⟩
     ·rw[e']at e;exact .inl (.inr (.inr (.inr (.inr ⟨y,Wx _ (by rw[hR];simp),e⟩))))
     ·rw[e']at e;injection e with e;exact .inr Oz
   ·exact .inl (.inr (.inr (.inr (.inr ⟨r,h,e⟩))))
theorem TT {w w':World}{p m:Nat}{s1 s2:Sd}{A B M X:List Rw}{v2:Value}{o:Od}(H:Whole w p m s1 s2)(hs:o.side=2)
  (hR:s2.rs=A++M++B) (hX:J9 w.heap.size M X) (hv2:v2.ownBlock=s2.v.ownBlock∨∃j,v2.ownBlock=some j/\w.heap.size<=j)
  (hx:∀r∈X,w'.ownsRow 0 38 6 r.v r.q.length (ol r.q)) (hr:w'.ownsRow 0 247 2 v2 (A++X++B).length (rl (A++X++B))) (hm:w'.ownsMap prog 3 RV m 2 (QC s1 ⟨true,v2,A++X++B⟩)) (hF:Fr (Ka m s2.v M) w w')
  (c1:SideOk 2 (A++X++B)) (hP:(Qb M).Perm (o :: Qb X)):TakeIs w w' p m s1 s2 s1 ⟨true,v2,A++X++B⟩ o:=by
 have hperm:(Qa s1.rs s2.rs).Perm (o :: Qa s1.rs (A++X++B)):=by
  unfold Qa;rw[hR];exact((TP hP).append_left _).trans Ps
 have cA:=List.pairwise_cons.1 (Xb hperm.symm H.ids)
 have hl:=hperm.length_eq
 rw[Wq]at hl
 refine⟨TS H hR hX hv2 hx hr hm hF c1 cA.2 (by have:=H.len;omega) (λx hx=>H.ok x (hperm.mem_iff.2 (Ev _ hx))),hperm,(λh=>by rw[hs]at h;cases h),λ_=>rfl⟩
theorem qgW (p m:Nat)(s1 s2:Sd)(o:Od)(id:Int)(w:World)(H:Whole w p m s1 s2)(ho:o∈Qa s1.rs s2.rs)(hid:o.id=id)(hs:o.side=1) :
  Calls prog 176 #[.pointer (some ⟨p,0,none⟩),.int .u64 id] w λe w'=>e=.returned (.tuple #[QG (some o),.bool true])/\∃s1' s2',Hid (TakeIs w w' p m s1 s2 s1' s2' o):=by
 have hwf:(Lit.int .i64 o.side).wf=true:=by rw[hs];decide
 have hR:Qu s1 s2 o.side=s1.rs:=by rw[hs];rfl
 have hv:Ze s1 s2 o.side=s1.v:=by rw[hs];rfl
 have hpw:s1.rs.Pairwise (λa b=>Qf o.side a.pr b.pr=true):=by rw[hs];exact H.ok1.rows
 have hn:=H.n1
 have aC:Hid (∀W,Ok w W->Calls prog 172 #[.pointer (some ⟨p,0,none⟩),.int .u64 id] W λe w'=>e=.returned (.tuple #[QG (some o),.bool true])/\Hid (Ok W w')):=λW hW=>by
  refine(Kx _ _ s1 s2 id W (H.bk.below hW) Oz Oz Oz).mono ?_;rintro e w' ⟨r,rfl,h⟩;obtain rfl:r=some o:=by
   cases r with
   | none=>exact absurd hid (h.out.1 o ho)
   | some y=>rw[KY H.ids h.out.1.1 ho (h.out.1.2.trans hid.symm)]
  exact⟨rfl,Ou h.out.2⟩
 have hfl:o∈Qb s1.rs:=by
  unfold Qa at ho;rcases List.mem_append.1 ho with h|h
  ·exact h
  ·have:=Z9 H.ok2 o h;rw[hs]at this;cases this
 obtain⟨hkl,hp,gZ⟩:=Xf (.inl rfl) H.ok1 hfl
 obtain⟨k,hk⟩:∃k,atN 1 o.price s1.rs=k:=⟨_,rfl⟩
 rw[hk]at hkl hp gZ
 have hk':atN o.side o.price s1.rs=k:=by rw[hs];exact hk
 have hmem:s1.rs[k]!∈s1.rs:=by rw[Sj s1.rs k hkl];exact Wt hkl
 have aU:(s1.rs[k]!).q.length<=1000:=by
  have h1:(s1.rs[k]!).q.length<=Q5 (s1.rs++s2.rs):=JV (x:=⟨s1.rs[k]!,Ws _ hmem⟩);omega
 have fL:=H.ok1.que _ hmem
 obtain⟨hil,dI⟩:=Xe fL gZ
 obtain⟨i,hi⟩:∃i,plN o (s1.rs[k]!).q=i:=⟨_,rfl⟩
 rw[hi]at hil dI
 have hsp:=Vl s1.rs k hkl
 have eI:SideOk 1 (s1.rs.take k++[s1.rs[k]!]++s1.rs.drop (k+1)):=by rw[<-hsp];exact H.ok1
 have aS:s1.there=true:=(Vk H).1 (λe=>by rw[e]at hkl;exact absurd hkl (Ax _))
 have pH:=Xg hil dI
 have aL:=Kv (s:=1) (p:=o.price) (.inl rfl) H.ok1.rows
 rw[hk]at aL
 by_cases h2:2<=(s1.rs[k]!).q.length
 ·refine(TN p m s1 s2 o id w H.bk hwf aC s1.rs hR hpw Oz k hk' hkl hp fL aU i hi hil h2).mono λe w' ⟨he,v',hh⟩=>⟨he,?_⟩
  obtain⟨h1,h2',h3,h4⟩:=hh.out;rw[hv]at h2' h3;have bZ:s1.rs.take k++(⟨o.price,v',(s1.rs[k]!).q.eraseIdx i⟩:Rw) :: s1.rs.drop (k+1)=s1.rs.take k++[⟨o.price,v',(s1.rs[k]!).q.eraseIdx i⟩]++s1.rs.drop (k+1):=by rw[St];rfl
  have hmm:w'.ownsMap prog 3 RV m 2 (QC s1 s2):=QS (H.bk.mp m rfl) h3 (λhS=>by
   rcases hS with e|e
   ·obtain⟨cs,hcs⟩:=Zf H.bk.r1 e;exact ZG (H.bk.mp m rfl) hcs rfl
   ·obtain⟨cs,hcs⟩:=Zf (H.bk.q _ (Ws _ hmem)) e
    exact ZG (H.bk.mp m rfl) hcs rfl)
  have jS:SideOk 1 (s1.rs.take k++(⟨o.price,v',(s1.rs[k]!).q.eraseIdx i⟩:Rw) :: s1.rs.drop (k+1)) :=
   KS (p:=o.price) aL.1 (λb hb=>aL.2.2.2 _ _ (by rw[Sj s1.rs k hkl];exact Au hkl) hp b hb) eI rfl (by intro e;have:=congrArg List.length e;rw[Ry,Sx hil]at this;simp only[Nx]at this;omega)
    (λx hx=>by rw[<-hp];exact H.ok1.mem _ hmem x ((Rv _ _).subset hx)) (fL.sublist (Rv _ _))
  rw[bZ]at h2' jS;refine⟨_,_,Ou (TR (v2:=s1.v) H hs hsp ⟨.inr ⟨_,rfl⟩,.inr ⟨_,rfl,.inl ⟨_,rfl,h4⟩⟩⟩ (.inl rfl) (λr hr=>?_) ?_ ?_ ?_ jS ?_)⟩
  ·rw[List.mem_singleton.1 hr];show w'.ownsRow 0 38 6 v' ((s1.rs[k]!).q.eraseIdx i).length _;rw[Ry,Sx hil];exact h1
  ·rw[<-bZ,KV _ _ hkl,bZ];exact h2'
  ·have:QC ⟨true,s1.v,s1.rs.take k++[⟨o.price,v',(s1.rs[k]!).q.eraseIdx i⟩]++s1.rs.drop (k+1)⟩ s2=QC s1 s2:=by
    unfold QC;rw[aS]
   rw[this];exact hmm
  ·refine h3.mono (λj hj=>.inl ?_);rcases hj with e|e
   ·exact .inr (.inl e)
   ·exact .inr (.inr ⟨_,List.mem_singleton.2 rfl,e⟩)
  ·unfold Qb;simpa using pH
 ·have hq1:(s1.rs[k]!).q.length=1:=by omega
  refine(TO p m s1 s2 o id w H.bk hwf aC s1.rs hR hpw Oz k hk' hkl hp fL aU i hi hil hq1).mono λe w' ⟨he,v2,hh⟩=>⟨he,?_⟩
  obtain⟨h1,h2',h3,h4⟩:=hh.out;rw[hv]at h3 h4;rw[hs,CX s1 s2 v2 (s1.rs.take k++[]++s1.rs.drop (k+1))]at h2';have hnil:(s1.rs[k]!).q.eraseIdx i=[]:=List.length_eq_zero_iff.1 (by rw[Ry,Sx hil];omega);refine⟨_,_,Ou (TR (X:=[]) (v2:=v2) H hs hsp ⟨.inr ⟨_,rfl⟩,.inl rfl⟩ (.inl h4) (λr hr=>by cases hr) ?_ (YW h2') ?_ ?_ ?_)⟩
  ·have gX:(s1.rs.take k++[]++s1.rs.drop (k+1)).length=s1.rs.length-1:=by
    simp only[Mq,Su,Wy,Az];omega
   rw[gX,Mq];exact h1
  ·refine h3.mono (λj hj=>.inl ?_);rcases hj with e|e|e
   ·exact .inl e
   ·exact .inr (.inl e)
   ·exact .inr (.inr ⟨_,List.mem_singleton.2 rfl,e⟩)
  ·rw[Mq];exact UD eI
  ·rw[hnil]at pH;unfold Qb;simpa using pH
theorem qgX (p m:Nat)(s1 s2:Sd)(o:Od)(id:Int)(w:World)(H:Whole w p m s1 s2)(ho:o∈Qa s1.rs s2.rs)(hid:o.id=id)(hs:o.side=2) :
  Calls prog 176 #[.pointer (some ⟨p,0,none⟩),.int .u64 id] w λe w'=>e=.returned (.tuple #[QG (some o),.bool true])/\∃s1' s2',Hid (TakeIs w w' p m s1 s2 s1' s2' o):=by
 have hwf:(Lit.int .i64 o.side).wf=true:=by rw[hs];decide
 have hR:Qu s1 s2 o.side=s2.rs:=by rw[hs];rfl
 have hv:Ze s1 s2 o.side=s2.v:=by rw[hs];rfl
 have hpw:s2.rs.Pairwise (λa b=>Qf o.side a.pr b.pr=true):=by rw[hs];exact H.ok2.rows
 have hn:=H.n1
 have aC:Hid (∀W,Ok w W->Calls prog 172 #[.pointer (some ⟨p,0,none⟩),.int .u64 id] W λe w'=>e=.returned (.tuple #[QG (some o),.bool true])/\Hid (Ok W w')):=λW hW=>by
  refine(Kx _ _ s1 s2 id W (H.bk.below hW) Oz Oz Oz).mono ?_;rintro e w' ⟨r,rfl,h⟩;obtain rfl:r=some o:=by
   cases r with
   | none=>exact absurd hid (h.out.1 o ho)
   | some y=>rw[KY H.ids h.out.1.1 ho (h.out.1.2.trans hid.symm)]
  exact⟨rfl,Ou h.out.2⟩
 have hfl:o∈Qb s2.rs:=by
  unfold Qa at ho;rcases List.mem_append.1 ho with h|h
  ·have:=Z9 H.ok1 o h;rw[hs]at this;cases this
  ·exact h
 obtain⟨hkl,hp,gZ⟩:=Xf (.inr rfl) H.ok2 hfl
 obtain⟨k,hk⟩:∃k,atN 2 o.price s2.rs=k:=⟨_,rfl⟩
 rw[hk]at hkl hp gZ
 have hk':atN o.side o.price s2.rs=k:=by rw[hs];exact hk
 have hmem:s2.rs[k]!∈s2.rs:=by rw[Sj s2.rs k hkl];exact Wt hkl
 have aU:(s2.rs[k]!).q.length<=1000:=by
  have h1:(s2.rs[k]!).q.length<=Q5 (s1.rs++s2.rs):=JV (x:=⟨s2.rs[k]!,Wx _ hmem⟩);omega
 have fL:=H.ok2.que _ hmem
 obtain⟨hil,dI⟩:=Xe fL gZ
 obtain⟨i,hi⟩:∃i,plN o (s2.rs[k]!).q=i:=⟨_,rfl⟩
 rw[hi]at hil dI
 have hsp:=Vl s2.rs k hkl
 have eI:SideOk 2 (s2.rs.take k++[s2.rs[k]!]++s2.rs.drop (k+1)):=by rw[<-hsp];exact H.ok2
 have aS:s2.there=true:=(Vk H).2 (λe=>by rw[e]at hkl;exact absurd hkl (Ax _))
 have pH:=Xg hil dI
 have aL:=Kv (s:=2) (p:=o.price) (.inr rfl) H.ok2.rows
 rw[hk]at aL
 by_cases h2:2<=(s2.rs[k]!).q.length
 ·refine(TN p m s1 s2 o id w H.bk hwf aC s2.rs hR hpw Oz k hk' hkl hp fL aU i hi hil h2).mono λe w' ⟨he,v',hh⟩=>⟨he,?_⟩
  obtain⟨h1,h2',h3,h4⟩:=hh.out;rw[hv]at h2' h3;have bZ:s2.rs.take k++(⟨o.price,v',(s2.rs[k]!).q.eraseIdx i⟩:Rw) :: s2.rs.drop (k+1)=s2.rs.take k++[⟨o.price,v',(s2.rs[k]!).q.eraseIdx i⟩]++s2.rs.drop (k+1):=by rw[St];rfl
  have hmm:w'.ownsMap prog 3 RV m 2 (QC s1 s2):=QS (H.bk.mp m rfl) h3 (λhS=>by
   rcases hS with e|e
   ·obtain⟨cs,hcs⟩:=Zf H.bk.r2 e;exact ZG (H.bk.mp m rfl) hcs rfl
   ·obtain⟨cs,hcs⟩:=Zf (H.bk.q _ (Wx _ hmem)) e
    exact ZG (H.bk.mp m rfl) hcs rfl)
  have jS:SideOk 2 (s2.rs.take k++(⟨o.price,v',(s2.rs[k]!).q.eraseIdx i⟩:Rw) :: s2.rs.drop (k+1)) :=
   KS (p:=o.price) aL.1 (λb hb=>aL.2.2.2 _ _ (by rw[Sj s2.rs k hkl];exact Au hkl) hp b hb) eI rfl (by intro e;have:=congrArg List.length e;rw[Ry,Sx hil]at this;simp only[Nx]at this;omega)
    (λx hx=>by rw[<-hp];exact H.ok2.mem _ hmem x ((Rv _ _).subset hx)) (fL.sublist (Rv _ _))
  rw[bZ]at h2' jS;refine⟨_,_,Ou (TT (v2:=s2.v) H hs hsp ⟨.inr ⟨_,rfl⟩,.inr ⟨_,rfl,.inl ⟨_,rfl,h4⟩⟩⟩ (.inl rfl) (λr hr=>?_) ?_ ?_ ?_ jS ?_)⟩
  ·rw[List.mem_singleton.1 hr];show w'.ownsRow 0 38 6 v' ((s2.rs[k]!).q.eraseIdx i).length _;rw[Ry,Sx hil];exact h1
  ·rw[<-bZ,KV _ _ hkl,bZ];exact h2'
  ·have:QC s1 ⟨true,s2.v,s2.rs.take k++[⟨o.price,v',(s2.rs[k]!).q.eraseIdx i⟩]++s2.rs.drop (k+1)⟩=QC s1 s2:=by
    unfold QC;rw[aS]
   rw[this];exact hmm
  ·refine h3.mono (λj hj=>.inl ?_);rcases hj with e|e
   ·exact .inr (.inl e)
   ·exact .inr (.inr ⟨_,List.mem_singleton.2 rfl,e⟩)
  ·unfold Qb;simpa using pH
 ·have hq1:(s2.rs[k]!).q.length=1:=by omega
  refine(TO p m s1 s2 o id w H.bk hwf aC s2.rs hR hpw Oz k hk' hkl hp fL aU i hi hil hq1).mono λe w' ⟨he,v2,hh⟩=>⟨he,?_⟩
  obtain⟨h1,h2',h3,h4⟩:=hh.out;rw[hv]at h3 h4;rw[hs,CY s1 s2 v2 (s2.rs.take k++[]++s2.rs.drop (k+1))]at h2';have hnil:(s2.rs[k]!).q.eraseIdx i=[]:=List.length_eq_zero_iff.1 (by rw[Ry,Sx hil];omega);refine⟨_,_,Ou (TT (X:=[]) (v2:=v2) H hs hsp ⟨.inr ⟨_,rfl⟩,.inl rfl⟩ (.inl h4) (λr hr=>by cases hr) ?_ (YW h2') ?_ ?_ ?_)⟩
  ·have gX:(s2.rs.take k++[]++s2.rs.drop (k+1)).length=s2.rs.length-1:=by
    simp only[Mq,Su,Wy,Az];omega
   rw[gX,Mq];exact h1
  ·refine h3.mono (λj hj=>.inl ?_);rcases hj with e|e|e
   ·exact .inl e
   ·exact .inr (.inl e)
   ·exact .inr (.inr ⟨_,List.mem_singleton.2 rfl,e⟩)
  ·rw[Mq];exact UD eI
  ·rw[hnil]at pH;unfold Qb;simpa using pH
theorem TU (p m:Nat)(s1 s2:Sd)(o:Od)(id:Int)(w:World)(H:Whole w p m s1 s2)(ho:o∈Qa s1.rs s2.rs)(hid:o.id=id) :
  Calls prog 176 #[.pointer (some ⟨p,0,none⟩),.int .u64 id] w λe w'=>e=.returned (.tuple #[QG (some o),.bool true])/\∃s1' s2',Hid (TakeIs w w' p m s1 s2 s1' s2' o):=by
 rcases Vj (H.ok o ho).2 with h|h
 ·exact qgW p m s1 s2 o id w H ho hid h
 ·exact qgX p m s1 s2 o id w H ho hid h
def Qz (o:Od)(qty:Int):Od:=⟨o.id,o.acc,o.side,o.price,o.qty-qty,o.seq⟩
theorem qgY {q:List Od}{i:Nat}{o:Od}{qty:Int}(h:i<q.length)(e:q[i]! = o):(ol q).set (i*6+4) (.int .i64 (o.qty-qty))=ol (q.set i (Qz o qty)):=by
 rw[Sj q i h]at e
 have e1:q=q.take i++o :: q.drop (i+1):=by
  rw[<-e,<-Au h,Fz]
 have e2:q.set i (Qz o qty)=q.take i++Qz o qty :: q.drop (i+1):=List.set_eq_take_append_cons_drop.trans (Sx h)
 have hl:(ol (q.take i)).length=i*6:=by rw[Jg,Wy,Pz (Lx h)]
 conv=>lhs;rw[e1]
 rw[e2,Ky,Ky,List.set_append,Sw (by omega)]
 congr 1
 rw[hl,show i*6+4-i*6=4 by omega]
 rfl
theorem TV (p m:Nat)(s1 s2:Sd)(o:Od)(id:Int)(w:World)(H:Bk w (some ⟨p,0,none⟩) (some m) s1 s2)(hwf:(Lit.int .i64 o.side).wf=true)
  (aC:Hid (∀W,Ok w W->Calls prog 172 #[.pointer (some ⟨p,0,none⟩),.int .u64 id] W λe w'=>e=.returned (.tuple #[QG (some o),.bool true])/\Hid (Ok W w')))
  (R:List Rw) (hR:Qu s1 s2 o.side=R) (hs:R.Pairwise (λa b=>Qf o.side a.pr b.pr=true))
  (hn:R.length<=1000) (k:Nat) (hk:atN o.side o.price R=k) (hkl:k<R.length) (hp:(R[k]!).pr=o.price) (hq:(R[k]!).q.Pairwise (λx y=>Qt x y=true)) (aU:(R[k]!).q.length<=1000) (i:Nat) (hi:plN o (R[k]!).q=i) (hil:i<(R[k]!).q.length) (dI:((R[k]!).q)[i]! = o) (qty:Int) (hq1:¬qty<1) (hq2:¬o.qty<qty) (hq3:¬qty=o.qty) (xZ:wrap64 (o.qty-qty)=o.qty-qty) :
  Calls prog 171 #[.pointer (some ⟨p,0,none⟩),.int .u64 id,.int .i64 qty] w λe w'=>e=.returned (.int .i64 0)/\Hid (w'.ownsRow 0 38 6 (R[k]!).v (R[k]!).q.length (ol ((R[k]!).q.set i (Qz o qty)))/\Fr (λj=>(R[k]!).v.ownBlock=some j) w w'):=by
 have mixed:prog.follows .mixedOrders=true:=by kernel_rfl
 have hmem:R[k]!∈s1.rs++s2.rs:=by
  rw[Sj R k hkl];exact JU (by rw[hR];exact Wt hkl)
 obtain⟨Q,fD⟩:∃Q,(R[k]!).q=Q:=⟨_,rfl⟩
 obtain⟨V,cZ⟩:∃V,(R[k]!).v=V:=⟨_,rfl⟩
 rw[fD]at hq aU hi hil dI ⊢
 rw[cZ]
 obtain⟨qn,cG⟩:∃qn,Q.length=qn:=⟨_,rfl⟩
 rw[cG]at aU hil ⊢
 have hown0:=H.own o.side
 rw[hR]at hown0
 obtain⟨g,c,hv,_,_⟩:=Kz hown0 hkl
 clear hown0
 have dD:=H.q _ hmem
 rw[fD,cZ,cG]at dD
 obtain⟨g2,qc,cur,cE,hg2⟩:∃g2 qc cur,V=.slice (some ⟨g2,0,none⟩) qn qc/\w.heap[g2]? = some (.cells cur 38 (0,0))/\qn<=qc/\qc<=maxLen/\cur.size=qc*6/\cur.toList.take (qn*6)=ol Q:=by
  rcases dD.2 with ⟨_,h0⟩ | ⟨g2,cap,cur,e,_,h1,h2,h3,h4,h5⟩
  ·omega
  ·exact⟨g2,cap,cur,e,h1,h2,h3,h4,h5⟩
 have hgl:g<w.heap.size:=by
  obtain⟨A,c',hv',_,hf⟩:=H.rows o.side;rw[hR]at hv' hf;rw[hv]at hv';injection hv' with e1 e2 e3;exact H.lt (hf g e1.symm Oz)
 have HH:=Ou H
 have HG:=Ou hgl
 have kZ:=Ou hg2
 have bF:Hid (∀W,Ok w W->(W.cell? ⟨p,0,none⟩=some (.map (some m)))/\W.ownsRow 0 247 2 (.slice (some ⟨g,0,none⟩) R.length c) R.length (rl R)/\W.ownsRow 0 38 6 (.slice (some ⟨g2,0,none⟩) qn qc) qn (ol Q)/\W.cell? ⟨g,k*2,none⟩=some (.int .i64 o.price)/\W.cell? ⟨g,k*2+1,none⟩=some (.slice (some ⟨g2,0,none⟩) qn qc)):=λW hW=>by
  have hB:=HH.out.below hW;have hown:=hB.own o.side;rw[hR]at hown;obtain⟨g',c',hv',hc1,hc2⟩:=Kz hown hkl;rw[hv]at hv' hown;injection hv' with e1 e2 e3;injection e1 with e1;injection e1 with e1;subst e1;have fU:=hB.q _ hmem;rw[fD,cZ,cE,cG]at fU;refine⟨?_,hown,fU,by rw[hc1,hp],by rw[hc2,cZ,cE]⟩;rcases hB.shape with ⟨h,_⟩ | ⟨pp,hb,hp⟩
  ·cases h
  ·injection hb with hb';injection hb' with hb'';subst hb'';rw[cell_of_row _ _ _ _ _ _ hp];rfl
 have HF:Hid (∀W,Ok w W->Calls prog 181 #[.slice (some ⟨g,0,none⟩) R.length c,.int .i64 o.side,.int .i64 o.price] W λe w'=>e=.returned (.tuple #[.int .i64 (k:Nat),.bool true])/\Gw W w'):=λW hW=>by
  have:=Vg (some ⟨g,0,none⟩) R.length c R o.side o.price W ?_ hs hn
  ·rw[hk,Sy hkl,hp]at this;simpa using this
  ·obtain⟨A,c',hv',hr⟩:=Ku (bF.out W hW).2.1;injection hv' with e1 e2 e3;rw[e1];exact hr
 have HP:Hid (∀W,Ok w W->Calls prog 182 #[.slice (some ⟨g2,0,none⟩) qn qc,.agg #[.int .u64 o.id,.int .i64 o.acc,.int .i64 o.side,.int .i64 o.price,.int .i64 o.qty,.int .u64 o.seq]] W λe w'=>e=.returned (.int .i64 (i:Nat))/\Gw W w'):=λW hW=>by
  have:=VO (some ⟨g2,0,none⟩) qn qc Q o W ?_ hq aU
  ·rw[hi]at this;exact this
  ·obtain⟨A,c',hv',hr⟩:=Z1 (bF.out W hW).2.2.1;injection hv' with e1 e2 e3;rw[e1];exact hr
 have hlk:=λq W (hW:Ok w W)=>Vi ((HH.out.below (hW.trans (QJ ((Oq _ _).mono hW.size) q))).mp m rfl) HH.out.t1 HH.out.t2 o.side hwf
 rw[hv]at hlk
 have sO:=Ou hlk
 have HV:=Ou (Sv hv (Sv cE (Sv cG (Sv hmem dI))))
 have HK:=Ou (Sv hkl hp)
 have HC:Hid ((rl R)[k*2+1]? = some (.slice (some ⟨g2,0,none⟩) qn qc)):=by
  have:=JR R k 1 hkl Oz;rw[this,<-cE,<-cZ];rfl
 have HIL:=Ou hil
 have HOC:Hid ((ol Q)[i*6+4]? = some (.int .i64 o.qty)):=by
  rw[Kq Q i 4 (by rw[cG];exact hil) Oz,dI];rfl
 clear H hs hn hwf hmem hgl hg2 hlk dD hk hi hq dI
 have HM:=Ou (JT (some ⟨p,0,none⟩) (some m) s1 s2 w HH.out)
 have hkI:(k:Int)<(R.length:Int):=by have:=HK.out.1;omega
 have jL:(i:Int)<(qn:Int):=by omega
 go_enter func171,ntmps171
 go_wp2_with (first|((with_reducible refine HM.out.mono ?_);rintro e w1' ⟨rfl,hw1⟩;obtain rfl:w=w1':=hw1.symm;clear HM)|((with_reducible refine(aC.out _ (Oq _ _)).mono ?_);rintro e w1 ⟨rfl,hb1⟩;dsimp only[QG];clear aC))
 obtain⟨W1,hW1⟩:∃W1,w1.alloc (.cells (OC o) 38)=W1:=⟨_,rfl⟩
 have aN:Hid (Ok w W1):=by rw[<-hW1];exact hb1.out.alloc hb1.out.size _
 have aT:Cl 38 W1 w1.heap.size (OC o):=by rw[<-hW1];exact Qe rfl
 rw[hW1]
 obtain⟨ob,dO⟩:∃ob,w1.heap.size=ob:=⟨_,rfl⟩
 rw[dO]at aT ⊢
 obtain⟨x0,x1,x2,x3,x4,x5⟩:=Qm aT
 have hpc:=(bF.out W1 aN.out).1
 have hlk:=λq=>sO.out q W1 aN.out
 clear dO hW1 hb1
 clear w1
 go_quiet (fail)
 go_wp2_with (first|((with_reducible refine(HF.out _ (QJ aN.out _)).mono ?_);rintro e w2 ⟨rfl,k2⟩;have aG:Hid (Ok w w2):=(QJ aN.out _).trans (k2.b.mono (QJ aN.out _).size);have eO:Cl 38 w2 ob (OC o):=Cl.gw (X:=W1.drewN _) aT k2;have z0:=(bF.out w2 aG.out).2.2.2.2;obtain⟨y0,y1,y2,y3,y4,y5⟩:=Qm eO;clear x0 x1 x2 x3 x4 x5 hpc hlk aT k2 aN HF)|((with_reducible refine(HP.out _ aG.out).mono ?_);rintro e w3 ⟨rfl,k3⟩;have bT:Hid (Ok w w3):=aG.out.trans (k3.b.mono aG.out.size);have q4:w3.cell? ⟨g2,i*6+4,none⟩=some (.int .i64 o.qty):=(Ji (bF.out w3 bT.out).2.2.1 rfl HOC.out).1;have f4:w3.frozen? ⟨g2,i*6+4,none⟩=false:=(Ji (bF.out w3 bT.out).2.2.1 rfl HOC.out).2;clear y0 y1 y2 y3 y4 y5 eO aG HP z0 k3))
 go_ret
 refine⟨rfl,Ou ?_⟩
 rw[HV.out.2.1]
 refine⟨?_,?_⟩
 ·rw[<-HV.out.2.2.1,<-qgY (by rw[HV.out.2.2.1];exact HIL.out) HV.out.2.2.2.2,HV.out.2.2.1];exact JE (bF.out w3 bT.out).2.2.1 rfl
 ·exact(Fr.of_below bT.out:Fr (λj=>(Value.slice (some ⟨g2,0,none⟩) qn qc).ownBlock=some j) w w3).set (p:=⟨g2,i*6+4,none⟩) (.inl rfl) _
theorem UX:∀{l:List Value} {n:Nat} {v:Value},l[n]? = some v->l.set n v=l
 | [],_,_,h=>by cases h
 | a :: l,0,v,h=>by injection h with h;rw[<-h];rfl
 | a :: l,n+1,v,h=>by
  show a :: l.set n v=a :: l;rw[UX (l:=l) (n:=n) (v:=v) h]
def QT (id qty:Int)(x:Od):Od:=if x.id=id then Qz x qty else x
theorem ZL (id qty:Int)(x:Od):(QT id qty x).id=x.id/\(QT id qty x).side=x.side/\(QT id qty x).price=x.price:=by
 unfold QT
 split<;>exact⟨rfl,rfl,rfl⟩
theorem UY (id qty:Int)(x y:Od):Qt (QT id qty x) (QT id qty y)=Qt x y:=by
 unfold QT
 split<;>split<;>rfl
theorem Vn {P T:List Od}{o:Od}{qty:Int}(h:(P++o :: T).Pairwise (λx y=>¬x.id=y.id)):(P++o :: T).map (QT o.id qty)=P++Qz o qty :: T:=by
 rw[Aw,Mk]at h
 obtain⟨_,⟨h2,_⟩,h3⟩:=h
 have e1:P.map (QT o.id qty)=P:=by
  conv=>rhs;rw[<-List.map_id P]
  exact Aj (λx hx=>Sw (h3 x hx o Eu))
 have e2:T.map (QT o.id qty)=T:=by
  conv=>rhs;rw[<-List.map_id T]
  exact Aj (λx hx=>Sw (λe=>h2 x hx e.symm))
 rw[Mw,List.map_cons,e1,e2]
 show P++QT o.id qty o :: T=_
 unfold QT
 rw[Sx rfl]
theorem UZ {w:World}{o:Od}{qty:Int}(h:Od.ok w o/\Qk o=true)(h1:¬qty<1)(h2:qty<o.qty):Od.ok w (Qz o qty)/\Qk (Qz o qty)=true:=by
 obtain⟨ho,hg⟩:=h
 have hg':=hg
 unfold Qk at hg
 simp only[Iv,decide_eq_true_eq]at hg
 obtain⟨g1,g2,g3,g4,g5,g6,g7⟩:=hg
 unfold Od.ok at ho ⊢
 refine⟨⟨ho.1,ho.2.1,ho.2.2.1,ho.2.2.2.1,⟨by show _<=o.qty-qty;omega,by show o.qty-qty<=_;omega⟩,ho.2.2.2.2.2⟩,?_⟩
 unfold Qk
 simp only[Iv,decide_eq_true_eq]
 exact⟨g1,g2,g3,g4,g5,by show 1<=o.qty-qty;omega,by show o.qty-qty<=_;omega⟩
structure LessIs (w w':World) (p m:Nat) (s1 s2 s1' s2':Sd) (o:Od) (qty:Int):Prop where
 tu:TurnIs w w' p m s1 s2 s1' s2'
 now:Qa s1'.rs s2'.rs=(Qa s1.rs s2.rs).map (QT o.id qty)
 e2:o.side=1->s2'=s2
 e1:o.side=2->s1'=s1
def TW (w w':World)(p m:Nat)(s1 s2 s1' s2':Sd)(id qty c:Int):Prop :=
 (c=51/\(∀x∈Qa s1.rs s2.rs,¬x.id=id)/\s1'=s1/\s2'=s2/\Ok w w') ∨
 ∃o∈Qa s1.rs s2.rs,o.id=id/\((c=2/\(qty<1∨o.qty<qty)/\s1'=s1/\s2'=s2/\Ok w w')∨(c=0/\¬qty<1/\qty=o.qty/\TakeIs w w' p m s1 s2 s1' s2' o)∨(c=0/\¬qty<1/\qty<o.qty/\LessIs w w' p m s1 s2 s1' s2' o qty))
theorem qgZ (p m:Nat)(s1 s2:Sd)(o:Od)(id qty:Int)(w:World)(H:Whole w p m s1 s2)(ho:o∈Qa s1.rs s2.rs)(hs:o.side=1)(hq1:¬qty<1)(hq2:qty<o.qty)
  (aC:Hid (∀W,Ok w W->Calls prog 172 #[.pointer (some ⟨p,0,none⟩),.int .u64 id] W λe w'=>e=.returned (.tuple #[QG (some o),.bool true])/\Hid (Ok W w'))) :
  Calls prog 171 #[.pointer (some ⟨p,0,none⟩),.int .u64 id,.int .i64 qty] w λe w'=>e=.returned (.int .i64 0)/\∃s1' s2',Hid (LessIs w w' p m s1 s2 s1' s2' o qty):=by
 have hwf:(Lit.int .i64 o.side).wf=true:=by rw[hs];decide
 have hR:Qu s1 s2 o.side=s1.rs:=by rw[hs];rfl
 have hv:Ze s1 s2 o.side=s1.v:=by rw[hs];rfl
 have hpw:s1.rs.Pairwise (λa b=>Qf o.side a.pr b.pr=true):=by rw[hs];exact H.ok1.rows
 have hn:=H.n1
 have hgo:=H.ok o ho
 have hfl:o∈Qb s1.rs:=by
  have ho:=ho;unfold Qa at ho;rcases List.mem_append.1 ho with h|h
  ·exact h
  ·have:=Z9 H.ok2 o h;rw[hs]at this;cases this
 obtain⟨hkl,hp,gZ⟩:=Xf (.inl rfl) H.ok1 hfl
 obtain⟨k,hk⟩:∃k,atN 1 o.price s1.rs=k:=⟨_,rfl⟩
 rw[hk]at hkl hp gZ
 have hk':atN o.side o.price s1.rs=k:=by rw[hs];exact hk
 have hmem:s1.rs[k]!∈s1.rs:=by rw[Sj s1.rs k hkl];exact Wt hkl
 have aU:(s1.rs[k]!).q.length<=1000:=by
  have h1:(s1.rs[k]!).q.length<=Q5 (s1.rs++s2.rs):=JV (x:=⟨s1.rs[k]!,Ws _ hmem⟩);omega
 have fL:=H.ok1.que _ hmem
 obtain⟨hil,dI⟩:=Xe fL gZ
 obtain⟨i,hi⟩:∃i,plN o (s1.rs[k]!).q=i:=⟨_,rfl⟩
 rw[hi]at hil dI
 have hsp:=Vl s1.rs k hkl
 have eI:SideOk 1 (s1.rs.take k++[s1.rs[k]!]++s1.rs.drop (k+1)):=by rw[<-hsp];exact H.ok1
 have aS:s1.there=true:=(Vk H).1 (λe=>by rw[e]at hkl;exact absurd hkl (Ax _))
 have aL:=Kv (s:=1) (p:=o.price) (.inl rfl) H.ok1.rows
 rw[hk]at aL
 have xZ:wrap64 (o.qty-qty)=o.qty-qty:=by
  have hg:=hgo.2;unfold Qk at hg;simp only[Iv,decide_eq_true_eq]at hg;have h6:=hg.2.2.2.2.2;simp only[wrap64];omega
 -- the queue,and the book,around the order
 have jN:=dI
 rw[Sj _ i hil]at jN
 have p9:(s1.rs[k]!).q=(s1.rs[k]!).q.take i++o :: (s1.rs[k]!).q.drop (i+1):=by
  rw[<-jN,<-Au hil,Fz]
 have pA:(s1.rs[k]!).q.set i (Qz o qty)=(s1.rs[k]!).q.take i++Qz o qty :: (s1.rs[k]!).q.drop (i+1):=List.set_eq_take_append_cons_drop.trans (Sx hil)
 have pP:(s1.rs[k]!).q.Pairwise (λx y=>¬x.id=y.id):=by
  refine List.Pairwise.sublist ?_ H.ids;unfold Qa;have hs1:(s1.rs[k]!).q.Sublist (Qb s1.rs):=by
   conv=>rhs;rw[hsp]
   unfold Qb;rw[Wv,Wv,Ru];exact(Nz _ _).trans (Rt _ _)
  exact hs1.trans (Rt _ _)
 have uB:(s1.rs[k]!).q.set i (Qz o qty)=(s1.rs[k]!).q.map (QT o.id qty):=by
  rw[pA]
  conv=>rhs;rw[p9]
  exact(Vn (by rw[<-p9];exact pP)).symm
 have cJ:Qa (s1.rs.take k++[(⟨o.price,(s1.rs[k]!).v,(s1.rs[k]!).q.set i (Qz o qty)⟩:Rw)]++s1.rs.drop (k+1)) s2.rs=(Qa s1.rs s2.rs).map (QT o.id qty):=by
  have e0:∀Y:Rw,Qb (s1.rs.take k++[Y]++s1.rs.drop (k+1))=Qb (s1.rs.take k)++Y.q++Qb (s1.rs.drop (k+1)):=λY=>by
   unfold Qb;rw[Wv,Wv,Ru]
  have e1:Qa s1.rs s2.rs=Qb (s1.rs.take k)++(s1.rs[k]!).q.take i++o :: ((s1.rs[k]!).q.drop (i+1)++Qb (s1.rs.drop (k+1))++Qb s2.rs):=by
   unfold Qa
   conv=>lhs;rw[hsp,e0,p9]
   simp only[St,Ew]
  have h2:=H.ids;rw[e1]at h2 ⊢;rw[Vn h2];unfold Qa;rw[e0];show Qb (s1.rs.take k)++(s1.rs[k]!).q.set i (Qz o qty)++Qb (s1.rs.drop (k+1))++Qb s2.rs=_;rw[pA];simp only[St,Ew]
 refine(TV p m s1 s2 o id w H.bk hwf aC s1.rs hR hpw Oz k hk' hkl hp fL aU i hi hil dI qty hq1 Oz Oz xZ).mono λe w' ⟨he,hh⟩=>⟨he,?_⟩
 obtain⟨h1,h3⟩:=hh.out
 have hblk:∀T (v:Value) (nn sz:Nat) (xs:List Value),w.ownsRow 0 T sz v nn xs->T≠38->∀j,v.ownBlock=some j->¬(s1.rs[k]!).v.ownBlock=some j:=λT v nn sz xs hown hT j hj e=>by
  obtain⟨cs,hcs⟩:=Zf hown hj;exact Qo (H.bk.q _ (Ws _ hmem)) hcs (λe'=>hT e'.symm) e
 have hmm:w'.ownsMap prog 3 RV m 2 (QC s1 s2):=QS (H.bk.mp m rfl) h3 (λe=>by
  obtain⟨cs,hcs⟩:=Zf (H.bk.q _ (Ws _ hmem)) e
  exact ZG (H.bk.mp m rfl) hcs rfl)
 have bZ:s1.rs.take k++(⟨o.price,(s1.rs[k]!).v,(s1.rs[k]!).q.set i (Qz o qty)⟩:Rw) :: s1.rs.drop (k+1)=s1.rs.take k++[(⟨o.price,(s1.rs[k]!).v,(s1.rs[k]!).q.set i (Qz o qty)⟩:Rw)]++s1.rs.drop (k+1):=by rw[St];rfl
 have hrl:rl (s1.rs.take k++[(⟨o.price,(s1.rs[k]!).v,(s1.rs[k]!).q.set i (Qz o qty)⟩:Rw)]++s1.rs.drop (k+1))=rl s1.rs:=by
  rw[<-bZ];rw[Y7 s1.rs k hkl (⟨o.price,(s1.rs[k]!).v,(s1.rs[k]!).q.set i (Qz o qty)⟩:Rw) hp.symm];have:=JR s1.rs k 1 hkl Oz;refine UX ?_;rw[this];rfl
 have jS:SideOk 1 (s1.rs.take k++(⟨o.price,(s1.rs[k]!).v,(s1.rs[k]!).q.set i (Qz o qty)⟩:Rw) :: s1.rs.drop (k+1)) :=
  KS (p:=o.price) aL.1 (λb hb=>aL.2.2.2 _ _ (by rw[Sj s1.rs k hkl];exact Au hkl) hp b hb) eI rfl (by show (s1.rs[k]!).q.set i (Qz o qty)≠[];rw[pA];simp)
   (λx hx=>by
    have hx':x∈(s1.rs[k]!).q.set i (Qz o qty):=hx;rw[uB]at hx';obtain⟨y,hy,rfl⟩:=List.mem_map.1 hx';rw[(ZL _ _ y).2.1,(ZL _ _ y).2.2,<-hp]
    exact H.ok1.mem _ hmem y hy)
   (by
    show ((s1.rs[k]!).q.set i (Qz o qty)).Pairwise _;rw[uB]
    exact List.pairwise_map.2 (fL.imp (λh=>by rw[UY];exact h)))
 rw[bZ]at jS
 refine⟨_,_,Ou ⟨TQ (M:=[s1.rs[k]!]) (X:=[(⟨o.price,(s1.rs[k]!).v,(s1.rs[k]!).q.set i (Qz o qty)⟩:Rw)]) (v2:=s1.v) H hsp ⟨.inr ⟨_,rfl⟩,.inr ⟨_,rfl,.inl ⟨_,rfl,rfl⟩⟩⟩ (.inl rfl) (λr hr=>?_) ?_ ?_ ?_ jS ?_ ?_ ?_,cJ,λ_=>rfl,(λh=>by rw[hs]at h;cases h)⟩⟩
 ·rw[List.mem_singleton.1 hr];show w'.ownsRow 0 38 6 (s1.rs[k]!).v ((s1.rs[k]!).q.set i (Qz o qty)).length _;rw[Wk];exact h1
 ·rw[hrl,<-bZ,KV _ _ hkl];exact Qi H.bk.r1 h3 (λj hj=>hblk _ _ _ _ _ H.bk.r1 Ox j hj)
 ·have:QC ⟨true,s1.v,s1.rs.take k++[(⟨o.price,(s1.rs[k]!).v,(s1.rs[k]!).q.set i (Qz o qty)⟩:Rw)]++s1.rs.drop (k+1)⟩ s2=QC s1 s2:=by
   unfold QC;rw[aS]
  rw[this];exact hmm
 ·exact h3.mono (λj e=>.inl (.inr (.inr ⟨_,List.mem_singleton.2 rfl,e⟩)))
 ·rw[cJ];exact List.pairwise_map.2 (H.ids.imp (λh=>by rw[(ZL _ _ _).1,(ZL _ _ _).1];exact h))
 ·rw[cJ,Fv];exact H.len
 ·rw[cJ];intro x hx;obtain⟨y,hy,rfl⟩:=List.mem_map.1 hx;unfold QT
  split
  ·rename_i hyi
   rw[KY H.ids hy ho hyi];exact UZ hgo hq1 hq2
  ·exact H.ok y hy
theorem qg0 (p m:Nat)(s1 s2:Sd)(o:Od)(id qty:Int)(w:World)(H:Whole w p m s1 s2)(ho:o∈Qa s1.rs s2.rs)(hs:o.side=2)(hq1:¬qty<1)(hq2:qty<o.qty)
  (aC:Hid (∀W,Ok w W->Calls prog 172 #[.pointer (some ⟨p,0,none⟩),.int .u64 id] W λe w'=>e=.returned (.tuple #[QG (some o),.bool true])/\Hid (Ok W w'))) :
  Calls prog 171 #[.pointer (some ⟨p,0,none⟩),.int .u64 id,.int .i64 qty] w λe w'=>e=.returned (.int .i64 0)/\∃s1' s2',Hid (LessIs w w' p m s1 s2 s1' s2' o qty):=by
 have hwf:(Lit.int .i64 o.side).wf=true:=by rw[hs];decide
 have hR:Qu s1 s2 o.side=s2.rs:=by rw[hs];rfl
 have hv:Ze s1 s2 o.side=s2.v:=by rw[hs];rfl
 have hpw:s2.rs.Pairwise (λa b=>Qf o.side a.pr b.pr=true):=by rw[hs];exact H.ok2.rows
 have hn:=H.n1
 have hgo:=H.ok o ho
 have hfl:o∈Qb s2.rs:=by
  have ho:=ho;unfold Qa at ho;rcases List.mem_append.1 ho with h|h
  ·have:=Z9 H.ok1 o h;rw[hs]at this;cases this
  ·exact h
 obtain⟨hkl,hp,gZ⟩:=Xf (.inr rfl) H.ok2 hfl
 obtain⟨k,hk⟩:∃k,atN 2 o.price s2.rs=k:=⟨_,rfl⟩
 rw[hk]at hkl hp gZ
 have hk':atN o.side o.price s2.rs=k:=by rw[hs];exact hk
 have hmem:s2.rs[k]!∈s2.rs:=by rw[Sj s2.rs k hkl];exact Wt hkl
 have aU:(s2.rs[k]!).q.length<=1000:=by
  have h1:(s2.rs[k]!).q.length<=Q5 (s1.rs++s2.rs):=JV (x:=⟨s2.rs[k]!,Wx _ hmem⟩);omega
 have fL:=H.ok2.que _ hmem
 obtain⟨hil,dI⟩:=Xe fL gZ
 obtain⟨i,hi⟩:∃i,plN o (s2.rs[k]!).q=i:=⟨_,rfl⟩
 rw[hi]at hil dI
 have hsp:=Vl s2.rs k hkl
 have eI:SideOk 2 (s2.rs.take k++[s2.rs[k]!]++s2.rs.drop (k+1)):=by rw[<-hsp];exact H.ok2
 have aS:s2.there=true:=(Vk H).2 (λe=>by rw[e]at hkl;exact absurd hkl (Ax _))
 have aL:=Kv (s:=2) (p:=o.price) (.inr rfl) H.ok2.rows
 rw[hk]at aL
 have xZ:wrap64 (o.qty-qty)=o.qty-qty:=by
  have hg:=hgo.2;unfold Qk at hg;simp only[Iv,decide_eq_true_eq]at hg;have h6:=hg.2.2.2.2.2;simp only[wrap64];omega
 -- the queue,and the book,around the order
 have jN:=dI
 rw[Sj _ i hil]at jN
 have p9:(s2.rs[k]!).q=(s2.rs[k]!).q.take i++o :: (s2.rs[k]!).q.drop (i+1):=by
  rw[<-jN,<-Au hil,Fz]
 have pA:(s2.rs[k]!).q.set i (Qz o qty)=(s2.rs[k]!).q.take i++Qz o qty :: (s2.rs[k]!).q.drop (i+1):=List.set_eq_take_append_cons_drop.trans (Sx hil)
 have pP:(s2.rs[k]!).q.Pairwise (λx y=>¬x.id=y.id):=by
  refine List.Pairwise.sublist ?_ H.ids;unfold Qa;have hs1:(s2.rs[k]!).q.Sublist (Qb s2.rs):=by
   conv=>rhs;rw[hsp]
   unfold Qb;rw[Wv,Wv,Ru];exact(Nz _ _).trans (Rt _ _)
  exact hs1.trans (Nz _ _)
 have uB:(s2.rs[k]!).q.set i (Qz o qty)=(s2.rs[k]!).q.map (QT o.id qty):=by
  rw[pA]
  conv=>rhs;rw[p9]
  exact(Vn (by rw[<-p9];exact pP)).symm
 have cJ:Qa s1.rs (s2.rs.take k++[(⟨o.price,(s2.rs[k]!).v,(s2.rs[k]!).q.set i (Qz o qty)⟩:Rw)]++s2.rs.drop (k+1))=(Qa s1.rs s2.rs).map (QT o.id qty):=by
  have e0:∀Y:Rw,Qb (s2.rs.take k++[Y]++s2.rs.drop (k+1))=Qb (s2.rs.take k)++Y.q++Qb (s2.rs.drop (k+1)):=λY=>by
   unfold Qb;rw[Wv,Wv,Ru]
  have e1:Qa s1.rs s2.rs=Qb s1.rs++Qb (s2.rs.take k)++(s2.rs[k]!).q.take i++o :: ((s2.rs[k]!).q.drop (i+1)++Qb (s2.rs.drop (k+1))):=by
   unfold Qa
   conv=>lhs;rw[hsp,e0,p9]
   simp only[St,Ew]
  have h2:=H.ids;rw[e1]at h2 ⊢;rw[Vn h2];unfold Qa;rw[e0];show Qb s1.rs++(Qb (s2.rs.take k)++(s2.rs[k]!).q.set i (Qz o qty)++Qb (s2.rs.drop (k+1)))=_;rw[pA];simp only[St,Ew]
 refine(TV p m s1 s2 o id w H.bk hwf aC s2.rs hR hpw Oz k hk' hkl hp fL aU i hi hil dI qty hq1 Oz Oz xZ).mono λe w' ⟨he,hh⟩=>⟨he,?_⟩
 obtain⟨h1,h3⟩:=hh.out
 have hblk:∀T (v:Value) (nn sz:Nat) (xs:List Value),w.ownsRow 0 T sz v nn xs->T≠38->∀j,v.ownBlock=some j->¬(s2.rs[k]!).v.ownBlock=some j:=λT v nn sz xs hown hT j hj e=>by
  obtain⟨cs,hcs⟩:=Zf hown hj;exact Qo (H.bk.q _ (Wx _ hmem)) hcs (λe'=>hT e'.symm) e
 have hmm:w'.ownsMap prog 3 RV m 2 (QC s1 s2):=QS (H.bk.mp m rfl) h3 (λe=>by
  obtain⟨cs,hcs⟩:=Zf (H.bk.q _ (Wx _ hmem)) e
  exact ZG (H.bk.mp m rfl) hcs rfl)
 have bZ:s2.rs.take k++(⟨o.price,(s2.rs[k]!).v,(s2.rs[k]!).q.set i (Qz o qty)⟩:Rw) :: s2.rs.drop (k+1)=s2.rs.take k++[(⟨o.price,(s2.rs[k]!).v,(s2.rs[k]!).q.set i (Qz o qty)⟩:Rw)]++s2.rs.drop (k+1):=by rw[St];rfl
 have hrl:rl (s2.rs.take k++[(⟨o.price,(s2.rs[k]!).v,(s2.rs[k]!).q.set i (Qz o qty)⟩:Rw)]++s2.rs.drop (k+1))=rl s2.rs:=by
  rw[<-bZ];rw[Y7 s2.rs k hkl (⟨o.price,(s2.rs[k]!).v,(s2.rs[k]!).q.set i (Qz o qty)⟩:Rw) hp.symm];have:=JR s2.rs k 1 hkl Oz;refine UX ?_;rw[this];rfl
 have jS:SideOk 2 (s2.rs.take k++(⟨o.price,(s2.rs[k]!).v,(s2.rs[k]!).q.set i (Qz o qty)⟩:Rw) :: s2.rs.drop (k+1)) :=
  KS (p:=o.price) aL.1 (λb hb=>aL.2.2.2 _ _ (by rw[Sj s2.rs k hkl];exact Au hkl) hp b hb) eI rfl (by show (s2.rs[k]!).q.set i (Qz o qty)≠[];rw[pA];simp)
   (λx hx=>by
    have hx':x∈(s2.rs[k]!).q.set i (Qz o qty):=hx;rw[uB]at hx';obtain⟨y,hy,rfl⟩:=List.mem_map.1 hx';rw[(ZL _ _ y).2.1,(ZL _ _ y).2.2,<-hp]
    exact H.ok2.mem _ hmem y hy)
   (by
    show ((s2.rs[k]!).q.set i (Qz o qty)).Pairwise _;rw[uB]
    exact List.pairwise_map.2 (fL.imp (λh=>by rw[UY];exact h)))
 rw[bZ]at jS
 refine⟨_,_,Ou ⟨TS (M:=[s2.rs[k]!]) (X:=[(⟨o.price,(s2.rs[k]!).v,(s2.rs[k]!).q.set i (Qz o qty)⟩:Rw)]) (v2:=s2.v) H hsp ⟨.inr ⟨_,rfl⟩,.inr ⟨_,rfl,.inl ⟨_,rfl,rfl⟩⟩⟩ (.inl rfl) (λr hr=>?_) ?_ ?_ ?_ jS ?_ ?_ ?_,cJ,(λh=>by rw[hs]at h;cases h),λ_=>rfl⟩⟩
 ·rw[List.mem_singleton.1 hr];show w'.ownsRow 0 38 6 (s2.rs[k]!).v ((s2.rs[k]!).q.set i (Qz o qty)).length _;rw[Wk];exact h1
 ·rw[hrl,<-bZ,KV _ _ hkl];exact Qi H.bk.r2 h3 (λj hj=>hblk _ _ _ _ _ H.bk.r2 Ox j hj)
 ·have:QC s1 ⟨true,s2.v,s2.rs.take k++[(⟨o.price,(s2.rs[k]!).v,(s2.rs[k]!).q.set i (Qz o qty)⟩:Rw)]++s2.rs.drop (k+1)⟩=QC s1 s2:=by
   unfold QC;rw[aS]
  rw[this];exact hmm
 ·exact h3.mono (λj e=>.inl (.inr (.inr ⟨_,List.mem_singleton.2 rfl,e⟩)))
 ·rw[cJ];exact List.pairwise_map.2 (H.ids.imp (λh=>by rw[(ZL _ _ _).1,(ZL _ _ _).1];exact h))
 ·rw[cJ,Fv];exact H.len
 ·rw[cJ];intro x hx;obtain⟨y,hy,rfl⟩:=List.mem_map.1 hx;unfold QT
  split
  ·rename_i hyi
   rw[KY H.ids hy ho hyi];exact UZ hgo hq1 hq2
  ·exact H.ok y hy
theorem qg1 {p m:Nat}{s1 s2:Sd}{o:Od}{id:Int}{w:World}(H:Whole w p m s1 s2)(ho:o∈Qa s1.rs s2.rs)(hid:o.id=id) :
  Hid (∀W,Ok w W->Calls prog 172 #[.pointer (some ⟨p,0,none⟩),.int .u64 id] W λe w'=>e=.returned (.tuple #[QG (some o),.bool true])/\Hid (Ok W w')):=λW hW=>by
 have hn:=H.n1
 refine(Kx _ _ s1 s2 id W (H.bk.below hW) Oz Oz Oz).mono ?_
 rintro e w' ⟨r,rfl,h⟩
 obtain rfl:r=some o:=by
  cases r with
  | none=>exact absurd hid (h.out.1 o ho)
  | some y=>rw[KY H.ids h.out.1.1 ho (h.out.1.2.trans hid.symm)]
 exact⟨rfl,Ou h.out.2⟩
theorem qg2 (p m:Nat)(s1 s2:Sd)(id qty:Int)(w:World)(H:Whole w p m s1 s2)(hno:∀x∈Qa s1.rs s2.rs,¬x.id=id) :
  Calls prog 171 #[.pointer (some ⟨p,0,none⟩),.int .u64 id,.int .i64 qty] w λe w'=>e=.returned (.int .i64 51)/\Hid (Ok w w'):=by
 have HM:=Ou (JT (some ⟨p,0,none⟩) (some m) s1 s2 w H.bk)
 have hn:=H.n1
 have aC:=Ou (Kx _ _ s1 s2 id w H.bk Oz Oz Oz)
 have qU:=Ou hno
 clear H hn hno
 go_enter func171,ntmps171
 go_wp2_with (first|((with_reducible refine HM.out.mono ?_);rintro e w1' ⟨rfl,hw1⟩;obtain rfl:w=w1':=hw1.symm;clear HM)|((with_reducible refine aC.out.mono ?_);rintro e w1 ⟨r,rfl,hr⟩;obtain rfl:r=none:=(by cases r with|none=>rfl|some y=>exact absurd hr.out.1.2 (qU.out y hr.out.1.1));dsimp only[QG,Option.isSome];have aN:Hid (Ok w (w1.alloc (.cells (OC ⟨0,0,0,0,0,0⟩) 38))):=hr.out.2.alloc hr.out.2.size _;clear aC hr))
 go_ret
 exact⟨rfl,Ou aN.out⟩
theorem qg3 (p m:Nat)(s1 s2:Sd)(o:Od)(id qty:Int)(w:World)(H:Whole w p m s1 s2)
  (aC:Hid (∀W,Ok w W->Calls prog 172 #[.pointer (some ⟨p,0,none⟩),.int .u64 id] W λe w'=>e=.returned (.tuple #[QG (some o),.bool true])/\Hid (Ok W w'))) (hq:qty<1) :
  Calls prog 171 #[.pointer (some ⟨p,0,none⟩),.int .u64 id,.int .i64 qty] w λe w'=>e=.returned (.int .i64 2)/\Hid (Ok w w'):=by
 have HM:=Ou (JT (some ⟨p,0,none⟩) (some m) s1 s2 w H.bk)
 have hd:decide (qty<1)=true:=Sy hq
 clear H
 go_enter func171,ntmps171
 go_wp2_with (first|((with_reducible refine HM.out.mono ?_);rintro e w1' ⟨rfl,hw1⟩;obtain rfl:w=w1':=hw1.symm;clear HM)|((with_reducible refine(aC.out _ (Oq _ _)).mono ?_);rintro e w1 ⟨rfl,hb1⟩;dsimp only[QG];have aN:Hid (Ok w (w1.alloc (.cells (OC o) 38))):=hb1.out.alloc hb1.out.size _;clear aC))
 all_goals (try (exfalso;omega))
 go_ret
 exact⟨rfl,Ou aN.out⟩
theorem qg4 (p m:Nat)(s1 s2:Sd)(o:Od)(id qty:Int)(w:World)(H:Whole w p m s1 s2)
  (aC:Hid (∀W,Ok w W->Calls prog 172 #[.pointer (some ⟨p,0,none⟩),.int .u64 id] W λe w'=>e=.returned (.tuple #[QG (some o),.bool true])/\Hid (Ok W w'))) (hq1:¬qty<1) (hq:o.qty<qty) :
  Calls prog 171 #[.pointer (some ⟨p,0,none⟩),.int .u64 id,.int .i64 qty] w λe w'=>e=.returned (.int .i64 2)/\Hid (Ok w w'):=by
 have HM:=Ou (JT (some ⟨p,0,none⟩) (some m) s1 s2 w H.bk)
 have hd:decide (qty<1)=false:=Sz hq1
 clear H
 go_enter func171,ntmps171
 go_wp2_with (first|((with_reducible refine HM.out.mono ?_);rintro e w1' ⟨rfl,hw1⟩;obtain rfl:w=w1':=hw1.symm;clear HM)|((with_reducible refine(aC.out _ (Oq _ _)).mono ?_);rintro e w1 ⟨rfl,hb1⟩;dsimp only[QG];have aN:Hid (Ok w (w1.alloc (.cells (OC o) 38))):=hb1.out.alloc hb1.out.size _;clear aC))
 all_goals (try (exfalso;omega))
 go_ret
 exact⟨rfl,Ou aN.out⟩
theorem qg5 (p m:Nat)(s1 s2:Sd)(o:Od)(id:Int)(w:World)(H:Whole w p m s1 s2)(ho:o∈Qa s1.rs s2.rs)(hid:o.id=id)
  (aC:Hid (∀W,Ok w W->Calls prog 172 #[.pointer (some ⟨p,0,none⟩),.int .u64 id] W λe w'=>e=.returned (.tuple #[QG (some o),.bool true])/\Hid (Ok W w'))) (hq1:¬o.qty<1) :
  Calls prog 171 #[.pointer (some ⟨p,0,none⟩),.int .u64 id,.int .i64 o.qty] w λe w'=>e=.returned (.int .i64 0)/\∃s1' s2',Hid (TakeIs w w' p m s1 s2 s1' s2' o):=by
 have HM:=Ou (JT (some ⟨p,0,none⟩) (some m) s1 s2 w H.bk)
 have hq2:¬o.qty<o.qty:=by omega
 have HT:Hid (∀W,Ok w W->Calls prog 176 #[.pointer (some ⟨p,0,none⟩),.int .u64 id] W λe w'=>e=.returned (.tuple #[QG (some o),.bool true])/\∃s1' s2',Hid (TakeIs W w' p m s1 s2 s1' s2' o)):=λW hW=>TU p m s1 s2 o id W (H.below hW) ho hid
 clear H ho hid
 go_enter func171,ntmps171
 go_wp2_with (first|((with_reducible refine HM.out.mono ?_);rintro e w1' ⟨rfl,hw1⟩;obtain rfl:w=w1':=hw1.symm;clear HM)|((with_reducible refine(aC.out _ (Oq _ _)).mono ?_);rintro e w1 ⟨rfl,hb1⟩;dsimp only[QG];have aN:Hid (Ok w (w1.alloc (.cells (OC o) 38))):=hb1.out.alloc hb1.out.size _;clear aC)|((with_reducible refine(HT.out _ aN.out).mono ?_);rintro e w3 ⟨rfl,t1,t2,ht⟩;dsimp only[QG];clear HT))
 all_goals (try (exfalso;omega))
 go_ret
 have h:=ht.out
 exact⟨rfl,t1,t2,Ou ⟨⟨h.tu.wh,(Fr.of_below aN.out:Fr (QI (some ⟨p,0,none⟩) (some m) s1 s2) w _).t h.tu.fr,λk hk=>(h.tu.ft k hk).imp (λh'=>h') (λh'=>Sk aN.out.size h')⟩,h.perm,h.e2,h.e1⟩⟩
theorem qg6 (p m:Nat)(s1 s2:Sd)(id qty:Int)(w:World)(H:Whole w p m s1 s2) :
  Calls prog 171 #[.pointer (some ⟨p,0,none⟩),.int .u64 id,.int .i64 qty] w λe w'=>∃c s1' s2',e=.returned (.int .i64 c)/\Hid (TW w w' p m s1 s2 s1' s2' id qty c):=by
 by_cases hx:∃x∈Qa s1.rs s2.rs,x.id=id
 ·obtain⟨o,ho,hid⟩:=hx;have aC:=qg1 H ho hid;by_cases hq1:qty<1
  ·exact(qg3 p m s1 s2 o id qty w H aC hq1).mono λe w' ⟨he,h⟩=>⟨2,s1,s2,he,Ou (.inr ⟨o,ho,hid,.inl ⟨rfl,.inl hq1,rfl,rfl,h.out⟩⟩)⟩
  by_cases hq2:o.qty<qty
  ·exact(qg4 p m s1 s2 o id qty w H aC hq1 hq2).mono λe w' ⟨he,h⟩=>⟨2,s1,s2,he,Ou (.inr ⟨o,ho,hid,.inl ⟨rfl,.inr hq2,rfl,rfl,h.out⟩⟩)⟩
  by_cases hq3:qty=o.qty
  ·subst hq3;exact(qg5 p m s1 s2 o id w H ho hid aC hq1).mono λe w' ⟨he,t1,t2,h⟩=>⟨0,t1,t2,he,Ou (.inr ⟨o,ho,hid,.inr (.inl ⟨rfl,hq1,rfl,h.out⟩)⟩)⟩
  ·have hl:qty<o.qty:=by omega
   rcases Vj (H.ok o ho).2 with hs|hs
   ·exact(qgZ p m s1 s2 o id qty w H ho hs hq1 hl aC).mono λe w' ⟨he,t1,t2,h⟩=>⟨0,t1,t2,he,Ou (.inr ⟨o,ho,hid,.inr (.inr ⟨rfl,hq1,hl,h.out⟩)⟩)⟩
   ·exact(qg0 p m s1 s2 o id qty w H ho hs hq1 hl aC).mono λe w' ⟨he,t1,t2,h⟩=>⟨0,t1,t2,he,Ou (.inr ⟨o,ho,hid,.inr (.inr ⟨rfl,hq1,hl,h.out⟩)⟩)⟩
 ·have hno:∀x∈Qa s1.rs s2.rs,¬x.id=id:=λx h1 h2=>hx ⟨x,h1,h2⟩;exact(qg2 p m s1 s2 id qty w H hno).mono λe w' ⟨he,h⟩=>⟨51,s1,s2,he,Ou (.inl ⟨rfl,hno,rfl,rfl,h.out⟩)⟩
end
section
open Go.RowKit Go.Shelf Go.Sort
theorem qg7 {s1 s2:Sd}(h1:SideOk 1 s1.rs)(h2:SideOk 2 s2.rs)(sd:Int):(Qu s1 s2 sd).Pairwise (λa b=>Qf sd a.pr b.pr=true):=by
 unfold Qu
 by_cases e1:sd=1
 ·subst e1;rw[Sx rfl];exact h1.rows
 ·rw[Sw e1];by_cases e2:sd=2
  ·subst e2;rw[Sx rfl];exact h2.rows
  ·rw[Sw e2];exact List.Pairwise.nil
theorem TX {W:World}{qa:Option Addr}{qn qc:Nat}{Q:List Od}(h:W.ownsRow 0 38 6 (.slice qa qn qc) qn (ol Q))(hn:qn<=1000) :
  Calls prog 49 #[.slice qa qn qc] W λe w'=>∃v,e=.returned v/\Hid (w'.ownsRow W.heap.size 38 6 v qn (ol Q)/\Ok W w'):=by
 obtain⟨A,c,hv,hq⟩:=Z1 h
 injection hv with e1 e2 e3
 subst e1 e3
 rcases h.2 with ⟨hv,h0⟩ | ⟨k,cap,cur,hv,_⟩
 ·injection hv with e1 _ _;subst e1;have hQ:Q=[]:=by have:=hq.1;rw[h0]at this;exact List.length_eq_zero_iff.1 this
  subst hQ;refine(D5 qn qc W).mono λe w' ⟨he,hw⟩=>⟨_,he,Ou ?_⟩
  rw[hw];exact⟨⟨by rw[h0];rfl,.inl ⟨rfl,h0⟩⟩,Below.refl _ _⟩
 ·injection hv with e1 _ _;subst e1;refine(D4 k 0 qn qc Q W hq.1 hn (λi hi=>?_)).mono λe w' ⟨v,he,h1,_,h3⟩=>⟨v,he,Ou ⟨h1,h3⟩⟩
  rcases hq.2 with h0 | ⟨g,e,_,hc⟩
  ·omega
  ·injection e with e;injection e with e;subst e;rw[Ij];exact hc i hi
def V0 (sd p:Int)(R:List Rw):List Od:=if atN sd p R<R.length/\(R[atN sd p R]!).pr=p then (R[atN sd p R]!).q else []
theorem qg8 (b:Option Addr)(m:Option Nat)(s1 s2:Sd)(sd pr:Int)(dJ:(Lit.int .i64 sd).wf=true)(w:World)(H:Bk w b m s1 s2)(h1:SideOk 1 s1.rs)(h2:SideOk 2 s2.rs)(dR:s1.rs.length<=1000)(cT:s2.rs.length<=1000)(hQ:Q5 (s1.rs++s2.rs)<=1000) :
  Calls prog 174 #[.pointer b,.int .i64 sd,.int .i64 pr] w λe w'=>∃v,e=.returned v/\Hid (w'.ownsRow w.heap.size 38 6 v (V0 sd pr (Qu s1 s2 sd)).length (ol (V0 sd pr (Qu s1 s2 sd)))/\Ok w w'):=by
 have HS:=Ou (UG b m s1 s2 sd w dJ H)
 obtain⟨A,c,hv,hr,hft⟩:=H.rows sd
 have hpw:=qg7 h1 h2 sd
 have hrl:=qgu (s1:=s1) (s2:=s2) sd dR cT
 obtain⟨R,hR⟩:∃R,Qu s1 s2 sd=R:=⟨_,rfl⟩
 rw[hR]at hv hr hpw hrl hft ⊢
 rw[hv]at HS
 have HF:=Ou (Vg A R.length c R sd pr w hr hpw hrl)
 unfold V0
 obtain⟨k,hk⟩:∃k,atN sd pr R=k:=⟨_,rfl⟩
 rw[hk]at HF ⊢
 by_cases aS:k<R.length/\(R[k]!).pr=pr
 ·rw[Sx aS];have e:(decide (k<R.length)&&(R[k]!).pr==pr)=true:=by rw[Sy aS.1,aS.2];simp
  rw[e]at HF;have hmem:R[k]!∈s1.rs++s2.rs:=by
   rw[Sj R k aS.1];exact JU (by rw[hR];exact Wt aS.1)
  have aU:(R[k]!).q.length<=1000:=Sk (JV (x:=⟨R[k]!,hmem⟩)) hQ;obtain⟨g,rfl,hc2⟩:∃g,A=some ⟨g,0,none⟩/\w.cell? ⟨g,k*2+1,none⟩=some (R[k]!).v:=by
   rcases hr.2 with h0 | ⟨g,h,_,hc⟩
   ·omega
   ·exact⟨g,h,(hc k aS.1).2⟩
  obtain⟨qa,qc,cE,vM⟩:=Z1 (H.q _ hmem);have hq:=H.q _ hmem;obtain⟨Q,fD⟩:∃Q,(R[k]!).q=Q:=⟨_,rfl⟩
  rw[fD]at cE vM aU hq ⊢;obtain⟨qn,cG⟩:∃qn,Q.length=qn:=⟨_,rfl⟩
  rw[cG]at cE vM aU ⊢;rw[cE]at hc2;rw[cE,cG]at hq;have hkl:=Ou aS.1;have hkI:(k:Int)<(R.length:Int):=by have:=aS.1;omega
  have HC:Hid (∀W,Gw w W->Calls prog 49 #[.slice qa qn qc] W λe w'=>∃v,e=.returned v/\Hid (w'.ownsRow W.heap.size 38 6 v qn (ol Q)/\Ok W w')):=λW hW=>TX (Qi hq (S:=λ_=>False) (Fr.of_below hW.b) (λ_ _ h=>h)) aU;have iF:∀W,Gw w W->W.cell? ⟨g,k*2+1,none⟩=some (.slice qa qn qc):=λW hW=>J8 (S:=λ_=>False) (Fr.of_below hW.b) (λh=>h) hc2;have Hcq:=Ou iF;clear H hr hft aS e iF hc2 hq vM hk hpw;go_enter func174,ntmps174;go_wp2_with (first|((with_reducible refine HS.out.mono ?_);rintro e w1 ⟨rfl,rfl⟩;clear HS)|((with_reducible refine HF.out.mono ?_);rintro e w2 ⟨rfl,k2⟩;have iF:=Hcq.out _ k2)|((with_reducible refine(HC.out _ k2).mono ?_);rintro e w3 ⟨v,rfl,hv3⟩))
  go_ret;exact⟨_,rfl,Ou ⟨Ju hv3.out.1 k2.b.size,k2.b.trans (hv3.out.2.mono k2.b.size)⟩⟩
 ·rw[Sw aS];have e:(decide (k<R.length)&&(R[k]!).pr==pr)=false:=by
   by_cases h1:k<R.length
   ·have h2:¬(R[k]!).pr=pr:=λh=>aS ⟨h1,h⟩;have h3:((R[k]!).pr==pr)=false:=by
     cases h4:((R[k]!).pr==pr) with
     | false=>rfl
     | true=>exact absurd (by simpa using h4) (by simpa using h2)
    rw[h3,Fk]
   ·rw[Sz h1,Fj]
  rw[e]at HF;clear H hr hft aS e hk hpw;go_enter func174,ntmps174;go_wp2_with (first|((with_reducible refine HS.out.mono ?_);rintro e w1 ⟨rfl,rfl⟩;clear HS)|((with_reducible refine HF.out.mono ?_);rintro e w2 ⟨rfl,k2⟩))
  go_ret;exact⟨_,rfl,Ou ⟨⟨rfl,.inl ⟨rfl,rfl⟩⟩,k2.b⟩⟩
theorem qg9 (b:Option Addr)(m:Option Nat)(s1 s2:Sd)(id:Int)(w:World)(H:Bk w b m s1 s2)(dR:s1.rs.length<=1000)(cT:s2.rs.length<=1000)(hQ:Q5 (s1.rs++s2.rs)<=1000)(hno:∀x∈Qa s1.rs s2.rs,¬x.id=id) :
  Calls prog 176 #[.pointer b,.int .u64 id] w λe w'=>e=.returned (.tuple #[QG none,.bool false])/\Hid (Ok w w'):=by
 have hb:Ok w (w.alloc (.cells (OC ⟨0,0,0,0,0,0⟩) 38)):=(Oq _ _).alloc (Sq _) _
 have HG:=Ou (Kx b m s1 s2 id (w.alloc (.cells (OC ⟨0,0,0,0,0,0⟩) 38)) (H.below hb) dR cT hQ)
 have HB:=Ou hb
 clear H hb
 go_enter func176,ntmps176
 go_wp2_with ((with_reducible refine HG.out.mono ?_);rintro e w1 ⟨r,rfl,hr⟩;obtain rfl:r=none:=(by cases r with|none=>rfl|some y=>exact absurd hr.out.1.2 (hno y hr.out.1.1));dsimp only[QG,Option.isSome];have B1:Hid (Ok w (w1.alloc (.cells (OC ⟨0,0,0,0,0,0⟩) 38))):=(HB.out.trans (hr.out.2.mono HB.out.size)).alloc (Sk HB.out.size hr.out.2.size) _;have C1:Cl 38 (w1.alloc (.cells (OC ⟨0,0,0,0,0,0⟩) 38)) w.heap.size (OC ⟨0,0,0,0,0,0⟩):=Qp (Ww (Ns _) (by have:=hr.out.2.size;rw[World.size_alloc]at this;exact this)) ((hr.out.2.block _ (by rw[World.size_alloc];exact Ns _)).trans (Qe rfl));have C0:=Ou C1;obtain⟨x0,x1,x2,x3,x4,x5⟩:=Qm C1;have f0:=C1.f (k:=0);have f1:=C1.f (k:=1);have f2:=C1.f (k:=2);have f3:=C1.f (k:=3);have f4:=C1.f (k:=4);have f5:=C1.f (k:=5);clear HG hr)
 have hf:=JW ⟨0,0,0,0,0,0⟩ C0.out
 have hb:=VR ⟨0,0,0,0,0,0⟩ (Sq _) B1.out
 refine bodyPost_ret (ZK rfl _ _ _ rfl ⟨0,0,0,0,0,0⟩ _ hf _ rfl) rfl ?_
 exact⟨rfl,Ou hb⟩
end
end Go.Proofs.YtikapeaodobkjaaGreat
