/- What the laws lean on, in a few texts (by shake.py): number 10 of 16. -/
import Derived.Test.YtikapeaodobkjaaGreatZq1
import Derived.Test.YtikapeaodobkjaaGreatZq2
import Derived.Test.YtikapeaodobkjaaGreatZq5
import Derived.Test.YtikapeaodobkjaaGreatZq9
import Derived.Test.YtikapeaodobkjaaGreatZq3
import Derived.Shelf.SlSortCmp.QuietGrown
import Derived.Laws.OwnMore
import Derived.Laws.AppendOwnNone

set_option maxHeartbeats 16000000
set_option maxRecDepth 1000000
set_option linter.unusedVariables false
set_option linter.unusedSimpArgs false
namespace Go.Proofs.YtikapeaodobkjaaGreat
open _root_.Go.Proofs.Tryz
section
open Go.RowKit Go.Sort Go.Lib Go.Shelf
def ZQ (cur z:List Value)(n i k:Nat):List Value:=cur.take (i*k)++(cur.drop ((i+1)*k)).take ((n-1-i)*k)++z++cur.drop (n*k)
theorem Tp {cur z:List Value}{n i k c:Nat}(hi:i<n)(hc:n<=c)(hl:cur.length=c*k)(hz:z.length=k) :
  (cur.take (i*k)++(cur.drop ((i+1)*k)).take ((n-1-i)*k)++cur.drop (i*k+((cur.drop ((i+1)*k)).take ((n-1-i)*k)).length)).take ((n-1)*k)++z ++
   (cur.take (i*k)++(cur.drop ((i+1)*k)).take ((n-1-i)*k)++cur.drop (i*k+((cur.drop ((i+1)*k)).take ((n-1-i)*k)).length)).drop ((n-1)*k+z.length)=ZQ cur z n i k:=by
 obtain⟨m,rfl⟩:∃m,n=i+1+m:=⟨n-(i+1),by omega⟩
 have e0:i+1+m-1-i=m:=by omega
 have e1:(i+1)*k=i*k+k:=Nat.succ_mul i k
 have e2:(i+1+m)*k=i*k+k+m*k:=by rw[Nat.add_mul,e1]
 have e3:(i+1+m-1)*k=i*k+m*k:=by rw[show i+1+m-1=i+m by omega,Nat.add_mul]
 have h2:i*k+k+m*k<=c*k:=by rw[<-e2];exact Nat.mul_le_mul_right k hc
 unfold ZQ
 rw[e0,e2,e3]
 have lx:((cur.drop ((i+1)*k)).take (m*k)).length=m*k:=by rw[Wy,Az];omega
 have ly:(cur.take (i*k)).length=i*k:=by rw[Wy];omega
 rw[lx,List.take_append_of_le_length (by rw[Su];omega),List.take_of_length_le (by rw[Su];omega),List.drop_append,Su,lx,ly]
 rw[List.drop_eq_nil_of_le («as»:=cur.take (i*k)++(cur.drop ((i+1)*k)).take (m*k)) (by rw[Su];omega),List.nil_append,List.drop_drop,hz]
 rw[show i*k+m*k+(i*k+m*k+k-(i*k+m*k))=i*k+k+m*k by omega]
theorem Tq {cur z xs:List Value}{n i k c:Nat}(hi:i<n)(hc:n<=c)(hl:cur.length=c*k)(hz:z.length=k)(hx:cur.take (n*k)=xs) :
  (ZQ cur z n i k).length=c*k/\(ZQ cur z n i k).take ((n-1)*k)=xs.take (i*k)++xs.drop ((i+1)*k):=by
 obtain⟨m,rfl⟩:∃m,n=i+1+m:=⟨n-(i+1),by omega⟩
 have e0:i+1+m-1-i=m:=by omega
 have e1:(i+1)*k=i*k+k:=Nat.succ_mul i k
 have e2:(i+1+m)*k=i*k+k+m*k:=by rw[Nat.add_mul,e1]
 have e3:(i+1+m-1)*k=i*k+m*k:=by rw[show i+1+m-1=i+m by omega,Nat.add_mul]
 have h2:i*k+k+m*k<=c*k:=by rw[<-e2];exact Nat.mul_le_mul_right k hc
 subst hx
 unfold ZQ
 rw[e0,e2,e3,e1]
 have lx:((cur.drop (i*k+k)).take (m*k)).length=m*k:=by rw[Wy,Az];omega
 have ly:(cur.take (i*k)).length=i*k:=by rw[Wy];omega
 refine⟨?_,?_⟩
 ·simp only[Su,lx,ly,hz,Az];omega
 ·rw[St,List.take_append_of_le_length (by rw[Su];omega),List.take_of_length_le (by rw[Su];omega)];rw[List.take_take,Nat.min_eq_left Oz,List.drop_take,show i*k+k+m*k-(i*k+k)=m*k by omega]
theorem Ts {P:Program}{ops:Array Oper}{o:Oper}{a:Act}{w:World}{K:Act->World->Prop}{Q:Exit->Act->World->Prop}{E:Prop}
  (hg:o.guard=none) (s x:Operand) (t:TypeId) (hop:o.op=Op.call { callee:=Callee.builtin Builtin.append,args:=#[s,x],argTypes:=#[t,t] })
  (v u:Value) (hs:a.eval s=v) (hx:a.eval x=u) {v':Value} {w':World} (hr:(Builtin.append_ #[t,t] o.type #[v,u]).run P w=.ok v' w') (hK:K (a.put o.dst v') w') :
  if Region.wanted o (yielded ops a.tmps)=true then Oper.wp P o a w K Q else E:=by
 have hw:Region.wanted o (yielded ops a.tmps)=true:=by simp[Region.wanted,hg]
 rw[Sx hw]
 unfold Oper.wp
 simp[execOp,hop,resolve,invoke,builtin,hs,hx,hr,Result.andThen]
 exact hK
theorem qgH (w:World)(ty:TypeId)(g o n c:Nat)(cur:Array Value)(hn:n=1)(hg:w.heap[g]? = some (.cells cur 247 (0,0)))(hfit:o+2<=cur.size) :
  (Builtin.clear_ #[248] ty #[.slice (some ⟨g,o,none⟩) n c]).run prog w=.ok (.tuple #[]) (w.setRow g (cur.toList.take o++(#[.int .i64 0,.slice none 0 0]:Array Value).toList++cur.toList.drop (o+(#[.int .i64 0,.slice none 0 0]:Array Value).toList.length)).toArray):=by
 subst hn
 have hst:=run_storeCells_at prog g o 247 (#[.int .i64 0,.slice none 0 0]:Array Value).toList 0 cur w hg (by simpa using hfit) Ox
 simp only[Nat.add_zero]at hst
 have hz:(Builtin.zeroCells (Value.cells (.agg #[.int .i64 0,.slice none 0 0])) 1).toList=(#[.int .i64 0,.slice none 0 0]:Array Value).toList:=by kernel_rfl
 simp[Builtin.clear_,run_underlying underlying248,hz,hst]
theorem qgI (w:World)(g n c i:Nat)(cur:List Value)(hg:w.heap[g]? = some (.cells cur.toArray 247 (0,0)))(hl:cur.length=c*2)(hc:n<=c)(hi:i<n)(hcm:c<=maxLen)(h1:∀v∈cur.take (n*2),v.oneCell'=true) :
  Calls prog 184 #[.slice (some ⟨g,0,none⟩) n c,.int .i64 i,.int .i64 ((i:Int)+1)] w λe w'=>e=.returned (.slice (some ⟨g,0,none⟩) (n-1) c)/\Hid (ZN w g 247 (ZQ cur (#[.int .i64 0,.slice none 0 0]:Array Value).toList n i 2) w'):=by
 have mixed:prog.follows .mixedOrders=true:=by kernel_rfl
 obtain⟨i0,hi0,hz0,hz1,hz2⟩:=info_parts UL
 have lH:c<=9223372036854775807:=by unfold maxLen at hcm;omega
 have q1:¬((i:Int)=(i:Int)+1):=by omega
 have q2:(i:Int)<=(i:Int)+1:=by omega
 have q3:(0:Int)<=(i:Int)+1:=by omega
 have q4:(i:Int)+1<=(n:Int):=by omega
 have q5:(n:Int)<=(c:Int):=by omega
 have q6:¬(n=i):=by omega
 have q7:(i:Int)+1<=(c:Int):=by omega
 have q8:(i:Int)<=(c:Int):=by omega
 have lT:((i:Int)+1).toNat=i+1:=by omega
 have rI:¬(c=n-1):=by omega
 have qB:((n-1:Nat):Int)<=(n:Int):=by omega
 have hni:(n-1-i)*2=n*2-(i+1)*2:=by omega
 have hnc:n*2<=c*2:=by omega
 obtain⟨X,eX⟩:∃X,X=(cur.drop ((i+1)*2)).take ((n-1-i)*2):=⟨_,rfl⟩
 have lX:X.length=(n-1-i)*2:=by rw[eX,Wy,Az];omega
 obtain⟨A1,e1⟩:∃A1,A1=(cur.take (i*2)++X++cur.drop (i*2+X.length)):=⟨_,rfl⟩
 have l1:A1.length=c*2:=by rw[e1];simp only[Su,Wy,Az,lX];omega
 have e2:A1.take ((n-1)*2)++(#[.int .i64 0,.slice none 0 0]:Array Value).toList++A1.drop ((n-1)*2+(#[.int .i64 0,.slice none 0 0]:Array Value).toList.length)=ZQ cur (#[.int .i64 0,.slice none 0 0]:Array Value).toList n i 2:=by rw[e1,eX];exact Tp hi hc hl rfl
 obtain⟨A,hA,hsrc⟩:∃A:Addr,(if c=i+1 then some (⟨g,0,none⟩:Addr) else some ⟨g,(i+1)*2,none⟩)=some A/\(∀j v,X[j]? = some v->w.drew.cell? (A.add j)=some v):=by
  by_cases h:c=i+1
  ·refine⟨_,Sx h,λj v hj=>?_⟩;have h0:X.length=0:=by rw[lX];omega
   rw[List.length_eq_zero_iff.1 h0]at hj
   cases hj
  ·refine⟨_,Sw h,λj v hj=>?_⟩;rw[QN,cell_of_row _ _ _ _ _ _ (Qk hg)];rw[eX,List.getElem?_take]at hj
   split at hj
   ·rw[List.getElem?_drop]at hj;rw[List.getElem?_toArray];exact hj
   ·cases hj
 have C1:Hid (∀ty,(Builtin.append_ #[248,248] ty #[.slice (some ⟨g,0,none⟩) i c,.slice (some A) (n-(i+1)) (c-(i+1))]).run prog w.drew=.ok (.slice (some ⟨g,0,none⟩) (n-1) c) (w.drew.setRow g A1.toArray)):=Ou (λty=>by
  rw[show n-(i+1)=n-1-i by omega];have:=run_append_room w.drew 248 ty 247 i0 underlying248 hi0 g i c cur.toArray (Qk hg) A (n-1-i) (c-(i+1)) X (by rw[hz1];exact lX) hsrc (λv hv=>h1 v (by rw[eX,hni,<-List.drop_take]at hv;exact List.mem_of_mem_drop hv)) Oz (by rw[hz1,lX];simp only[Wu];omega);rw[hz1,show i+(n-1-i)=n-1 by omega]at this;rw[e1]
  exact this)
 have G1:(w.drew.setRow g A1.toArray).heap[g]? = some (.cells A1.toArray 247 (0,0)):=setRow_heap _ _ _ _ _ _ (Qk hg)
 have C2:Hid (∀ty m c',m=1->(Builtin.clear_ #[248] ty #[.slice (some ⟨g,(n-1)*2,none⟩) m c']).run prog (w.drew.setRow g A1.toArray)=.ok (.tuple #[]) ((w.drew.setRow g A1.toArray).setRow g (ZQ cur (#[.int .i64 0,.slice none 0 0]:Array Value).toList n i 2).toArray)):=Ou (λty m c' hm=>by
  have:=qgH (w.drew.setRow g A1.toArray) ty g ((n-1)*2) m c' A1.toArray hm G1 (by simp only[Wu];omega);rw[<-e2]
  exact this)
 have F:Hid (ZN w g 247 (ZQ cur (#[.int .i64 0,.slice none 0 0]:Array Value).toList n i 2) ((w.drew.setRow g A1.toArray).setRow g (ZQ cur (#[.int .i64 0,.slice none 0 0]:Array Value).toList n i 2).toArray)):=JX (JX (VT hg) (JW (Qk hg))) (JW G1)
 clear eX lX e1 l1 e2 G1 hni hnc hsrc
 have HX:=Ou (Sv hl (Sv hc (Sv hi h1)))
 clear hg hl hc h1 hcm
 go_enter func184,ntmps184
 go_wp2_with fail
 refine wp_region_held_drew (S:=λ_=>True) Ow (by trivial) (λhHeld=>?_)
 refine tkA 0 ?_
 refine tkA 1 ?_
 refine tkA 2 ?_
 refine tkA 3 ?_
 refine tkA 4 ?_
 refine tkA 5 ?_
 (try simp only[zz])
 refine rdH 6 (λK hK=>?_)
 refine Ts rfl (.tmp 22) (.tmp 25) 248 rfl _ _ rfl (by simp[Act.eval]) (C1.out _) ?_
 refine hK.out _ _ (by trivial) (λhHeld=>?_)
 clear hK K
 (try simp only[zz])
 refine tkA 7 ?_
 (try simp only[zz])
 refine wpAnyH_done Ow ?_ _
 clear C1
 go_wp2_with fail
 rw[C2.out _ _ _ (by omega)]
 go_wp2_with fail
 go_ret
 exact⟨rfl,F.out⟩
theorem qgJ (w:World)(ty:TypeId)(g o n c:Nat)(cur:Array Value)(hn:n=1)(hg:w.heap[g]? = some (.cells cur 38 (0,0)))(hfit:o+6<=cur.size) :
  (Builtin.clear_ #[22] ty #[.slice (some ⟨g,o,none⟩) n c]).run prog w=.ok (.tuple #[]) (w.setRow g (cur.toList.take o++((OC ⟨0,0,0,0,0,0⟩):Array Value).toList++cur.toList.drop (o+((OC ⟨0,0,0,0,0,0⟩):Array Value).toList.length)).toArray):=by
 subst hn
 have hst:=run_storeCells_at prog g o 38 ((OC ⟨0,0,0,0,0,0⟩):Array Value).toList 0 cur w hg (by simpa using hfit) Ox
 simp only[Nat.add_zero]at hst
 have hz:(Builtin.zeroCells (Value.cells (.agg (OC ⟨0,0,0,0,0,0⟩))) 1).toList=((OC ⟨0,0,0,0,0,0⟩):Array Value).toList:=by kernel_rfl
 simp[Builtin.clear_,run_underlying underlying22,hz,hst]
theorem Tu (w:World)(g n c i:Nat)(cur:List Value)(hg:w.heap[g]? = some (.cells cur.toArray 38 (0,0)))(hl:cur.length=c*6)(hc:n<=c)(hi:i<n)(hcm:c<=maxLen)(h1:∀v∈cur.take (n*6),v.oneCell'=true) :
  Calls prog 183 #[.slice (some ⟨g,0,none⟩) n c,.int .i64 i,.int .i64 ((i:Int)+1)] w λe w'=>e=.returned (.slice (some ⟨g,0,none⟩) (n-1) c)/\Hid (ZN w g 38 (ZQ cur ((OC ⟨0,0,0,0,0,0⟩):Array Value).toList n i 6) w'):=by
 have mixed:prog.follows .mixedOrders=true:=by kernel_rfl
 obtain⟨i0,hi0,hz0,hz1,hz2⟩:=info_parts YX
 have lH:c<=9223372036854775807:=by unfold maxLen at hcm;omega
 have q1:¬((i:Int)=(i:Int)+1):=by omega
 have q2:(i:Int)<=(i:Int)+1:=by omega
 have q3:(0:Int)<=(i:Int)+1:=by omega
 have q4:(i:Int)+1<=(n:Int):=by omega
 have q5:(n:Int)<=(c:Int):=by omega
 have q6:¬(n=i):=by omega
 have q7:(i:Int)+1<=(c:Int):=by omega
 have q8:(i:Int)<=(c:Int):=by omega
 have lT:((i:Int)+1).toNat=i+1:=by omega
 have rI:¬(c=n-1):=by omega
 have qB:((n-1:Nat):Int)<=(n:Int):=by omega
 have hni:(n-1-i)*6=n*6-(i+1)*6:=by omega
 have hnc:n*6<=c*6:=by omega
 obtain⟨X,eX⟩:∃X,X=(cur.drop ((i+1)*6)).take ((n-1-i)*6):=⟨_,rfl⟩
 have lX:X.length=(n-1-i)*6:=by rw[eX,Wy,Az];omega
 obtain⟨A1,e1⟩:∃A1,A1=(cur.take (i*6)++X++cur.drop (i*6+X.length)):=⟨_,rfl⟩
 have l1:A1.length=c*6:=by rw[e1];simp only[Su,Wy,Az,lX];omega
 have e2:A1.take ((n-1)*6)++((OC ⟨0,0,0,0,0,0⟩):Array Value).toList++A1.drop ((n-1)*6+((OC ⟨0,0,0,0,0,0⟩):Array Value).toList.length)=ZQ cur ((OC ⟨0,0,0,0,0,0⟩):Array Value).toList n i 6:=by rw[e1,eX];exact Tp hi hc hl rfl
 obtain⟨A,hA,hsrc⟩:∃A:Addr,(if c=i+1 then some (⟨g,0,none⟩:Addr) else some ⟨g,(i+1)*6,none⟩)=some A/\(∀j v,X[j]? = some v->w.drew.cell? (A.add j)=some v):=by
  by_cases h:c=i+1
  ·refine⟨_,Sx h,λj v hj=>?_⟩;have h0:X.length=0:=by rw[lX];omega
   rw[List.length_eq_zero_iff.1 h0]at hj
   cases hj
  ·refine⟨_,Sw h,λj v hj=>?_⟩;rw[QN,cell_of_row _ _ _ _ _ _ (Qk hg)];rw[eX,List.getElem?_take]at hj
   split at hj
   ·rw[List.getElem?_drop]at hj;rw[List.getElem?_toArray];exact hj
   ·cases hj
 have C1:Hid (∀ty,(Builtin.append_ #[22,22] ty #[.slice (some ⟨g,0,none⟩) i c,.slice (some A) (n-(i+1)) (c-(i+1))]).run prog w.drew=.ok (.slice (some ⟨g,0,none⟩) (n-1) c) (w.drew.setRow g A1.toArray)):=Ou (λty=>by
  rw[show n-(i+1)=n-1-i by omega];have:=run_append_room w.drew 22 ty 38 i0 underlying22 hi0 g i c cur.toArray (Qk hg) A (n-1-i) (c-(i+1)) X (by rw[hz1];exact lX) hsrc (λv hv=>h1 v (by rw[eX,hni,<-List.drop_take]at hv;exact List.mem_of_mem_drop hv)) Oz (by rw[hz1,lX];simp only[Wu];omega);rw[hz1,show i+(n-1-i)=n-1 by omega]at this;rw[e1]
  exact this)
 have G1:(w.drew.setRow g A1.toArray).heap[g]? = some (.cells A1.toArray 38 (0,0)):=setRow_heap _ _ _ _ _ _ (Qk hg)
 have C2:Hid (∀ty m c',m=1->(Builtin.clear_ #[22] ty #[.slice (some ⟨g,(n-1)*6,none⟩) m c']).run prog (w.drew.setRow g A1.toArray)=.ok (.tuple #[]) ((w.drew.setRow g A1.toArray).setRow g (ZQ cur ((OC ⟨0,0,0,0,0,0⟩):Array Value).toList n i 6).toArray)):=Ou (λty m c' hm=>by
  have:=qgJ (w.drew.setRow g A1.toArray) ty g ((n-1)*6) m c' A1.toArray hm G1 (by simp only[Wu];omega);rw[<-e2]
  exact this)
 have F:Hid (ZN w g 38 (ZQ cur ((OC ⟨0,0,0,0,0,0⟩):Array Value).toList n i 6) ((w.drew.setRow g A1.toArray).setRow g (ZQ cur ((OC ⟨0,0,0,0,0,0⟩):Array Value).toList n i 6).toArray)):=JX (JX (VT hg) (JW (Qk hg))) (JW G1)
 clear eX lX e1 l1 e2 G1 hni hnc hsrc
 have HX:=Ou (Sv hl (Sv hc (Sv hi h1)))
 clear hg hl hc h1 hcm
 go_enter func183,ntmps183
 go_wp2_with fail
 refine wp_region_held_drew (S:=λ_=>True) Ow (by trivial) (λhHeld=>?_)
 refine tkA 0 ?_
 refine tkA 1 ?_
 refine tkA 2 ?_
 refine tkA 3 ?_
 refine tkA 4 ?_
 refine tkA 5 ?_
 (try simp only[zz])
 refine rdH 6 (λK hK=>?_)
 refine Ts rfl (.tmp 22) (.tmp 25) 22 rfl _ _ rfl (by simp[Act.eval]) (C1.out _) ?_
 refine hK.out _ _ (by trivial) (λhHeld=>?_)
 clear hK K
 (try simp only[zz])
 refine tkA 7 ?_
 (try simp only[zz])
 refine wpAnyH_done Ow ?_ _
 clear C1
 go_wp2_with fail
 rw[C2.out _ _ _ (by omega)]
 go_wp2_with fail
 go_ret
 exact⟨rfl,F.out⟩
end
section
open Go.RowKit Go.Shelf Go.Sort Go.Maps
def V0 (W4 w5:World)(qv v':Value)(n':Nat)(q':List Od):Prop :=
 w5.ownsRow 0 38 6 v' n' (ol q')/\W4.grownBy w5 qv.ownBlock/\v'.ownBlock=qv.ownBlock
theorem Tv {W4 w5:World}{qn i c g:Nat}{q:List Od}{cur:Array Value}(hq:q.length=qn)(hi:i<qn)(_hg:W4.heap[g]? = some (.cells cur 38 (0,0)))(hc:qn<=c)(hcm:c<=maxLen)(hs:cur.size=c*6)(ht:cur.toList.take (qn*6)=ol q)
  (h:ZN W4 g 38 (ZQ cur.toList (OC ⟨0,0,0,0,0,0⟩).toList qn i 6) w5):V0 W4 w5 (.slice (some ⟨g,0,none⟩) qn c) (.slice (some ⟨g,0,none⟩) (qn-1) c) (qn-1) (q.eraseIdx i):=by
 obtain⟨h1,h2⟩:=Tq (k:=6) (z:=(OC ⟨0,0,0,0,0,0⟩).toList) hi hc (by simpa using hs) rfl ht
 have e:ol (q.eraseIdx i)=(ol q).take (i*6)++(ol q).drop ((i+1)*6):=by
  rw[(UP q i Oz).1,(UP q (i+1) Oz).2,<-Ku,List.eraseIdx_eq_take_drop_succ]
 refine⟨⟨?_,.inr ⟨g,c,_,rfl,Nat.zero_le _,h.2,by omega,hcm,by rw[Wu];exact h1,?_⟩⟩,h.1,rfl⟩
 ·rw[Je,List.length_eraseIdx,Sx (by omega)];omega
 ·rw[List.toList_toArray,h2,e]
theorem KU {w2 W4 w5:World}{g n c n':Nat}{qv v':Value}{qn:Nat}{q q':List Od}{xs:List Value}(hR:w2.ownsRow 0 247 2 (.slice (some ⟨g,0,none⟩) n c) n xs)(hq:w2.ownsRow 0 38 6 qv qn (ol q))(G:Gw w2 W4)(hI:V0 W4 w5 qv v' n' q') :
  w5.ownsRow 0 247 2 (.slice (some ⟨g,0,none⟩) n c) n xs:=by
 refine Qh hR (S:=λj=>qv.ownBlock=some j) ?_ (λk hk e=>?_)
 ·exact((Fr.of_below G.b).grown hI.2.1 (λj e=>.inl e))
 ·injection hk with hk;subst hk;obtain⟨cs,hcs⟩:=Q5 hR rfl;exact Qn hq hcs Ox e
theorem Tx {w w2 W4 w5:World}{g c n':Nat}{qv v':Value}{R:List Rw}{qn k:Nat}{q q':List Od}{p:Int}(hk:k<R.length)(hp:(R[k]!).pr=p)(hR:w2.ownsRow 0 247 2 (.slice (some ⟨g,0,none⟩) R.length c) R.length (rl R))(hq:w2.ownsRow 0 38 6 qv qn (ol q))(G2:Ok w w2)(G:Gw w2 W4)(hI:V0 W4 w5 qv v' n' q') :
  (w5.setCell ⟨g,k*2+1,none⟩ v').ownsRow 0 38 6 v' n' (ol q')/\(w5.setCell ⟨g,k*2+1,none⟩ v').ownsRow 0 247 2 (.slice (some ⟨g,0,none⟩) R.length c) R.length (rl (R.take k++⟨p,v',q'⟩ :: R.drop (k+1))) /\
   Fr (λj=>(Value.slice (some ⟨g,0,none⟩) R.length c).ownBlock=some j∨qv.ownBlock=some j) w (w5.setCell ⟨g,k*2+1,none⟩ v'):=by
 have fC:=KU hR hq G hI
 obtain⟨cs,hcs⟩:=Q5 fC rfl
 refine⟨?_,?_,?_⟩
 ·exact Qh hI.1 (S:=λj=>j=g) ((Fr.refl (λj=>j=g) w5).set (p:=⟨g,k*2+1,none⟩) (.inl rfl) _) (λj hj e=>by subst e;exact Qn hI.1 hcs Ox hj)
 ·rw[Y0 R k hk ⟨p,v',q'⟩ hp.symm];exact JE fC rfl
 ·refine Fr.set ?_ (p:=⟨g,k*2+1,none⟩) (.inl (.inl rfl)) _;exact(Fr.of_below (G2.trans (G.b.mono G2.size))).grown hI.2.1 (λj e=>.inl (.inr e))
theorem Vl (X:World)(c:Nat)(o:Od):Fr (λk=>k=c) X (Zm X c o):=by
 unfold Zm
 exact((((((Fr.refl (λk=>k=c) X).set (p:=⟨c,0,none⟩) (.inl rfl) _).set (p:=⟨c,1,none⟩) (.inl rfl) _).set (p:=⟨c,2,none⟩) (.inl rfl) _).set (p:=⟨c,3,none⟩) (.inl rfl) _).set (p:=⟨c,4,none⟩) (.inl rfl) _).set (p:=⟨c,5,none⟩) (.inl rfl) _
theorem Ty (p m:Nat)(s1 s2:Sd)(o:Od)(id:Int)(w:World)(H:Bk w (some ⟨p,0,none⟩) (some m) s1 s2)(hwf:(Lit.int .i64 o.side).wf=true)
  (aC:Hid (∀W,Ok w W->Calls prog 172 #[.pointer (some ⟨p,0,none⟩),.int .u64 id] W λe w'=>e=.returned (.tuple #[QF (some o),.bool true])/\Hid (Ok W w')))
  (R:List Rw) (hR:Qu s1 s2 o.side=R) (hs:R.Pairwise (λa b=>Qf o.side a.pr b.pr=true))
  (hn:R.length<=1000) (k:Nat) (hk:atN o.side o.price R=k) (hkl:k<R.length) (hp:(R[k]!).pr=o.price) (hq:(R[k]!).q.Pairwise (λx y=>Qt x y=true)) (aU:(R[k]!).q.length<=1000) (i:Nat) (hi:plN o (R[k]!).q=i) (hil:i<(R[k]!).q.length) (h2:2<=(R[k]!).q.length) :
  Calls prog 176 #[.pointer (some ⟨p,0,none⟩),.int .u64 id] w λe w'=>e=.returned (.tuple #[QF (some o),.bool true])/\∃v',Hid (w'.ownsRow 0 38 6 v' ((R[k]!).q.length-1) (ol ((R[k]!).q.eraseIdx i)) /\
   w'.ownsRow 0 247 2 (Ze s1 s2 o.side) R.length (rl (R.take k++⟨o.price,v',(R[k]!).q.eraseIdx i⟩ :: R.drop (k+1)))/\Fr (λj=>(Ze s1 s2 o.side).ownBlock=some j∨(R[k]!).v.ownBlock=some j) w w'/\v'.ownBlock=(R[k]!).v.ownBlock):=by
 have mixed:prog.follows .mixedOrders=true:=by kernel_rfl
 have hmem:R[k]!∈s1.rs++s2.rs:=by
  rw[Sj R k hkl];exact JT (by rw[hR];exact Wt hkl)
 obtain⟨Q,f9⟩:∃Q,(R[k]!).q=Q:=⟨_,rfl⟩
 obtain⟨V,cZ⟩:∃V,(R[k]!).v=V:=⟨_,rfl⟩
 rw[f9]at hq aU hi hil h2 ⊢
 rw[cZ]
 obtain⟨qn,cE⟩:∃qn,Q.length=qn:=⟨_,rfl⟩
 rw[cE]at aU hil h2 ⊢
 have hown0:=H.own o.side
 rw[hR]at hown0
 obtain⟨g,c,hv,_,_⟩:=Kv hown0 hkl
 clear hown0
 have dD:=H.q _ hmem
 rw[f9,cZ,cE]at dD
 obtain⟨g2,qc,cur,cA,hg2⟩:∃g2 qc cur,V=.slice (some ⟨g2,0,none⟩) qn qc/\w.heap[g2]? = some (.cells cur 38 (0,0))/\qn<=qc/\qc<=maxLen/\cur.size=qc*6/\cur.toList.take (qn*6)=ol Q:=by
  rcases dD.2 with ⟨_,h0⟩ | ⟨g2,cap,cur,e,_,h1,h2,h3,h4,h5⟩
  ·omega
  ·exact⟨g2,cap,cur,e,h1,h2,h3,h4,h5⟩
 have hgl:g<w.heap.size:=by
  obtain⟨A,c',hv',_,hf⟩:=H.rows o.side;rw[hR]at hv' hf;rw[hv]at hv';injection hv' with e1 e2 e3;exact H.lt (hf g e1.symm Oz)
 have HH:=Ou H
 have HG:=Ou hgl
 have kU:=Ou hg2
 have bE:Hid (∀W,Ok w W->(W.cell? ⟨p,0,none⟩=some (.map (some m)))/\W.ownsRow 0 247 2 (.slice (some ⟨g,0,none⟩) R.length c) R.length (rl R)/\W.ownsRow 0 38 6 (.slice (some ⟨g2,0,none⟩) qn qc) qn (ol Q)/\W.cell? ⟨g,k*2,none⟩=some (.int .i64 o.price)/\W.cell? ⟨g,k*2+1,none⟩=some (.slice (some ⟨g2,0,none⟩) qn qc)):=λW hW=>by
  have hB:=HH.out.below hW;have hown:=hB.own o.side;rw[hR]at hown;obtain⟨g',c',hv',hc1,hc2⟩:=Kv hown hkl;rw[hv]at hv' hown;injection hv' with e1 e2 e3;injection e1 with e1;injection e1 with e1;subst e1;have fU:=hB.q _ hmem;rw[f9,cZ,cA,cE]at fU;refine⟨?_,hown,fU,by rw[hc1,hp],by rw[hc2,cZ,cA]⟩;rcases hB.shape with ⟨h,_⟩ | ⟨pp,hb,hp⟩
  ·cases h
  ·injection hb with hb';injection hb' with hb'';subst hb'';rw[cell_of_row _ _ _ _ _ _ hp];rfl
 have HF:Hid (∀W,Ok w W->Calls prog 181 #[.slice (some ⟨g,0,none⟩) R.length c,.int .i64 o.side,.int .i64 o.price] W λe w'=>e=.returned (.tuple #[.int .i64 (k:Nat),.bool true])/\Gw W w'):=λW hW=>by
  have:=Vf (some ⟨g,0,none⟩) R.length c R o.side o.price W ?_ hs hn
  ·rw[hk,Sy hkl,hp]at this;simpa using this
  ·obtain⟨A,c',hv',hr⟩:=Kq (bE.out W hW).2.1;injection hv' with e1 e2 e3;rw[e1];exact hr
 have HP:Hid (∀W,Ok w W->Calls prog 182 #[.slice (some ⟨g2,0,none⟩) qn qc,.agg #[.int .u64 o.id,.int .i64 o.acc,.int .i64 o.side,.int .i64 o.price,.int .i64 o.qty,.int .u64 o.seq]] W λe w'=>e=.returned (.int .i64 (i:Nat))/\Gw W w'):=λW hW=>by
  have:=VP (some ⟨g2,0,none⟩) qn qc Q o W ?_ hq aU
  ·rw[hi]at this;exact this
  ·obtain⟨A,c',hv',hr⟩:=Z0 (bE.out W hW).2.2.1;injection hv' with e1 e2 e3;rw[e1];exact hr
 have HD:Hid (∀W,Ok w W->Calls prog 183 #[.slice (some ⟨g2,0,none⟩) qn qc,.int .i64 i,.int .i64 ((i:Int)+1)] W λe w'=>e=.returned (.slice (some ⟨g2,0,none⟩) (qn-1) qc)/\Hid (V0 W w' (.slice (some ⟨g2,0,none⟩) qn qc) (.slice (some ⟨g2,0,none⟩) (qn-1) qc) (qn-1) (Q.eraseIdx i))):=λW hW=>by
  obtain⟨a1,a2,a3,a4,a5⟩:=kU.out;have hg:=(hW.block _ (Qc a1)).trans a1;refine(Tu W g2 qn qc i cur.toList (by rw[Array.toArray_toList];exact hg) (by simpa using a4) a2 hil a3 (by rw[a5];exact Kn Q)).mono ?_;rintro e w' ⟨rfl,h⟩;exact⟨rfl,Ou (Tv cE hil hg a2 a3 a4 a5 h.out)⟩
 have hlk:=λq W (hW:Ok w W)=>Vh ((HH.out.below (hW.trans (QI ((Oq _ _).mono hW.size) q))).mp m rfl) HH.out.t1 HH.out.t2 o.side hwf
 rw[hv]at hlk
 have sA:=Ou hlk
 have HV:=Ou (Sv hv (Sv cA (Sv cE hmem)))
 have HK:=Ou (Sv hkl hp)
 obtain⟨n1,lM⟩:∃n1,qn-1=n1:=⟨_,rfl⟩
 rw[lM]at HD ⊢
 have hn10:¬((n1:Int)=0):=by omega
 have eI:=Ou lM
 have H2N:=Ou h2
 clear lM h2
 have HC:Hid ((rl R)[k*2+1]? = some (.slice (some ⟨g2,0,none⟩) qn qc)):=by
  have:=JQ R k 1 hkl Oz;rw[this,<-cA,<-cZ];rfl
 clear H hs hn hwf hmem hgl hg2 hlk dD hk hi hq
 obtain⟨W0,hW0⟩:∃W0,w.alloc (.cells (OC ⟨0,0,0,0,0,0⟩) 38)=W0:=⟨_,rfl⟩
 have bO:Hid (Ok w W0):=by rw[<-hW0];exact(Oq _ _).alloc (Sq _) _
 have fO:Hid (Cl 38 W0 w.heap.size (OC ⟨0,0,0,0,0,0⟩)):=by rw[<-hW0];exact Qe rfl
 obtain⟨rb,xR⟩:∃rb,w.heap.size=rb:=⟨_,rfl⟩
 go_enter func176,ntmps176
 go_wp2_with ((with_reducible refine(aC.out _ bO.out).mono ?_);rintro e w1 ⟨rfl,hb1⟩;dsimp only[QF])
 obtain⟨W1,hW1⟩:∃W1,w1.alloc (.cells (OC o) 38)=W1:=⟨_,rfl⟩
 have aP:Hid (Ok w W1):=by rw[<-hW1];exact(bO.out.trans (hb1.out.mono bO.out.size)).alloc (Sk bO.out.size hb1.out.size) _
 have aT:Cl 38 W1 w1.heap.size (OC o):=by rw[<-hW1];exact Qe rfl
 have iC:Cl 38 W1 w.heap.size (OC ⟨0,0,0,0,0,0⟩):=by rw[<-hW1];exact Qp (Qc ((hb1.out.block _ (Qc fO.out)).trans fO.out)) ((hb1.out.block _ (Qc fO.out)).trans fO.out)
 have oG:Hid (w.heap.size<w1.heap.size):=Ww (Qc fO.out) hb1.out.size
 rw[hW1]
 obtain⟨ob,dM⟩:∃ob,w1.heap.size=ob:=⟨_,rfl⟩
 rw[dM]at aT oG ⊢
 rw[xR]at iC oG
 obtain⟨x0,x1,x2,x3,x4,x5⟩:=Qm aT
 have hpc:=(bE.out W1 aP.out).1
 have hlk:=λq=>sA.out q W1 aP.out
 clear dM hW1 hb1 aC bO fO hW0
 clear w1 W0
 go_quiet (fail)
 go_wp2_with ((with_reducible refine(HF.out _ (QI aP.out _)).mono ?_);rintro e w2 ⟨rfl,k2⟩;have aG:Hid (Ok w w2):=(QI aP.out _).trans (k2.b.mono (QI aP.out _).size);have eJ:Cl 38 w2 ob (OC o):=Cl.gw (X:=W1.drewN _) aT k2;have tT:Cl 38 w2 rb (OC ⟨0,0,0,0,0,0⟩):=Cl.gw (X:=W1.drewN _) iC k2;clear x0 x1 x2 x3 x4 x5 hpc hlk)
 clear aT iC k2 aP
 clear W1
 have aL:Hid (∀W,Gw w2 W->Cl 38 W ob (OC o)):=λW hW=>eJ.gw hW
 have sY:Hid (∀W,Gw w2 W->Cl 38 W rb (OC ⟨0,0,0,0,0,0⟩)):=λW hW=>tT.gw hW
 have kG:Hid (∀W,Gw w2 W->Ok w W):=λW hW=>aG.out.trans (hW.b.mono aG.out.size)
 clear eJ tT
 refine wp_region_held_drew (S:=λW=>Gw w2 W) Ow (by exact⟨(Oq _ _).drew,Nat.le_succ _⟩) (λhHeld=>?_)
 refine tkA 0 ?_
 refine tkA 1 ?_
 refine tkA 2 ?_
 refine tkH 3 ?_ ?_ Ov ?_
 rotate_left
 ·(intro w hSw;have hs:=(bE.out _ (kG.out _ hSw)).2.2.2.2;(try dsimp only at hSw);go_simp;try with_reducible rfl)
 (try simp only[zz])
 refine tkH 4 ?_ ?_ Ov ?_
 rotate_left
 ·(intro w hSw;obtain⟨hs0,hs1,hs2,hs3,hs4,hs5⟩:=Qm (aL.out _ hSw);(try dsimp only at hSw);go_simp;try with_reducible rfl)
 (try simp only[zz])
 refine rdH 5 (λK hK=>?_)
 go_simp
 ((with_reducible refine(HP.out _ (kG.out _ hHeld)).mono ?_);rintro e w3 ⟨rfl,k3⟩)
 refine hK.out _ _ (by exact hHeld.trans k3) (λhHeld=>?_)
 clear hK K
 (try simp only[zz])
 refine tkA 6 ?_
 (try simp only[zz])
 refine wpAnyH_done Ow ?_ _
 have fQ:Hid (ob≠g/\some ob≠(Value.slice (some ⟨g2,0,none⟩) qn qc).ownBlock/\rb≠g/\some rb≠(Value.slice (some ⟨g2,0,none⟩) qn qc).ownBlock):=by
  have a:=HG.out;have b:=Qc kU.out.1;have c:=oG.out;refine⟨by omega,λe=>?_,by omega,λe=>?_⟩<;>(injection e with e;(try simp only at e);omega)
 have z0:=(bE.out _ (kG.out _ hHeld)).2.2.2.2
 go_wp2_with ((with_reducible refine(HD.out _ (kG.out _ hHeld)).mono ?_);rintro e w5 ⟨rfl,hI⟩;have z5:w5.cell? ⟨g,k*2+1,none⟩=some (.slice (some ⟨g2,0,none⟩) qn qc):=(Jg (KU (bE.out _ aG.out).2.1 (bE.out _ aG.out).2.2.1 hHeld hI.out) rfl HC.out).1;have f5:w5.frozen? ⟨g,k*2+1,none⟩=false:=(Jg (KU (bE.out _ aG.out).2.1 (bE.out _ aG.out).2.2.1 hHeld hI.out) rfl HC.out).2;have tL:Cl 38 (w5.setCell ⟨g,k*2+1,none⟩ (.slice (some ⟨g2,0,none⟩) n1 qc)) ob (OC o):=(QJ (a:=⟨g,k*2+1,none⟩) fQ.out.1).trans ((hI.out.2.1.block _ (Qc (aL.out _ hHeld)) fQ.out.2.1).trans (aL.out _ hHeld));have kA:Cl 38 (w5.setCell ⟨g,k*2+1,none⟩ (.slice (some ⟨g2,0,none⟩) n1 qc)) rb (OC ⟨0,0,0,0,0,0⟩):=(QJ (a:=⟨g,k*2+1,none⟩) fQ.out.2.2.1).trans ((hI.out.2.1.block _ (Qc (sY.out _ hHeld)) fQ.out.2.2.2).trans (sY.out _ hHeld));have sZ:=Ou kA;have nW:=Ou (Tx HK.out.1 HK.out.2 (bE.out _ aG.out).2.1 (bE.out _ aG.out).2.2.1 aG.out hHeld hI.out);have c6:(w5.setCell ⟨g,k*2+1,none⟩ (.slice (some ⟨g2,0,none⟩) n1 qc)).cell? ⟨g,k*2+1,none⟩=some (.slice (some ⟨g2,0,none⟩) n1 qc):=(Jg (JE (j:=k*2+1) (u:=(.slice (some ⟨g2,0,none⟩) n1 qc)) (KU (bE.out _ aG.out).2.1 (bE.out _ aG.out).2.2.1 hHeld hI.out) rfl) rfl (List.getElem?_set_self (List.getElem?_eq_some_iff.1 HC.out).1)).1;obtain⟨x0,x1,x2,x3,x4,x5⟩:=Qm tL;obtain⟨z0',z1',z2',z3',z4',z5'⟩:=Qm kA;have g0:=kA.f (k:=0);have g1:=kA.f (k:=1);have g2':=kA.f (k:=2);have g3:=kA.f (k:=3);have g4:=kA.f (k:=4);have g5:=kA.f (k:=5);clear z0 hI)
 have hf:=JV o sZ.out
 refine bodyPost_ret (ZP rfl _ _ _ rfl o _ hf _ rfl) rfl ?_
 refine⟨rfl,.slice (some ⟨g2,0,none⟩) n1 qc,Ou ?_⟩
 rw[HV.out.1,HV.out.2.1]
 obtain⟨a1,a2,a3⟩:=nW.out
 have hne:=fQ.out
 refine⟨Qh a1 (Vl _ rb o) (λj hj e=>hne.2.2.2 (by rw[<-e];exact hj.symm)),Qh a2 (Vl _ rb o) (λj hj e=>?_),a3.trans (Vl _ rb o) (λj e=>.inr Oz),rfl⟩
 injection hj with hj
 exact hne.2.2.1 (by rw[<-e,<-hj])
def qgK (W w7:World)(g c:Nat)(R:List Rw)(k:Nat):Prop :=
 w7.ownsRow 0 247 2 (.slice (some ⟨g,0,none⟩) (R.length-1) c) (R.length-1) (rl (R.take k++R.drop (k+1)))/\W.grownBy w7 (some g)
theorem qgL {R:List Rw}(h:∀r∈R,r.v.oneCell'=true):∀u∈rl R,u.oneCell'=true:=by
 intro u hu
 obtain⟨r,hr,hu⟩:=List.mem_flatMap.1 hu
 exact Tc r u hu (h r hr)
theorem qgM {W:World}{g c k:Nat}{R:List Rw}{x:Rw}(hk:k<R.length)(ho:∀u∈rl (R.take k++x :: R.drop (k+1)),u.oneCell'=true)(h:W.ownsRow 0 247 2 (.slice (some ⟨g,0,none⟩) R.length c) R.length (rl (R.take k++x :: R.drop (k+1)))) :
  Calls prog 184 #[.slice (some ⟨g,0,none⟩) R.length c,.int .i64 k,.int .i64 ((k:Int)+1)] W λe w'=>e=.returned (.slice (some ⟨g,0,none⟩) (R.length-1) c)/\Hid (qgK W w' g c R k):=by
 rcases h.2 with ⟨h0,_⟩ | ⟨g',cap,cur,e,_,h1,h2,h3,h4,h5⟩
 ·cases h0
 injection e with e1 e2 e3
 injection e1 with e1;injection e1 with e1
 subst e1 e3
 have h6:cur.toList.length=c*2:=by simpa using h4
 refine(qgI W g R.length c k cur.toList (by rw[Array.toArray_toList];exact h1) h6 h2 hk h3 (by rw[h5];exact ho)).mono ?_
 rintro e w' ⟨rfl,hi⟩
 obtain⟨b1,b2⟩:=Tq (k:=2) (z:=(#[.int .i64 0,.slice none 0 0]:Array Value).toList) hk h2 h6 rfl h5
 have hl:(R.take k++x :: R.drop (k+1)).length=R.length:=KS R k hk x
 have e:rl (R.take k++R.drop (k+1))=(rl (R.take k++x :: R.drop (k+1))).take (k*2)++(rl (R.take k++x :: R.drop (k+1))).drop ((k+1)*2):=by
  rw[(UO _ k Oz).1,(UO _ (k+1) Oz).2,<-VV];have lk:(R.take k).length=k:=by rw[Wy];omega
  rw[List.take_left' lk,List.drop_append,lk,List.drop_eq_nil_of_le («as»:=R.take k) Oz,List.nil_append,show k+1-k=1 by omega];rfl
 refine⟨rfl,Ou ⟨⟨?_,.inr ⟨g,c,_,rfl,Nat.zero_le _,hi.out.2,by omega,h3,by rw[Wu];exact b1,?_⟩⟩,hi.out.1⟩⟩
 ·rw[YM,Su,Wy,Az];omega
 ·rw[List.toList_toArray,b2,e]
theorem Tz (p m:Nat)(s1 s2:Sd)(o:Od)(id:Int)(w:World)(H:Bk w (some ⟨p,0,none⟩) (some m) s1 s2)(hwf:(Lit.int .i64 o.side).wf=true)
  (aC:Hid (∀W,Ok w W->Calls prog 172 #[.pointer (some ⟨p,0,none⟩),.int .u64 id] W λe w'=>e=.returned (.tuple #[QF (some o),.bool true])/\Hid (Ok W w')))
  (R:List Rw) (hR:Qu s1 s2 o.side=R) (hs:R.Pairwise (λa b=>Qf o.side a.pr b.pr=true))
  (hn:R.length<=1000) (k:Nat) (hk:atN o.side o.price R=k) (hkl:k<R.length) (hp:(R[k]!).pr=o.price) (hq:(R[k]!).q.Pairwise (λx y=>Qt x y=true)) (aU:(R[k]!).q.length<=1000) (i:Nat) (hi:plN o (R[k]!).q=i) (hil:i<(R[k]!).q.length) (h2:(R[k]!).q.length=1) :
  Calls prog 176 #[.pointer (some ⟨p,0,none⟩),.int .u64 id] w λe w'=>e=.returned (.tuple #[QF (some o),.bool true])/\∃v2,Hid (w'.ownsRow 0 247 2 v2 (R.length-1) (rl (R.take k++R.drop (k+1)))/\w'.ownsMap prog 3 RV m 3 ((QC s1 s2).put (.int .i64 o.side) (.held v2)) /\
   Fr (λj=>j=m∨(Ze s1 s2 o.side).ownBlock=some j∨(R[k]!).v.ownBlock=some j) w w'/\v2.ownBlock=(Ze s1 s2 o.side).ownBlock):=by
 have mixed:prog.follows .mixedOrders=true:=by kernel_rfl
 have hmem:R[k]!∈s1.rs++s2.rs:=by
  rw[Sj R k hkl];exact JT (by rw[hR];exact Wt hkl)
 obtain⟨Q,f9⟩:∃Q,(R[k]!).q=Q:=⟨_,rfl⟩
 obtain⟨V,cZ⟩:∃V,(R[k]!).v=V:=⟨_,rfl⟩
 rw[f9]at hq aU hi hil h2
 rw[cZ]
 obtain⟨qn,cE⟩:∃qn,Q.length=qn:=⟨_,rfl⟩
 rw[cE]at aU hil h2
 have hown0:=H.own o.side
 rw[hR]at hown0
 obtain⟨g,c,hv,_,_⟩:=Kv hown0 hkl
 clear hown0
 have dD:=H.q _ hmem
 rw[f9,cZ,cE]at dD
 obtain⟨g2,qc,cur,cA,hg2⟩:∃g2 qc cur,V=.slice (some ⟨g2,0,none⟩) qn qc/\w.heap[g2]? = some (.cells cur 38 (0,0))/\qn<=qc/\qc<=maxLen/\cur.size=qc*6/\cur.toList.take (qn*6)=ol Q:=by
  rcases dD.2 with ⟨_,h0⟩ | ⟨g2,cap,cur,e,_,h1,h2,h3,h4,h5⟩
  ·omega
  ·exact⟨g2,cap,cur,e,h1,h2,h3,h4,h5⟩
 have hgl:g<w.heap.size:=by
  obtain⟨A,c',hv',_,hf⟩:=H.rows o.side;rw[hR]at hv' hf;rw[hv]at hv';injection hv' with e1 e2 e3;exact H.lt (hf g e1.symm Oz)
 have HH:=Ou H
 have HG:=Ou hgl
 have kU:=Ou hg2
 have bE:Hid (∀W,Ok w W->(W.cell? ⟨p,0,none⟩=some (.map (some m)))/\W.ownsRow 0 247 2 (.slice (some ⟨g,0,none⟩) R.length c) R.length (rl R)/\W.ownsRow 0 38 6 (.slice (some ⟨g2,0,none⟩) qn qc) qn (ol Q)/\W.cell? ⟨g,k*2,none⟩=some (.int .i64 o.price)/\W.cell? ⟨g,k*2+1,none⟩=some (.slice (some ⟨g2,0,none⟩) qn qc)):=λW hW=>by
  have hB:=HH.out.below hW;have hown:=hB.own o.side;rw[hR]at hown;obtain⟨g',c',hv',hc1,hc2⟩:=Kv hown hkl;rw[hv]at hv' hown;injection hv' with e1 e2 e3;injection e1 with e1;injection e1 with e1;subst e1;have fU:=hB.q _ hmem;rw[f9,cZ,cA,cE]at fU;refine⟨?_,hown,fU,by rw[hc1,hp],by rw[hc2,cZ,cA]⟩;rcases hB.shape with ⟨h,_⟩ | ⟨pp,hb,hp⟩
  ·cases h
  ·injection hb with hb';injection hb' with hb'';subst hb'';rw[cell_of_row _ _ _ _ _ _ hp];rfl
 have HF:Hid (∀W,Ok w W->Calls prog 181 #[.slice (some ⟨g,0,none⟩) R.length c,.int .i64 o.side,.int .i64 o.price] W λe w'=>e=.returned (.tuple #[.int .i64 (k:Nat),.bool true])/\Gw W w'):=λW hW=>by
  have:=Vf (some ⟨g,0,none⟩) R.length c R o.side o.price W ?_ hs hn
  ·rw[hk,Sy hkl,hp]at this;simpa using this
  ·obtain⟨A,c',hv',hr⟩:=Kq (bE.out W hW).2.1;injection hv' with e1 e2 e3;rw[e1];exact hr
 have HP:Hid (∀W,Ok w W->Calls prog 182 #[.slice (some ⟨g2,0,none⟩) qn qc,.agg #[.int .u64 o.id,.int .i64 o.acc,.int .i64 o.side,.int .i64 o.price,.int .i64 o.qty,.int .u64 o.seq]] W λe w'=>e=.returned (.int .i64 (i:Nat))/\Gw W w'):=λW hW=>by
  have:=VP (some ⟨g2,0,none⟩) qn qc Q o W ?_ hq aU
  ·rw[hi]at this;exact this
  ·obtain⟨A,c',hv',hr⟩:=Z0 (bE.out W hW).2.2.1;injection hv' with e1 e2 e3;rw[e1];exact hr
 have HD:Hid (∀W,Ok w W->Calls prog 183 #[.slice (some ⟨g2,0,none⟩) qn qc,.int .i64 i,.int .i64 ((i:Int)+1)] W λe w'=>e=.returned (.slice (some ⟨g2,0,none⟩) (qn-1) qc)/\Hid (V0 W w' (.slice (some ⟨g2,0,none⟩) qn qc) (.slice (some ⟨g2,0,none⟩) (qn-1) qc) (qn-1) (Q.eraseIdx i))):=λW hW=>by
  obtain⟨a1,a2,a3,a4,a5⟩:=kU.out;have hg:=(hW.block _ (Qc a1)).trans a1;refine(Tu W g2 qn qc i cur.toList (by rw[Array.toArray_toList];exact hg) (by simpa using a4) a2 hil a3 (by rw[a5];exact Kn Q)).mono ?_;rintro e w' ⟨rfl,h⟩;exact⟨rfl,Ou (Tv cE hil hg a2 a3 a4 a5 h.out)⟩
 have hlk:=λq W (hW:Ok w W)=>Vh ((HH.out.below (hW.trans (QI ((Oq _ _).mono hW.size) q))).mp m rfl) HH.out.t1 HH.out.t2 o.side hwf
 rw[hv]at hlk
 have sA:=Ou hlk
 have HV:=Ou (Sv hv (Sv cA (Sv cE hmem)))
 have HK:=Ou (Sv hkl hp)
 obtain⟨n1,lM⟩:∃n1,qn-1=n1:=⟨_,rfl⟩
 obtain rfl:n1=0:=by omega
 rw[lM]at HD
 have HWF:=Ou hwf
 have HRN:=Ou hn
 clear lM h2
 have HC:Hid ((rl R)[k*2+1]? = some (.slice (some ⟨g2,0,none⟩) qn qc)):=by
  have:=JQ R k 1 hkl Oz;rw[this,<-cA,<-cZ];rfl
 clear H hs hn hwf hmem hgl hg2 hlk dD hk hi hq
 obtain⟨W0,hW0⟩:∃W0,w.alloc (.cells (OC ⟨0,0,0,0,0,0⟩) 38)=W0:=⟨_,rfl⟩
 have bO:Hid (Ok w W0):=by rw[<-hW0];exact(Oq _ _).alloc (Sq _) _
 have fO:Hid (Cl 38 W0 w.heap.size (OC ⟨0,0,0,0,0,0⟩)):=by rw[<-hW0];exact Qe rfl
 obtain⟨rb,xR⟩:∃rb,w.heap.size=rb:=⟨_,rfl⟩
 go_enter func176,ntmps176
 go_wp2_with ((with_reducible refine(aC.out _ bO.out).mono ?_);rintro e w1 ⟨rfl,hb1⟩;dsimp only[QF])
 obtain⟨W1,hW1⟩:∃W1,w1.alloc (.cells (OC o) 38)=W1:=⟨_,rfl⟩
 have aP:Hid (Ok w W1):=by rw[<-hW1];exact(bO.out.trans (hb1.out.mono bO.out.size)).alloc (Sk bO.out.size hb1.out.size) _
 have aT:Cl 38 W1 w1.heap.size (OC o):=by rw[<-hW1];exact Qe rfl
 have iC:Cl 38 W1 w.heap.size (OC ⟨0,0,0,0,0,0⟩):=by rw[<-hW1];exact Qp (Qc ((hb1.out.block _ (Qc fO.out)).trans fO.out)) ((hb1.out.block _ (Qc fO.out)).trans fO.out)
 have oG:Hid (w.heap.size<w1.heap.size):=Ww (Qc fO.out) hb1.out.size
 rw[hW1]
 obtain⟨ob,dM⟩:∃ob,w1.heap.size=ob:=⟨_,rfl⟩
 rw[dM]at aT oG ⊢
 rw[xR]at iC oG
 obtain⟨x0,x1,x2,x3,x4,x5⟩:=Qm aT
 have hpc:=(bE.out W1 aP.out).1
 have hlk:=λq=>sA.out q W1 aP.out
 clear dM hW1 hb1 aC bO fO hW0
 clear w1 W0
 go_quiet (fail)
 go_wp2_with ((with_reducible refine(HF.out _ (QI aP.out _)).mono ?_);rintro e w2 ⟨rfl,k2⟩;have aG:Hid (Ok w w2):=(QI aP.out _).trans (k2.b.mono (QI aP.out _).size);have eJ:Cl 38 w2 ob (OC o):=Cl.gw (X:=W1.drewN _) aT k2;have tT:Cl 38 w2 rb (OC ⟨0,0,0,0,0,0⟩):=Cl.gw (X:=W1.drewN _) iC k2;clear x0 x1 x2 x3 x4 x5 hpc hlk)
 clear aT iC k2 aP
 clear W1
 have aL:Hid (∀W,Gw w2 W->Cl 38 W ob (OC o)):=λW hW=>eJ.gw hW
 have sY:Hid (∀W,Gw w2 W->Cl 38 W rb (OC ⟨0,0,0,0,0,0⟩)):=λW hW=>tT.gw hW
 have kG:Hid (∀W,Gw w2 W->Ok w W):=λW hW=>aG.out.trans (hW.b.mono aG.out.size)
 clear eJ tT
 refine wp_region_held_drew (S:=λW=>Gw w2 W) Ow (by exact⟨(Oq _ _).drew,Nat.le_succ _⟩) (λhHeld=>?_)
 refine tkA 0 ?_
 refine tkA 1 ?_
 refine tkA 2 ?_
 refine tkH 3 ?_ ?_ Ov ?_
 rotate_left
 ·(intro w hSw;have hs:=(bE.out _ (kG.out _ hSw)).2.2.2.2;(try dsimp only at hSw);go_simp;try with_reducible rfl)
 (try simp only[zz])
 refine tkH 4 ?_ ?_ Ov ?_
 rotate_left
 ·(intro w hSw;obtain⟨hs0,hs1,hs2,hs3,hs4,hs5⟩:=Qm (aL.out _ hSw);(try dsimp only at hSw);go_simp;try with_reducible rfl)
 (try simp only[zz])
 refine rdH 5 (λK hK=>?_)
 go_simp
 ((with_reducible refine(HP.out _ (kG.out _ hHeld)).mono ?_);rintro e w3 ⟨rfl,k3⟩)
 refine hK.out _ _ (by exact hHeld.trans k3) (λhHeld=>?_)
 clear hK K
 (try simp only[zz])
 refine tkA 6 ?_
 (try simp only[zz])
 refine wpAnyH_done Ow ?_ _
 have fQ:Hid (ob≠g/\some ob≠(Value.slice (some ⟨g2,0,none⟩) qn qc).ownBlock/\rb≠g/\some rb≠(Value.slice (some ⟨g2,0,none⟩) qn qc).ownBlock):=by
  have a:=HG.out;have b:=Qc kU.out.1;have c:=oG.out;refine⟨by omega,λe=>?_,by omega,λe=>?_⟩<;>(injection e with e;(try simp only at e);omega)
 have z0:=(bE.out _ (kG.out _ hHeld)).2.2.2.2
 go_wp2_with ((with_reducible refine(HD.out _ (kG.out _ hHeld)).mono ?_);rintro e w5 ⟨rfl,hI⟩;have z5:w5.cell? ⟨g,k*2+1,none⟩=some (.slice (some ⟨g2,0,none⟩) qn qc):=(Jg (KU (bE.out _ aG.out).2.1 (bE.out _ aG.out).2.2.1 hHeld hI.out) rfl HC.out).1;have f5:w5.frozen? ⟨g,k*2+1,none⟩=false:=(Jg (KU (bE.out _ aG.out).2.1 (bE.out _ aG.out).2.2.1 hHeld hI.out) rfl HC.out).2;have tL:Cl 38 (w5.setCell ⟨g,k*2+1,none⟩ (.slice (some ⟨g2,0,none⟩) 0 qc)) ob (OC o):=(QJ (a:=⟨g,k*2+1,none⟩) fQ.out.1).trans ((hI.out.2.1.block _ (Qc (aL.out _ hHeld)) fQ.out.2.1).trans (aL.out _ hHeld));have kA:Cl 38 (w5.setCell ⟨g,k*2+1,none⟩ (.slice (some ⟨g2,0,none⟩) 0 qc)) rb (OC ⟨0,0,0,0,0,0⟩):=(QJ (a:=⟨g,k*2+1,none⟩) fQ.out.2.2.1).trans ((hI.out.2.1.block _ (Qc (sY.out _ hHeld)) fQ.out.2.2.2).trans (sY.out _ hHeld));have sZ:=Ou kA;have nW:=Ou (Tx HK.out.1 HK.out.2 (bE.out _ aG.out).2.1 (bE.out _ aG.out).2.2.1 aG.out hHeld hI.out);have c6:(w5.setCell ⟨g,k*2+1,none⟩ (.slice (some ⟨g2,0,none⟩) 0 qc)).cell? ⟨g,k*2+1,none⟩=some (.slice (some ⟨g2,0,none⟩) 0 qc):=(Jg (JE (j:=k*2+1) (u:=(.slice (some ⟨g2,0,none⟩) 0 qc)) (KU (bE.out _ aG.out).2.1 (bE.out _ aG.out).2.2.1 hHeld hI.out) rfl) rfl (List.getElem?_set_self (List.getElem?_eq_some_iff.1 HC.out).1)).1;clear z0 hI)
 obtain⟨W6,hW6⟩:∃W6,w5.setCell ⟨g,k*2+1,none⟩ (.slice (some ⟨g2,0,none⟩) 0 qc)=W6:=⟨_,rfl⟩
 rw[hW6]at tL sZ nW c6 ⊢
 have zD:p≠g/\W6.cell? ⟨p,0,none⟩=some (.map (some m)):=by
  rcases HH.out.shape with ⟨h,_⟩ | ⟨pp,hb,hp⟩
  ·cases h
  ·injection hb with hb';injection hb' with hb'';subst hb'';have hw:=bE.out w (Oq _ _);refine⟨λe=>Qn hw.2.1 hp Ox (by rw[e];rfl),?_⟩
   have:=nW.out.2.2.blk hp (λh=>by
    rcases h with h|h
    ·exact Qn hw.2.1 hp Ox h
    ·exact Qn hw.2.2.1 hp Ox h)
   rw[cell_of_row _ _ _ _ _ _ this];rfl
 have HPG:=Ou zD.1
 have hp6:=zD.2
 have HM6:Hid (W6.drew.ownsMap prog 3 RV m 2 (QC s1 s2)/\m≠g):=by
  have hw:=bE.out w (Oq _ _);have hm:=HH.out.mp m rfl;obtain⟨c1,h1⟩:=Q5 hw.2.1 rfl;obtain⟨c2,h2⟩:=Q5 hw.2.2.1 rfl;refine⟨(QQ hm nW.out.2.2 (λh=>?_)).drew,λe=>ZE hm h1 e.symm⟩;rcases h with h|h
  ·exact ZE hm h1 (Option.some.inj h)
  ·exact ZE hm h2 (Option.some.inj h)
 have sJ:∀u∈rl (R.take k++(⟨o.price,(.slice (some ⟨g2,0,none⟩) 0 qc),Q.eraseIdx i⟩:Rw) :: R.drop (k+1)),u.oneCell'=true:=qgL (λr hr=>by
  have key:∀r∈R,r.v.oneCell'=true:=λr hr=>by
   obtain⟨A,c',hv,_⟩:=ZO (HH.out.q r (JT (by rw[hR];exact hr)));rw[hv];rfl
  rcases List.mem_append.1 hr with hr|hr
  ·exact key r (List.mem_of_mem_take hr)
  ·rcases List.mem_cons.1 hr with rfl|hr
   ·rfl
   ·exact key r (List.mem_of_mem_drop hr))
 have lY:=Ou (qgM HK.out.1 sJ (show W6.drew.ownsRow _ _ _ _ _ _ from nW.out.2.1))
 have hkw:IntKind.i64.wrap ((k:Int)+1)=(k:Int)+1:=by
  rw[Wz];have h1:=HK.out.1;have h2:=HRN.out;omega
 clear zD hW6 c6 sJ
 refine wp_region_held_drew (S:=λW=>Cl 38 W ob (OC o)/\W.cell? ⟨p,0,none⟩=some (.map (some m))) Ow (by exact⟨Qk tL,hp6⟩) (λhHeld=>?_)
 refine tkA 0 ?_
 refine tkA 1 ?_
 refine tkA 2 ?_
 refine tkH 3 ?_ ?_ Ov ?_
 rotate_left
 ·(intro w hSw;have hs:=hSw.2;(try dsimp only at hSw);go_simp;try with_reducible rfl)
 (try simp only[zz])
 refine tkA 4 ?_
 refine tkH 5 ?_ ?_ Ov ?_
 rotate_left
 ·(intro w hSw;obtain⟨hs0,hs1,hs2,hs3,hs4,hs5⟩:=Qm hSw.1;(try dsimp only at hSw);go_simp;try with_reducible rfl)
 (try simp only[zz])
 refine tkA 6 ?_
 refine tkA 7 ?_
 refine tkA 8 ?_
 refine tkA 9 ?_
 (try simp only[zz])
 refine rdH 10 (λK hK=>?_)
 go_simp
 ((with_reducible refine(lY.out).mono ?_);rintro e w7 ⟨rfl,h7⟩)
 have tM:Cl 38 w7 ob (OC o):=(h7.out.2.block _ (Qc hHeld.1) (λe=>fQ.out.1 (Option.some.inj e))).trans hHeld.1
 have hp7:w7.cell? ⟨p,0,none⟩=some (.map (some m)):=(World.cell?_of_block (w:=W6.drew) (a:=⟨p,0,none⟩) (h7.out.2.block p (World.block_lt_of_cell? W6.drew ⟨p,0,none⟩ hHeld.2) (λe=>HPG.out (Option.some.inj e)))).trans hHeld.2
 have gY:w7.ownsMap prog 3 RV m 2 (QC s1 s2):=by
  obtain⟨es,clock,hb,F,hs,hD⟩:=HM6.out.1;exact⟨es,clock,(h7.out.2.block m (Qc hb) (λe=>HM6.out.2 (Option.some.inj e))).trans hb,F,hs,hD⟩
 obtain⟨w8,hrun,nG,hturn⟩:=gY.store Vg underlying130 Ox (keyOf_int_mk underlying3 HWF.out) (show RV (.slice (some ⟨g,0,none⟩) (R.length-1) c)=some (.held (.slice (some ⟨g,0,none⟩) (R.length-1) c),[]) from rfl)
 have HT:=Ou (Sv nG hturn)
 clear nG hturn gY
 refine hK.out _ _ (by exact⟨tM,hp7⟩) (λhHeld=>?_)
 clear hK K
 (try simp only[zz])
 refine rdH 11 (λK hK=>?_)
 go_simp
 refine hK.out _ _ (by exact⟨VY HT.out.2 hHeld.1,Te HT.out.2 hHeld.2⟩) (λhHeld=>?_)
 clear hK K
 (try simp only[zz])
 refine wpAnyH_done Ow ?_ _
 have hO8:Cl 38 w8 ob (OC o):=hHeld.1
 have lC:Cl 38 w8 rb (OC ⟨0,0,0,0,0,0⟩):=VY HT.out.2 ((h7.out.2.block _ (Qc sZ.out) (λe=>fQ.out.2.2.1 (Option.some.inj e))).trans sZ.out)
 have HZ8:=Ou lC
 have HB8:Hid (Fr (λj=>j=m∨(Value.slice (some ⟨g,0,none⟩) R.length c).ownBlock=some j∨(Value.slice (some ⟨g2,0,none⟩) qn qc).ownBlock=some j) w w8):=by
  have f1:Fr (λj=>j=m∨(Value.slice (some ⟨g,0,none⟩) R.length c).ownBlock=some j∨(Value.slice (some ⟨g2,0,none⟩) qn qc).ownBlock=some j) w W6.drew:=(nW.out.2.2.mono (λj h=>.inl (.inr h))).drew;exact(f1.grown h7.out.2 (λj e=>.inl (.inr (.inl e)))).grown HT.out.2.grown (λj e=>.inl (.inl (Option.some.inj e).symm))
 obtain⟨x0,x1,x2,x3,x4,x5⟩:=Qm hO8
 obtain⟨z0',z1',z2',z3',z4',z5'⟩:=Qm lC
 have g0:=lC.f (k:=0)
 have g1:=lC.f (k:=1)
 have g2':=lC.f (k:=2)
 have g3:=lC.f (k:=3)
 have g4:=lC.f (k:=4)
 have g5:=lC.f (k:=5)
 clear hO8 lC hHeld hp7 tM hrun hp6 tL z5 f5
 go_wp2_with fail
 have hf:=JV o HZ8.out
 refine bodyPost_ret (ZP rfl _ _ _ rfl o _ hf _ rfl) rfl ?_
 refine⟨rfl,.slice (some ⟨g,0,none⟩) (R.length-1) c,Ou ?_⟩
 (try rw[HV.out.1])
 (try rw[HV.out.2.1])
 have hne:=fQ.out
 refine⟨Qh (UR HT.out.2 h7.out.1) (Vl _ rb o) (λj hj e=>?_),QQ HT.out.1 (Vl _ rb o) (λe=>?_),HB8.out.trans (Vl _ rb o) (λj e=>.inr Oz),rfl⟩
 ·injection hj with hj;exact hne.2.2.1 (by rw[<-e,<-hj])
 ·exact ZE HT.out.1 HZ8.out e.symm
structure TurnIs (w w':World) (p m:Nat) (s1 s2 s1' s2':Sd):Prop where
 wh:Whole w' p m s1' s2'
 fr:Fr (QH (some ⟨p,0,none⟩) (some m) s1 s2) w w'
 ft:∀k,QH (some ⟨p,0,none⟩) (some m) s1' s2' k->QH (some ⟨p,0,none⟩) (some m) s1 s2 k∨w.heap.size<=k
structure TakeIs (w w':World) (p m:Nat) (s1 s2 s1' s2':Sd) (o:Od):Prop where
 tu:TurnIs w w' p m s1 s2 s1' s2'
 perm:(Qa s1.rs s2.rs).Perm (o :: Qa s1'.rs s2'.rs)
 e2:o.side=1->s2'=s2
 e1:o.side=2->s1'=s1
theorem qgN (x:Od):Qt x x=false:=by
 cases h:Qt x x with
 | false=>rfl
 | true=>have:=VO h;rw[Ux]at this;cases this
theorem Y9 (s a:Int):Qf s a a=false:=by
 cases h:Qf s a a with
 | false=>rfl
 | true=>have:=(JR s a a).1 h;omega
theorem Xa {o:Od}{q:List Od}(hp:q.Pairwise (λx y=>Qt x y=true))(ho:o∈q):plN o q<q.length/\q[plN o q]! = o:=by
 obtain⟨h1,h2⟩:=YN (λx=>Qt x o) q (YQ hp)
 have hd:o∈q.drop (plN o q):=by
  have:=ho;rw[<-List.take_append_drop (plN o q) q]at this;rcases List.mem_append.1 this with h|h
  ·have h':Qt o o=true:=h1 o h;rw[qgN]at h';cases h'
  ·exact h
 cases e:q.drop (plN o q) with
 | nil=>rw[e]at hd;cases hd
 | cons y rest =>
  have hlt:plN o q<q.length:=by
   rcases Nat.lt_or_ge (plN o q) q.length with h|h
   ·exact h
   ·rw[List.drop_eq_nil_of_le h]at e;cases e
  refine⟨hlt,?_⟩;have hy:q[plN o q]! = y:=by
   rw[Sj q _ hlt];have:=List.drop_eq_getElem_cons hlt;rw[e]at this;injection this with a _;exact a.symm
  rw[hy];rw[e]at hd;rcases List.mem_cons.1 hd with h|h
  ·exact h.symm
  ·exfalso;have i4:(q.drop (plN o q)).Pairwise (λx y=>Qt x y=true):=List.Pairwise.sublist (List.drop_sublist _ _) hp;rw[e,List.pairwise_cons]at i4;have a:=i4.1 o h;have b:Qt y o=false:=h2 y (by show y∈q.drop (plN o q);rw[e];exact List.mem_cons_self);rw[a]at b;cases b
theorem Xb {s:Int}{o:Od}{R:List Rw}(hs:s=1∨s=2)(h:SideOk s R)(ho:o∈Qb R):atN s o.price R<R.length/\(R[atN s o.price R]!).pr=o.price/\o∈(R[atN s o.price R]!).q:=by
 obtain⟨r,hr,uR⟩:=List.mem_flatMap.1 ho
 have hp:r.pr=o.price:=(h.mem r hr o uR).2.symm
 obtain⟨h1,h2,h3,h4⟩:=Kr (p:=o.price) hs h.rows
 have hd:r∈R.drop (atN s o.price R):=by
  have:=hr;rw[<-List.take_append_drop (atN s o.price R) R]at this;rcases List.mem_append.1 this with h'|h'
  ·have h'':=h1 r h';rw[hp,Y9]at h'';cases h''
  ·exact h'
 cases e:R.drop (atN s o.price R) with
 | nil=>rw[e]at hd;cases hd
 | cons y rest =>
  have hlt:atN s o.price R<R.length:=by
   rcases Nat.lt_or_ge (atN s o.price R) R.length with h'|h'
   ·exact h'
   ·rw[List.drop_eq_nil_of_le h']at e;cases e
  have hy:R[atN s o.price R]! = y:=by
   rw[Sj R _ hlt];have:=List.drop_eq_getElem_cons hlt;rw[e]at this;injection this with a _;exact a.symm
  rw[hy];rw[e]at hd;have hry:r=y:=by
   by_cases hyp:y.pr=o.price
   ·rcases List.mem_cons.1 hd with h'|h'
    ·exact h'
    ·have:=h4 y rest e hyp r h';rw[hp,Y9]at this;cases this
   ·have:=h3 y rest e hyp r hd;rw[hp,Y9]at this;cases this
  rw[<-hry];exact⟨hlt,hp,uR⟩
theorem Xc {q:List Od}{i:Nat}{o:Od}(h:i<q.length)(e:q[i]! = o):q.Perm (o :: q.eraseIdx i):=by
 rw[Sj q i h]at e
 have h1:q=q.take i++o :: q.drop (i+1):=by
  rw[<-e,<-List.drop_eq_getElem_cons h,List.take_append_drop]
 rw[List.eraseIdx_eq_take_drop_succ]
 conv=>lhs;rw[h1]
 exact List.perm_middle
theorem KV:∀{L:List Od},L.Pairwise (λx y=>¬x.id=y.id)->∀{x y:Od},x∈L->y∈L->x.id=y.id->x=y
 | [],_,_,_,hx,_,_=>by cases hx
 | a :: L,h,x,y,hx,hy,e=>by
  rw[List.pairwise_cons]at h;rcases List.mem_cons.1 hx with rfl|hx'
  ·rcases List.mem_cons.1 hy with rfl|hy'
   ·rfl
   ·exact absurd e (h.1 y hy')
  ·rcases List.mem_cons.1 hy with rfl|hy'
   ·exact absurd e.symm (h.1 x hx')
   ·exact KV h.2 hx' hy' e
theorem TA {A B M X:List Rw}{o:Od}(h:(Qb M).Perm (o :: Qb X)):(Qb (A++M++B)).Perm (o :: Qb (A++X++B)):=by
 have e:∀Y:List Rw,Qb (A++Y++B)=Qb A++Qb Y++Qb B:=λY=>by unfold Qb;rw[Wv,Wv]
 rw[e,e]
 refine((h.append_left _).append_right _).trans ?_
 rw[St,List.cons_append]
 refine List.perm_middle.trans ?_
 rw[St]
theorem TC {w w':World}{p m:Nat}{s1 s2:Sd}{A B M X:List Rw}{v2:Value}(H:Whole w p m s1 s2)
  (hR:s1.rs=A++M++B) (hX:J7 w.heap.size M X) (hv2:v2.ownBlock=s1.v.ownBlock∨∃j,v2.ownBlock=some j/\w.heap.size<=j)
  (hx:∀r∈X,w'.ownsRow 0 38 6 r.v r.q.length (ol r.q)) (hr:w'.ownsRow 0 247 2 v2 (A++X++B).length (rl (A++X++B))) (hm:w'.ownsMap prog 3 RV m 2 (QC ⟨true,v2,A++X++B⟩ s2)) (hF:Fr (J8 m s1.v M) w w')
  (c1:SideOk 1 (A++X++B)) (bZ:(Qa (A++X++B) s2.rs).Pairwise (λx y=>¬x.id=y.id)) (hlen:(Qa (A++X++B) s2.rs).length<=64) (jJ:∀x∈Qa (A++X++B) s2.rs,Od.ok w x/\Qj x=true):TurnIs w w' p m s1 s2 ⟨true,v2,A++X++B⟩ s2:=by
 obtain⟨b1,b2,b3⟩:=Tj H hR hX hv2 hx hr hm hF
 refine⟨⟨b1,c1,H.ok2,b2,b3,bZ,hlen,jJ⟩,?_,?_⟩
 ·refine hF.mono (λk hk=>.inl ?_);rcases hk with rfl|e | ⟨r,hr,e⟩
  ·exact .inr (.inl rfl)
  ·exact .inr (.inr (.inl e))
  ·exact .inr (.inr (.inr (.inr ⟨r,Ws _ (by rw[hR];simp[hr]),e⟩)))
 ·intro k hk;have hn:∀u:Value,(u.ownBlock=s1.v.ownBlock∨∃j,u.ownBlock=some j/\w.heap.size<=j)->u.ownBlock=some k->QH (some ⟨p,0,none⟩) (some m) s1 s2 k∨w.heap.size<=k:=by
   intro u hu e;rcases hu with e' | ⟨j,e',hj⟩
   ·rw[e']at e;exact .inl (.inr (.inr (.inl e)))
   ·rw[e']at e;injection e with e;exact .inr Oz
  rcases hk with e|e|e|e | ⟨r,hr,e⟩
  ·exact .inl (.inl e)
  ·exact .inl (.inr (.inl e))
  ·exact hn v2 hv2 e
  ·exact .inl (.inr (.inr (.inr (.inl e))))
  ·have hr':r∈X∨r∈s1.rs++s2.rs:=by
    have hr2:r∈A++X++B++s2.rs:=hr;rw[hR];simp only[List.mem_append]at hr2 ⊢;rcases hr2 with ((h|h)|h)|h
    ·exact .inr (.inl (.inl (.inl h)))
    ·exact .inl h
    ·exact .inr (.inl (.inr h))
    ·exact .inr (.inr h)
   rcases hr' with h|h
   ·rcases hX.2 with rfl | ⟨x,rfl,hx'⟩
    ·cases h
    ·obtain rfl:=List.mem_singleton.1 h;rcases hx' with ⟨y,rfl,e'⟩ | ⟨j,e',hj⟩
     ·rw[e']at e;exact .inl (.inr (.inr (.inr (.inr ⟨y,Ws _ (by rw[hR];simp),e⟩))))
     ·rw[e']at e;injection e with e;exact .inr Oz
   ·exact .inl (.inr (.inr (.inr (.inr ⟨r,h,e⟩))))
theorem TD {w w':World}{p m:Nat}{s1 s2:Sd}{A B M X:List Rw}{v2:Value}{o:Od}(H:Whole w p m s1 s2)(hs:o.side=1)
  (hR:s1.rs=A++M++B) (hX:J7 w.heap.size M X) (hv2:v2.ownBlock=s1.v.ownBlock∨∃j,v2.ownBlock=some j/\w.heap.size<=j)
  (hx:∀r∈X,w'.ownsRow 0 38 6 r.v r.q.length (ol r.q)) (hr:w'.ownsRow 0 247 2 v2 (A++X++B).length (rl (A++X++B))) (hm:w'.ownsMap prog 3 RV m 2 (QC ⟨true,v2,A++X++B⟩ s2)) (hF:Fr (J8 m s1.v M) w w')
  (c1:SideOk 1 (A++X++B)) (hP:(Qb M).Perm (o :: Qb X)):TakeIs w w' p m s1 s2 ⟨true,v2,A++X++B⟩ s2 o:=by
 have hperm:(Qa s1.rs s2.rs).Perm (o :: Qa (A++X++B) s2.rs):=by
  unfold Qa;rw[hR];exact(TA hP).append_right _
 have bZ:=List.pairwise_cons.1 (Y7 hperm.symm H.ids)
 have hl:=hperm.length_eq
 rw[Wq]at hl
 refine⟨TC H hR hX hv2 hx hr hm hF c1 bZ.2 (by have:=H.len;omega) (λx hx=>H.ok x (hperm.mem_iff.2 (List.mem_cons_of_mem _ hx))),hperm,λ_=>rfl,(λh=>by rw[hs]at h;cases h)⟩
theorem TE {w w':World}{p m:Nat}{s1 s2:Sd}{A B M X:List Rw}{v2:Value}(H:Whole w p m s1 s2)
  (hR:s2.rs=A++M++B) (hX:J7 w.heap.size M X) (hv2:v2.ownBlock=s2.v.ownBlock∨∃j,v2.ownBlock=some j/\w.heap.size<=j)
  (hx:∀r∈X,w'.ownsRow 0 38 6 r.v r.q.length (ol r.q)) (hr:w'.ownsRow 0 247 2 v2 (A++X++B).length (rl (A++X++B))) (hm:w'.ownsMap prog 3 RV m 2 (QC s1 ⟨true,v2,A++X++B⟩)) (hF:Fr (J8 m s2.v M) w w')
  (c1:SideOk 2 (A++X++B)) (bZ:(Qa s1.rs (A++X++B)).Pairwise (λx y=>¬x.id=y.id)) (hlen:(Qa s1.rs (A++X++B)).length<=64) (jJ:∀x∈Qa s1.rs (A++X++B),Od.ok w x/\Qj x=true):TurnIs w w' p m s1 s2 s1 ⟨true,v2,A++X++B⟩:=by
 obtain⟨b1,b2,b3⟩:=Tk H hR hX hv2 hx hr hm hF
 refine⟨⟨b1,H.ok1,c1,b2,b3,bZ,hlen,jJ⟩,?_,?_⟩
 ·refine hF.mono (λk hk=>.inl ?_);rcases hk with rfl|e | ⟨r,hr,e⟩
  ·exact .inr (.inl rfl)
  ·exact .inr (.inr (.inr (.inl e)))
  ·exact .inr (.inr (.inr (.inr ⟨r,Wx _ (by rw[hR];simp[hr]),e⟩)))
 ·intro k hk;have hn:∀u:Value,(u.ownBlock=s2.v.ownBlock∨∃j,u.ownBlock=some j/\w.heap.size<=j)->u.ownBlock=some k->QH (some ⟨p,0,none⟩) (some m) s1 s2 k∨w.heap.size<=k:=by
   intro u hu e;rcases hu with e' | ⟨j,e',hj⟩
   ·rw[e']at e;exact .inl (.inr (.inr (.inr (.inl e))))
   ·rw[e']at e;injection e with e;exact .inr Oz
  rcases hk with e|e|e|e | ⟨r,hr,e⟩
  ·exact .inl (.inl e)
  ·exact .inl (.inr (.inl e))
  ·exact .inl (.inr (.inr (.inl e)))
  ·exact hn v2 hv2 e
  ·have hr':r∈X∨r∈s1.rs++s2.rs:=by
    have hr2:r∈s1.rs++(A++X++B):=hr;rw[hR];simp only[List.mem_append]at hr2 ⊢;rcases hr2 with h|(h|h)|h
    ·exact .inr (.inl h)
    ·exact .inr (.inr (.inl (.inl h)))
    ·exact .inl h
    ·exact .inr (.inr (.inr h))
   rcases hr' with h|h
   ·rcases hX.2 with rfl | ⟨x,rfl,hx'⟩
    ·cases h
    ·obtain rfl:=List.mem_singleton.1 h;rcases hx' with ⟨y,rfl,e'⟩ | ⟨j,e',hj⟩
     ·rw[e']at e;exact .inl (.inr (.inr (.inr (.inr ⟨y,Wx _ (by rw[hR];simp),e⟩))))
     ·rw[e']at e;injection e with e;exact .inr Oz
   ·exact .inl (.inr (.inr (.inr (.inr ⟨r,h,e⟩))))
theorem TG {w w':World}{p m:Nat}{s1 s2:Sd}{A B M X:List Rw}{v2:Value}{o:Od}(H:Whole w p m s1 s2)(hs:o.side=2)
  (hR:s2.rs=A++M++B) (hX:J7 w.heap.size M X) (hv2:v2.ownBlock=s2.v.ownBlock∨∃j,v2.ownBlock=some j/\w.heap.size<=j)
  (hx:∀r∈X,w'.ownsRow 0 38 6 r.v r.q.length (ol r.q)) (hr:w'.ownsRow 0 247 2 v2 (A++X++B).length (rl (A++X++B))) (hm:w'.ownsMap prog 3 RV m 2 (QC s1 ⟨true,v2,A++X++B⟩)) (hF:Fr (J8 m s2.v M) w w')
  (c1:SideOk 2 (A++X++B)) (hP:(Qb M).Perm (o :: Qb X)):TakeIs w w' p m s1 s2 s1 ⟨true,v2,A++X++B⟩ o:=by
 have hperm:(Qa s1.rs s2.rs).Perm (o :: Qa s1.rs (A++X++B)):=by
  unfold Qa;rw[hR];exact((TA hP).append_left _).trans List.perm_middle
 have bZ:=List.pairwise_cons.1 (Y7 hperm.symm H.ids)
 have hl:=hperm.length_eq
 rw[Wq]at hl
 refine⟨TE H hR hX hv2 hx hr hm hF c1 bZ.2 (by have:=H.len;omega) (λx hx=>H.ok x (hperm.mem_iff.2 (List.mem_cons_of_mem _ hx))),hperm,(λh=>by rw[hs]at h;cases h),λ_=>rfl⟩
theorem qgO (p m:Nat)(s1 s2:Sd)(o:Od)(id:Int)(w:World)(H:Whole w p m s1 s2)(ho:o∈Qa s1.rs s2.rs)(hid:o.id=id)(hs:o.side=1) :
  Calls prog 176 #[.pointer (some ⟨p,0,none⟩),.int .u64 id] w λe w'=>e=.returned (.tuple #[QF (some o),.bool true])/\∃s1' s2',Hid (TakeIs w w' p m s1 s2 s1' s2' o):=by
 have hwf:(Lit.int .i64 o.side).wf=true:=by rw[hs];decide
 have hR:Qu s1 s2 o.side=s1.rs:=by rw[hs];rfl
 have hv:Ze s1 s2 o.side=s1.v:=by rw[hs];rfl
 have hpw:s1.rs.Pairwise (λa b=>Qf o.side a.pr b.pr=true):=by rw[hs];exact H.ok1.rows
 have hn:=H.n1
 have aC:Hid (∀W,Ok w W->Calls prog 172 #[.pointer (some ⟨p,0,none⟩),.int .u64 id] W λe w'=>e=.returned (.tuple #[QF (some o),.bool true])/\Hid (Ok W w')):=λW hW=>by
  refine(Kt _ _ s1 s2 id W (H.bk.below hW) Oz Oz Oz).mono ?_;rintro e w' ⟨r,rfl,h⟩;obtain rfl:r=some o:=by
   cases r with
   | none=>exact absurd hid (h.out.1 o ho)
   | some y=>rw[KV H.ids h.out.1.1 ho (h.out.1.2.trans hid.symm)]
  exact⟨rfl,Ou h.out.2⟩
 have hfl:o∈Qb s1.rs:=by
  unfold Qa at ho;rcases List.mem_append.1 ho with h|h
  ·exact h
  ·have:=Z7 H.ok2 o h;rw[hs]at this;cases this
 obtain⟨hkl,hp,gZ⟩:=Xb (.inl rfl) H.ok1 hfl
 obtain⟨k,hk⟩:∃k,atN 1 o.price s1.rs=k:=⟨_,rfl⟩
 rw[hk]at hkl hp gZ
 have hk':atN o.side o.price s1.rs=k:=by rw[hs];exact hk
 have hmem:s1.rs[k]!∈s1.rs:=by rw[Sj s1.rs k hkl];exact Wt hkl
 have aU:(s1.rs[k]!).q.length<=1000:=by
  have h1:(s1.rs[k]!).q.length<=Q4 (s1.rs++s2.rs):=JU (x:=⟨s1.rs[k]!,Ws _ hmem⟩);omega
 have fJ:=H.ok1.que _ hmem
 obtain⟨hil,dH⟩:=Xa fJ gZ
 obtain⟨i,hi⟩:∃i,plN o (s1.rs[k]!).q=i:=⟨_,rfl⟩
 rw[hi]at hil dH
 have hsp:=Vk s1.rs k hkl
 have eA:SideOk 1 (s1.rs.take k++[s1.rs[k]!]++s1.rs.drop (k+1)):=by rw[<-hsp];exact H.ok1
 have aS:s1.there=true:=(Vj H).1 (λe=>by rw[e]at hkl;exact absurd hkl (Ax _))
 have pD:=Xc hil dH
 have aK:=Kr (s:=1) (p:=o.price) (.inl rfl) H.ok1.rows
 rw[hk]at aK
 by_cases h2:2<=(s1.rs[k]!).q.length
 ·refine(Ty p m s1 s2 o id w H.bk hwf aC s1.rs hR hpw Oz k hk' hkl hp fJ aU i hi hil h2).mono λe w' ⟨he,v',hh⟩=>⟨he,?_⟩
  obtain⟨h1,h2',h3,h4⟩:=hh.out;rw[hv]at h2' h3;have bY:s1.rs.take k++(⟨o.price,v',(s1.rs[k]!).q.eraseIdx i⟩:Rw) :: s1.rs.drop (k+1)=s1.rs.take k++[⟨o.price,v',(s1.rs[k]!).q.eraseIdx i⟩]++s1.rs.drop (k+1):=by rw[St];rfl
  have hmm:w'.ownsMap prog 3 RV m 2 (QC s1 s2):=QQ (H.bk.mp m rfl) h3 (λhS=>by
   rcases hS with e|e
   ·obtain⟨cs,hcs⟩:=Q5 H.bk.r1 e;exact ZE (H.bk.mp m rfl) hcs rfl
   ·obtain⟨cs,hcs⟩:=Q5 (H.bk.q _ (Ws _ hmem)) e
    exact ZE (H.bk.mp m rfl) hcs rfl)
  have jR:SideOk 1 (s1.rs.take k++(⟨o.price,v',(s1.rs[k]!).q.eraseIdx i⟩:Rw) :: s1.rs.drop (k+1)) :=
   KP (p:=o.price) aK.1 (λb hb=>aK.2.2.2 _ _ (by rw[Sj s1.rs k hkl];exact List.drop_eq_getElem_cons hkl) hp b hb) eA rfl (by intro e;have:=congrArg List.length e;rw[List.length_eraseIdx,Sx hil]at this;simp only[List.length_nil]at this;omega)
    (λx hx=>by rw[<-hp];exact H.ok1.mem _ hmem x ((List.eraseIdx_sublist _ _).subset hx)) (fJ.sublist (List.eraseIdx_sublist _ _))
  rw[bY]at h2' jR;refine⟨_,_,Ou (TD (v2:=s1.v) H hs hsp ⟨.inr ⟨_,rfl⟩,.inr ⟨_,rfl,.inl ⟨_,rfl,h4⟩⟩⟩ (.inl rfl) (λr hr=>?_) ?_ ?_ ?_ jR ?_)⟩
  ·rw[List.mem_singleton.1 hr];show w'.ownsRow 0 38 6 v' ((s1.rs[k]!).q.eraseIdx i).length _;rw[List.length_eraseIdx,Sx hil];exact h1
  ·rw[<-bY,KS _ _ hkl,bY];exact h2'
  ·have:QC ⟨true,s1.v,s1.rs.take k++[⟨o.price,v',(s1.rs[k]!).q.eraseIdx i⟩]++s1.rs.drop (k+1)⟩ s2=QC s1 s2:=by
    unfold QC;rw[aS]
   rw[this];exact hmm
  ·refine h3.mono (λj hj=>.inl ?_);rcases hj with e|e
   ·exact .inr (.inl e)
   ·exact .inr (.inr ⟨_,List.mem_singleton.2 rfl,e⟩)
  ·unfold Qb;simpa using pD
 ·have hq1:(s1.rs[k]!).q.length=1:=by omega
  refine(Tz p m s1 s2 o id w H.bk hwf aC s1.rs hR hpw Oz k hk' hkl hp fJ aU i hi hil hq1).mono λe w' ⟨he,v2,hh⟩=>⟨he,?_⟩
  obtain⟨h1,h2',h3,h4⟩:=hh.out;rw[hv]at h3 h4;rw[hs,CO s1 s2 v2 (s1.rs.take k++[]++s1.rs.drop (k+1))]at h2';have hnil:(s1.rs[k]!).q.eraseIdx i=[]:=List.length_eq_zero_iff.1 (by rw[List.length_eraseIdx,Sx hil];omega);refine⟨_,_,Ou (TD (X:=[]) (v2:=v2) H hs hsp ⟨.inr ⟨_,rfl⟩,.inl rfl⟩ (.inl h4) (λr hr=>by cases hr) ?_ (YS h2') ?_ ?_ ?_)⟩
  ·have gX:(s1.rs.take k++[]++s1.rs.drop (k+1)).length=s1.rs.length-1:=by
    simp only[List.append_nil,Su,Wy,Az];omega
   rw[gX,List.append_nil];exact h1
  ·refine h3.mono (λj hj=>.inl ?_);rcases hj with e|e|e
   ·exact .inl e
   ·exact .inr (.inl e)
   ·exact .inr (.inr ⟨_,List.mem_singleton.2 rfl,e⟩)
  ·rw[List.append_nil];exact UA eA
  ·rw[hnil]at pD;unfold Qb;simpa using pD
theorem qgP (p m:Nat)(s1 s2:Sd)(o:Od)(id:Int)(w:World)(H:Whole w p m s1 s2)(ho:o∈Qa s1.rs s2.rs)(hid:o.id=id)(hs:o.side=2) :
  Calls prog 176 #[.pointer (some ⟨p,0,none⟩),.int .u64 id] w λe w'=>e=.returned (.tuple #[QF (some o),.bool true])/\∃s1' s2',Hid (TakeIs w w' p m s1 s2 s1' s2' o):=by
 have hwf:(Lit.int .i64 o.side).wf=true:=by rw[hs];decide
 have hR:Qu s1 s2 o.side=s2.rs:=by rw[hs];rfl
 have hv:Ze s1 s2 o.side=s2.v:=by rw[hs];rfl
 have hpw:s2.rs.Pairwise (λa b=>Qf o.side a.pr b.pr=true):=by rw[hs];exact H.ok2.rows
 have hn:=H.n1
 have aC:Hid (∀W,Ok w W->Calls prog 172 #[.pointer (some ⟨p,0,none⟩),.int .u64 id] W λe w'=>e=.returned (.tuple #[QF (some o),.bool true])/\Hid (Ok W w')):=λW hW=>by
  refine(Kt _ _ s1 s2 id W (H.bk.below hW) Oz Oz Oz).mono ?_;rintro e w' ⟨r,rfl,h⟩;obtain rfl:r=some o:=by
   cases r with
   | none=>exact absurd hid (h.out.1 o ho)
   | some y=>rw[KV H.ids h.out.1.1 ho (h.out.1.2.trans hid.symm)]
  exact⟨rfl,Ou h.out.2⟩
 have hfl:o∈Qb s2.rs:=by
  unfold Qa at ho;rcases List.mem_append.1 ho with h|h
  ·have:=Z7 H.ok1 o h;rw[hs]at this;cases this
  ·exact h
 obtain⟨hkl,hp,gZ⟩:=Xb (.inr rfl) H.ok2 hfl
 obtain⟨k,hk⟩:∃k,atN 2 o.price s2.rs=k:=⟨_,rfl⟩
 rw[hk]at hkl hp gZ
 have hk':atN o.side o.price s2.rs=k:=by rw[hs];exact hk
 have hmem:s2.rs[k]!∈s2.rs:=by rw[Sj s2.rs k hkl];exact Wt hkl
 have aU:(s2.rs[k]!).q.length<=1000:=by
  have h1:(s2.rs[k]!).q.length<=Q4 (s1.rs++s2.rs):=JU (x:=⟨s2.rs[k]!,Wx _ hmem⟩);omega
 have fJ:=H.ok2.que _ hmem
 obtain⟨hil,dH⟩:=Xa fJ gZ
 obtain⟨i,hi⟩:∃i,plN o (s2.rs[k]!).q=i:=⟨_,rfl⟩
 rw[hi]at hil dH
 have hsp:=Vk s2.rs k hkl
 have eA:SideOk 2 (s2.rs.take k++[s2.rs[k]!]++s2.rs.drop (k+1)):=by rw[<-hsp];exact H.ok2
 have aS:s2.there=true:=(Vj H).2 (λe=>by rw[e]at hkl;exact absurd hkl (Ax _))
 have pD:=Xc hil dH
 have aK:=Kr (s:=2) (p:=o.price) (.inr rfl) H.ok2.rows
 rw[hk]at aK
 by_cases h2:2<=(s2.rs[k]!).q.length
 ·refine(Ty p m s1 s2 o id w H.bk hwf aC s2.rs hR hpw Oz k hk' hkl hp fJ aU i hi hil h2).mono λe w' ⟨he,v',hh⟩=>⟨he,?_⟩
  obtain⟨h1,h2',h3,h4⟩:=hh.out;rw[hv]at h2' h3;have bY:s2.rs.take k++(⟨o.price,v',(s2.rs[k]!).q.eraseIdx i⟩:Rw) :: s2.rs.drop (k+1)=s2.rs.take k++[⟨o.price,v',(s2.rs[k]!).q.eraseIdx i⟩]++s2.rs.drop (k+1):=by rw[St];rfl
  have hmm:w'.ownsMap prog 3 RV m 2 (QC s1 s2):=QQ (H.bk.mp m rfl) h3 (λhS=>by
   rcases hS with e|e
   ·obtain⟨cs,hcs⟩:=Q5 H.bk.r2 e;exact ZE (H.bk.mp m rfl) hcs rfl
   ·obtain⟨cs,hcs⟩:=Q5 (H.bk.q _ (Wx _ hmem)) e
    exact ZE (H.bk.mp m rfl) hcs rfl)
  have jR:SideOk 2 (s2.rs.take k++(⟨o.price,v',(s2.rs[k]!).q.eraseIdx i⟩:Rw) :: s2.rs.drop (k+1)) :=
   KP (p:=o.price) aK.1 (λb hb=>aK.2.2.2 _ _ (by rw[Sj s2.rs k hkl];exact List.drop_eq_getElem_cons hkl) hp b hb) eA rfl (by intro e;have:=congrArg List.length e;rw[List.length_eraseIdx,Sx hil]at this;simp only[List.length_nil]at this;omega)
    (λx hx=>by rw[<-hp];exact H.ok2.mem _ hmem x ((List.eraseIdx_sublist _ _).subset hx)) (fJ.sublist (List.eraseIdx_sublist _ _))
  rw[bY]at h2' jR;refine⟨_,_,Ou (TG (v2:=s2.v) H hs hsp ⟨.inr ⟨_,rfl⟩,.inr ⟨_,rfl,.inl ⟨_,rfl,h4⟩⟩⟩ (.inl rfl) (λr hr=>?_) ?_ ?_ ?_ jR ?_)⟩
  ·rw[List.mem_singleton.1 hr];show w'.ownsRow 0 38 6 v' ((s2.rs[k]!).q.eraseIdx i).length _;rw[List.length_eraseIdx,Sx hil];exact h1
  ·rw[<-bY,KS _ _ hkl,bY];exact h2'
  ·have:QC s1 ⟨true,s2.v,s2.rs.take k++[⟨o.price,v',(s2.rs[k]!).q.eraseIdx i⟩]++s2.rs.drop (k+1)⟩=QC s1 s2:=by
    unfold QC;rw[aS]
   rw[this];exact hmm
  ·refine h3.mono (λj hj=>.inl ?_);rcases hj with e|e
   ·exact .inr (.inl e)
   ·exact .inr (.inr ⟨_,List.mem_singleton.2 rfl,e⟩)
  ·unfold Qb;simpa using pD
 ·have hq1:(s2.rs[k]!).q.length=1:=by omega
  refine(Tz p m s1 s2 o id w H.bk hwf aC s2.rs hR hpw Oz k hk' hkl hp fJ aU i hi hil hq1).mono λe w' ⟨he,v2,hh⟩=>⟨he,?_⟩
  obtain⟨h1,h2',h3,h4⟩:=hh.out;rw[hv]at h3 h4;rw[hs,CP s1 s2 v2 (s2.rs.take k++[]++s2.rs.drop (k+1))]at h2';have hnil:(s2.rs[k]!).q.eraseIdx i=[]:=List.length_eq_zero_iff.1 (by rw[List.length_eraseIdx,Sx hil];omega);refine⟨_,_,Ou (TG (X:=[]) (v2:=v2) H hs hsp ⟨.inr ⟨_,rfl⟩,.inl rfl⟩ (.inl h4) (λr hr=>by cases hr) ?_ (YS h2') ?_ ?_ ?_)⟩
  ·have gX:(s2.rs.take k++[]++s2.rs.drop (k+1)).length=s2.rs.length-1:=by
    simp only[List.append_nil,Su,Wy,Az];omega
   rw[gX,List.append_nil];exact h1
  ·refine h3.mono (λj hj=>.inl ?_);rcases hj with e|e|e
   ·exact .inl e
   ·exact .inr (.inl e)
   ·exact .inr (.inr ⟨_,List.mem_singleton.2 rfl,e⟩)
  ·rw[List.append_nil];exact UA eA
  ·rw[hnil]at pD;unfold Qb;simpa using pD
theorem TH (p m:Nat)(s1 s2:Sd)(o:Od)(id:Int)(w:World)(H:Whole w p m s1 s2)(ho:o∈Qa s1.rs s2.rs)(hid:o.id=id) :
  Calls prog 176 #[.pointer (some ⟨p,0,none⟩),.int .u64 id] w λe w'=>e=.returned (.tuple #[QF (some o),.bool true])/\∃s1' s2',Hid (TakeIs w w' p m s1 s2 s1' s2' o):=by
 rcases Vi (H.ok o ho).2 with h|h
 ·exact qgO p m s1 s2 o id w H ho hid h
 ·exact qgP p m s1 s2 o id w H ho hid h
def Qz (o:Od)(qty:Int):Od:=⟨o.id,o.acc,o.side,o.price,o.qty-qty,o.seq⟩
theorem qgQ {q:List Od}{i:Nat}{o:Od}{qty:Int}(h:i<q.length)(e:q[i]! = o):(ol q).set (i*6+4) (.int .i64 (o.qty-qty))=ol (q.set i (Qz o qty)):=by
 rw[Sj q i h]at e
 have e1:q=q.take i++o :: q.drop (i+1):=by
  rw[<-e,<-List.drop_eq_getElem_cons h,List.take_append_drop]
 have e2:q.set i (Qz o qty)=q.take i++Qz o qty :: q.drop (i+1):=List.set_eq_take_append_cons_drop.trans (Sx h)
 have hl:(ol (q.take i)).length=i*6:=by rw[Je,Wy,Nat.min_eq_left (Nat.le_of_lt h)]
 conv=>lhs;rw[e1]
 rw[e2,Ku,Ku,List.set_append,Sw (by omega)]
 congr 1
 rw[hl,show i*6+4-i*6=4 by omega]
 rfl
theorem TI (p m:Nat)(s1 s2:Sd)(o:Od)(id:Int)(w:World)(H:Bk w (some ⟨p,0,none⟩) (some m) s1 s2)(hwf:(Lit.int .i64 o.side).wf=true)
  (aC:Hid (∀W,Ok w W->Calls prog 172 #[.pointer (some ⟨p,0,none⟩),.int .u64 id] W λe w'=>e=.returned (.tuple #[QF (some o),.bool true])/\Hid (Ok W w')))
  (R:List Rw) (hR:Qu s1 s2 o.side=R) (hs:R.Pairwise (λa b=>Qf o.side a.pr b.pr=true))
  (hn:R.length<=1000) (k:Nat) (hk:atN o.side o.price R=k) (hkl:k<R.length) (hp:(R[k]!).pr=o.price) (hq:(R[k]!).q.Pairwise (λx y=>Qt x y=true)) (aU:(R[k]!).q.length<=1000) (i:Nat) (hi:plN o (R[k]!).q=i) (hil:i<(R[k]!).q.length) (dH:((R[k]!).q)[i]! = o) (qty:Int) (hq1:¬qty<1) (hq2:¬o.qty<qty) (hq3:¬qty=o.qty) (xQ:wrap64 (o.qty-qty)=o.qty-qty) :
  Calls prog 171 #[.pointer (some ⟨p,0,none⟩),.int .u64 id,.int .i64 qty] w λe w'=>e=.returned (.int .i64 0)/\Hid (w'.ownsRow 0 38 6 (R[k]!).v (R[k]!).q.length (ol ((R[k]!).q.set i (Qz o qty)))/\Fr (λj=>(R[k]!).v.ownBlock=some j) w w'):=by
 have mixed:prog.follows .mixedOrders=true:=by kernel_rfl
 have hmem:R[k]!∈s1.rs++s2.rs:=by
  rw[Sj R k hkl];exact JT (by rw[hR];exact Wt hkl)
 obtain⟨Q,f9⟩:∃Q,(R[k]!).q=Q:=⟨_,rfl⟩
 obtain⟨V,cZ⟩:∃V,(R[k]!).v=V:=⟨_,rfl⟩
 rw[f9]at hq aU hi hil dH ⊢
 rw[cZ]
 obtain⟨qn,cE⟩:∃qn,Q.length=qn:=⟨_,rfl⟩
 rw[cE]at aU hil ⊢
 have hown0:=H.own o.side
 rw[hR]at hown0
 obtain⟨g,c,hv,_,_⟩:=Kv hown0 hkl
 clear hown0
 have dD:=H.q _ hmem
 rw[f9,cZ,cE]at dD
 obtain⟨g2,qc,cur,cA,hg2⟩:∃g2 qc cur,V=.slice (some ⟨g2,0,none⟩) qn qc/\w.heap[g2]? = some (.cells cur 38 (0,0))/\qn<=qc/\qc<=maxLen/\cur.size=qc*6/\cur.toList.take (qn*6)=ol Q:=by
  rcases dD.2 with ⟨_,h0⟩ | ⟨g2,cap,cur,e,_,h1,h2,h3,h4,h5⟩
  ·omega
  ·exact⟨g2,cap,cur,e,h1,h2,h3,h4,h5⟩
 have hgl:g<w.heap.size:=by
  obtain⟨A,c',hv',_,hf⟩:=H.rows o.side;rw[hR]at hv' hf;rw[hv]at hv';injection hv' with e1 e2 e3;exact H.lt (hf g e1.symm Oz)
 have HH:=Ou H
 have HG:=Ou hgl
 have kU:=Ou hg2
 have bE:Hid (∀W,Ok w W->(W.cell? ⟨p,0,none⟩=some (.map (some m)))/\W.ownsRow 0 247 2 (.slice (some ⟨g,0,none⟩) R.length c) R.length (rl R)/\W.ownsRow 0 38 6 (.slice (some ⟨g2,0,none⟩) qn qc) qn (ol Q)/\W.cell? ⟨g,k*2,none⟩=some (.int .i64 o.price)/\W.cell? ⟨g,k*2+1,none⟩=some (.slice (some ⟨g2,0,none⟩) qn qc)):=λW hW=>by
  have hB:=HH.out.below hW;have hown:=hB.own o.side;rw[hR]at hown;obtain⟨g',c',hv',hc1,hc2⟩:=Kv hown hkl;rw[hv]at hv' hown;injection hv' with e1 e2 e3;injection e1 with e1;injection e1 with e1;subst e1;have fU:=hB.q _ hmem;rw[f9,cZ,cA,cE]at fU;refine⟨?_,hown,fU,by rw[hc1,hp],by rw[hc2,cZ,cA]⟩;rcases hB.shape with ⟨h,_⟩ | ⟨pp,hb,hp⟩
  ·cases h
  ·injection hb with hb';injection hb' with hb'';subst hb'';rw[cell_of_row _ _ _ _ _ _ hp];rfl
 have HF:Hid (∀W,Ok w W->Calls prog 181 #[.slice (some ⟨g,0,none⟩) R.length c,.int .i64 o.side,.int .i64 o.price] W λe w'=>e=.returned (.tuple #[.int .i64 (k:Nat),.bool true])/\Gw W w'):=λW hW=>by
  have:=Vf (some ⟨g,0,none⟩) R.length c R o.side o.price W ?_ hs hn
  ·rw[hk,Sy hkl,hp]at this;simpa using this
  ·obtain⟨A,c',hv',hr⟩:=Kq (bE.out W hW).2.1;injection hv' with e1 e2 e3;rw[e1];exact hr
 have HP:Hid (∀W,Ok w W->Calls prog 182 #[.slice (some ⟨g2,0,none⟩) qn qc,.agg #[.int .u64 o.id,.int .i64 o.acc,.int .i64 o.side,.int .i64 o.price,.int .i64 o.qty,.int .u64 o.seq]] W λe w'=>e=.returned (.int .i64 (i:Nat))/\Gw W w'):=λW hW=>by
  have:=VP (some ⟨g2,0,none⟩) qn qc Q o W ?_ hq aU
  ·rw[hi]at this;exact this
  ·obtain⟨A,c',hv',hr⟩:=Z0 (bE.out W hW).2.2.1;injection hv' with e1 e2 e3;rw[e1];exact hr
 have hlk:=λq W (hW:Ok w W)=>Vh ((HH.out.below (hW.trans (QI ((Oq _ _).mono hW.size) q))).mp m rfl) HH.out.t1 HH.out.t2 o.side hwf
 rw[hv]at hlk
 have sA:=Ou hlk
 have HV:=Ou (Sv hv (Sv cA (Sv cE (Sv hmem dH))))
 have HK:=Ou (Sv hkl hp)
 have HC:Hid ((rl R)[k*2+1]? = some (.slice (some ⟨g2,0,none⟩) qn qc)):=by
  have:=JQ R k 1 hkl Oz;rw[this,<-cA,<-cZ];rfl
 have HIL:=Ou hil
 have HOC:Hid ((ol Q)[i*6+4]? = some (.int .i64 o.qty)):=by
  rw[Km Q i 4 (by rw[cE];exact hil) Oz,dH];rfl
 clear H hs hn hwf hmem hgl hg2 hlk dD hk hi hq dH
 have HM:=Ou (JS (some ⟨p,0,none⟩) (some m) s1 s2 w HH.out)
 have hkI:(k:Int)<(R.length:Int):=by have:=HK.out.1;omega
 have jK:(i:Int)<(qn:Int):=by omega
 go_enter func171,ntmps171
 go_wp2_with (first|((with_reducible refine HM.out.mono ?_);rintro e w1' ⟨rfl,hw1⟩;obtain rfl:w=w1':=hw1.symm;clear HM)|((with_reducible refine(aC.out _ (Oq _ _)).mono ?_);rintro e w1 ⟨rfl,hb1⟩;dsimp only[QF];clear aC))
 obtain⟨W1,hW1⟩:∃W1,w1.alloc (.cells (OC o) 38)=W1:=⟨_,rfl⟩
 have aP:Hid (Ok w W1):=by rw[<-hW1];exact hb1.out.alloc hb1.out.size _
 have aT:Cl 38 W1 w1.heap.size (OC o):=by rw[<-hW1];exact Qe rfl
 rw[hW1]
 obtain⟨ob,dM⟩:∃ob,w1.heap.size=ob:=⟨_,rfl⟩
 rw[dM]at aT ⊢
 obtain⟨x0,x1,x2,x3,x4,x5⟩:=Qm aT
 have hpc:=(bE.out W1 aP.out).1
 have hlk:=λq=>sA.out q W1 aP.out
 clear dM hW1 hb1
 clear w1
 go_quiet (fail)
 go_wp2_with (first|((with_reducible refine(HF.out _ (QI aP.out _)).mono ?_);rintro e w2 ⟨rfl,k2⟩;have aG:Hid (Ok w w2):=(QI aP.out _).trans (k2.b.mono (QI aP.out _).size);have eJ:Cl 38 w2 ob (OC o):=Cl.gw (X:=W1.drewN _) aT k2;have z0:=(bE.out w2 aG.out).2.2.2.2;obtain⟨y0,y1,y2,y3,y4,y5⟩:=Qm eJ;clear x0 x1 x2 x3 x4 x5 hpc hlk aT k2 aP HF)|((with_reducible refine(HP.out _ aG.out).mono ?_);rintro e w3 ⟨rfl,k3⟩;have bQ:Hid (Ok w w3):=aG.out.trans (k3.b.mono aG.out.size);have q4:w3.cell? ⟨g2,i*6+4,none⟩=some (.int .i64 o.qty):=(Jg (bE.out w3 bQ.out).2.2.1 rfl HOC.out).1;have f4:w3.frozen? ⟨g2,i*6+4,none⟩=false:=(Jg (bE.out w3 bQ.out).2.2.1 rfl HOC.out).2;clear y0 y1 y2 y3 y4 y5 eJ aG HP z0 k3))
 go_ret
 refine⟨rfl,Ou ?_⟩
 rw[HV.out.2.1]
 refine⟨?_,?_⟩
 ·rw[<-HV.out.2.2.1,<-qgQ (by rw[HV.out.2.2.1];exact HIL.out) HV.out.2.2.2.2,HV.out.2.2.1];exact JE (bE.out w3 bQ.out).2.2.1 rfl
 ·exact(Fr.of_below bQ.out:Fr (λj=>(Value.slice (some ⟨g2,0,none⟩) qn qc).ownBlock=some j) w w3).set (p:=⟨g2,i*6+4,none⟩) (.inl rfl) _
theorem UU:∀{l:List Value} {n:Nat} {v:Value},l[n]? = some v->l.set n v=l
 | [],_,_,h=>by cases h
 | a :: l,0,v,h=>by injection h with h;rw[<-h];rfl
 | a :: l,n+1,v,h=>by
  show a :: l.set n v=a :: l;rw[UU (l:=l) (n:=n) (v:=v) h]
def QR (id qty:Int)(x:Od):Od:=if x.id=id then Qz x qty else x
theorem ZI (id qty:Int)(x:Od):(QR id qty x).id=x.id/\(QR id qty x).side=x.side/\(QR id qty x).price=x.price:=by
 unfold QR
 split<;>exact⟨rfl,rfl,rfl⟩
theorem UV (id qty:Int)(x y:Od):Qt (QR id qty x) (QR id qty y)=Qt x y:=by
 unfold QR
 split<;>split<;>rfl
theorem Vm {P T:List Od}{o:Od}{qty:Int}(h:(P++o :: T).Pairwise (λx y=>¬x.id=y.id)):(P++o :: T).map (QR o.id qty)=P++Qz o qty :: T:=by
 rw[Aw,List.pairwise_cons]at h
 obtain⟨_,⟨h2,_⟩,h3⟩:=h
 have e1:P.map (QR o.id qty)=P:=by
  conv=>rhs;rw[<-List.map_id P]
  exact List.map_congr_left (λx hx=>Sw (h3 x hx o List.mem_cons_self))
 have e2:T.map (QR o.id qty)=T:=by
  conv=>rhs;rw[<-List.map_id T]
  exact List.map_congr_left (λx hx=>Sw (λe=>h2 x hx e.symm))
 rw[List.map_append,List.map_cons,e1,e2]
 show P++QR o.id qty o :: T=_
 unfold QR
 rw[Sx rfl]
theorem UW {w:World}{o:Od}{qty:Int}(h:Od.ok w o/\Qj o=true)(h1:¬qty<1)(h2:qty<o.qty):Od.ok w (Qz o qty)/\Qj (Qz o qty)=true:=by
 obtain⟨ho,hg⟩:=h
 have hg':=hg
 unfold Qj at hg
 simp only[Bool.and_eq_true,decide_eq_true_eq]at hg
 obtain⟨g1,g2,g3,g4,g5,g6,g7⟩:=hg
 unfold Od.ok at ho ⊢
 refine⟨⟨ho.1,ho.2.1,ho.2.2.1,ho.2.2.2.1,⟨by show _<=o.qty-qty;omega,by show o.qty-qty<=_;omega⟩,ho.2.2.2.2.2⟩,?_⟩
 unfold Qj
 simp only[Bool.and_eq_true,decide_eq_true_eq]
 exact⟨g1,g2,g3,g4,g5,by show 1<=o.qty-qty;omega,by show o.qty-qty<=_;omega⟩
structure LessIs (w w':World) (p m:Nat) (s1 s2 s1' s2':Sd) (o:Od) (qty:Int):Prop where
 tu:TurnIs w w' p m s1 s2 s1' s2'
 now:Qa s1'.rs s2'.rs=(Qa s1.rs s2.rs).map (QR o.id qty)
 e2:o.side=1->s2'=s2
 e1:o.side=2->s1'=s1
def TJ (w w':World)(p m:Nat)(s1 s2 s1' s2':Sd)(id qty c:Int):Prop :=
 (c=51/\(∀x∈Qa s1.rs s2.rs,¬x.id=id)/\s1'=s1/\s2'=s2/\Ok w w') ∨
 ∃o∈Qa s1.rs s2.rs,o.id=id/\((c=2/\(qty<1∨o.qty<qty)/\s1'=s1/\s2'=s2/\Ok w w')∨(c=0/\¬qty<1/\qty=o.qty/\TakeIs w w' p m s1 s2 s1' s2' o)∨(c=0/\¬qty<1/\qty<o.qty/\LessIs w w' p m s1 s2 s1' s2' o qty))
theorem qgR (p m:Nat)(s1 s2:Sd)(o:Od)(id qty:Int)(w:World)(H:Whole w p m s1 s2)(ho:o∈Qa s1.rs s2.rs)(hs:o.side=1)(hq1:¬qty<1)(hq2:qty<o.qty)
  (aC:Hid (∀W,Ok w W->Calls prog 172 #[.pointer (some ⟨p,0,none⟩),.int .u64 id] W λe w'=>e=.returned (.tuple #[QF (some o),.bool true])/\Hid (Ok W w'))) :
  Calls prog 171 #[.pointer (some ⟨p,0,none⟩),.int .u64 id,.int .i64 qty] w λe w'=>e=.returned (.int .i64 0)/\∃s1' s2',Hid (LessIs w w' p m s1 s2 s1' s2' o qty):=by
 have hwf:(Lit.int .i64 o.side).wf=true:=by rw[hs];decide
 have hR:Qu s1 s2 o.side=s1.rs:=by rw[hs];rfl
 have hv:Ze s1 s2 o.side=s1.v:=by rw[hs];rfl
 have hpw:s1.rs.Pairwise (λa b=>Qf o.side a.pr b.pr=true):=by rw[hs];exact H.ok1.rows
 have hn:=H.n1
 have hgo:=H.ok o ho
 have hfl:o∈Qb s1.rs:=by
  have ho:=ho;unfold Qa at ho;rcases List.mem_append.1 ho with h|h
  ·exact h
  ·have:=Z7 H.ok2 o h;rw[hs]at this;cases this
 obtain⟨hkl,hp,gZ⟩:=Xb (.inl rfl) H.ok1 hfl
 obtain⟨k,hk⟩:∃k,atN 1 o.price s1.rs=k:=⟨_,rfl⟩
 rw[hk]at hkl hp gZ
 have hk':atN o.side o.price s1.rs=k:=by rw[hs];exact hk
 have hmem:s1.rs[k]!∈s1.rs:=by rw[Sj s1.rs k hkl];exact Wt hkl
 have aU:(s1.rs[k]!).q.length<=1000:=by
  have h1:(s1.rs[k]!).q.length<=Q4 (s1.rs++s2.rs):=JU (x:=⟨s1.rs[k]!,Ws _ hmem⟩);omega
 have fJ:=H.ok1.que _ hmem
 obtain⟨hil,dH⟩:=Xa fJ gZ
 obtain⟨i,hi⟩:∃i,plN o (s1.rs[k]!).q=i:=⟨_,rfl⟩
 rw[hi]at hil dH
 have hsp:=Vk s1.rs k hkl
 have eA:SideOk 1 (s1.rs.take k++[s1.rs[k]!]++s1.rs.drop (k+1)):=by rw[<-hsp];exact H.ok1
 have aS:s1.there=true:=(Vj H).1 (λe=>by rw[e]at hkl;exact absurd hkl (Ax _))
 have aK:=Kr (s:=1) (p:=o.price) (.inl rfl) H.ok1.rows
 rw[hk]at aK
 have xQ:wrap64 (o.qty-qty)=o.qty-qty:=by
  have hg:=hgo.2;unfold Qj at hg;simp only[Bool.and_eq_true,decide_eq_true_eq]at hg;have h6:=hg.2.2.2.2.2;simp only[wrap64];omega
 -- the queue,and the book,around the order
 have jM:=dH
 rw[Sj _ i hil]at jM
 have oW:(s1.rs[k]!).q=(s1.rs[k]!).q.take i++o :: (s1.rs[k]!).q.drop (i+1):=by
  rw[<-jM,<-List.drop_eq_getElem_cons hil,List.take_append_drop]
 have oX:(s1.rs[k]!).q.set i (Qz o qty)=(s1.rs[k]!).q.take i++Qz o qty :: (s1.rs[k]!).q.drop (i+1):=List.set_eq_take_append_cons_drop.trans (Sx hil)
 have pL:(s1.rs[k]!).q.Pairwise (λx y=>¬x.id=y.id):=by
  refine List.Pairwise.sublist ?_ H.ids;unfold Qa;have hs1:(s1.rs[k]!).q.Sublist (Qb s1.rs):=by
   conv=>rhs;rw[hsp]
   unfold Qb;rw[Wv,Wv,List.flatMap_singleton];exact(List.sublist_append_right _ _).trans (List.sublist_append_left _ _)
  exact hs1.trans (List.sublist_append_left _ _)
 have tO:(s1.rs[k]!).q.set i (Qz o qty)=(s1.rs[k]!).q.map (QR o.id qty):=by
  rw[oX]
  conv=>rhs;rw[oW]
  exact(Vm (by rw[<-oW];exact pL)).symm
 have cJ:Qa (s1.rs.take k++[(⟨o.price,(s1.rs[k]!).v,(s1.rs[k]!).q.set i (Qz o qty)⟩:Rw)]++s1.rs.drop (k+1)) s2.rs=(Qa s1.rs s2.rs).map (QR o.id qty):=by
  have e0:∀Y:Rw,Qb (s1.rs.take k++[Y]++s1.rs.drop (k+1))=Qb (s1.rs.take k)++Y.q++Qb (s1.rs.drop (k+1)):=λY=>by
   unfold Qb;rw[Wv,Wv,List.flatMap_singleton]
  have e1:Qa s1.rs s2.rs=Qb (s1.rs.take k)++(s1.rs[k]!).q.take i++o :: ((s1.rs[k]!).q.drop (i+1)++Qb (s1.rs.drop (k+1))++Qb s2.rs):=by
   unfold Qa
   conv=>lhs;rw[hsp,e0,oW]
   simp only[St,List.cons_append]
  have h2:=H.ids;rw[e1]at h2 ⊢;rw[Vm h2];unfold Qa;rw[e0];show Qb (s1.rs.take k)++(s1.rs[k]!).q.set i (Qz o qty)++Qb (s1.rs.drop (k+1))++Qb s2.rs=_;rw[oX];simp only[St,List.cons_append]
 refine(TI p m s1 s2 o id w H.bk hwf aC s1.rs hR hpw Oz k hk' hkl hp fJ aU i hi hil dH qty hq1 Oz Oz xQ).mono λe w' ⟨he,hh⟩=>⟨he,?_⟩
 obtain⟨h1,h3⟩:=hh.out
 have hblk:∀T (v:Value) (nn sz:Nat) (xs:List Value),w.ownsRow 0 T sz v nn xs->T≠38->∀j,v.ownBlock=some j->¬(s1.rs[k]!).v.ownBlock=some j:=λT v nn sz xs hown hT j hj e=>by
  obtain⟨cs,hcs⟩:=Q5 hown hj;exact Qn (H.bk.q _ (Ws _ hmem)) hcs (λe'=>hT e'.symm) e
 have hmm:w'.ownsMap prog 3 RV m 2 (QC s1 s2):=QQ (H.bk.mp m rfl) h3 (λe=>by
  obtain⟨cs,hcs⟩:=Q5 (H.bk.q _ (Ws _ hmem)) e
  exact ZE (H.bk.mp m rfl) hcs rfl)
 have bY:s1.rs.take k++(⟨o.price,(s1.rs[k]!).v,(s1.rs[k]!).q.set i (Qz o qty)⟩:Rw) :: s1.rs.drop (k+1)=s1.rs.take k++[(⟨o.price,(s1.rs[k]!).v,(s1.rs[k]!).q.set i (Qz o qty)⟩:Rw)]++s1.rs.drop (k+1):=by rw[St];rfl
 have hrl:rl (s1.rs.take k++[(⟨o.price,(s1.rs[k]!).v,(s1.rs[k]!).q.set i (Qz o qty)⟩:Rw)]++s1.rs.drop (k+1))=rl s1.rs:=by
  rw[<-bY];rw[Y0 s1.rs k hkl (⟨o.price,(s1.rs[k]!).v,(s1.rs[k]!).q.set i (Qz o qty)⟩:Rw) hp.symm];have:=JQ s1.rs k 1 hkl Oz;refine UU ?_;rw[this];rfl
 have jR:SideOk 1 (s1.rs.take k++(⟨o.price,(s1.rs[k]!).v,(s1.rs[k]!).q.set i (Qz o qty)⟩:Rw) :: s1.rs.drop (k+1)) :=
  KP (p:=o.price) aK.1 (λb hb=>aK.2.2.2 _ _ (by rw[Sj s1.rs k hkl];exact List.drop_eq_getElem_cons hkl) hp b hb) eA rfl (by show (s1.rs[k]!).q.set i (Qz o qty)≠[];rw[oX];simp)
   (λx hx=>by
    have hx':x∈(s1.rs[k]!).q.set i (Qz o qty):=hx;rw[tO]at hx';obtain⟨y,hy,rfl⟩:=List.mem_map.1 hx';rw[(ZI _ _ y).2.1,(ZI _ _ y).2.2,<-hp]
    exact H.ok1.mem _ hmem y hy)
   (by
    show ((s1.rs[k]!).q.set i (Qz o qty)).Pairwise _;rw[tO]
    exact List.pairwise_map.2 (fJ.imp (λh=>by rw[UV];exact h)))
 rw[bY]at jR
 refine⟨_,_,Ou ⟨TC (M:=[s1.rs[k]!]) (X:=[(⟨o.price,(s1.rs[k]!).v,(s1.rs[k]!).q.set i (Qz o qty)⟩:Rw)]) (v2:=s1.v) H hsp ⟨.inr ⟨_,rfl⟩,.inr ⟨_,rfl,.inl ⟨_,rfl,rfl⟩⟩⟩ (.inl rfl) (λr hr=>?_) ?_ ?_ ?_ jR ?_ ?_ ?_,cJ,λ_=>rfl,(λh=>by rw[hs]at h;cases h)⟩⟩
 ·rw[List.mem_singleton.1 hr];show w'.ownsRow 0 38 6 (s1.rs[k]!).v ((s1.rs[k]!).q.set i (Qz o qty)).length _;rw[Wk];exact h1
 ·rw[hrl,<-bY,KS _ _ hkl];exact Qh H.bk.r1 h3 (λj hj=>hblk _ _ _ _ _ H.bk.r1 Ox j hj)
 ·have:QC ⟨true,s1.v,s1.rs.take k++[(⟨o.price,(s1.rs[k]!).v,(s1.rs[k]!).q.set i (Qz o qty)⟩:Rw)]++s1.rs.drop (k+1)⟩ s2=QC s1 s2:=by
   unfold QC;rw[aS]
  rw[this];exact hmm
 ·exact h3.mono (λj e=>.inl (.inr (.inr ⟨_,List.mem_singleton.2 rfl,e⟩)))
 ·rw[cJ];exact List.pairwise_map.2 (H.ids.imp (λh=>by rw[(ZI _ _ _).1,(ZI _ _ _).1];exact h))
 ·rw[cJ,List.length_map];exact H.len
 ·rw[cJ];intro x hx;obtain⟨y,hy,rfl⟩:=List.mem_map.1 hx;unfold QR
  split
  ·rename_i hyi
   rw[KV H.ids hy ho hyi];exact UW hgo hq1 hq2
  ·exact H.ok y hy
theorem qgS (p m:Nat)(s1 s2:Sd)(o:Od)(id qty:Int)(w:World)(H:Whole w p m s1 s2)(ho:o∈Qa s1.rs s2.rs)(hs:o.side=2)(hq1:¬qty<1)(hq2:qty<o.qty)
  (aC:Hid (∀W,Ok w W->Calls prog 172 #[.pointer (some ⟨p,0,none⟩),.int .u64 id] W λe w'=>e=.returned (.tuple #[QF (some o),.bool true])/\Hid (Ok W w'))) :
  Calls prog 171 #[.pointer (some ⟨p,0,none⟩),.int .u64 id,.int .i64 qty] w λe w'=>e=.returned (.int .i64 0)/\∃s1' s2',Hid (LessIs w w' p m s1 s2 s1' s2' o qty):=by
 have hwf:(Lit.int .i64 o.side).wf=true:=by rw[hs];decide
 have hR:Qu s1 s2 o.side=s2.rs:=by rw[hs];rfl
 have hv:Ze s1 s2 o.side=s2.v:=by rw[hs];rfl
 have hpw:s2.rs.Pairwise (λa b=>Qf o.side a.pr b.pr=true):=by rw[hs];exact H.ok2.rows
 have hn:=H.n1
 have hgo:=H.ok o ho
 have hfl:o∈Qb s2.rs:=by
  have ho:=ho;unfold Qa at ho;rcases List.mem_append.1 ho with h|h
  ·have:=Z7 H.ok1 o h;rw[hs]at this;cases this
  ·exact h
 obtain⟨hkl,hp,gZ⟩:=Xb (.inr rfl) H.ok2 hfl
 obtain⟨k,hk⟩:∃k,atN 2 o.price s2.rs=k:=⟨_,rfl⟩
 rw[hk]at hkl hp gZ
 have hk':atN o.side o.price s2.rs=k:=by rw[hs];exact hk
 have hmem:s2.rs[k]!∈s2.rs:=by rw[Sj s2.rs k hkl];exact Wt hkl
 have aU:(s2.rs[k]!).q.length<=1000:=by
  have h1:(s2.rs[k]!).q.length<=Q4 (s1.rs++s2.rs):=JU (x:=⟨s2.rs[k]!,Wx _ hmem⟩);omega
 have fJ:=H.ok2.que _ hmem
 obtain⟨hil,dH⟩:=Xa fJ gZ
 obtain⟨i,hi⟩:∃i,plN o (s2.rs[k]!).q=i:=⟨_,rfl⟩
 rw[hi]at hil dH
 have hsp:=Vk s2.rs k hkl
 have eA:SideOk 2 (s2.rs.take k++[s2.rs[k]!]++s2.rs.drop (k+1)):=by rw[<-hsp];exact H.ok2
 have aS:s2.there=true:=(Vj H).2 (λe=>by rw[e]at hkl;exact absurd hkl (Ax _))
 have aK:=Kr (s:=2) (p:=o.price) (.inr rfl) H.ok2.rows
 rw[hk]at aK
 have xQ:wrap64 (o.qty-qty)=o.qty-qty:=by
  have hg:=hgo.2;unfold Qj at hg;simp only[Bool.and_eq_true,decide_eq_true_eq]at hg;have h6:=hg.2.2.2.2.2;simp only[wrap64];omega
 -- the queue,and the book,around the order
 have jM:=dH
 rw[Sj _ i hil]at jM
 have oW:(s2.rs[k]!).q=(s2.rs[k]!).q.take i++o :: (s2.rs[k]!).q.drop (i+1):=by
  rw[<-jM,<-List.drop_eq_getElem_cons hil,List.take_append_drop]
 have oX:(s2.rs[k]!).q.set i (Qz o qty)=(s2.rs[k]!).q.take i++Qz o qty :: (s2.rs[k]!).q.drop (i+1):=List.set_eq_take_append_cons_drop.trans (Sx hil)
 have pL:(s2.rs[k]!).q.Pairwise (λx y=>¬x.id=y.id):=by
  refine List.Pairwise.sublist ?_ H.ids;unfold Qa;have hs1:(s2.rs[k]!).q.Sublist (Qb s2.rs):=by
   conv=>rhs;rw[hsp]
   unfold Qb;rw[Wv,Wv,List.flatMap_singleton];exact(List.sublist_append_right _ _).trans (List.sublist_append_left _ _)
  exact hs1.trans (List.sublist_append_right _ _)
 have tO:(s2.rs[k]!).q.set i (Qz o qty)=(s2.rs[k]!).q.map (QR o.id qty):=by
  rw[oX]
  conv=>rhs;rw[oW]
  exact(Vm (by rw[<-oW];exact pL)).symm
 have cJ:Qa s1.rs (s2.rs.take k++[(⟨o.price,(s2.rs[k]!).v,(s2.rs[k]!).q.set i (Qz o qty)⟩:Rw)]++s2.rs.drop (k+1))=(Qa s1.rs s2.rs).map (QR o.id qty):=by
  have e0:∀Y:Rw,Qb (s2.rs.take k++[Y]++s2.rs.drop (k+1))=Qb (s2.rs.take k)++Y.q++Qb (s2.rs.drop (k+1)):=λY=>by
   unfold Qb;rw[Wv,Wv,List.flatMap_singleton]
  have e1:Qa s1.rs s2.rs=Qb s1.rs++Qb (s2.rs.take k)++(s2.rs[k]!).q.take i++o :: ((s2.rs[k]!).q.drop (i+1)++Qb (s2.rs.drop (k+1))):=by
   unfold Qa
   conv=>lhs;rw[hsp,e0,oW]
   simp only[St,List.cons_append]
  have h2:=H.ids;rw[e1]at h2 ⊢;rw[Vm h2];unfold Qa;rw[e0];show Qb s1.rs++(Qb (s2.rs.take k)++(s2.rs[k]!).q.set i (Qz o qty)++Qb (s2.rs.drop (k+1)))=_;rw[oX];simp only[St,List.cons_append]
 refine(TI p m s1 s2 o id w H.bk hwf aC s2.rs hR hpw Oz k hk' hkl hp fJ aU i hi hil dH qty hq1 Oz Oz xQ).mono λe w' ⟨he,hh⟩=>⟨he,?_⟩
 obtain⟨h1,h3⟩:=hh.out
 have hblk:∀T (v:Value) (nn sz:Nat) (xs:List Value),w.ownsRow 0 T sz v nn xs->T≠38->∀j,v.ownBlock=some j->¬(s2.rs[k]!).v.ownBlock=some j:=λT v nn sz xs hown hT j hj e=>by
  obtain⟨cs,hcs⟩:=Q5 hown hj;exact Qn (H.bk.q _ (Wx _ hmem)) hcs (λe'=>hT e'.symm) e
 have hmm:w'.ownsMap prog 3 RV m 2 (QC s1 s2):=QQ (H.bk.mp m rfl) h3 (λe=>by
  obtain⟨cs,hcs⟩:=Q5 (H.bk.q _ (Wx _ hmem)) e
  exact ZE (H.bk.mp m rfl) hcs rfl)
 have bY:s2.rs.take k++(⟨o.price,(s2.rs[k]!).v,(s2.rs[k]!).q.set i (Qz o qty)⟩:Rw) :: s2.rs.drop (k+1)=s2.rs.take k++[(⟨o.price,(s2.rs[k]!).v,(s2.rs[k]!).q.set i (Qz o qty)⟩:Rw)]++s2.rs.drop (k+1):=by rw[St];rfl
 have hrl:rl (s2.rs.take k++[(⟨o.price,(s2.rs[k]!).v,(s2.rs[k]!).q.set i (Qz o qty)⟩:Rw)]++s2.rs.drop (k+1))=rl s2.rs:=by
  rw[<-bY];rw[Y0 s2.rs k hkl (⟨o.price,(s2.rs[k]!).v,(s2.rs[k]!).q.set i (Qz o qty)⟩:Rw) hp.symm];have:=JQ s2.rs k 1 hkl Oz;refine UU ?_;rw[this];rfl
 have jR:SideOk 2 (s2.rs.take k++(⟨o.price,(s2.rs[k]!).v,(s2.rs[k]!).q.set i (Qz o qty)⟩:Rw) :: s2.rs.drop (k+1)) :=
  KP (p:=o.price) aK.1 (λb hb=>aK.2.2.2 _ _ (by rw[Sj s2.rs k hkl];exact List.drop_eq_getElem_cons hkl) hp b hb) eA rfl (by show (s2.rs[k]!).q.set i (Qz o qty)≠[];rw[oX];simp)
   (λx hx=>by
    have hx':x∈(s2.rs[k]!).q.set i (Qz o qty):=hx;rw[tO]at hx';obtain⟨y,hy,rfl⟩:=List.mem_map.1 hx';rw[(ZI _ _ y).2.1,(ZI _ _ y).2.2,<-hp]
    exact H.ok2.mem _ hmem y hy)
   (by
    show ((s2.rs[k]!).q.set i (Qz o qty)).Pairwise _;rw[tO]
    exact List.pairwise_map.2 (fJ.imp (λh=>by rw[UV];exact h)))
 rw[bY]at jR
 refine⟨_,_,Ou ⟨TE (M:=[s2.rs[k]!]) (X:=[(⟨o.price,(s2.rs[k]!).v,(s2.rs[k]!).q.set i (Qz o qty)⟩:Rw)]) (v2:=s2.v) H hsp ⟨.inr ⟨_,rfl⟩,.inr ⟨_,rfl,.inl ⟨_,rfl,rfl⟩⟩⟩ (.inl rfl) (λr hr=>?_) ?_ ?_ ?_ jR ?_ ?_ ?_,cJ,(λh=>by rw[hs]at h;cases h),λ_=>rfl⟩⟩
 ·rw[List.mem_singleton.1 hr];show w'.ownsRow 0 38 6 (s2.rs[k]!).v ((s2.rs[k]!).q.set i (Qz o qty)).length _;rw[Wk];exact h1
 ·rw[hrl,<-bY,KS _ _ hkl];exact Qh H.bk.r2 h3 (λj hj=>hblk _ _ _ _ _ H.bk.r2 Ox j hj)
 ·have:QC s1 ⟨true,s2.v,s2.rs.take k++[(⟨o.price,(s2.rs[k]!).v,(s2.rs[k]!).q.set i (Qz o qty)⟩:Rw)]++s2.rs.drop (k+1)⟩=QC s1 s2:=by
   unfold QC;rw[aS]
  rw[this];exact hmm
 ·exact h3.mono (λj e=>.inl (.inr (.inr ⟨_,List.mem_singleton.2 rfl,e⟩)))
 ·rw[cJ];exact List.pairwise_map.2 (H.ids.imp (λh=>by rw[(ZI _ _ _).1,(ZI _ _ _).1];exact h))
 ·rw[cJ,List.length_map];exact H.len
 ·rw[cJ];intro x hx;obtain⟨y,hy,rfl⟩:=List.mem_map.1 hx;unfold QR
  split
  ·rename_i hyi
   rw[KV H.ids hy ho hyi];exact UW hgo hq1 hq2
  ·exact H.ok y hy
theorem qgT {p m:Nat}{s1 s2:Sd}{o:Od}{id:Int}{w:World}(H:Whole w p m s1 s2)(ho:o∈Qa s1.rs s2.rs)(hid:o.id=id) :
  Hid (∀W,Ok w W->Calls prog 172 #[.pointer (some ⟨p,0,none⟩),.int .u64 id] W λe w'=>e=.returned (.tuple #[QF (some o),.bool true])/\Hid (Ok W w')):=λW hW=>by
 have hn:=H.n1
 refine(Kt _ _ s1 s2 id W (H.bk.below hW) Oz Oz Oz).mono ?_
 rintro e w' ⟨r,rfl,h⟩
 obtain rfl:r=some o:=by
  cases r with
  | none=>exact absurd hid (h.out.1 o ho)
  | some y=>rw[KV H.ids h.out.1.1 ho (h.out.1.2.trans hid.symm)]
 exact⟨rfl,Ou h.out.2⟩
theorem qgU (p m:Nat)(s1 s2:Sd)(id qty:Int)(w:World)(H:Whole w p m s1 s2)(hno:∀x∈Qa s1.rs s2.rs,¬x.id=id) :
  Calls prog 171 #[.pointer (some ⟨p,0,none⟩),.int .u64 id,.int .i64 qty] w λe w'=>e=.returned (.int .i64 51)/\Hid (Ok w w'):=by
 have HM:=Ou (JS (some ⟨p,0,none⟩) (some m) s1 s2 w H.bk)
 have hn:=H.n1
 have aC:=Ou (Kt _ _ s1 s2 id w H.bk Oz Oz Oz)
 have qO:=Ou hno
 clear H hn hno
 go_enter func171,ntmps171
 go_wp2_with (first|((with_reducible refine HM.out.mono ?_);rintro e w1' ⟨rfl,hw1⟩;obtain rfl:w=w1':=hw1.symm;clear HM)|((with_reducible refine aC.out.mono ?_);rintro e w1 ⟨r,rfl,hr⟩;obtain rfl:r=none:=(by cases r with|none=>rfl|some y=>exact absurd hr.out.1.2 (qO.out y hr.out.1.1));dsimp only[QF,Option.isSome];have aP:Hid (Ok w (w1.alloc (.cells (OC ⟨0,0,0,0,0,0⟩) 38))):=hr.out.2.alloc hr.out.2.size _;clear aC hr))
 go_ret
 exact⟨rfl,Ou aP.out⟩
theorem qgV (p m:Nat)(s1 s2:Sd)(o:Od)(id qty:Int)(w:World)(H:Whole w p m s1 s2)
  (aC:Hid (∀W,Ok w W->Calls prog 172 #[.pointer (some ⟨p,0,none⟩),.int .u64 id] W λe w'=>e=.returned (.tuple #[QF (some o),.bool true])/\Hid (Ok W w'))) (hq:qty<1) :
  Calls prog 171 #[.pointer (some ⟨p,0,none⟩),.int .u64 id,.int .i64 qty] w λe w'=>e=.returned (.int .i64 2)/\Hid (Ok w w'):=by
 have HM:=Ou (JS (some ⟨p,0,none⟩) (some m) s1 s2 w H.bk)
 have hd:decide (qty<1)=true:=Sy hq
 clear H
 go_enter func171,ntmps171
 go_wp2_with (first|((with_reducible refine HM.out.mono ?_);rintro e w1' ⟨rfl,hw1⟩;obtain rfl:w=w1':=hw1.symm;clear HM)|((with_reducible refine(aC.out _ (Oq _ _)).mono ?_);rintro e w1 ⟨rfl,hb1⟩;dsimp only[QF];have aP:Hid (Ok w (w1.alloc (.cells (OC o) 38))):=hb1.out.alloc hb1.out.size _;clear aC))
 all_goals (try (exfalso;omega))
 go_ret
 exact⟨rfl,Ou aP.out⟩
theorem qgW (p m:Nat)(s1 s2:Sd)(o:Od)(id qty:Int)(w:World)(H:Whole w p m s1 s2)
  (aC:Hid (∀W,Ok w W->Calls prog 172 #[.pointer (some ⟨p,0,none⟩),.int .u64 id] W λe w'=>e=.returned (.tuple #[QF (some o),.bool true])/\Hid (Ok W w'))) (hq1:¬qty<1) (hq:o.qty<qty) :
  Calls prog 171 #[.pointer (some ⟨p,0,none⟩),.int .u64 id,.int .i64 qty] w λe w'=>e=.returned (.int .i64 2)/\Hid (Ok w w'):=by
 have HM:=Ou (JS (some ⟨p,0,none⟩) (some m) s1 s2 w H.bk)
 have hd:decide (qty<1)=false:=Sz hq1
 clear H
 go_enter func171,ntmps171
 go_wp2_with (first|((with_reducible refine HM.out.mono ?_);rintro e w1' ⟨rfl,hw1⟩;obtain rfl:w=w1':=hw1.symm;clear HM)|((with_reducible refine(aC.out _ (Oq _ _)).mono ?_);rintro e w1 ⟨rfl,hb1⟩;dsimp only[QF];have aP:Hid (Ok w (w1.alloc (.cells (OC o) 38))):=hb1.out.alloc hb1.out.size _;clear aC))
 all_goals (try (exfalso;omega))
 go_ret
 exact⟨rfl,Ou aP.out⟩
theorem qgX (p m:Nat)(s1 s2:Sd)(o:Od)(id:Int)(w:World)(H:Whole w p m s1 s2)(ho:o∈Qa s1.rs s2.rs)(hid:o.id=id)
  (aC:Hid (∀W,Ok w W->Calls prog 172 #[.pointer (some ⟨p,0,none⟩),.int .u64 id] W λe w'=>e=.returned (.tuple #[QF (some o),.bool true])/\Hid (Ok W w'))) (hq1:¬o.qty<1) :
  Calls prog 171 #[.pointer (some ⟨p,0,none⟩),.int .u64 id,.int .i64 o.qty] w λe w'=>e=.returned (.int .i64 0)/\∃s1' s2',Hid (TakeIs w w' p m s1 s2 s1' s2' o):=by
 have HM:=Ou (JS (some ⟨p,0,none⟩) (some m) s1 s2 w H.bk)
 have hq2:¬o.qty<o.qty:=by omega
 have HT:Hid (∀W,Ok w W->Calls prog 176 #[.pointer (some ⟨p,0,none⟩),.int .u64 id] W λe w'=>e=.returned (.tuple #[QF (some o),.bool true])/\∃s1' s2',Hid (TakeIs W w' p m s1 s2 s1' s2' o)):=λW hW=>TH p m s1 s2 o id W (H.below hW) ho hid
 clear H ho hid
 go_enter func171,ntmps171
 go_wp2_with (first|((with_reducible refine HM.out.mono ?_);rintro e w1' ⟨rfl,hw1⟩;obtain rfl:w=w1':=hw1.symm;clear HM)|((with_reducible refine(aC.out _ (Oq _ _)).mono ?_);rintro e w1 ⟨rfl,hb1⟩;dsimp only[QF];have aP:Hid (Ok w (w1.alloc (.cells (OC o) 38))):=hb1.out.alloc hb1.out.size _;clear aC)|((with_reducible refine(HT.out _ aP.out).mono ?_);rintro e w3 ⟨rfl,t1,t2,ht⟩;dsimp only[QF];clear HT))
 all_goals (try (exfalso;omega))
 go_ret
 have h:=ht.out
 exact⟨rfl,t1,t2,Ou ⟨⟨h.tu.wh,(Fr.of_below aP.out:Fr (QH (some ⟨p,0,none⟩) (some m) s1 s2) w _).t h.tu.fr,λk hk=>(h.tu.ft k hk).imp (λh'=>h') (λh'=>Sk aP.out.size h')⟩,h.perm,h.e2,h.e1⟩⟩
theorem qgY (p m:Nat)(s1 s2:Sd)(id qty:Int)(w:World)(H:Whole w p m s1 s2) :
  Calls prog 171 #[.pointer (some ⟨p,0,none⟩),.int .u64 id,.int .i64 qty] w λe w'=>∃c s1' s2',e=.returned (.int .i64 c)/\Hid (TJ w w' p m s1 s2 s1' s2' id qty c):=by
 by_cases hx:∃x∈Qa s1.rs s2.rs,x.id=id
 ·obtain⟨o,ho,hid⟩:=hx;have aC:=qgT H ho hid;by_cases hq1:qty<1
  ·exact(qgV p m s1 s2 o id qty w H aC hq1).mono λe w' ⟨he,h⟩=>⟨2,s1,s2,he,Ou (.inr ⟨o,ho,hid,.inl ⟨rfl,.inl hq1,rfl,rfl,h.out⟩⟩)⟩
  by_cases hq2:o.qty<qty
  ·exact(qgW p m s1 s2 o id qty w H aC hq1 hq2).mono λe w' ⟨he,h⟩=>⟨2,s1,s2,he,Ou (.inr ⟨o,ho,hid,.inl ⟨rfl,.inr hq2,rfl,rfl,h.out⟩⟩)⟩
  by_cases hq3:qty=o.qty
  ·subst hq3;exact(qgX p m s1 s2 o id w H ho hid aC hq1).mono λe w' ⟨he,t1,t2,h⟩=>⟨0,t1,t2,he,Ou (.inr ⟨o,ho,hid,.inr (.inl ⟨rfl,hq1,rfl,h.out⟩)⟩)⟩
  ·have hl:qty<o.qty:=by omega
   rcases Vi (H.ok o ho).2 with hs|hs
   ·exact(qgR p m s1 s2 o id qty w H ho hs hq1 hl aC).mono λe w' ⟨he,t1,t2,h⟩=>⟨0,t1,t2,he,Ou (.inr ⟨o,ho,hid,.inr (.inr ⟨rfl,hq1,hl,h.out⟩)⟩)⟩
   ·exact(qgS p m s1 s2 o id qty w H ho hs hq1 hl aC).mono λe w' ⟨he,t1,t2,h⟩=>⟨0,t1,t2,he,Ou (.inr ⟨o,ho,hid,.inr (.inr ⟨rfl,hq1,hl,h.out⟩)⟩)⟩
 ·have hno:∀x∈Qa s1.rs s2.rs,¬x.id=id:=λx h1 h2=>hx ⟨x,h1,h2⟩;exact(qgU p m s1 s2 id qty w H hno).mono λe w' ⟨he,h⟩=>⟨51,s1,s2,he,Ou (.inl ⟨rfl,hno,rfl,rfl,h.out⟩)⟩
end
section
open Go.RowKit Go.Shelf Go.Sort
theorem qgZ {s1 s2:Sd}(h1:SideOk 1 s1.rs)(h2:SideOk 2 s2.rs)(sd:Int):(Qu s1 s2 sd).Pairwise (λa b=>Qf sd a.pr b.pr=true):=by
 unfold Qu
 by_cases e1:sd=1
 ·subst e1;rw[Sx rfl];exact h1.rows
 ·rw[Sw e1];by_cases e2:sd=2
  ·subst e2;rw[Sx rfl];exact h2.rows
  ·rw[Sw e2];exact List.Pairwise.nil
theorem qg0 {W:World}{qa:Option Addr}{qn qc:Nat}{Q:List Od}(h:W.ownsRow 0 38 6 (.slice qa qn qc) qn (ol Q))(hn:qn<=1000) :
  Calls prog 49 #[.slice qa qn qc] W λe w'=>∃v,e=.returned v/\Hid (w'.ownsRow W.heap.size 38 6 v qn (ol Q)/\Ok W w'):=by
 obtain⟨A,c,hv,hq⟩:=Z0 h
 injection hv with e1 e2 e3
 subst e1 e3
 rcases h.2 with ⟨hv,h0⟩ | ⟨k,cap,cur,hv,_⟩
 ·injection hv with e1 _ _;subst e1;have hQ:Q=[]:=by have:=hq.1;rw[h0]at this;exact List.length_eq_zero_iff.1 this
  subst hQ;refine(DV qn qc W).mono λe w' ⟨he,hw⟩=>⟨_,he,Ou ?_⟩
  rw[hw];exact⟨⟨by rw[h0];rfl,.inl ⟨rfl,h0⟩⟩,Below.refl _ _⟩
 ·injection hv with e1 _ _;subst e1;refine(DU k 0 qn qc Q W hq.1 hn (λi hi=>?_)).mono λe w' ⟨v,he,h1,_,h3⟩=>⟨v,he,Ou ⟨h1,h3⟩⟩
  rcases hq.2 with h0 | ⟨g,e,_,hc⟩
  ·omega
  ·injection e with e;injection e with e;subst e;rw[Nat.zero_add];exact hc i hi
def V1 (sd p:Int)(R:List Rw):List Od:=if atN sd p R<R.length/\(R[atN sd p R]!).pr=p then (R[atN sd p R]!).q else []
theorem qg1 (b:Option Addr)(m:Option Nat)(s1 s2:Sd)(sd pr:Int)(dI:(Lit.int .i64 sd).wf=true)(w:World)(H:Bk w b m s1 s2)(h1:SideOk 1 s1.rs)(h2:SideOk 2 s2.rs)(dP:s1.rs.length<=1000)(cQ:s2.rs.length<=1000)(hQ:Q4 (s1.rs++s2.rs)<=1000) :
  Calls prog 174 #[.pointer b,.int .i64 sd,.int .i64 pr] w λe w'=>∃v,e=.returned v/\Hid (w'.ownsRow w.heap.size 38 6 v (V1 sd pr (Qu s1 s2 sd)).length (ol (V1 sd pr (Qu s1 s2 sd)))/\Ok w w'):=by
 have HS:=Ou (UD b m s1 s2 sd w dI H)
 obtain⟨A,c,hv,hr,hft⟩:=H.rows sd
 have hpw:=qgZ h1 h2 sd
 have hrl:=qgl (s1:=s1) (s2:=s2) sd dP cQ
 obtain⟨R,hR⟩:∃R,Qu s1 s2 sd=R:=⟨_,rfl⟩
 rw[hR]at hv hr hpw hrl hft ⊢
 rw[hv]at HS
 have HF:=Ou (Vf A R.length c R sd pr w hr hpw hrl)
 unfold V1
 obtain⟨k,hk⟩:∃k,atN sd pr R=k:=⟨_,rfl⟩
 rw[hk]at HF ⊢
 by_cases aS:k<R.length/\(R[k]!).pr=pr
 ·rw[Sx aS];have e:(decide (k<R.length)&&(R[k]!).pr==pr)=true:=by rw[Sy aS.1,aS.2];simp
  rw[e]at HF;have hmem:R[k]!∈s1.rs++s2.rs:=by
   rw[Sj R k aS.1];exact JT (by rw[hR];exact Wt aS.1)
  have aU:(R[k]!).q.length<=1000:=Sk (JU (x:=⟨R[k]!,hmem⟩)) hQ;obtain⟨g,rfl,hc2⟩:∃g,A=some ⟨g,0,none⟩/\w.cell? ⟨g,k*2+1,none⟩=some (R[k]!).v:=by
   rcases hr.2 with h0 | ⟨g,h,_,hc⟩
   ·omega
   ·exact⟨g,h,(hc k aS.1).2⟩
  obtain⟨qa,qc,cA,uW⟩:=Z0 (H.q _ hmem);have hq:=H.q _ hmem;obtain⟨Q,f9⟩:∃Q,(R[k]!).q=Q:=⟨_,rfl⟩
  rw[f9]at cA uW aU hq ⊢;obtain⟨qn,cE⟩:∃qn,Q.length=qn:=⟨_,rfl⟩
  rw[cE]at cA uW aU ⊢;rw[cA]at hc2;rw[cA,cE]at hq;have hkl:=Ou aS.1;have hkI:(k:Int)<(R.length:Int):=by have:=aS.1;omega
  have HC:Hid (∀W,Gw w W->Calls prog 49 #[.slice qa qn qc] W λe w'=>∃v,e=.returned v/\Hid (w'.ownsRow W.heap.size 38 6 v qn (ol Q)/\Ok W w')):=λW hW=>qg0 (Qh hq (S:=λ_=>False) (Fr.of_below hW.b) (λ_ _ h=>h)) aU;have iD:∀W,Gw w W->W.cell? ⟨g,k*2+1,none⟩=some (.slice qa qn qc):=λW hW=>J6 (S:=λ_=>False) (Fr.of_below hW.b) (λh=>h) hc2;have Hcq:=Ou iD;clear H hr hft aS e iD hc2 hq uW hk hpw;go_enter func174,ntmps174;go_wp2_with (first|((with_reducible refine HS.out.mono ?_);rintro e w1 ⟨rfl,rfl⟩;clear HS)|((with_reducible refine HF.out.mono ?_);rintro e w2 ⟨rfl,k2⟩;have iD:=Hcq.out _ k2)|((with_reducible refine(HC.out _ k2).mono ?_);rintro e w3 ⟨v,rfl,hv3⟩))
  go_ret;exact⟨_,rfl,Ou ⟨Js hv3.out.1 k2.b.size,k2.b.trans (hv3.out.2.mono k2.b.size)⟩⟩
 ·rw[Sw aS];have e:(decide (k<R.length)&&(R[k]!).pr==pr)=false:=by
   by_cases h1:k<R.length
   ·have h2:¬(R[k]!).pr=pr:=λh=>aS ⟨h1,h⟩;have h3:((R[k]!).pr==pr)=false:=by
     cases h4:((R[k]!).pr==pr) with
     | false=>rfl
     | true=>exact absurd (by simpa using h4) (by simpa using h2)
    rw[h3,Bool.and_false]
   ·rw[Sz h1,Bool.false_and]
  rw[e]at HF;clear H hr hft aS e hk hpw;go_enter func174,ntmps174;go_wp2_with (first|((with_reducible refine HS.out.mono ?_);rintro e w1 ⟨rfl,rfl⟩;clear HS)|((with_reducible refine HF.out.mono ?_);rintro e w2 ⟨rfl,k2⟩))
  go_ret;exact⟨_,rfl,Ou ⟨⟨rfl,.inl ⟨rfl,rfl⟩⟩,k2.b⟩⟩
theorem qg2 (b:Option Addr)(m:Option Nat)(s1 s2:Sd)(id:Int)(w:World)(H:Bk w b m s1 s2)(dP:s1.rs.length<=1000)(cQ:s2.rs.length<=1000)(hQ:Q4 (s1.rs++s2.rs)<=1000)(hno:∀x∈Qa s1.rs s2.rs,¬x.id=id) :
  Calls prog 176 #[.pointer b,.int .u64 id] w λe w'=>e=.returned (.tuple #[QF none,.bool false])/\Hid (Ok w w'):=by
 have hb:Ok w (w.alloc (.cells (OC ⟨0,0,0,0,0,0⟩) 38)):=(Oq _ _).alloc (Sq _) _
 have HG:=Ou (Kt b m s1 s2 id (w.alloc (.cells (OC ⟨0,0,0,0,0,0⟩) 38)) (H.below hb) dP cQ hQ)
 have HB:=Ou hb
 clear H hb
 go_enter func176,ntmps176
 go_wp2_with ((with_reducible refine HG.out.mono ?_);rintro e w1 ⟨r,rfl,hr⟩;obtain rfl:r=none:=(by cases r with|none=>rfl|some y=>exact absurd hr.out.1.2 (hno y hr.out.1.1));dsimp only[QF,Option.isSome];have B1:Hid (Ok w (w1.alloc (.cells (OC ⟨0,0,0,0,0,0⟩) 38))):=(HB.out.trans (hr.out.2.mono HB.out.size)).alloc (Sk HB.out.size hr.out.2.size) _;have C1:Cl 38 (w1.alloc (.cells (OC ⟨0,0,0,0,0,0⟩) 38)) w.heap.size (OC ⟨0,0,0,0,0,0⟩):=Qp (Ww (Nat.lt_succ_self _) (by have:=hr.out.2.size;rw[World.size_alloc]at this;exact this)) ((hr.out.2.block _ (by rw[World.size_alloc];exact Nat.lt_succ_self _)).trans (Qe rfl));have C0:=Ou C1;obtain⟨x0,x1,x2,x3,x4,x5⟩:=Qm C1;have f0:=C1.f (k:=0);have f1:=C1.f (k:=1);have f2:=C1.f (k:=2);have f3:=C1.f (k:=3);have f4:=C1.f (k:=4);have f5:=C1.f (k:=5);clear HG hr)
 have hf:=JV ⟨0,0,0,0,0,0⟩ C0.out
 have hb:=VS ⟨0,0,0,0,0,0⟩ (Sq _) B1.out
 refine bodyPost_ret (ZP rfl _ _ _ rfl ⟨0,0,0,0,0,0⟩ _ hf _ rfl) rfl ?_
 exact⟨rfl,Ou hb⟩
end
end Go.Proofs.YtikapeaodobkjaaGreat
