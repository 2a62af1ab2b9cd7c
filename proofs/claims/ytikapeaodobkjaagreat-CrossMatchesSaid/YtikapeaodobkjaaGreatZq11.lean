/- What the laws lean on, in a few texts (by shake.py): number 11 of 16. -/
import Derived.Test.YtikapeaodobkjaaGreatZq1
import Derived.Test.YtikapeaodobkjaaGreatZq2
import Derived.Test.YtikapeaodobkjaaGreatZq5
import Derived.Test.YtikapeaodobkjaaGreatZq9
import Derived.Test.YtikapeaodobkjaaGreatZq3
import Derived.ScopeJumps
import Derived.Deep.QuietTactic
import Derived.BigQuiet
import Derived.WalkMore
import Derived.Shelf.SlSortCmp.QuietGrown
import Derived.Laws.OwnMore
import Derived.Laws.AppendOwnNone
import Derived.RegionIn

set_option maxHeartbeats 16000000
set_option maxRecDepth 1000000
set_option linter.unusedVariables false
set_option linter.unusedSimpArgs false
namespace Go.Proofs.YtikapeaodobkjaaGreat
open _root_.Go.Proofs.Tryz
section
inductive Tr where
 | nil:Tr
 | node (a:Nat) (key:Int) (v:Value) (q:List Int) (l r:Tr):Tr
abbrev Rq:=Int×List Int
def Tr.rows:Tr->List Rq
 | .nil=>[]
 | .node _ key _ q l r=>l.rows++(key,q) :: r.rows
def Tr.ptr:Tr->Value
 | .nil=>.pointer none
 | .node a _ _ _ _ _=>.pointer (some ⟨a,0,none⟩)
def Tr.blks:Tr->List Nat
 | .nil=>[]
 | .node a _ _ _ l r=>l.blks++a :: r.blks
def Tr.vals:Tr->List Value
 | .nil=>[]
 | .node _ _ v _ l r=>l.vals++v :: r.vals
def Tr.size:Tr->Nat
 | .nil=>0
 | .node _ _ _ _ l r=>l.size+r.size+1
inductive Cx where
 | top:Cx
 | left (a:Nat) (key:Int) (v:Value) (q:List Int) (r:Tr) (c:Cx):Cx
 | right (a:Nat) (key:Int) (v:Value) (q:List Int) (l:Tr) (c:Cx):Cx
def Cx.plug:Cx->Tr->Tr
 | .top,t=>t
 | .left a key v q r c,t=>c.plug (.node a key v q t r)
 | .right a key v q l c,t=>c.plug (.node a key v q l t)
def Cx.pre:Cx->List Rq
 | .top=>[]
 | .left _ _ _ _ _ c=>c.pre
 | .right _ key _ q l c=>c.pre++(l.rows++[(key,q)])
def Cx.post:Cx->List Rq
 | .top=>[]
 | .left _ key _ q r c=>(key,q) :: r.rows++c.post
 | .right _ _ _ _ _ c=>c.post
def Cx.hole (t:Nat):Cx->Addr
 | .top=>⟨t,1,none⟩
 | .left a _ _ _ _ _=>⟨a,2,none⟩
 | .right a _ _ _ _ _=>⟨a,3,none⟩
theorem Zp:∀(c:Cx) (t:Tr),(c.plug t).rows=c.pre++t.rows++c.post
 | .top,t=>by simp[Cx.plug,Cx.pre,Cx.post]
 | .left a key v q r c,t=>by simp[Cx.plug,Zp c,Cx.pre,Cx.post,Tr.rows]
 | .right a key v q l c,t=>by simp[Cx.plug,Zp c,Cx.pre,Cx.post,Tr.rows]
theorem UX {s a b c:Int}(h:Qf s a b=true)(k:Qf s b c=true):Qf s a c=true:=by
 rw[JR]at h k ⊢
 rcases h with ⟨h1,h2⟩ | ⟨h1,h2⟩<;>rcases k with ⟨k1,k2⟩ | ⟨k1,k2⟩<;>omega
theorem qg3 {s a b:Int}(hs:s=1∨s=2)(h:Qf s a b=false)(k:Qf s b a=false):a=b:=by
 have h1:¬Qf s a b=true:=by rw[h];simp
 have k1:¬Qf s b a=true:=by rw[k];simp
 rw[JR]at h1 k1
 omega
def Srt (s:Int)(R:List Rq):Prop:=R.Pairwise (λx y=>Qf s x.1 y.1=true)
structure At (s key:Int) (c:Cx) (t:Tr):Prop where
 srt:Srt s (c.plug t).rows
 pre:∀x∈c.pre,Qf s x.1 key=true
 post:∀x∈c.post,Qf s key x.1=true
theorem At.start {s key:Int}{t:Tr}(h:Srt s t.rows):At s key .top t:=⟨h,λx hx=>(by cases hx),λx hx=>(by cases hx)⟩
theorem At.goL {s key:Int}{c:Cx}{a:Nat}{k:Int}{v:Value}{q:List Int}{l r:Tr}(h:At s key c (.node a k v q l r))(hb:Qf s key k=true):At s key (.left a k v q r c) l:=by
 refine⟨h.srt,h.pre,λx hx=>?_⟩
 have hs:=h.srt
 rw[Zp]at hs
 unfold Srt at hs
 simp only[Tr.rows,St,List.cons_append]at hs
 rw[Aw]at hs
 have h2:=hs.2.1
 rw[Aw]at h2
 have h3:=h2.2.1
 rw[List.pairwise_cons]at h3
 simp only[Cx.post,List.cons_append,List.mem_cons,List.mem_append]at hx
 rcases hx with rfl|hx|hx
 ·exact hb
 ·exact UX hb (h3.1 x (by simp[hx]))
 ·exact h.post x hx
theorem At.goR {s key:Int}{c:Cx}{a:Nat}{k:Int}{v:Value}{q:List Int}{l r:Tr}(h:At s key c (.node a k v q l r))(hb:Qf s k key=true):At s key (.right a k v q l c) r:=by
 refine⟨h.srt,λx hx=>?_,h.post⟩
 have hs:=h.srt
 rw[Zp]at hs
 unfold Srt at hs
 simp only[Tr.rows,St,List.cons_append]at hs
 rw[Aw]at hs
 have h2:=hs.2.1
 rw[Aw]at h2
 simp only[Cx.pre,List.mem_append,List.mem_singleton]at hx
 rcases hx with hx|hx|rfl
 ·exact h.pre x hx
 ·exact UX (h2.2.2 x hx (k,q) Oy) hb
 ·exact hb
def Vn (key:Int):Tr->Prop
 | .nil=>True
 | .node _ k _ _ _ _=>k=key
end
section
open Go.RowKit Go.Shelf Go.Sort Go.Maps Go.Lib
def idV (q:List Int):List Value:=q.map (λx=>.int .u64 x)
abbrev ahF (sb:Nat):Value:=.func (.func 84) #[] #[.pointer (some ⟨sb,0,none⟩)]
def TrIn (W:World):Tr->Prop
 | .nil=>True
 | .node a key v q l r=>Cl 278 W a #[.int .i64 key,v,l.ptr,r.ptr]/\W.ownsRow 0 35 1 v q.length (idV q)/\TrIn W l/\TrIn W r
def CxIn (W:World)(tb sb:Nat):Cx->Value->Prop
 | .top,p=>Cl 156 W tb #[ahF sb,p]
 | .left a key v q r c,p=>Cl 278 W a #[.int .i64 key,v,p,r.ptr]/\W.ownsRow 0 35 1 v q.length (idV q)/\TrIn W r/\CxIn W tb sb c (.pointer (some ⟨a,0,none⟩))
 | .right a key v q l c,p=>Cl 278 W a #[.int .i64 key,v,l.ptr,p]/\W.ownsRow 0 35 1 v q.length (idV q)/\TrIn W l/\CxIn W tb sb c (.pointer (some ⟨a,0,none⟩))
theorem J9 {W:World}{tb sb:Nat}{c:Cx}{p:Value}(h:CxIn W tb sb c p):W.cell? (c.hole tb)=some p/\W.frozen? (c.hole tb)=false:=by
 cases c with
 | top=>exact⟨(Cl.c h 1).trans rfl,Cl.f h⟩
 | left a key v q r c=>exact⟨(h.1.c 2).trans rfl,h.1.f⟩
 | right a key v q l c=>exact⟨(h.1.c 3).trans rfl,h.1.f⟩
theorem UY {W:World}{tb sb:Nat}:∀{c:Cx} {p:Value},CxIn W tb sb c p->W.cell? ⟨tb,0,none⟩=some (ahF sb)
 | .top,p,h=>(Cl.c h 0).trans rfl
 | .left ..,p,h=>UY h.2.2.2
 | .right ..,p,h=>UY h.2.2.2
theorem qg4 (sb:Nat)(s a b:Int)(w:World)(h:Cl 3 w sb #[.int .i64 s]) :
  Calls prog 84 #[.int .i64 a,.int .i64 b,.pointer (some ⟨sb,0,none⟩)] w λe w'=>e=.returned (.bool (Qf s a b))/\w'=w:=by
 have k0:w.cell? ⟨sb,0,none⟩=some (.int .i64 s):=(h.c 0).trans rfl
 have HB:=Ou (XQ s a b w)
 generalize Qf s a b=r at *
 clear h
 go_enter func84,ntmps84
 go_wp2_with ((with_reducible refine HB.out.mono ?_);rintro e w1 ⟨rfl,rfl⟩)
 go_ret
 exact⟨rfl,rfl⟩
theorem V2 {p:Nat->Prop}(h:∃n,p n):∃n,p n/\∀m,p m->n<=m:=by
 obtain⟨n,hn⟩:=h
 induction n using Nat.strongRecOn with
 | _ n ih =>
  by_cases hx:∃m,m<n/\p m
  ·obtain⟨m,h1,h2⟩:=hx;exact ih m h1 h2
  ·exact⟨n,hn,λm hm=>Classical.byContradiction λhlt=>hx ⟨m,by omega,hm⟩⟩
open Classical in
noncomputable def muJ (J:Nat->Act->World->Prop)(a:Act)(w:World):Nat:=if h:∃n,J n a w then Classical.choose (V2 h) else 0
theorem KW {P:Program}{c X:Code}{a:Act}{w:World}{Q:Exit->Act->World->Prop}(l:Nat)(J:Nat->Act->World->Prop)(hf:findLabel c l=some (Code.skip.seq X))
  (first:(∀n a w,J n a w->X.wp P (Exit.jump l (λa w=>∃n,J n a w) Q) a w)->c.wp P (Exit.jump l (λa w=>∃n,J n a w) Q) a w)
  (pass:∀n a w,J n a w->X.wp P (Exit.jump l (λa' w'=>∃m,m<n/\J m a' w') Q) a w):(Code.scope c).wp P Q a w:=by
 have sk:∀{Q:Exit->Act->World->Prop} {a:Act} {w:World},X.wp P Q a w->(Code.skip.seq X).wp P Q a w:=λh=>wp_seq (wp_skip h)
 refine wp_scope_jumps l (λa w=>∃n,J n a w) (muJ J) hf (first (λn a w h=>Code.wp_mono (λe a' w' hq=>by cases e with|goto l'=>(obtain⟨h1,m,_,h3⟩:=hq;exact⟨h1,m,h3⟩)|normal=>exact hq|exit id=>exact hq|ret=>exact hq|panic ch=>exact hq|outgrown=>exact hq) (pass n a w h))) (λa w h=>?_)
 have hs:=Classical.choose_spec (V2 h)
 have em:muJ J a w=Classical.choose (V2 h):=by unfold muJ;rw[dif_pos h]
 refine Code.wp_mono (λe a' w' hq=>?_) (sk (pass _ a w hs.1))
 cases e with
 | goto l' =>
  obtain⟨h1,m,h2,h3⟩:=hq;refine⟨h1,⟨m,h3⟩,?_⟩;have hx:∃n,J n a' w':=⟨m,h3⟩
  have e2:muJ J a' w'=Classical.choose (V2 hx):=by unfold muJ;rw[dif_pos hx]
  have h4:=(Classical.choose_spec (V2 hx)).2 m h3;rw[em,e2];omega
 | normal=>exact hq
 | exit id=>exact hq
 | ret=>exact hq
 | panic ch=>exact hq
 | outgrown=>exact hq
theorem Xd (tb:Nat)(c:Cx):∃b o,c.hole tb=⟨b,o,none⟩:=by cases c<;>exact⟨_,_,rfl⟩
theorem Xe:∀(c:Cx) (a:Nat) (k:Int) (v:Value) (q:List Int) (l r:Tr),c.plug (.node a k v q l r)≠.nil
 | .top,_,_,_,_,_,_=>by intro h;cases h
 | .left b _ _ _ _ c,_,_,_,_,_,_=>Xe c _ _ _ _ _ _
 | .right b _ _ _ _ c,_,_,_,_,_,_=>Xe c _ _ _ _ _ _
structure SpI (w:World) (tb sb:Nat) (s key:Int) (T:Tr) (c:Cx) (t:Tr):Prop where
 eq:c.plug t=T
 at_:At s key c t
 cx:CxIn w tb sb c t.ptr
 tr:TrIn w t
def SpJ (w:World)(tb sb:Nat)(s key:Int)(T:Tr)(n:Nat)(a:Act)(w':World):Prop :=
 ∃c t q,t.size=n/\Hid (SpI w tb sb s key T c t)/\w'=w.drewN q/\∃u6 u7 u8 u9 u10 u11 u12 u13 u14 u15 u16 u17 u18 u19 u20 u21 u22 u23 u24 u25 u26 u27 u28 u29 u30 u31 u32 u33 u34 u35 u36 u37 u38 u39 u40 u41 u42 u43 u44 u45 u46 u47 u48 u49,a=⟨#[.pointer (some ⟨tb,0,none⟩),.int .i64 key,undef,undef,.pointer none,.pointer (some (c.hole tb)),u6,u7,u8,u9,u10,u11,u12,u13,u14,u15,u16,u17,u18,u19,u20,u21,u22,u23,u24,u25,u26,u27,u28,u29,u30,u31,u32,u33,u34,u35,u36,u37,u38,u39,u40,u41,u42,u43,u44,u45,u46,u47,u48,u49],[]⟩
def V3 (w:World)(tb sb:Nat)(s key:Int)(T:Tr)(e:Ending)(w':World):Prop :=
 ∃c t,e=.returned (.pointer (some (c.hole tb)))/\Hid (SpI w tb sb s key T c t/\Vn key t)/\∃n,w'=w.drewN n
theorem UZ (tb sb:Nat)(s key:Int)(T:Tr)(w:World)(hs:T≠.nil->(s=1∨s=2))(hb:Cl 3 w sb #[.int .i64 s])(hc:CxIn w tb sb .top T.ptr)(ht:TrIn w T)(hS:Srt s T.rows) :
  Calls prog 223 #[.pointer (some ⟨tb,0,none⟩),.int .i64 key] w (V3 w tb sb s key T):=by
 have mixed:prog.follows .mixedOrders=true:=by kernel_rfl
 have eP:Hid (SpI w tb sb s key T .top T):=Ou ⟨rfl,At.start hS,hc,ht⟩
 have bN:Hid (∀a b X,X.heap=w.heap->Calls prog 84 #[.int .i64 a,.int .i64 b,.pointer (some ⟨sb,0,none⟩)] X λe w'=>e=.returned (.bool (Qf s a b))/\w'=X):=Ou (λa b X hX=>qg4 sb s a b X (by unfold Cl;rw[hX];exact hb))
 have k0:w.cell? ⟨tb,0,none⟩=some (.func (.func 84) #[] #[.pointer (some ⟨sb,0,none⟩)]):=UY hc
 have HS:=Ou hs
 clear hc ht hS hb hs
 go_enter func223,ntmps223
 go_wp2_with fail
 refine KW 0 (SpJ w tb sb s key T) rfl ?_ ?_
 ·intro hp;go_wp2_with fail
  go_step3
  rename_i K hK
  refine hK _ _ (hp T.size _ _ ⟨.top,T,0,rfl,eP,rfl,?_⟩);exact⟨_,_,_,_,_,_,_,_,_,_,_,_,_,_,_,_,_,_,_,_,_,_,_,_,_,_,_,_,_,_,_,_,_,_,_,_,_,_,_,_,_,_,_,_,rfl⟩
 ·rintro n a w' ⟨c,t,q,rfl,HI,rfl,u6,u7,u8,u9,u10,u11,u12,u13,u14,u15,u16,u17,u18,u19,u20,u21,u22,u23,u24,u25,u26,u27,u28,u29,u30,u31,u32,u33,u34,u35,u36,u37,u38,u39,u40,u41,u42,u43,u44,u45,u46,u47,u48,u49,rfl⟩;obtain⟨b,o,eh⟩:=Xd tb c;have h1:=J9 HI.out.cx;rw[eh]at h1 ⊢;obtain⟨c1,c2⟩:=h1;have HA:Hid (∀a b n,Calls prog 84 #[.int .i64 a,.int .i64 b,.pointer (some ⟨sb,0,none⟩)] ((w.drewN q).drewN n) λe w'=>e=.returned (.bool (Qf s a b))/\w'=(w.drewN q).drewN n):=Ou (λa b n=>bN.out a b _ rfl);have HD:Hid (∀n m,((w.drewN q).drewN n).drewN m=w.drewN (q+n+m)):=Ou (λn m=>by rw[World.drewN_drewN,World.drewN_drewN,Nat.add_assoc])
  have jS:Hid (∀a b n m,Calls prog 84 #[.int .i64 a,.int .i64 b,.pointer (some ⟨sb,0,none⟩)] (((w.drewN q).drewN n).drewN m) λe w'=>e=.returned (.bool (Qf s a b))/\w'=((w.drewN q).drewN n).drewN m):=Ou (λa b n m=>bN.out a b _ rfl);have nU:Hid (∀n,(w.drewN q).drewN n=w.drewN (q+n)):=Ou (λn=>by rw[World.drewN_drewN]);have k0q:(w.drewN q).cell? ⟨tb,0,none⟩=some (.func (.func 84) #[] #[.pointer (some ⟨sb,0,none⟩)]):=k0;clear k0 bN
  cases t with
  | nil =>
   have c1':(w.drewN q).cell? ⟨b,o,none⟩=some (.pointer none):=c1;have HE:∀n,Hid (V3 w tb sb s key T (.returned (.pointer (some ⟨b,o,none⟩))) (w.drewN n)):=λn=>Ou ⟨c,.nil,by rw[eh],Ou ⟨HI.out,trivial⟩,n,rfl⟩;clear c1 HI;generalize w.drewN q=wq at *;go_wp2_with fail
   go_quiet (((with_reducible exact Ss (HA.out _ _ _))))
   go_wp2_with fail
   go_quiet (((with_reducible exact Ss (HA.out _ _ _))))
   go_wp2_with fail
   show bodyPost prog Tryz.f223 (V3 w tb sb s key T) Exit.ret _ _;rw[HD.out];go_ret;exact(HE _).out
  | node x k v qq l r =>
   have c1':(w.drewN q).cell? ⟨b,o,none⟩=some (.pointer (some ⟨x,0,none⟩)):=c1;have hx:=HI.out.tr.1;have d0:(w.drewN q).cell? ⟨x,0,none⟩=some (.int .i64 k):=(hx.c 0).trans rfl;clear c1 hx
   cases h1:Qf s key k with
   | true =>
    have HN:Hid (SpI w tb sb s key T (.left x k v qq r c) l):=Ou ⟨HI.out.eq,HI.out.at_.goL h1,⟨HI.out.tr.1,HI.out.tr.2.1,HI.out.tr.2.2.2,HI.out.cx⟩,HI.out.tr.2.2.1⟩;clear HI;generalize w.drewN q=wq at *;go_wp2_with fail
    go_quiet (((with_reducible exact Ss (HA.out _ _ _))))
    rw[h1];go_wp2_with fail
    go_step3;exact⟨rfl,l.size,by show l.size<l.size+r.size+1;omega,.left x k v qq r c,l,_,rfl,HN,nU.out _,_,_,_,_,_,_,_,_,_,_,_,_,_,_,_,_,_,_,_,_,_,_,_,_,_,_,_,_,_,_,_,_,_,_,_,_,_,_,_,_,_,_,_,_,rfl⟩
   | false =>
    cases h2:Qf s k key with
    | true =>
     have HN:Hid (SpI w tb sb s key T (.right x k v qq l c) r):=Ou ⟨HI.out.eq,HI.out.at_.goR h2,⟨HI.out.tr.1,HI.out.tr.2.1,HI.out.tr.2.2.1,HI.out.cx⟩,HI.out.tr.2.2.2⟩;clear HI;generalize w.drewN q=wq at *;go_wp2_with fail
     go_quiet (((with_reducible exact Ss (HA.out _ _ _))))
     rw[h1];go_wp2_with fail
     have k0r:(wq.drewN nq).cell? ⟨tb,0,none⟩=some (.func (.func 84) #[] #[.pointer (some ⟨sb,0,none⟩)]):=k0q;have d0r:(wq.drewN nq).cell? ⟨x,0,none⟩=some (.int .i64 k):=d0;have yC:=Ou (λa b m=>jS.out a b nq m);have nV:=Ou (λm=>HD.out nq m);clear jS HD k0q d0 c1' HA nU;generalize wq.drewN nq=wz at *;go_quiet (((with_reducible exact Ss (yC.out _ _ _))))
     rw[h2];go_wp2_with fail
     go_step3;exact⟨rfl,r.size,by show r.size<l.size+r.size+1;omega,.right x k v qq l c,r,_,rfl,HN,nV.out _,_,_,_,_,_,_,_,_,_,_,_,_,_,_,_,_,_,_,_,_,_,_,_,_,_,_,_,_,_,_,_,_,_,_,_,_,_,_,_,_,_,_,_,_,rfl⟩
    | false =>
     have HE:∀n,Hid (V3 w tb sb s key T (.returned (.pointer (some ⟨b,o,none⟩))) (w.drewN n)):=λn=>Ou ⟨c,.node x k v qq l r,by rw[eh],Ou ⟨HI.out,(qg3 (HS.out (by rw[<-HI.out.eq];exact Xe _ _ _ _ _ _ _)) h1 h2).symm⟩,n,rfl⟩;clear HI;generalize w.drewN q=wq at *;go_wp2_with fail
     go_quiet (((with_reducible exact Ss (HA.out _ _ _))))
     rw[h1];go_wp2_with fail
     have k0r:(wq.drewN nq).cell? ⟨tb,0,none⟩=some (.func (.func 84) #[] #[.pointer (some ⟨sb,0,none⟩)]):=k0q;have d0r:(wq.drewN nq).cell? ⟨x,0,none⟩=some (.int .i64 k):=d0;have yC:=Ou (λa b m=>jS.out a b nq m);have nV:=Ou (λm=>HD.out nq m);clear jS HD k0q d0 c1' HA nU;generalize wq.drewN nq=wz at *;go_quiet (((with_reducible exact Ss (yC.out _ _ _))))
     rw[h2];go_wp2_with fail
     show bodyPost prog Tryz.f223 (V3 w tb sb s key T) Exit.ret _ _;rw[nV.out];go_ret;exact(HE _).out
def Cx.blks:Cx->List Nat
 | .top=>[]
 | .left a _ _ _ r c=>a :: (r.blks++c.blks)
 | .right a _ _ _ l c=>a :: (l.blks++c.blks)
def Cx.vals:Cx->List Value
 | .top=>[]
 | .left _ _ v _ r c=>v :: (r.vals++c.vals)
 | .right _ _ v _ l c=>v :: (l.vals++c.vals)
theorem Jh:∀(c:Cx) (t:Tr),(c.plug t).blks.Perm (t.blks++c.blks)
 | .top,t=>by simp[Cx.plug,Cx.blks]
 | .left a key v q r c,t=>by
  refine(Jh c _).trans ?_;simp only[Tr.blks,Cx.blks,St,List.cons_append];exact List.Perm.refl _
 | .right a key v q l c,t=>by
  refine(Jh c _).trans ?_;simp only[Tr.blks,Cx.blks,St,List.cons_append];exact List.perm_middle.trans ((List.Perm.cons a (List.perm_append_comm_assoc l.blks t.blks c.blks)).trans List.perm_middle.symm)
theorem TrIn.fr {S:Nat->Prop}{W W':World}(hf:Fr S W W'):∀{t:Tr},TrIn W t->(∀b∈t.blks,¬S b)->(∀v∈t.vals,∀k,v.ownBlock=some k->¬S k)->TrIn W' t
 | .nil,_,_,_=>trivial
 | .node a key v q l r,h,hb,hv=>by
  refine⟨hf.blk h.1 (hb a (by simp[Tr.blks])),Qh h.2.1 hf (hv v (by simp[Tr.vals])),TrIn.fr hf h.2.2.1 (λb hb'=>hb b (by simp[Tr.blks,hb'])) (λv hv'=>hv v (by simp[Tr.vals,hv'])),TrIn.fr hf h.2.2.2 (λb hb'=>hb b (by simp[Tr.blks,hb'])) (λv hv'=>hv v (by simp[Tr.vals,hv']))⟩
theorem CxIn.fr {S:Nat->Prop}{W W':World}{tb sb:Nat}(hf:Fr S W W')(ht:¬S tb):∀{c:Cx} {p:Value},CxIn W tb sb c p->(∀b∈c.blks,¬S b)->(∀v∈c.vals,∀k,v.ownBlock=some k->¬S k)->CxIn W' tb sb c p
 | .top,p,h,_,_=>hf.blk h ht
 | .left a key v q r c,p,h,hb,hv=>by
  refine⟨hf.blk h.1 (hb a (by simp[Cx.blks])),Qh h.2.1 hf (hv v (by simp[Cx.vals])),TrIn.fr hf h.2.2.1 (λb hb'=>hb b (by simp[Cx.blks,hb'])) (λv hv'=>hv v (by simp[Cx.vals,hv'])),CxIn.fr hf ht h.2.2.2 (λb hb'=>hb b (by simp[Cx.blks,hb'])) (λv hv'=>hv v (by simp[Cx.vals,hv']))⟩
 | .right a key v q l c,p,h,hb,hv=>by
  refine⟨hf.blk h.1 (hb a (by simp[Cx.blks])),Qh h.2.1 hf (hv v (by simp[Cx.vals])),TrIn.fr hf h.2.2.1 (λb hb'=>hb b (by simp[Cx.blks,hb'])) (λv hv'=>hv v (by simp[Cx.vals,hv'])),CxIn.fr hf ht h.2.2.2 (λb hb'=>hb b (by simp[Cx.blks,hb'])) (λv hv'=>hv v (by simp[Cx.vals,hv']))⟩
theorem TrIn.ne {W:World}{g:Nat}{cs:Array Value}{T:TypeId}(hg:W.heap[g]? = some (.cells cs T (0,0)))(hT:35≠T):∀{t:Tr},TrIn W t->∀v∈t.vals,v.ownBlock≠some g
 | .nil,_,v,hv=>(by cases hv)
 | .node a key v q l r,h,u,hu=>by
  simp only[Tr.vals,List.mem_append,List.mem_cons]at hu;rcases hu with hu|rfl|hu
  ·exact TrIn.ne hg hT h.2.2.1 u hu
  ·exact Qn h.2.1 hg hT
  ·exact TrIn.ne hg hT h.2.2.2 u hu
theorem CxIn.ne {W:World}{tb sb g:Nat}{cs:Array Value}{T:TypeId}(hg:W.heap[g]? = some (.cells cs T (0,0)))(hT:35≠T):∀{c:Cx} {p:Value},CxIn W tb sb c p->∀v∈c.vals,v.ownBlock≠some g
 | .top,_,_,v,hv=>(by cases hv)
 | .left a key v q r c,p,h,u,hu=>by
  simp only[Cx.vals,List.mem_append,List.mem_cons]at hu;rcases hu with rfl|hu|hu
  ·exact Qn h.2.1 hg hT
  ·exact TrIn.ne hg hT h.2.2.1 u hu
  ·exact CxIn.ne hg hT h.2.2.2 u hu
 | .right a key v q l c,p,h,u,hu=>by
  simp only[Cx.vals,List.mem_append,List.mem_cons]at hu;rcases hu with rfl|hu|hu
  ·exact Qn h.2.1 hg hT
  ·exact TrIn.ne hg hT h.2.2.1 u hu
  ·exact CxIn.ne hg hT h.2.2.2 u hu
theorem CxIn.tree {W:World}{tb sb:Nat}:∀{c:Cx} {p:Value},CxIn W tb sb c p->∃p',Cl 156 W tb #[ahF sb,p']
 | .top,p,h=>⟨p,h⟩
 | .left ..,p,h=>CxIn.tree h.2.2.2
 | .right ..,p,h=>CxIn.tree h.2.2.2
theorem CxIn.set {W:World}{tb sb:Nat}{c:Cx}{p:Value}(h:CxIn W tb sb c p)(hd:c.blks.Nodup)(p':Value):CxIn (W.setCell (c.hole tb) p') tb sb c p':=by
 cases c with
 | top=>exact(QK h).trans rfl
 | left a key v q r c =>
  obtain⟨h1,h2,h3,h4⟩:=h;have hf:Fr (λk=>k=a) W (W.setCell ⟨a,2,none⟩ p'):=(Fr.refl (λk=>k=a) W).set (p:=⟨a,2,none⟩) (.inl rfl) _;have hnd:a ∉ r.blks++c.blks:=(List.nodup_cons.1 hd).1;have hne:∀(v:Value),v.ownBlock≠some a->∀k,v.ownBlock=some k->¬k=a:=λv hv k hk e=>hv (by rw[hk,e]);obtain⟨pt,ht⟩:=CxIn.tree h4;refine⟨(QK h1).trans rfl,Qh h2 hf (hne v (Qn h2 h1 Ox)),TrIn.fr hf h3 (λb hb e=>hnd (by rw[<-e];exact Ws _ hb)) (λv hv=>hne v (TrIn.ne h1 Ox h3 v hv)),CxIn.fr hf (λe=>Zr ht h1 Ox e) h4 (λb hb e=>hnd (by rw[<-e];exact Wx _ hb)) (λv hv=>hne v (CxIn.ne h1 Ox h4 v hv))⟩
 | right a key v q l c =>
  obtain⟨h1,h2,h3,h4⟩:=h;have hf:Fr (λk=>k=a) W (W.setCell ⟨a,3,none⟩ p'):=(Fr.refl (λk=>k=a) W).set (p:=⟨a,3,none⟩) (.inl rfl) _;have hnd:a ∉ l.blks++c.blks:=(List.nodup_cons.1 hd).1;have hne:∀(v:Value),v.ownBlock≠some a->∀k,v.ownBlock=some k->¬k=a:=λv hv k hk e=>hv (by rw[hk,e]);obtain⟨pt,ht⟩:=CxIn.tree h4;refine⟨(QK h1).trans rfl,Qh h2 hf (hne v (Qn h2 h1 Ox)),TrIn.fr hf h3 (λb hb e=>hnd (by rw[<-e];exact Ws _ hb)) (λv hv=>hne v (TrIn.ne h1 Ox h3 v hv)),CxIn.fr hf (λe=>Zr ht h1 Ox e) h4 (λb hb e=>hnd (by rw[<-e];exact Wx _ hb)) (λv hv=>hne v (CxIn.ne h1 Ox h4 v hv))⟩
theorem Ka {W:World}{tb sb:Nat}:∀{c:Cx} {t:Tr},CxIn W tb sb c t.ptr->TrIn W t->CxIn W tb sb .top (c.plug t).ptr/\TrIn W (c.plug t)
 | .top,t,h,k=>⟨h,k⟩
 | .left a key v q r c,t,h,k=>Ka (c:=c) (t:=.node a key v q t r) h.2.2.2 ⟨h.1,h.2.1,k,h.2.2.1⟩
 | .right a key v q l c,t,h,k=>Ka (c:=c) (t:=.node a key v q l t) h.2.2.2 ⟨h.1,h.2.1,h.2.2.1,k⟩
def Tr.val:Tr->Value
 | .nil=>.slice none 0 0
 | .node _ _ v _ _ _=>v
def TN (w:World)(tb sb:Nat)(s key:Int)(T:Tr)(e:Ending)(w':World):Prop :=
 ∃c t,e=.returned t.val/\Hid (SpI w tb sb s key T c t/\Vn key t)/\∃n,w'=w.drewN n
theorem Xf (tb sb:Nat)(s key:Int)(T:Tr)(w:World)(hs:T≠.nil->(s=1∨s=2))(hb:Cl 3 w sb #[.int .i64 s])(hc:CxIn w tb sb .top T.ptr)(ht:TrIn w T)(hS:Srt s T.rows) :
  Calls prog 214 #[.pointer (some ⟨tb,0,none⟩),.int .i64 key] w (TN w tb sb s key T):=by
 have HS:=Ou (UZ tb sb s key T w hs hb hc ht hS)
 clear hs hb hc ht hS
 go_enter func214,ntmps214
 go_wp2_with fail
 ((with_reducible refine HS.out.mono ?_);rintro e w1 ⟨c,t,rfl,h,n,rfl⟩)
 obtain⟨b,o,eh⟩:=Xd tb c
 have h1:=(J9 h.out.1.cx).1
 have HE:Hid (TN w tb sb s key T (.returned t.val) (w.drewN n)):=Ou ⟨c,t,rfl,h,n,rfl⟩
 rw[eh]at h1 ⊢
 cases t with
 | nil =>
  have c1:(w.drewN n).cell? ⟨b,o,none⟩=some (.pointer none):=h1;clear h1 HS h;go_wp2_with fail
  go_ret;exact HE.out
 | node x k v qq l r =>
  have c1:(w.drewN n).cell? ⟨b,o,none⟩=some (.pointer (some ⟨x,0,none⟩)):=h1;have d1:(w.drewN n).cell? ⟨x,1,none⟩=some v:=(h.out.1.tr.1.c 1).trans rfl;clear h1 HS h;go_wp2_with fail
  go_ret;exact HE.out
def Tr.with (x:Nat)(key:Int)(v:Value)(q:List Int):Tr->Tr
 | .nil=>.node x key v q .nil .nil
 | .node a k _ _ l r=>.node a k v q l r
def Tr.items:Tr->List (Int×Value)
 | .nil=>[]
 | .node _ k v _ l r=>l.items++(k,v) :: r.items
theorem U0:∀{t:Tr} {x:Int×Value},x∈t.items->∃q,(x.1,q)∈t.rows
 | .nil,x,h=>(by cases h)
 | .node a k v q l r,x,h=>by
  unfold Tr.items at h;rcases List.mem_append.1 h with h|h
  ·obtain⟨q',h'⟩:=U0 h;exact⟨q',by unfold Tr.rows;exact Ws _ h'⟩
  ·rcases List.mem_cons.1 h with rfl|h
   ·exact⟨q,by unfold Tr.rows;simp⟩
   ·obtain⟨q',h'⟩:=U0 h;exact⟨q',by unfold Tr.rows;exact Wx _ (List.mem_cons_of_mem _ h')⟩
theorem Vo:∀(c:Cx),∃A C,∀t:Tr,(c.plug t).items=A++t.items++C
 | .top=>⟨[],[],λt=>by simp[Cx.plug]⟩
 | .left a key v q r c=>by
  obtain⟨A,C,h⟩:=Vo c;exact⟨A,(key,v) :: r.items++C,λt=>by simp[Cx.plug,h,Tr.items]⟩
 | .right a key v q l c=>by
  obtain⟨A,C,h⟩:=Vo c;exact⟨A++(l.items++[(key,v)]),C,λt=>by simp[Cx.plug,h,Tr.items]⟩
theorem qg5 {s key:Int}{c:Cx}(h:At s key c .nil):∀u,(key,u) ∉ (c.plug .nil).items:=by
 intro u hu
 obtain⟨q,hq⟩:=U0 hu
 rw[Zp]at hq
 have irr:¬Qf s key key=true:=by rw[JR];omega
 simp only[Tr.rows,List.append_nil]at hq
 rcases List.mem_append.1 hq with hq|hq
 ·exact irr (h.pre _ hq)
 ·exact irr (h.post _ hq)
structure TPut (w w':World) (tb sb:Nat) (s key:Int) (T T':Tr) (v:Value) (q:List Int):Prop where
 cx:CxIn w' tb sb .top T'.ptr
 tr:TrIn w' T'
 srt:Srt s T'.rows
 nd:T'.blks.Nodup
 fr:Fr (λb=>b=tb∨b∈T.blks) w w'
 bl:∀b∈T'.blks,b∈T.blks∨w.heap.size<=b
 rows:∃P R Q,T.rows=P++R++Q/\T'.rows=P++(key,q) :: Q/\(R=[]∨∃q0,R=[(key,q0)])/\(∀x∈P,Qf s x.1 key=true)/\(∀x∈Q,Qf s key x.1=true)
 vals:∃A B C,T.vals=A++B++C/\T'.vals=A++v :: C/\((B=[]/\∀u,(key,u) ∉ T.items)∨∃u,B=[u]/\(key,u)∈T.items)
theorem TrIn.lt {W:World}:∀{t:Tr},TrIn W t->∀b∈t.blks,b<W.heap.size
 | .nil,_,b,h=>(by cases h)
 | .node a key v q l r,h,b,hb=>by
  simp only[Tr.blks,List.mem_append,List.mem_cons]at hb;rcases hb with hb|rfl|hb
  ·exact TrIn.lt h.2.2.1 b hb
  ·exact Qc h.1
  ·exact TrIn.lt h.2.2.2 b hb
theorem TrIn.at_ {W:World}:∀{t:Tr},TrIn W t->∀b∈t.blks,∃cs,Cl 278 W b cs
 | .nil,_,b,h=>(by cases h)
 | .node a key v q l r,h,b,hb=>by
  simp only[Tr.blks,List.mem_append,List.mem_cons]at hb;rcases hb with hb|rfl|hb
  ·exact TrIn.at_ h.2.2.1 b hb
  ·exact⟨_,h.1⟩
  ·exact TrIn.at_ h.2.2.2 b hb
theorem JY:∀(c:Cx),∃A C,∀t:Tr,(c.plug t).vals=A++t.vals++C
 | .top=>⟨[],[],λt=>by simp[Cx.plug]⟩
 | .left a key v q r c=>by
  obtain⟨A,C,h⟩:=JY c;exact⟨A,v :: r.vals++C,λt=>by simp[Cx.plug,h,Tr.vals]⟩
 | .right a key v q l c=>by
  obtain⟨A,C,h⟩:=JY c;exact⟨A++(l.vals++[v]),C,λt=>by simp[Cx.plug,h,Tr.vals]⟩
theorem Xg (tb:Nat)(c:Cx):(c.hole tb).block=tb∨(c.hole tb).block∈c.blks:=by
 cases c<;>simp[Cx.hole,Cx.blks]
theorem qg6 {s key:Int}{q:List Int}{P R Q:List Rq}(h:Srt s (P++R++Q))(hP:∀x∈P,Qf s x.1 key=true)(hQ:∀x∈Q,Qf s key x.1=true):Srt s (P++(key,q) :: Q):=by
 unfold Srt at h ⊢
 rw[St,Aw]at h
 obtain⟨h1,h2,h3⟩:=h
 rw[Aw]at h2
 rw[Aw,List.pairwise_cons]
 refine⟨h1,⟨hQ,h2.2.1⟩,λa ha b hb=>?_⟩
 rcases List.mem_cons.1 hb with rfl|hb
 ·exact hP a ha
 ·exact h3 a ha b (Wx _ hb)
theorem TO {w w':World}{tb sb:Nat}{s key:Int}{T t:Tr}{c:Cx}{v:Value}{q:List Int}{x:Nat}(hI:SpI w tb sb s key T c t)(hh:Vn key t)(hnd:T.blks.Nodup)(hx:w.heap.size<=x)(cx':CxIn w' tb sb c (t.with x key v q).ptr)(tr':TrIn w' (t.with x key v q))(fr:Fr (λb=>b=tb∨b∈T.blks) w w'):TPut w w' tb sb s key T (c.plug (t.with x key v q)) v q:=by
 obtain⟨rfl,hat,gW,htr⟩:=hI
 have hT:=(Ka gW htr).2
 have hb0:(c.plug t).blks.Perm (t.blks++c.blks):=Jh c t
 have hb1:=Jh c (t.with x key v q)
 obtain⟨A,C,hv⟩:=JY c
 have hp:=Ka cx' tr'
 have hrows:∃P R Q,(c.plug t).rows=P++R++Q/\(c.plug (t.with x key v q)).rows=P++(key,q) :: Q/\(R=[]∨∃q0,R=[(key,q0)])/\(∀x∈P,Qf s x.1 key=true)/\(∀x∈Q,Qf s key x.1=true):=by
  cases t with
  | nil=>exact⟨c.pre,[],c.post,by simp[Zp,Tr.rows],by simp[Zp,Tr.rows,Tr.with],.inl rfl,hat.pre,hat.post⟩
  | node a k u q0 l r =>
   have hk:k=key:=hh;subst hk;have hs:=hat.srt;rw[Zp]at hs;unfold Srt at hs;simp only[Tr.rows,St,List.cons_append]at hs;rw[Aw]at hs;have h2:=hs.2.1;rw[Aw]at h2;refine⟨c.pre++l.rows,[(k,q0)],r.rows++c.post,by simp[Zp,Tr.rows],by simp[Zp,Tr.rows,Tr.with],.inr ⟨q0,rfl⟩,λx hx=>?_,λx hx=>?_⟩
   ·rcases List.mem_append.1 hx with hx|hx
    ·exact hat.pre x hx
    ·exact h2.2.2 x hx (k,q0) Oy
   ·exact(List.pairwise_cons.1 h2.2.1).1 x hx
 have hsrt:Srt s (c.plug (t.with x key v q)).rows:=by
  obtain⟨P,R,Q,e1,e2,_,hP,hQ⟩:=hrows;rw[e2];exact qg6 (by rw[<-e1];exact hat.srt) hP hQ
 refine⟨hp.1,hp.2,hsrt,?_,fr,?_,hrows,?_⟩
 ·cases t with
  | nil =>
   refine hb1.nodup_iff.2 ?_;show (x :: ([]++c.blks)).Nodup;have h0:=hb0.nodup_iff.1 hnd;refine List.nodup_cons.2 ⟨λhm=>?_,h0⟩;exact absurd (TrIn.lt hT x (hb0.mem_iff.2 hm)) Oz
  | node a k u q0 l r=>exact hb1.nodup_iff.2 (hb0.nodup_iff.1 hnd)
 ·intro b hb;have hb2:=hb1.mem_iff.1 hb
  cases t with
  | nil =>
   simp only[Tr.with,Tr.blks,List.nil_append,List.cons_append,List.mem_cons]at hb2;rcases hb2 with rfl|hb2
   ·exact .inr hx
   ·exact .inl (hb0.mem_iff.2 hb2)
  | node a k u q0 l r=>exact .inl (hb0.mem_iff.2 hb2)
 ·cases t with
  | nil=>exact⟨A,[],C,by simp[hv,Tr.vals],by simp[hv,Tr.vals,Tr.with],.inl ⟨rfl,qg5 hat⟩⟩
  | node a k u q0 l r =>
   have hk:k=key:=hh;subst hk;obtain⟨A2,C2,hi⟩:=Vo c;exact⟨A++l.vals,[u],r.vals++C,by simp[hv,Tr.vals],by simp[hv,Tr.vals,Tr.with],.inr ⟨u,rfl,by rw[hi];simp[Tr.items]⟩⟩
theorem TP {w:World}{tb sb:Nat}{T t:Tr}{c:Cx}{s key:Int}{v:Value}{n:Nat}{xs:List Value}(hI:SpI w tb sb s key T c t)(hv:w.ownsRow 0 35 1 v n xs):∀k,v.ownBlock=some k->¬(k=tb∨k∈T.blks):=by
 intro k hk hc
 obtain⟨pt,ht⟩:=CxIn.tree hI.cx
 have hT:=(Ka hI.cx hI.tr).2
 rw[hI.eq]at hT
 rcases hc with rfl|hc
 ·exact Qn hv ht Ox hk
 ·obtain⟨cs,h⟩:=TrIn.at_ hT k hc;exact Qn hv h Ox hk
theorem qg7 {w:World}{tb sb:Nat}{s key:Int}{T:Tr}{c:Cx}{x:Nat}{k:Int}{u v:Value}{qq q:List Int}{l r:Tr}(n:Nat)(hI:SpI w tb sb s key T c (.node x k u qq l r))(hh:k=key)(hnd:T.blks.Nodup)(hv:w.ownsRow 0 35 1 v q.length (idV q)) :
  TPut w ((w.drewN n).setCell ⟨x,1,none⟩ v) tb sb s key T (c.plug (.node x k v q l r)) v q:=by
 have hperm:=Jh c (.node x k u qq l r)
 rw[hI.eq]at hperm
 have hxT:x∈T.blks:=hperm.mem_iff.2 (by simp[Tr.blks])
 have fr:Fr (λb=>b=tb∨b∈T.blks) w ((w.drewN n).setCell ⟨x,1,none⟩ v):=((Fr.refl _ w).drewN n).set (p:=⟨x,1,none⟩) (.inl (.inr hxT)) v
 have fx:Fr (λb=>b=x) w ((w.drewN n).setCell ⟨x,1,none⟩ v):=((Fr.refl (λb=>b=x) w).drewN n).set (p:=⟨x,1,none⟩) (.inl rfl) v
 have hoff:=TP hI hv
 have hd:=hperm.nodup_iff.1 hnd
 obtain⟨pt,ht⟩:=CxIn.tree hI.cx
 have hx:=hI.tr.1
 have hne:∀(v:Value),v.ownBlock≠some x->∀k,v.ownBlock=some k->¬k=x:=λv hv k hk e=>hv (by rw[hk,e])
 have hd1:=(List.nodup_append.1 hd).1
 have hd2:=(List.nodup_append.1 hd).2.2
 have hxl:x ∉ l.blks:=λh=>by
  have:=List.nodup_append.1 (show (l.blks++x :: r.blks).Nodup from hd1);exact this.2.2 x h x Oy rfl
 have kF:x ∉ r.blks:=λh=>by
  have:=(List.nodup_append.1 (show (l.blks++x :: r.blks).Nodup from hd1)).2.1;exact(List.nodup_cons.1 this).1 h
 have hxc:x ∉ c.blks:=λh=>hd2 x (by simp[Tr.blks]) x h rfl
 subst hh
 refine TO (t:=.node x k u qq l r) (x:=w.heap.size) hI rfl hnd (Sq _) ?_ ?_ fr
 ·exact CxIn.fr fx (λe=>Zr ht hx Ox e) hI.cx (λb hb e=>hxc (by rw[<-e];exact hb)) (λv hv=>hne v (CxIn.ne hx Ox hI.cx v hv))
 ·refine⟨(QK (w:=w.drewN n) hx).trans rfl,Qh hv fr hoff,?_,?_⟩
  ·exact TrIn.fr fx hI.tr.2.2.1 (λb hb e=>hxl (by rw[<-e];exact hb)) (λv hv=>hne v (TrIn.ne hx Ox hI.tr.2.2.1 v hv))
  ·exact TrIn.fr fx hI.tr.2.2.2 (λb hb e=>kF (by rw[<-e];exact hb)) (λv hv=>hne v (TrIn.ne hx Ox hI.tr.2.2.2 v hv))
abbrev ndN (key:Int)(v:Value):Array Value:=#[.int .i64 key,v,.pointer none,.pointer none]
theorem TQ {w:World}{tb sb:Nat}{s key:Int}{T:Tr}{c:Cx}(n:Nat)(hI:SpI w tb sb s key T c .nil)(hnd:T.blks.Nodup){W1 W2:World}(e1:W1=(w.drewN n).alloc (.cells (ndN key (.slice none 0 0)) 278))(e2:W2=W1.setCell (c.hole tb) (.pointer (some ⟨w.heap.size,0,none⟩))) :
  CxIn W1 tb sb c (.pointer none)/\CxIn W2 tb sb c (.pointer (some ⟨w.heap.size,0,none⟩))/\Cl 278 W2 w.heap.size (ndN key (.slice none 0 0))/\Fr (λb=>b=tb∨b∈T.blks) w W2/\w.heap.size ∉ c.blks/\tb≠w.heap.size:=by
 have hperm:=Jh c .nil
 rw[hI.eq]at hperm
 have hT:=(Ka hI.cx hI.tr).2
 rw[hI.eq]at hT
 have hd:c.blks.Nodup:=hperm.nodup_iff.1 hnd
 obtain⟨pt,ht⟩:=CxIn.tree hI.cx
 have i6:=Qc ht
 have hnc:w.heap.size ∉ c.blks:=λh=>absurd (TrIn.lt hT _ (hperm.mem_iff.2 h)) Oz
 have f1:Fr (λ_=>False) w W1:=e1 ▸ ((Fr.refl _ w).drewN n).alloc _
 have h1:CxIn W1 tb sb c (.pointer none):=CxIn.fr f1 (λh=>h) hI.cx (λ_ _ h=>h) (λ_ _ _ _ h=>h)
 have h2:CxIn W2 tb sb c (.pointer (some ⟨w.heap.size,0,none⟩)):=e2 ▸ CxIn.set h1 hd _
 have f2:Fr (λb=>b=tb∨b∈c.blks) W1 W2:=e2 ▸ (Fr.refl _ W1).set (.inl (Xg tb c)) _
 have lM:Cl 278 W1 w.heap.size (ndN key (.slice none 0 0)):=e1 ▸ Qe rfl
 refine⟨h1,h2,f2.blk lM ?_,?_,hnc,by omega⟩
 ·rintro (h|h)
  ·omega
  ·exact hnc h
 ·have f1':Fr (λb=>b=tb∨b∈T.blks) w W1:=f1.mono (λ_ h=>absurd h id);refine f1'.trans f2 (λb hb=>.inl ?_);rcases hb with hb|hb
  ·exact .inl hb
  ·exact .inr (hperm.mem_iff.2 hb)
theorem qg8 {w:World}{tb sb:Nat}{s key:Int}{T:Tr}{c:Cx}{v:Value}{q:List Int}(n:Nat)(hI:SpI w tb sb s key T c .nil)(hnd:T.blks.Nodup)(hv:w.ownsRow 0 35 1 v q.length (idV q)){W1 W2:World}(e1:W1=(w.drewN n).alloc (.cells (ndN key (.slice none 0 0)) 278))(e2:W2=W1.setCell (c.hole tb) (.pointer (some ⟨w.heap.size,0,none⟩))) :
  TPut w (W2.setCell ⟨w.heap.size,1,none⟩ v) tb sb s key T (c.plug (.node w.heap.size key v q .nil .nil)) v q:=by
 obtain⟨h1,h2,h3,h4,h5,h6⟩:=TQ n hI hnd e1 e2
 have fx:Fr (λb=>b=w.heap.size) W2 (W2.setCell ⟨w.heap.size,1,none⟩ v):=(Fr.refl (λb=>b=w.heap.size) W2).set (p:=⟨w.heap.size,1,none⟩) (.inl rfl) v
 have fr:Fr (λb=>b=tb∨b∈T.blks) w (W2.setCell ⟨w.heap.size,1,none⟩ v):=h4.set (p:=⟨w.heap.size,1,none⟩) (.inr (Sq _)) v
 have hne:∀(v:Value),v.ownBlock≠some w.heap.size->∀k,v.ownBlock=some k->¬k=w.heap.size:=λv hv k hk e=>hv (by rw[hk,e])
 refine TO (t:=.nil) (x:=w.heap.size) hI trivial hnd (Sq _) ?_ ?_ fr
 ·exact CxIn.fr fx h6 h2 (λb hb e=>h5 (by rw[<-e];exact hb)) (λv hv=>hne v (CxIn.ne h3 Ox h2 v hv))
 ·exact⟨(QK h3).trans rfl,Qh hv fr (TP hI hv),trivial,trivial⟩
theorem TR (tb sb:Nat)(s key:Int)(T:Tr)(v:Value)(q:List Int)(w:World)(hs:s=1∨s=2)(hb:Cl 3 w sb #[.int .i64 s])(hc:CxIn w tb sb .top T.ptr)(ht:TrIn w T)(hS:Srt s T.rows)(hnd:T.blks.Nodup)(hv:w.ownsRow 0 35 1 v q.length (idV q)) :
  Calls prog 218 #[.pointer (some ⟨tb,0,none⟩),.int .i64 key,v] w λe w'=>e=.returned (.tuple #[])/\∃T',Hid (TPut w w' tb sb s key T T' v q):=by
 have HS:=Ou (UZ tb sb s key T w (λ_=>hs) hb hc ht hS)
 have HV:=Ou hv
 have HT:=Ou (Sv ht hnd)
 obtain⟨A0,c0,rfl,_⟩:=ZO hv
 clear hs hb hc ht hS hnd hv
 go_enter func218,ntmps218
 go_wp2_with fail
 ((with_reducible refine HS.out.mono ?_);rintro e w1 ⟨c,t,rfl,h,n,rfl⟩)
 obtain⟨b,o,eh⟩:=Xd tb c
 have h1:=J9 h.out.1.cx
 rw[eh]at h1 ⊢
 cases t with
 | nil =>
  obtain⟨W1,e1⟩:∃W1,W1=(w.drewN n).alloc (.cells (ndN key (.slice none 0 0)) 278):=⟨_,rfl⟩
  obtain⟨W2,e2⟩:∃W2,W2=W1.setCell (c.hole tb) (.pointer (some ⟨w.heap.size,0,none⟩)):=⟨_,rfl⟩
  have HP:=Ou (qg8 n h.out.1 HT.out.2 HV.out e1 e2);obtain⟨k1,k2,k3,-,-,-⟩:=TQ n h.out.1 HT.out.2 e1 e2;have m1:=J9 k1;have m2:=(J9 k2).1;have d1:=k3.c 1;have d2:W2.frozen? ⟨w.heap.size,1,none⟩=false:=k3.f;rw[eh]at m1 m2 e2;obtain⟨m1,m3⟩:=m1;have c1:(w.drewN n).cell? ⟨b,o,none⟩=some (.pointer none):=h1.1;subst e2;subst e1;clear h1 HS k1 k2 k3 h;go_wp2_with fail
  go_end0;exact⟨rfl,_,HP⟩
 | node x k u qq l r =>
  have c1:(w.drewN n).cell? ⟨b,o,none⟩=some (.pointer (some ⟨x,0,none⟩)):=h1.1;have d1:(w.drewN n).cell? ⟨x,1,none⟩=some u:=(h.out.1.tr.1.c 1).trans rfl;have d2:(w.drewN n).frozen? ⟨x,1,none⟩=false:=h.out.1.tr.1.f;clear h1 HS;go_wp2_with fail
  go_end0;exact⟨rfl,_,Ou (qg7 n h.out.1 h.out.2 HT.out.2 HV.out)⟩
def Tr.fst:Tr->Option (Int×Value×List Int)
 | .nil=>none
 | .node _ k v q l _=>match l.fst with
  | none=>some (k,v,q)
  | some x=>some x
theorem TS:∀t:Tr,t.rows.head? = t.fst.map (λx=>(x.1,x.2.2))
 | .nil=>rfl
 | .node a k v q l r=>by
  have h:=TS l;unfold Tr.fst
  cases e:l.fst with
  | none =>
   rw[e]at h;have hn:l.rows=[]:=List.head?_eq_none_iff.1 h;simp[Tr.rows,hn]
  | some x =>
   rw[e]at h;simp only[Tr.rows];rw[List.head?_append,h];rfl
theorem TT:∀t:Tr,t.vals.head? = t.fst.map (λx=>x.2.1)
 | .nil=>rfl
 | .node a k v q l r=>by
  have h:=TT l;unfold Tr.fst
  cases e:l.fst with
  | none =>
   rw[e]at h;have hn:l.vals=[]:=List.head?_eq_none_iff.1 h;simp[Tr.vals,hn]
  | some x =>
   rw[e]at h;simp only[Tr.vals];rw[List.head?_append,h];rfl
theorem TU {W:World}:∀{t:Tr},TrIn W t->∀x,t.fst=some x->W.ownsRow 0 35 1 x.2.1 x.2.2.length (idV x.2.2)
 | .nil,_,x,h=>(by cases h)
 | .node a k v q l r,h,x,hx=>by
  unfold Tr.fst at hx
  cases e:l.fst with
  | none=>rw[e]at hx;cases hx;exact h.2.1
  | some y=>rw[e]at hx;cases hx;exact TU h.2.2.1 _ e
def Vp:Option (Int×Value×List Int)->Value
 | none=>.tuple #[.slice none 0 0,.bool false]
 | some x=>.tuple #[x.2.1,.bool true]
theorem qg9 {a:Nat}{k:Int}{v:Value}{q:List Int}{l r:Tr}(h:l≠.nil):(Tr.node a k v q l r).fst=l.fst:=by
 cases l with
 | nil=>exact absurd rfl h
 | node a' k' v' q' l' r' =>
  show (match (Tr.node a' k' v' q' l' r').fst with|none=>some (k,v,q)|some x=>some x)=(Tr.node a' k' v' q' l' r').fst
  cases e:(Tr.node a' k' v' q' l' r').fst with
  | none=>simp only[Tr.fst]at e;split at e<;>cases e
  | some x=>rfl
def FiJ (w:World)(T:Tr)(n:Nat)(a:Act)(w':World):Prop :=
 ∃x k v q l r,(Tr.node x k v q l r).size=n/\(Tr.node x k v q l r).fst=T.fst/\Hid (TrIn w (.node x k v q l r))/\w=w'/\∃u0 u1 u2 u3 u5 u6 u7 u8 u9 u10 u11 u12 u13 u14 u15 u16 u17 u18 u19 u20 u21 u22 u23 u24,a=⟨#[u0,u1,u2,u3,.pointer (some ⟨x,0,none⟩),u5,u6,u7,u8,u9,u10,u11,u12,u13,u14,u15,u16,u17,u18,u19,u20,u21,u22,u23,u24],[]⟩
theorem TV (tb sb:Nat)(T:Tr)(w:World)(hc:CxIn w tb sb .top T.ptr)(ht:TrIn w T) :
  Calls prog 213 #[.pointer (some ⟨tb,0,none⟩)] w λe w'=>e=.returned (Vp T.fst)/\w=w':=by
 have k1:=(J9 hc).1
 have HT:=Ou ht
 clear hc ht
 cases T with
 | nil =>
  have k1':w.cell? ⟨tb,1,none⟩=some (.pointer none):=k1;clear k1;go_enter func213,ntmps213;go_wp2_with fail
  refine KW 0 (λ_ _ _=>False) rfl (λhp=>?_) (λ_ _ _ h=>h.elim);go_wp2_with fail
  show bodyPost prog Tryz.f213 (λe w'=>e=.returned (Vp Tr.nil.fst)/\w=w') Exit.ret _ _;go_ret2;exact⟨rfl,rfl⟩
 | node x k v q l r =>
  have k1':w.cell? ⟨tb,1,none⟩=some (.pointer (some ⟨x,0,none⟩)):=k1;clear k1;go_enter func213,ntmps213;go_wp2_with fail
  refine KW 0 (FiJ w (.node x k v q l r)) rfl ?_ ?_
  ·intro hp;go_wp2_with fail
   go_step3
   rename_i K hK
   refine hK _ _ (hp _ _ _ ⟨x,k,v,q,l,r,rfl,rfl,HT,rfl,?_⟩);exact⟨_,_,_,_,_,_,_,_,_,_,_,_,_,_,_,_,_,_,_,_,_,_,_,_,rfl⟩
  ·clear k1' HT;obtain⟨F,hF⟩:∃F,F=(Tr.node x k v q l r).fst:=⟨_,rfl⟩
   rintro n a w' ⟨y,j,u,p,l',r',rfl,e,HI,rfl,u0,u1,u2,u3,u5,u6,u7,u8,u9,u10,u11,u12,u13,u14,u15,u16,u17,u18,u19,u20,u21,u22,u23,u24,rfl⟩;have hx:=HI.out.1;have d1:w.cell? ⟨y,1,none⟩=some u:=(hx.c 1).trans rfl;have d2:w.cell? ⟨y,2,none⟩=some l'.ptr:=(hx.c 2).trans rfl;clear hx
   cases l' with
   | nil =>
    have d2':w.cell? ⟨y,2,none⟩=some (.pointer none):=d2;clear d2;go_wp2_with fail
    show bodyPost prog Tryz.f213 (λe w'=>e=.returned (Vp (Tr.node x k v q l r).fst)/\w=w') Exit.ret _ _;go_ret2;rw[<-e];exact⟨rfl,rfl⟩
   | node y2 j2 u2 p2 l2 r2 =>
    have d2':w.cell? ⟨y,2,none⟩=some (.pointer (some ⟨y2,0,none⟩)):=d2;clear d2;go_wp2_with fail
    go_step3;refine⟨rfl,_,?_,y2,j2,u2,p2,l2,r2,rfl,(qg9 (by intro h;cases h)).symm.trans e,Ou HI.out.2.2.1,rfl,_,_,_,_,_,_,_,_,_,_,_,_,_,_,_,_,_,_,_,_,_,_,_,_,rfl⟩;simp only[Tr.size];omega
def CtIn (W:World):Cx->Value->Prop
 | .top,p=>True
 | .left a key v q r c,p=>Cl 278 W a #[.int .i64 key,v,p,r.ptr]/\W.ownsRow 0 35 1 v q.length (idV q)/\TrIn W r/\CtIn W c (.pointer (some ⟨a,0,none⟩))
 | .right a key v q l c,p=>Cl 278 W a #[.int .i64 key,v,l.ptr,p]/\W.ownsRow 0 35 1 v q.length (idV q)/\TrIn W l/\CtIn W c (.pointer (some ⟨a,0,none⟩))
theorem Xh {W:World}:∀{c:Cx} {t:Tr},TrIn W (c.plug t)->CtIn W c t.ptr/\TrIn W t
 | .top,t,h=>⟨trivial,h⟩
 | .left a key v q r c,t,h=>by
  obtain⟨h1,h2⟩:=Xh (c:=c) h;exact⟨⟨h2.1,h2.2.1,h2.2.2.2,h1⟩,h2.2.2.1⟩
 | .right a key v q l c,t,h=>by
  obtain⟨h1,h2⟩:=Xh (c:=c) h;exact⟨⟨h2.1,h2.2.1,h2.2.2.1,h1⟩,h2.2.2.2⟩
theorem U1 {W:World}:∀{c:Cx} {t:Tr},CtIn W c t.ptr->TrIn W t->TrIn W (c.plug t)
 | .top,t,h,k=>k
 | .left a key v q r c,t,h,k=>U1 (c:=c) (t:=.node a key v q t r) h.2.2.2 ⟨h.1,h.2.1,k,h.2.2.1⟩
 | .right a key v q l c,t,h,k=>U1 (c:=c) (t:=.node a key v q l t) h.2.2.2 ⟨h.1,h.2.1,h.2.2.1,k⟩
theorem CtIn.fr {S:Nat->Prop}{W W':World}(hf:Fr S W W'):∀{c:Cx} {p:Value},CtIn W c p->(∀b∈c.blks,¬S b)->(∀v∈c.vals,∀k,v.ownBlock=some k->¬S k)->CtIn W' c p
 | .top,p,h,_,_=>trivial
 | .left a key v q r c,p,h,hb,hv=>by
  refine⟨hf.blk h.1 (hb a (by simp[Cx.blks])),Qh h.2.1 hf (hv v (by simp[Cx.vals])),TrIn.fr hf h.2.2.1 (λb hb'=>hb b (by simp[Cx.blks,hb'])) (λv hv'=>hv v (by simp[Cx.vals,hv'])),CtIn.fr hf h.2.2.2 (λb hb'=>hb b (by simp[Cx.blks,hb'])) (λv hv'=>hv v (by simp[Cx.vals,hv']))⟩
 | .right a key v q l c,p,h,hb,hv=>by
  refine⟨hf.blk h.1 (hb a (by simp[Cx.blks])),Qh h.2.1 hf (hv v (by simp[Cx.vals])),TrIn.fr hf h.2.2.1 (λb hb'=>hb b (by simp[Cx.blks,hb'])) (λv hv'=>hv v (by simp[Cx.vals,hv'])),CtIn.fr hf h.2.2.2 (λb hb'=>hb b (by simp[Cx.blks,hb'])) (λv hv'=>hv v (by simp[Cx.vals,hv']))⟩
theorem CtIn.ne {W:World}{g:Nat}{cs:Array Value}{T:TypeId}(hg:W.heap[g]? = some (.cells cs T (0,0)))(hT:35≠T):∀{c:Cx} {p:Value},CtIn W c p->∀v∈c.vals,v.ownBlock≠some g
 | .top,_,_,v,hv=>(by cases hv)
 | .left a key v q r c,p,h,u,hu=>by
  simp only[Cx.vals,List.mem_append,List.mem_cons]at hu;rcases hu with rfl|hu|hu
  ·exact Qn h.2.1 hg hT
  ·exact TrIn.ne hg hT h.2.2.1 u hu
  ·exact CtIn.ne hg hT h.2.2.2 u hu
 | .right a key v q l c,p,h,u,hu=>by
  simp only[Cx.vals,List.mem_append,List.mem_cons]at hu;rcases hu with rfl|hu|hu
  ·exact Qn h.2.1 hg hT
  ·exact TrIn.ne hg hT h.2.2.1 u hu
  ·exact CtIn.ne hg hT h.2.2.2 u hu
def KX (nb:Nat):Cx->Addr
 | .top=>⟨nb,0,none⟩
 | .left a _ _ _ _ _=>⟨a,2,none⟩
 | .right a _ _ _ _ _=>⟨a,3,none⟩
theorem qha (nb:Nat)(c:Cx):∃b o,KX nb c=⟨b,o,none⟩:=by cases c<;>exact⟨_,_,rfl⟩
def Cx.ro:Cx->Prop
 | .top=>True
 | .left ..=>False
 | .right _ _ _ _ _ c=>c.ro
theorem TW:∀{c:Cx},c.ro->c.post=[]
 | .top,_=>rfl
 | .left ..,h=>h.elim
 | .right _ _ _ _ _ c,h=>TW (c:=c) h
theorem TX:∀{c:Cx},c.ro->∃A,∀t:Tr,(c.plug t).vals=A++t.vals
 | .top,_=>⟨[],λt=>rfl⟩
 | .left ..,h=>h.elim
 | .right a key v q l c,h=>by
  obtain⟨A,hA⟩:=TX (c:=c) h;exact⟨A++(l.vals++[v]),λt=>by simp[Cx.plug,hA,Tr.vals]⟩
theorem U2:∀(c:Cx) (a:Nat) (k k':Int) (v v':Value) (q q':List Int) (l l' r r':Tr),(c.plug (.node a k v q l r)).ptr=(c.plug (.node a k' v' q' l' r')).ptr
 | .top,_,_,_,_,_,_,_,_,_,_,_=>rfl
 | .left b key u p r0 c,_,_,_,_,_,_,_,_,_,_,_=>U2 c b _ _ _ _ _ _ _ _ _ _
 | .right b key u p l0 c,_,_,_,_,_,_,_,_,_,_,_=>U2 c b _ _ _ _ _ _ _ _ _ _
structure JoinIs (w w':World) (L R T:Tr):Prop where
 tr:TrIn w' T
 rows:T.rows=L.rows++R.rows
 vals:T.vals=L.vals++R.vals
 blks:T.blks.Perm (L.blks++R.blks)
 fr:Fr (λb=>b∈L.blks) w w'
structure JoI (L:Tr) (c:Cx) (t:Tr):Prop where
 eq:c.plug t=L
 ro:c.ro
theorem qhb {W:World}{nb:Nat}{L t:Tr}{c:Cx}(hI:JoI L c t)(hL:TrIn W L)(hb:Cl 154 W nb #[L.ptr]):W.cell? (KX nb c)=some t.ptr/\W.frozen? (KX nb c)=false:=by
 obtain⟨rfl,hr⟩:=hI
 cases c with
 | top=>exact⟨(hb.c 0).trans rfl,hb.f⟩
 | left=>exact hr.elim
 | right a key v q l c =>
  have h:=(Xh hL).1.1;exact⟨(h.c 3).trans rfl,h.f⟩
theorem qhc {w W W':World}{nb:Nat}{L R:Tr}{c:Cx}(hI:JoI L c .nil)(hL:TrIn w L)(hR:TrIn w R)(hd:(L.blks++R.blks).Nodup)(hn:nb=w.heap.size)(hW:W=w.alloc (.cells #[L.ptr] 154))(hW':W'=W.setCell (KX nb c) R.ptr) :
  JoinIs w W' L R (c.plug R)/\W'.cell? ⟨nb,0,none⟩=some (c.plug R).ptr:=by
 have f1:Fr (λ_=>False) w W:=hW ▸ (Fr.refl (λ_=>False) w).alloc _
 have hb:Cl 154 W nb #[L.ptr]:=by rw[hW,hn];exact Qe rfl
 have tI:TrIn W L:=TrIn.fr f1 hL (λ_ _ h=>h) (λ_ _ _ _ h=>h)
 have dP:TrIn W R:=TrIn.fr f1 hR (λ_ _ h=>h) (λ_ _ _ _ h=>h)
 obtain⟨rfl,hr⟩:=hI
 have hperm:=Jh c .nil
 have dY:=Jh c R
 obtain⟨A,hA⟩:=TX hr
 have hrows:(c.plug R).rows=(c.plug .nil).rows++R.rows:=by simp[Zp,TW hr,Tr.rows]
 have nN:(c.plug R).vals=(c.plug .nil).vals++R.vals:=by simp[hA,Tr.vals]
 have mS:(c.plug R).blks.Perm ((c.plug .nil).blks++R.blks):=by
  refine dY.trans (List.perm_append_comm.trans ?_);exact List.Perm.append_right _ hperm.symm
 cases c with
 | top =>
  have f2:Fr (λb=>b=nb) W W':=hW' ▸ (Fr.refl (λb=>b=nb) W).set (p:=⟨nb,0,none⟩) (.inl rfl) _;have hne:∀(v:Value),v.ownBlock≠some nb->∀k,v.ownBlock=some k->¬k=nb:=λv hv k hk e=>hv (by rw[hk,e]);refine⟨⟨TrIn.fr f2 dP (λb hb' e=>?_) (λv hv=>hne v (TrIn.ne hb Ox dP v hv)),hrows,nN,mS,?_⟩,?_⟩
  ·have:=TrIn.lt hR b hb';omega
  ·refine(f1.trans f2 (λb hb'=>.inr Oz)).mono (λ_ h=>h.elim)
  ·rw[hW'];exact(Cl.c (QK hb) 0).trans rfl
 | left=>exact hr.elim
 | right a key v q l c =>
  have hC:=(Xh tI).1;have hx:=hC.1;have hTa:a∈((Cx.right a key v q l c).plug .nil).blks:=hperm.mem_iff.2 (by simp[Cx.blks,Tr.blks]);have f2:Fr (λb=>b=a) W W':=hW' ▸ (Fr.refl (λb=>b=a) W).set (p:=⟨a,3,none⟩) (.inl rfl) _;have hne:∀(v:Value),v.ownBlock≠some a->∀k,v.ownBlock=some k->¬k=a:=λv hv k hk e=>hv (by rw[hk,e]);have hd1:(a :: (l.blks++c.blks)).Nodup:=hperm.nodup_iff.1 (List.nodup_append.1 hd).1;have hna:=(List.nodup_cons.1 hd1).1;have hnR:a ∉ R.blks:=λh=>(List.nodup_append.1 hd).2.2 a hTa a h rfl;have fr:Fr (λb=>b∈((Cx.right a key v q l c).plug .nil).blks) w W':=Fr.trans (f1.mono (λ_ h=>h.elim)) f2 (λb hb'=>.inl (by rw[hb'];exact hTa))
  have hnab:¬nb=a:=λe=>absurd (TrIn.lt hL a hTa) Oz;refine⟨⟨U1 (c:=.right a key v q l c) ⟨?_,Qh hC.2.1 f2 (hne v (Qn hC.2.1 hx Ox)),TrIn.fr f2 hC.2.2.1 (λb hb' e=>hna (by rw[<-e];exact Ws _ hb')) (λv hv=>hne v (TrIn.ne hx Ox hC.2.2.1 v hv)),CtIn.fr f2 hC.2.2.2 (λb hb' e=>hna (by rw[<-e];exact Wx _ hb')) (λv hv=>hne v (CtIn.ne hx Ox hC.2.2.2 v hv))⟩ (TrIn.fr f2 dP (λb hb' e=>hnR (by rw[<-e];exact hb')) (λv hv=>hne v (TrIn.ne hx Ox dP v hv))),hrows,nN,mS,fr⟩,?_⟩
  ·rw[hW'];exact(QK hx).trans rfl
  ·show W'.cell? ⟨nb,0,none⟩=some (c.plug (.node a key v q l R)).ptr;rw[U2 c a key key v v q q l l R .nil];exact(Cl.c (f2.blk hb hnab) 0).trans rfl
def JoJ (w W:World)(L:Tr)(pl pr:Option Addr)(n:Nat)(a:Act)(w':World):Prop :=
 ∃c t,t.size=n/\Hid (JoI L c t)/\W=w'/\∃u3 u6 u7 u8 u9 u10 u11 u12 u13 u14 u15 u16 u17 u18,a=⟨#[.pointer pl,.pointer pr,.pointer (some ⟨w.heap.size,0,none⟩),u3,.pointer none,.pointer (some (KX w.heap.size c)),u6,u7,u8,u9,u10,u11,u12,u13,u14,u15,u16,u17,u18],[]⟩
theorem qhd (L R:Tr)(w:World)(hL:TrIn w L)(hR:TrIn w R)(hd:(L.blks++R.blks).Nodup) :
  Calls prog 225 #[L.ptr,R.ptr] w λe w'=>∃T,e=.returned T.ptr/\Hid (JoinIs w w' L R T):=by
 obtain⟨W,hW⟩:∃W,W=w.alloc (.cells #[L.ptr] 154):=⟨_,rfl⟩
 have HJ:Hid (∀c,JoI L c .nil->JoinIs w (W.setCell (KX w.heap.size c) R.ptr) L R (c.plug R)/\(W.setCell (KX w.heap.size c) R.ptr).cell? ⟨w.heap.size,0,none⟩=some (c.plug R).ptr):=Ou (λc hI=>qhc hI hL hR hd rfl hW rfl)
 have HL:Hid (TrIn W L):=Ou (TrIn.fr (hW ▸ (Fr.refl (λ_=>False) w).alloc _) hL (λ_ _ h=>h) (λ_ _ _ _ h=>h))
 have HB:Hid (Cl 154 W w.heap.size #[L.ptr]):=Ou (hW ▸ Qe rfl)
 clear hL hR hd
 obtain⟨pl,hpl⟩:∃p,L.ptr=.pointer p:=by cases L<;>exact⟨_,rfl⟩
 obtain⟨pr,aH⟩:∃p,R.ptr=.pointer p:=by cases R<;>exact⟨_,rfl⟩
 rw[hpl]at HB hW
 rw[aH]at HJ
 rw[hpl,aH]
 go_enter func225,ntmps225
 go_wp2_with fail
 refine KW 0 (JoJ w W L pl pr) rfl ?_ ?_
 ·intro hp;go_wp2_with fail
  go_step3
  rename_i K hK
  refine hK _ _ (hp _ _ _ ⟨.top,L,rfl,Ou ⟨rfl,trivial⟩,hW,?_⟩);exact⟨_,_,_,_,_,_,_,_,_,_,_,_,_,_,rfl⟩
 ·clear hW;rintro n a w' ⟨c,t,rfl,HI,rfl,u3,u6,u7,u8,u9,u10,u11,u12,u13,u14,u15,u16,u17,u18,rfl⟩;have hm:=qhb HI.out HL.out (by rw[hpl];exact HB.out);obtain⟨b,o,eh⟩:=qha w.heap.size c
  cases t with
  | nil =>
   obtain⟨hj,hc⟩:=HJ.out c HI.out;have Hj:=Ou hj;clear hj;rw[eh]at hm hc Hj ⊢;have m1:W.cell? ⟨b,o,none⟩=some (.pointer none):=hm.1;have m2:=hm.2;clear hm HJ HL HB;have HE:Hid (∃T,Ending.returned (c.plug R).ptr=.returned T.ptr/\Hid (JoinIs w (W.setCell ⟨b,o,none⟩ (.pointer pr)) L R T)):=Ou ⟨_,rfl,Hj⟩;clear Hj;generalize (c.plug R).ptr=P at *;go_wp2_with fail
   show bodyPost prog Tryz.f225 (λe w'=>∃T,e=.returned T.ptr/\Hid (JoinIs w w' L R T)) Exit.ret _ _;go_ret;exact HE.out
  | node y k v q l r =>
   rw[eh]at hm ⊢;have m1:W.cell? ⟨b,o,none⟩=some (.pointer (some ⟨y,0,none⟩)):=hm.1;clear hm HJ HL HB;go_wp2_with fail
   go_step3;refine⟨rfl,r.size,?_,.right y k v q l c,r,rfl,Ou ⟨HI.out.eq,HI.out.ro⟩,rfl,_,_,_,_,_,_,_,_,_,_,_,_,_,_,rfl⟩;show r.size<l.size+r.size+1;omega
theorem qhe {W:World}{tb sb:Nat}{c:Cx}{p:Value}(h:CxIn W tb sb c p):∃cs T,W.heap[(c.hole tb).block]? = some (.cells cs T (0,0))/\35≠T:=by
 cases c with
 | top=>exact⟨_,_,h,by decide⟩
 | left=>exact⟨_,_,h.1,by decide⟩
 | right=>exact⟨_,_,h.1,by decide⟩
structure TDrop (w w':World) (tb sb:Nat) (s key:Int) (T T':Tr):Prop where
 cx:CxIn w' tb sb .top T'.ptr
 tr:TrIn w' T'
 srt:Srt s T'.rows
 nd:T'.blks.Nodup
 fr:Fr (λb=>b=tb∨b∈T.blks) w w'
 bl:∀b∈T'.blks,b∈T.blks
 rows:∃P R Q,T.rows=P++R++Q/\T'.rows=P++Q/\(R=[]∨∃q0,R=[(key,q0)])/\(∀x∈P,Qf s x.1 key=true)/\(∀x∈Q,Qf s key x.1=true)
 vals:∃A B C,T.vals=A++B++C/\T'.vals=A++C/\(B=[]∨∃u,B=[u])
theorem qhf {s:Int}{P R Q:List Rq}(h:Srt s (P++R++Q)):Srt s (P++Q):=by
 unfold Srt at h ⊢
 rw[St,Aw]at h
 obtain⟨h1,h2,h3⟩:=h
 rw[Aw]at h2
 rw[Aw]
 exact⟨h1,h2.2.1,λa ha b hb=>h3 a ha b (Wx _ hb)⟩
theorem qhg {w:World}{tb sb:Nat}{s key:Int}{T:Tr}{c:Cx}(n:Nat)(hI:SpI w tb sb s key T c .nil)(hnd:T.blks.Nodup):TDrop w (w.drewN n) tb sb s key T T:=by
 have hT:=Ka hI.cx hI.tr
 have hsrt:=hI.at_.srt
 obtain⟨A,C,hv⟩:=JY c
 have hrows:∃P R Q,T.rows=P++R++Q/\T.rows=P++Q/\(R=[]∨∃q0,R=[(key,q0)])/\(∀x∈P,Qf s x.1 key=true)/\(∀x∈Q,Qf s key x.1=true) :=
  ⟨c.pre,[],c.post,by rw[<-hI.eq,Zp];simp[Tr.rows],by rw[<-hI.eq,Zp];simp[Tr.rows],.inl rfl,hI.at_.pre,hI.at_.post⟩
 have f:Fr (λb=>b=tb∨b∈T.blks) w (w.drewN n):=(Fr.refl _ w).drewN n
 have f0:Fr (λ_=>False) w (w.drewN n):=(Fr.refl _ w).drewN n
 rw[hI.eq]at hT hsrt
 exact⟨CxIn.fr f0 (λh=>h) hT.1 (λ_ _ h=>h) (λ_ _ _ _ h=>h),TrIn.fr f0 hT.2 (λ_ _ h=>h) (λ_ _ _ _ h=>h),hsrt,hnd,f,λ_ h=>h,hrows,T.vals,[],[],by simp,by simp,.inl rfl⟩
theorem TY {w X w1:World}{tb sb:Nat}{s key:Int}{T:Tr}{c:Cx}{x:Nat}{k:Int}{u:Value}{qq:List Int}{l r J:Tr}(hI:SpI w tb sb s key T c (.node x k u qq l r))(hnd:T.blks.Nodup)(hX:Fr (λ_=>False) w X)(hj:JoinIs X w1 l r J) :
  CxIn w1 tb sb c (.pointer (some ⟨x,0,none⟩))/\Cl 278 w1 x #[.int .i64 k,u,l.ptr,r.ptr]/\Fr (λb=>b∈l.blks) w w1/\(l.blks++r.blks).Nodup/\x ∉ c.blks/\x≠tb/\(∀b,(b=tb∨b∈c.blks)->b ∉ l.blks/\b ∉ r.blks):=by
 have hperm:=Jh c (.node x k u qq l r)
 rw[hI.eq]at hperm
 have hd:=hperm.nodup_iff.1 hnd
 have hd1:(l.blks++x :: r.blks).Nodup:=(List.nodup_append.1 hd).1
 have hd2:=(List.nodup_append.1 hd).2.2
 have hd3:=List.nodup_append.1 hd1
 obtain⟨pt,ht⟩:=CxIn.tree hI.cx
 have hx:=hI.tr.1
 have hoff:∀b∈l.blks++x :: r.blks,b≠tb:=λb hb e=>by
  have hm:b∈(Tr.node x k u qq l r).blks:=hb;obtain⟨cs,h⟩:=TrIn.at_ hI.tr b hm;exact Zr h ht Ox e
 have fr:Fr (λb=>b∈l.blks) w w1:=Fr.trans (hX.mono (λ_ h=>h.elim)) hj.fr (λb hb=>.inl hb)
 have hxl:x ∉ l.blks:=λh=>hd3.2.2 x h x Oy rfl
 have hlc:∀b∈c.blks,b ∉ l.blks:=λb hb h=>hd2 b (by simp[Tr.blks,h]) b hb rfl
 have hrc:∀b∈c.blks,b ∉ r.blks:=λb hb h=>hd2 b (by simp[Tr.blks,h]) b hb rfl
 refine⟨CxIn.fr fr (λh=>hoff tb (by simp[h]) rfl) hI.cx hlc (λv hv k hk h=>?_),fr.blk hx hxl,fr,?_,λh=>hd2 x (by simp[Tr.blks]) x h rfl,hoff x Oy,λb hb=>?_⟩
 ·obtain⟨cs,hc⟩:=TrIn.at_ hI.tr.2.2.1 k h;exact CxIn.ne hc Ox hI.cx v hv hk
 ·rw[List.nodup_append];exact⟨hd3.1,(List.nodup_cons.1 hd3.2.1).2,λa ha b hb=>hd3.2.2 a ha b (by simp[hb])⟩
 ·rcases hb with rfl|hb
  ·exact⟨λh=>hoff b (by simp[h]) rfl,λh=>hoff b (by simp[h]) rfl⟩
  ·exact⟨hlc b hb,hrc b hb⟩
theorem qhh {w X w1:World}{tb sb:Nat}{s key:Int}{T:Tr}{c:Cx}{x:Nat}{k:Int}{u:Value}{qq:List Int}{l r J:Tr}(hI:SpI w tb sb s key T c (.node x k u qq l r))(hk:k=key)(hnd:T.blks.Nodup)(hX:Fr (λ_=>False) w X)(hj:JoinIs X w1 l r J) :
  TDrop w (w1.setCell (c.hole tb) J.ptr) tb sb s key T (c.plug J):=by
 obtain⟨hc1,hx1,fr1,hlr,hxc,fK,hoff⟩:=TY hI hnd hX hj
 have hperm:=Jh c (.node x k u qq l r)
 rw[hI.eq]at hperm
 have dY:=Jh c J
 have hd:=hperm.nodup_iff.1 hnd
 have xH:=(List.nodup_append.1 hd).2.1
 have hc2:=CxIn.set hc1 xH J.ptr
 obtain⟨cs,Tt,hcl,hT⟩:=qhe hc1
 have f2:Fr (λb=>b=(c.hole tb).block) w1 (w1.setCell (c.hole tb) J.ptr):=(Fr.refl (λb=>b=(c.hole tb).block) w1).set (p:=c.hole tb) (.inl rfl) _
 have hJl:∀b∈J.blks,b∈l.blks∨b∈r.blks:=λb hb=>List.mem_append.1 (hj.blks.mem_iff.1 hb)
 have hJ2:TrIn (w1.setCell (c.hole tb) J.ptr) J:=by
  refine TrIn.fr f2 hj.tr (λb hb e=>?_) (λv hv k hk e=>TrIn.ne hcl hT hj.tr v hv (by rw[hk,e]));have h:=hoff _ (Xg tb c);rw[<-e]at h;rcases hJl b hb with h1|h1
  ·exact h.1 h1
  ·exact h.2 h1
 obtain⟨A,C,hv⟩:=JY c
 have hp:=Ka hc2 hJ2
 have hs:=hI.at_.srt
 rw[hI.eq]at hs
 have hrows:∃P R Q,T.rows=P++R++Q/\(c.plug J).rows=P++Q/\(R=[]∨∃q0,R=[(key,q0)])/\(∀x∈P,Qf s x.1 key=true)/\(∀x∈Q,Qf s key x.1=true):=by
  subst hk;have hs':=hs;rw[<-hI.eq,Zp]at hs';unfold Srt at hs';simp only[Tr.rows,St,List.cons_append]at hs';rw[Aw]at hs';have h2:=hs'.2.1;rw[Aw]at h2;refine⟨c.pre++l.rows,[(k,qq)],r.rows++c.post,by rw[<-hI.eq,Zp];simp[Tr.rows],by rw[Zp,hj.rows];simp,.inr ⟨qq,rfl⟩,λx hx=>?_,λx hx=>?_⟩
  ·rcases List.mem_append.1 hx with hx|hx
   ·exact hI.at_.pre x hx
   ·exact h2.2.2 x hx (k,qq) Oy
  ·exact(List.pairwise_cons.1 h2.2.1).1 x hx
 refine⟨hp.1,hp.2,?_,?_,?_,?_,hrows,A++l.vals,[u],r.vals++C,by rw[<-hI.eq,hv];simp[Tr.vals],by rw[hv,hj.vals];simp,.inr ⟨u,rfl⟩⟩
 ·obtain⟨P,R,Q,e1,e2,_⟩:=hrows;rw[e2];exact qhf (by rw[<-e1];exact hs)
 ·refine dY.nodup_iff.2 ?_;rw[List.nodup_append];refine⟨hj.blks.nodup_iff.2 hlr,xH,λa ha b hb e=>?_⟩;subst e;rcases hJl a ha with h1|h1
  ·exact(hoff a (.inr hb)).1 h1
  ·exact(hoff a (.inr hb)).2 h1
 ·refine Fr.trans (S:=λb=>b=tb∨b∈T.blks) (fr1.mono (λb hb=>.inl (.inr (hperm.mem_iff.2 (by simp[Tr.blks,hb]))))) f2 (λb hb=>.inl ?_);subst hb;rcases Xg tb c with h|h
  ·exact .inl h
  ·exact .inr (hperm.mem_iff.2 (Wx _ h))
 ·intro b hb;rcases List.mem_append.1 (dY.mem_iff.1 hb) with h|h
  ·rcases hJl b h with h|h<;>exact hperm.mem_iff.2 (by simp[Tr.blks,h])
  ·exact hperm.mem_iff.2 (Wx _ h)
theorem qhi (tb sb:Nat)(s key:Int)(T:Tr)(w:World)(hs:s=1∨s=2)(hb:Cl 3 w sb #[.int .i64 s])(hc:CxIn w tb sb .top T.ptr)(ht:TrIn w T)(hS:Srt s T.rows)(hnd:T.blks.Nodup) :
  Calls prog 217 #[.pointer (some ⟨tb,0,none⟩),.int .i64 key] w λe w'=>e=.returned (.tuple #[])/\∃T',Hid (TDrop w w' tb sb s key T T'):=by
 have HS:=Ou (UZ tb sb s key T w (λ_=>hs) hb hc ht hS)
 have HT:=Ou hnd
 clear hs hb hc ht hS hnd
 go_enter func217,ntmps217
 go_wp2_with fail
 ((with_reducible refine HS.out.mono ?_);rintro e w1 ⟨c,t,rfl,h,n,rfl⟩)
 obtain⟨b,o,eh⟩:=Xd tb c
 have h1:=J9 h.out.1.cx
 rw[eh]at h1 ⊢
 cases t with
 | nil =>
  have c1:(w.drewN n).cell? ⟨b,o,none⟩=some (.pointer none):=h1.1;clear h1 HS;go_wp2_with fail
  go_end0;exact⟨rfl,T,Ou (qhg n h.out.1 HT.out)⟩
 | node x k u qq l r =>
  have c1:(w.drewN n).cell? ⟨b,o,none⟩=some (.pointer (some ⟨x,0,none⟩)):=h1.1;clear h1 HS;have hX:Fr (λ_=>False) w (w.drewN n).drew:=((Fr.refl _ w).drewN n).drew;have HX:=Ou hX;have HM:Hid (∀w1 J,JoinIs (w.drewN n).drew w1 l r J->CxIn w1 tb sb c (.pointer (some ⟨x,0,none⟩))/\Cl 278 w1 x #[.int .i64 k,u,l.ptr,r.ptr]/\Fr (λb=>b∈l.blks) w w1/\(l.blks++r.blks).Nodup/\x ∉ c.blks/\x≠tb/\(∀b,(b=tb∨b∈c.blks)->b ∉ l.blks/\b ∉ r.blks)):=Ou (λw1 J hj=>TY h.out.1 HT.out hX hj);have HD:Hid (∀w1 J,JoinIs (w.drewN n).drew w1 l r J->TDrop w (w1.setCell ⟨b,o,none⟩ J.ptr) tb sb s key T (c.plug J)):=Ou (λw1 J hj=>by rw[<-eh];exact qhh h.out.1 h.out.2 HT.out hX hj)
  have HJ:Hid (Calls prog 225 #[l.ptr,r.ptr] (w.drewN n).drew λe w'=>∃T,e=.returned T.ptr/\Hid (JoinIs (w.drewN n).drew w' l r T)):=Ou (qhd l r _ (TrIn.fr hX h.out.1.tr.2.2.1 (λ_ _ h=>h) (λ_ _ _ _ h=>h)) (TrIn.fr hX h.out.1.tr.2.2.2 (λ_ _ h=>h) (λ_ _ _ _ h=>h)) (by
   have hperm:=Jh c (.node x k u qq l r);rw[h.out.1.eq]at hperm;have hd1:(l.blks++x :: r.blks).Nodup:=(List.nodup_append.1 (hperm.nodup_iff.1 HT.out)).1;have hd3:=List.nodup_append.1 hd1;rw[List.nodup_append]
   exact⟨hd3.1,(List.nodup_cons.1 hd3.2.1).2,λa ha b hb=>hd3.2.2 a ha b (by simp[hb])⟩))
  have HC:Cl 278 (w.drewN n).drew x #[.int .i64 k,u,l.ptr,r.ptr]:=hX.blk h.out.1.tr.1 (λh=>h);obtain⟨pl,hpl⟩:∃p,l.ptr=.pointer p:=by cases l<;>exact⟨_,rfl⟩
  obtain⟨pr,aH⟩:∃p,r.ptr=.pointer p:=by cases r<;>exact⟨_,rfl⟩
  rw[hpl,aH]at HC HM HJ;have HB:Hid (b=tb∨b∈c.blks):=Ou (by have:=Xg tb c;rw[eh]at this;exact this);go_wp2_with fail
  refine wp_region_held_drew (S:=λW=>Cl 278 W x #[.int .i64 k,u,.pointer pl,.pointer pr]) Ow (by exact HC) (λhHeld=>?_);refine tkA 0 ?_;refine tkA 1 ?_;refine tkA 2 ?_;refine tkA 3 ?_;refine tkH 4 ?_ ?_ Ov ?_;rotate_left
  ·(intro w hSw;have m1:w.cell? ⟨x,2,none⟩=some (.pointer pl):=(Cl.c hSw 2).trans rfl;(try dsimp only at hSw);go_simp;try with_reducible rfl)
  (try simp only[zz]);refine tkA 5 ?_;refine tkA 6 ?_;refine tkA 7 ?_;refine tkH 8 ?_ ?_ Ov ?_;rotate_left
  ·(intro w hSw;have m1:w.cell? ⟨x,3,none⟩=some (.pointer pr):=(Cl.c hSw 3).trans rfl;(try dsimp only at hSw);go_simp;try with_reducible rfl)
  (try simp only[zz]);refine rdH 9 (λK hK=>?_);go_simp;refine HJ.out.mono ?_;rintro e w1 ⟨J,rfl,hj⟩;have qH:=Ou (HD.out w1 J hj.out);obtain⟨g1,g2,-,-,g3,g4,-⟩:=HM.out w1 J hj.out;have e1:=J9 g1;rw[eh]at e1;obtain⟨e1,e2⟩:=e1;obtain⟨pj,hpj⟩:∃p,J.ptr=.pointer p:=by cases J<;>exact⟨_,rfl⟩
  rw[hpj]at qH ⊢;refine hK.out _ _ (by exact g2) (λhHeld=>?_);clear hK K;(try simp only[zz]);refine tkA 10 ?_;(try simp only[zz]);refine rdH 11 (λK hK=>?_);go_simp;(try go_wp2_with fail);refine hK.out _ _ (by exact(QJ (a:=⟨b,o,none⟩) (λe=>by rcases HB.out with h|h<;>first|exact g4 (e.symm.trans h)|exact g4 (e.trans h)|exact g3 (e ▸ h))).trans g2) (λhHeld=>?_);clear hK K;(try simp only[zz]);refine wpAnyH_done Ow ?_ _;go_wp2_with fail
  go_end0;exact⟨rfl,_,qH⟩
structure Sg where
 tb:Nat
 sb:Nat
 t:Tr
structure SgIn (w:World) (s:Int) (g:Sg):Prop where
 box:Cl 3 w g.sb #[.int .i64 s]
 cx:CxIn w g.tb g.sb .top g.t.ptr
 tr:TrIn w g.t
 srt:Srt s g.t.rows
 nd:g.t.blks.Nodup
theorem SgIn.fr {S:Nat->Prop}{w w':World}{s:Int}{g:Sg}(h:SgIn w s g)(hf:Fr S w w')(h1:¬S g.sb)(h2:¬S g.tb)(h3:∀b∈g.t.blks,¬S b)(h4:∀v∈g.t.vals,∀k,v.ownBlock=some k->¬S k):SgIn w' s g :=
 ⟨hf.blk h.box h1,hf.blk h.cx h2,TrIn.fr hf h.tr h3 h4,h.srt,h.nd⟩
theorem SgIn.below {w w':World}{s:Int}{g:Sg}(h:SgIn w s g)(hf:Ok w w'):SgIn w' s g :=
 h.fr (S:=λ_=>False) (Fr.of_below hf) (λh=>h) (λh=>h) (λ_ _ h=>h) (λ_ _ _ _ h=>h)
theorem U3 (s:Int)(w:World):Calls prog 72 #[.int .i64 s] w λe w'=>e=.returned (.pointer (some ⟨w.heap.size+1,0,none⟩))/\Hid (SgIn w' s ⟨w.heap.size+1,w.heap.size,.nil⟩/\Ok w w'/\w'.heap.size=w.heap.size+2):=by
 go_enter func72,ntmps72
 go_wp2_with fail
 go_ret
 refine⟨rfl,Ou ⟨⟨?_,?_,trivial,List.Pairwise.nil,List.nodup_nil⟩,((Oq _ _).alloc (Sq _) _).alloc Oy _,by simp⟩⟩
 ·exact Qp Oy (Qe rfl)
 ·exact Qe Oy
def Z8 (g1 g2:Sg):DataW Value:=.map [(.int .i64 1,.held (.pointer (some ⟨g1.tb,0,none⟩))),(.int .i64 2,.held (.pointer (some ⟨g2.tb,0,none⟩)))]
def Kb (g1 g2:Sg)(side:Int):Value:=if side=1 then .pointer (some ⟨g1.tb,0,none⟩) else if side=2 then .pointer (some ⟨g2.tb,0,none⟩) else .pointer none
theorem qhj (w:World):(zeroValue 134).run prog w=.ok (.pointer none) w:=by kernel_rfl
theorem qhk (g1 g2:Sg)(side:Int):(Z8 g1 g2).atKey (.int .i64 side) (.held (.pointer none))=.held (Kb g1 g2 side):=by
 unfold Kb
 by_cases e1:side=1
 ·subst e1;simp[Z8,DataW.atKey,Lit.sameKey]
 ·by_cases e2:side=2
  ·subst e2;simp[Z8,DataW.atKey,Lit.sameKey]
  ·have wW:¬(1:Int)=side:=λh=>e1 h.symm;have e2':¬(2:Int)=side:=λh=>e2 h.symm;simp[Z8,DataW.atKey,Lit.sameKey,e1,e2,wW,e2']
theorem qhl {w:World}{m:Nat}{g1 g2:Sg}(h:w.ownsMap prog 3 RV m 2 (Z8 g1 g2))(side:Int)(hs:(Lit.int .i64 side).wf=true) :
  (Instr.lookup 136 (.map (some m)) (.int .i64 side) false).run prog w=.ok (Kb g1 g2 side) w:=by
 have hat:=qhk g1 g2 side
 obtain⟨es,clock,hb,F,_,hD⟩:=h
 rw[hD]at hat
 rcases Maps.fit_look false Vg underlying136 (qhj w) hb F (keyOf_int_mk underlying3 hs) with ⟨hrun,_,hz⟩ | ⟨e0,y,_,_,hrun,hR,hz,_⟩
 ·rw[hz]at hat;replace hat:=DataW.held.inj hat;simp only[Bool.false_eq_true,if_false]at hrun;exact hrun.trans (congrArg (λv=>Result.ok v w) hat)
 ·rw[hz]at hat;unfold RV at hR;replace hR:=Option.some.inj hR;rw[<-hR]at hat;replace hat:=DataW.held.inj hat;simp only[Bool.false_eq_true,if_false]at hrun;exact hrun.trans (congrArg (λv=>Result.ok v w) hat)
structure Gk (w:World) (b:Option Addr) (mm:Option (Nat×Nat)) (L:DataW Value) (g1 g2:Sg):Prop where
 shape:(b=none/\mm=none)∨∃p,b=some ⟨p,0,none⟩/\Cl 138 w p #[.map (mm.map Prod.fst),.map (mm.map Prod.snd)]
 om:∀m ms,mm=some (m,ms)->w.ownsMap prog 35 RV m 64 L
 sm:∀m ms,mm=some (m,ms)->w.ownsMap prog 3 RV ms 2 (Z8 g1 g2)
 s1:mm.isSome=true->SgIn w 1 g1
 s2:mm.isSome=true->SgIn w 2 g2
theorem qhm (m:Option Nat)(w:World):(binOp .neq 133 (.map m) (.map none)).run prog w=.ok (.bool m.isSome) w:=by
 cases m<;>kernel_rfl
theorem Kc (b:Option Addr)(mm:Option (Nat×Nat))(L:DataW Value)(g1 g2:Sg)(w:World)(H:Gk w b mm L g1 g2) :
  Calls prog 208 #[.pointer b] w λe w'=>e=.returned (.bool mm.isSome)/\w=w':=by
 rcases H.shape with ⟨rfl,rfl⟩ | ⟨p,rfl,hp⟩
 ·clear H;go_enter func208,ntmps208;go_wp2_with fail
  go_ret;exact⟨rfl,rfl⟩
 ·have c0:w.cell? ⟨p,0,none⟩=some (.map (mm.map Prod.fst)):=(hp.c 0).trans rfl;have hn:=qhm (mm.map Prod.fst) w;have he:(mm.map Prod.fst).isSome=mm.isSome:=by cases mm<;>rfl
  rw[he]at hn;generalize mm.map Prod.fst=m at *;generalize mm.isSome=bb at *;clear H hp;go_enter func208,ntmps208;go_wp2_with fail
  go_ret;exact⟨rfl,rfl⟩
inductive SideIs (w w':World) (mm:Option (Nat×Nat)) (g1 g2:Sg) (side:Int):Sg->Prop where
 | own1:mm.isSome=true->side=1->w=w'->SideIs w w' mm g1 g2 side g1
 | own2:mm.isSome=true->side=2->w=w'->SideIs w w' mm g1 g2 side g2
 | new:(mm.isSome=false∨(side≠1/\side≠2))->Ok w w'->SgIn w' side ⟨w.heap.size+1,w.heap.size,.nil⟩->SideIs w w' mm g1 g2 side ⟨w.heap.size+1,w.heap.size,.nil⟩
theorem qhn (g1 g2:Sg)(side:Int)(h:side≠1/\side≠2):Kb g1 g2 side=.pointer none:=by
 unfold Kb
 rw[Sw h.1,Sw h.2]
theorem V4 (b:Option Addr)(mm:Option (Nat×Nat))(L:DataW Value)(g1 g2:Sg)(side:Int)(w:World)(hs:(Lit.int .i64 side).wf=true)(H:Gk w b mm L g1 g2) :
  Calls prog 210 #[.pointer b,.int .i64 side] w λe w'=>∃g,e=.returned (.pointer (some ⟨g.tb,0,none⟩))/\Hid (SideIs w w' mm g1 g2 side g):=by
 have HM:=Ou (Kc b mm L g1 g2 w H)
 have HP:=Ou (U3 side w)
 cases mm with
 | none =>
  have HR:Hid (∀w',(SgIn w' side ⟨w.heap.size+1,w.heap.size,.nil⟩/\Ok w w'/\w'.heap.size=w.heap.size+2)->SideIs w w' none g1 g2 side ⟨w.heap.size+1,w.heap.size,.nil⟩):=Ou (λw' h=>.new (.inl rfl) h.2.1 h.1);clear H;go_enter func210,ntmps210;go_wp2_with (first|((with_reducible refine(HM.out).mono ?_);rintro e w' ⟨rfl,rfl⟩)|((with_reducible refine(HP.out).mono ?_);rintro e w' ⟨rfl,k⟩))
  go_ret;exact⟨_,rfl,Ou (HR.out _ k.out)⟩
 | some mm =>
  obtain⟨m,ms⟩:=mm;have hl:=qhl (H.sm m ms rfl) side hs;rcases H.shape with ⟨_,h0⟩ | ⟨p,rfl,hp⟩
  ·cases h0
  have c1:w.cell? ⟨p,1,none⟩=some (.map (some ms)):=(hp.c 1).trans rfl;clear H hp;by_cases e1:side=1
  ·have HR:Hid (SideIs w w (some (m,ms)) g1 g2 side g1):=Ou (.own1 rfl e1 rfl);have he:Kb g1 g2 side=.pointer (some ⟨g1.tb,0,none⟩):=by unfold Kb;rw[Sx e1]
   rw[he]at hl;clear HP he e1;go_enter func210,ntmps210;go_wp2_with (((with_reducible refine(HM.out).mono ?_);rintro e w' ⟨rfl,rfl⟩))
   go_ret;exact⟨_,rfl,HR⟩
  ·by_cases e2:side=2
   ·have HR:Hid (SideIs w w (some (m,ms)) g1 g2 side g2):=Ou (.own2 rfl e2 rfl);have he:Kb g1 g2 side=.pointer (some ⟨g2.tb,0,none⟩):=by unfold Kb;rw[Sw e1,Sx e2]
    rw[he]at hl;clear HP he e1 e2;go_enter func210,ntmps210;go_wp2_with (((with_reducible refine(HM.out).mono ?_);rintro e w' ⟨rfl,rfl⟩))
    go_ret;exact⟨_,rfl,HR⟩
   ·have HR:Hid (∀w',(SgIn w' side ⟨w.heap.size+1,w.heap.size,.nil⟩/\Ok w w'/\w'.heap.size=w.heap.size+2)->SideIs w w' (some (m,ms)) g1 g2 side ⟨w.heap.size+1,w.heap.size,.nil⟩):=Ou (λw' h=>.new (.inr ⟨e1,e2⟩) h.2.1 h.1);rw[qhn g1 g2 side ⟨e1,e2⟩]at hl;go_enter func210,ntmps210;go_wp2_with (first|((with_reducible refine(HM.out).mono ?_);rintro e w' ⟨rfl,rfl⟩)|((with_reducible refine(HP.out).mono ?_);rintro e w' ⟨rfl,k⟩))
    go_ret;exact⟨_,rfl,Ou (HR.out _ k.out)⟩
theorem qho (b:Option Addr)(w:World) :
  Calls prog 212 #[.pointer b,.slice none 0 0,.slice none 0 0] w λe w'=>e=.returned (.slice none 0 0)/\w=w':=by
 go_enter func212,ntmps212
 go_wp2_with fail
 go_loopw [1,11] (λv s wr=>v=.slice none 0 0/\s=.int .i64 0/\w=wr) (λ_ _ _=>0)
 case atStart=>exact⟨rfl,rfl,rfl⟩
 case round =>
  obtain⟨rfl,rfl,rfl⟩:=hrel;go_wp2_with fail
  go_ret;exact⟨rfl,rfl⟩
theorem qhp {w:World}{tb sb:Nat}{s key:Int}{c:Cx}{t:Tr}(h:SpI w tb sb s key .nil c t):t=.nil:=by
 cases t with
 | nil=>rfl
 | node a k v q l r=>exact absurd h.eq (Xe _ _ _ _ _ _ _)
end
section
open Go.RowKit Go.Sort Go.Lib Go.Shelf
theorem TZ:(prog.info? 35).map (λi=>(i.zero,i.size,i.bytes))=some (some (.int .u64 0),1,8):=by kernel_rfl
theorem Xi:(prog.info? 35).map (·.size)=some 1:=by kernel_rfl
theorem qhq (w:World):(sizeOf 35).run prog w=.ok 1 w:=by kernel_rfl
theorem qhr (w:World)(g vb a b c d n m:Nat)(hne:vb≠g)(cs ys:Array Value)(hg:w.heap[g]? = some (.cells cs 35 (0,0)))(hv:w.heap[vb]? = some (.cells ys 35 (0,0)))(h0:0<cs.size) :
  (callFunc 226 #[.slice (some ⟨vb,a,none⟩) n c,.slice (some ⟨g,b,none⟩) m d]).run prog w=.ok (.value (.bool false)) w:=by
 rw[run_callFunc_extern func226 Ow Ow Ow (e:=Extern.SlicesOverlaps.overlaps #[124,124] #[4]) Ow,
  Lib.run_overlaps_apart w 124 4 35 underlying124 1 qhq ⟨vb,a,none⟩ ⟨g,b,none⟩ n c m d hne 35 35 ys.size cs.size (by unfold World.shape?;rw[hv]) (by unfold World.shape?;rw[hg]) Oz (frozen_of_row _ _ _ _ _ hv) (frozen_of_row _ _ _ _ _ hv)]
 rfl
theorem qhs (w:World)(g n c i vb:Nat)(cur ys:List Value)(hg:w.heap[g]? = some (.cells cur.toArray 35 (0,0)))(hl:cur.length=c*1)(hc:n+1<=c)(hi:i<n)(hcm:c<=maxLen)(hvb:vb≠g)(hv:w.heap[vb]? = some (.cells ys.toArray 35 (0,0)))(hy:ys.length=1)(h1:∀v∈cur.take (n*1),v.oneCell'=true)(h2:∀v∈ys,v.oneCell'=true) :
  Calls prog 220 #[.slice (some ⟨g,0,none⟩) n c,.int .i64 i,.slice (some ⟨vb,0,none⟩) 1 1] w λe w'=>e=.returned (.slice (some ⟨g,0,none⟩) (n+1) c)/\Hid (ZN w g 35 (Zo cur ys n i 1) w'):=by
 have mixed:prog.follows .mixedOrders=true:=by kernel_rfl
 have lH:c<=9223372036854775807:=by unfold maxLen at hcm;omega
 have hov:=λW (h:W.heap[g]? = some (.cells cur.toArray 35 (0,0))) (h':W.heap[vb]? = some (.cells ys.toArray 35 (0,0))) b n c m d=>qhr W g vb 0 b c d n m hvb cur.toArray ys.toArray h h' (by simp;omega)
 have hov:=hov w hg hv
 have q1:¬((i:Int)=(n:Int)):=by omega
 have q2:¬((c:Int)<(n:Int)+1):=by omega
 have q3:(0:Int)<=(i:Int)+1:=by omega
 have q4:¬(c=i+1):=by omega
 have q5:¬(c=i):=by omega
 have q6:(i:Int)<=(n:Int):=by omega
 have q7:(n:Int)+1<=(c:Int):=by omega
 have q8:IntKind.i64.wrap ((i:Int)+1)=(i:Int)+1:=by rw[Wz];omega
 have q9:IntKind.i64.wrap ((n:Int)+1)=(n:Int)+1:=by rw[Wz];omega
 have lT:((i:Int)+1).toNat=i+1:=by omega
 have rI:((n:Int)+1).toNat=n+1:=by omega
 have qB:(i:Int)<=(n:Int)+1:=by omega
 have vV:(i:Int)+1<=(n:Int)+1:=by omega
 have vW:(c:Int)<=9223372036854775807:=by omega
 have hik:(i+1)*1=i*1+1:=by omega
 have hni:(n-i)*1=n*1-i*1:=by omega
 have pV:(n+1)*1<=c*1:=by omega
 obtain⟨X,eX⟩:∃X,X=(cur.drop (i*1)).take ((n-i)*1):=⟨_,rfl⟩
 have lX:X.length=(n-i)*1:=by rw[eX,Wy,Az];omega
 obtain⟨A1,e1⟩:∃A1,A1=(cur.take ((i+1)*1)++X++cur.drop ((i+1)*1+X.length)):=⟨_,rfl⟩
 have l1:A1.length=c*1:=by rw[e1];simp only[Su,Wy,Az,lX];omega
 have e2:A1.take (i*1)++ys++A1.drop (i*1+ys.length)=Zo cur ys n i 1:=by rw[e1,eX];exact UI Oz hc hl hy
 have C1:Hid (∀ty dl dc sl sc,Nat.min sl dl=n-i->(Builtin.copy_ #[124,124] ty #[.slice (some ⟨g,i+1,none⟩) dl dc,.slice (some ⟨g,i,none⟩) sl sc]).run prog w.drew=.ok (goInt ((n-i:Nat):Int)) (w.drew.setRow g A1.toArray)):=Ou (λty dl dc sl sc hm=>by
  have:=Jt w.drew 124 124 ty 35 1 g ((i+1)*1) dl dc ⟨g,i*1,none⟩ sl sc cur.toArray 35 X underlying124 Xi (Qk hg) (n-i) hm lX (λj v hj=>by
   rw[QN,cell_of_row _ _ _ _ _ _ (Qk hg)];rw[eX,List.getElem?_take]at hj
   split at hj
   ·rw[List.getElem?_drop]at hj;rw[List.getElem?_toArray];exact hj
   ·cases hj) (by rw[lX];simp only[Wu];omega) (λv hv=>h1 v (by rw[eX,hni,<-List.drop_take]at hv;exact List.mem_of_mem_drop hv))
  rw[e1];simp only[Nat.mul_one]at this ⊢
  exact this)
 have G1:(w.drew.setRow g A1.toArray).heap[g]? = some (.cells A1.toArray 35 (0,0)):=setRow_heap _ _ _ _ _ _ (Qk hg)
 have C2:Hid (∀ty dl dc sc,Nat.min 1 dl=1->(Builtin.copy_ #[124,124] ty #[.slice (some ⟨g,i,none⟩) dl dc,.slice (some ⟨vb,0,none⟩) 1 sc]).run prog (w.drew.setRow g A1.toArray)=.ok (goInt 1) ((w.drew.setRow g A1.toArray).setRow g (Zo cur ys n i 1).toArray)):=Ou (λty dl dc sc hm=>by
  have:=Jt (w.drew.setRow g A1.toArray) 124 124 ty 35 1 g (i*1) dl dc ⟨vb,0,none⟩ 1 sc A1.toArray 35 ys underlying124 Xi G1 1 hm Oz (λj v hj=>by
   rw[QN,Nat.zero_add,cell_of_row _ _ _ _ _ _ ((setRow_other _ _ _ _ hvb).trans (Qk hv)),List.getElem?_toArray];exact hj) (by simp only[Wu];omega) h2
  rw[<-e2];simp only[Nat.mul_one]at this ⊢
  exact this)
 have F:Hid (ZN w g 35 (Zo cur ys n i 1) ((w.drew.setRow g A1.toArray).setRow g (Zo cur ys n i 1).toArray)):=JX (JX (VT hg) (JW (Qk hg))) (JW G1)
 clear eX lX e1 l1 e2 G1 hik hni pV
 have HX:=Ou (Sv hl (Sv hc (Sv hi (Sv hy (Sv h1 h2)))))
 clear hg hv hl hc hy h1 h2 hcm
 go_enter func220,ntmps220
 go_wp2_with (simp only[hov])
 refine wp_region_held_drew (S:=λ_=>True) Ow trivial (λhHeld=>?_)
 clear hHeld
 refine tkA 0 ?_
 refine tkA 1 ?_
 refine tkA 2 ?_
 refine tkA 3 ?_
 refine tkA 4 ?_
 refine tkA 5 ?_
 refine tkA 6 ?_
 refine tkA 7 ?_
 (try simp only[zz])
 refine rdH 8 (λK hK=>?_)
 refine step_copy_runI rfl _ _ 124 124 rfl _ _ rfl rfl (C1.out _ _ _ _ _ (by simp only[Nat.min_def];split<;>omega)) ?_
 refine hK.out _ _ trivial (λhHeld=>?_)
 clear hK K hHeld
 (try simp only[zz])
 refine wpAnyH_done Ow ?_ _
 clear C1
 go_wp2_with fail
 rw[C2.out _ _ _ _ (by simp only[Nat.min_def];split<;>omega)]
 go_wp2_with fail
 go_ret
 exact⟨rfl,F.out⟩
theorem qht (w:World)(g n i vb:Nat)(xs ys:List Value)(hg:w.heap[g]? = some (.cells xs.toArray 35 (0,0)))(hl:xs.length=n*1)(hn:n<=1000)(hi:i<n)(hv:w.heap[vb]? = some (.cells ys.toArray 35 (0,0)))(hy:ys.length=1)(h1:∀v∈xs,v.oneCell'=true)(h2:∀v∈ys,v.oneCell'=true) :
  Calls prog 220 #[.slice (some ⟨g,0,none⟩) n n,.int .i64 i,.slice (some ⟨vb,0,none⟩) 1 1] w λe w'=>∃v',e=.returned v'/\Hid (w'.ownsRow w.heap.size 35 1 v' (n+1) (xs.take (i*1)++ys++xs.drop (i*1))/\Ok w w'/\v'.ownBlock=some w.heap.size):=by
 have mixed:prog.follows .mixedOrders=true:=by kernel_rfl
 obtain⟨i0,hi0,hz0,hz1,hz2⟩:=info_parts TZ
 have hgl:=Qc hg
 have hvl:=Qc hv
 have q0:(n:Int)<(n:Int)+1:=by omega
 have q1:¬((i:Int)=(n:Int)):=by omega
 have q3:(0:Int)<=(i:Int)+1:=by omega
 have q5:¬(n=i):=by omega
 have q6:(i:Int)<=(n:Int):=by omega
 have q8:IntKind.i64.wrap ((i:Int)+1)=(i:Int)+1:=by rw[Wz];omega
 have q9:IntKind.i64.wrap ((n:Int)+1)=(n:Int)+1:=by rw[Wz];omega
 have lT:((i:Int)+1).toNat=i+1:=by omega
 have qB:(i:Int)<=(n:Int)+1:=by omega
 have vV:(i:Int)+1<=(n:Int)+1:=by omega
 have vW:(n:Int)<=9223372036854775807:=by omega
 have xX:IntKind.i64.wrap ((n:Int)+1-(i:Int))=((n+1-i:Nat):Int):=by rw[Wz];omega
 have hik:(i+1)*1=i*1+1:=by omega
 have fK:(xs.take (i*1)).length=i*1:=by rw[Wy];omega
 have hold:(Builtin.firstCells i0.size i (.slice (some ⟨g,0,none⟩) i n)).run prog w.drew=.ok (xs.take (i*1)).toArray w.drew:=by
  rw[hz1]
  exact run_firstCells_some w.drew 1 i ⟨g,0,none⟩ i n (xs.take (i*1)) fK (λj v hj=>by
   rw[QN,Nat.zero_add,cell_of_row _ _ _ _ _ _ (Qk hg),List.getElem?_toArray];rw[List.getElem?_take]at hj
   split at hj
   ·exact hj
   ·cases hj)
 have hin:i+(n+1-i)=n+1:=by omega
 have i5:∀ty,(Builtin.append_ #[124,3] ty #[.slice (some ⟨g,0,none⟩) i n,.int .i64 ((n+1-i:Nat):Int)]).run prog w=.ok (.slice (some ⟨w.heap.size,0,none⟩) (n+1) (grownCap w (n+1) n 35)) (w.drew.alloc (.cells ((xs.take (i*1)).toArray++Builtin.zeroCells ((.int .u64 0):Value).cells (n+1-i)++Builtin.zeroCells ((.int .u64 0):Value).cells (grownCap w (n+1) n 35-(n+1))) 35)):=λty=>by
  have h:=Lib.run_append_grow_zeros w 124 3 ty 35 i0 _ .i64 .i64 underlying124 underlying3 hi0 hz0 (some ⟨g,0,none⟩) i n (xs.take (i*1)) hold (n+1-i) Oz Oz Oz Oz (by rw[hz2];omega) (by rw[hz2,hin];exact growslice_fits Oz Oz);rw[hin]at h;exact h
 obtain⟨G,hG⟩:∃G,G=grownCap w (n+1) n 35:=⟨_,rfl⟩
 have jF:n+1<=G:=by rw[hG];exact grownCap_ge w _ _ _
 have jE:G<=maxLen:=by rw[hG];exact grownCap_le_maxLen w (n+1) n 35 (by unfold maxLen;omega)
 have tH:(G:Int)<=9223372036854775807:=by unfold maxLen at jE;omega
 rw[<-hG]at i5
 obtain⟨R,hR⟩:∃R:List Value,R.toArray=(xs.take (i*1)).toArray++Builtin.zeroCells ((.int .u64 0):Value).cells (n+1-i)++Builtin.zeroCells ((.int .u64 0):Value).cells (G-(n+1)):=⟨_,Array.toArray_toList⟩
 rw[<-hR]at i5
 have lR:R.length=G*1:=by
  have:=congrArg Array.size hR;simp only[Wu,Array.size_append,fK]at this;simp[Builtin.zeroCells,Value.cells]at this;omega
 have tR:R.take (i*1)=xs.take (i*1):=by
  have:=congrArg Array.toList hR;rw[Array.toList_append,Array.toList_append]at this;rw[show R=R.toArray.toList from rfl,this,St,List.take_append_of_le_length (by show _<=(xs.take (i*1)).length;omega)];exact List.take_of_length_le (by show (xs.take (i*1)).length<=_;omega)
 obtain⟨R1,e1⟩:∃R1,R1=R.take (i*1)++ys++R.drop (i*1+ys.length):=⟨_,rfl⟩
 obtain⟨R2,e2⟩:∃R2,R2=R1.take ((i+1)*1)++xs.drop (i*1)++R1.drop ((i+1)*1+(xs.drop (i*1)).length):=⟨_,rfl⟩
 obtain⟨l1,l2,t2⟩:=UK tR lR jF hl hy Oz e1 e2
 have HW:Hid (∀W,W=(w.alloc (.cells R.toArray 35)).drew->W.heap[w.heap.size]? = some (.cells R.toArray 35 (0,0))/\W.heap[vb]? = some (.cells ys.toArray 35 (0,0))/\W.heap[g]? = some (.cells xs.toArray 35 (0,0))/\Ok w W):=Ou (λW hW=>by
  rw[hW]
  exact⟨Qk (Qe rfl),Qk (Qp hvl hv),Qk (Qp hgl hg),((Oq _ _).alloc (Sq _) _).drew⟩)
 have ldx:(xs.drop (i*1)).length=(n-i)*1:=by rw[Az,hl];omega
 have C1:Hid (∀W,W.heap[w.heap.size]? = some (.cells R.toArray 35 (0,0))->W.heap[vb]? = some (.cells ys.toArray 35 (0,0))->∀ty dl dc sc,Nat.min 1 dl=1->(Builtin.copy_ #[124,124] ty #[.slice (some ⟨w.heap.size,i,none⟩) dl dc,.slice (some ⟨vb,0,none⟩) 1 sc]).run prog W=.ok (goInt 1) (W.setRow w.heap.size R1.toArray)):=Ou (λW k1 k2 ty dl dc sc hm=>by
  have:=Jt W 124 124 ty 35 1 w.heap.size (i*1) dl dc ⟨vb,0,none⟩ 1 sc R.toArray 35 ys underlying124 Xi k1 1 hm Oz (λj v hj=>by
   rw[QN,Nat.zero_add,cell_of_row _ _ _ _ _ _ k2,List.getElem?_toArray];exact hj) (by simp only[Wu];omega) h2
  rw[e1];simp only[Nat.mul_one]at this ⊢
  exact this)
 have C2:Hid (∀W,W.heap[w.heap.size]? = some (.cells R1.toArray 35 (0,0))->W.heap[g]? = some (.cells xs.toArray 35 (0,0))->∀ty dl dc sl sc,Nat.min sl dl=n-i->(Builtin.copy_ #[124,124] ty #[.slice (some ⟨w.heap.size,i+1,none⟩) dl dc,.slice (some ⟨g,i,none⟩) sl sc]).run prog W=.ok (goInt ((n-i:Nat):Int)) (W.setRow w.heap.size R2.toArray)):=Ou (λW k1 k2 ty dl dc sl sc hm=>by
  have:=Jt W 124 124 ty 35 1 w.heap.size ((i+1)*1) dl dc ⟨g,i*1,none⟩ sl sc R1.toArray 35 (xs.drop (i*1)) underlying124 Xi k1 (n-i) hm ldx (λj v hj=>by
   rw[QN,cell_of_row _ _ _ _ _ _ k2,List.getElem?_toArray];rw[List.getElem?_drop]at hj
   exact hj) (by simp only[Wu];omega) (λv hv=>h1 v (List.mem_of_mem_drop hv))
  rw[e2];simp only[Nat.mul_one]at this ⊢
  exact this)
 have HE:=Ou (Sv l2 (Sv t2 (Sv jF jE)))
 have HX:=Ou (Sv hgl hy)
 have mJ:=Ou (show (xs.take (i*1)++ys++xs.drop (i*1)).length=(n+1)*1 by simp only[Su,fK,hy,ldx];omega)
 have xY:¬(G=i):=by omega
 have xZ:¬(G=i+1):=by omega
 clear e1 e2 l1 l2 t2 tR lR hR hG hold hin hg hv hl hy hz0 hz1 hz2 hi0 jF jE ldx fK h1 h2 hik
 go_enter func220,ntmps220
 go_wp2_with (at_builtin;refine Lib.wpList_append_run _ rfl _ _ _ _ rfl _ _ rfl rfl _ _ (i5 _) ?_)
 clear i5
 generalize hW1:World.drew (w.alloc (.cells R.toArray 35))=W1
 obtain⟨k1,k2,k3,k4⟩:=HW.out W1 hW1.symm
 have K:=Ou (Sv k1 (Sv k2 (Sv k3 k4)))
 clear hW1 HW k1 k2 k3 k4
 rw[C1.out W1 K.out.1 K.out.2.1 _ _ _ _ (by simp only[Nat.min_def];split<;>omega)]
 go_wp2_with fail
 refine wp_region_held_drew (S:=λ_=>True) Ow trivial (λhHeld=>?_)
 clear hHeld
 refine tkA 0 ?_
 refine tkA 1 ?_
 refine tkA 2 ?_
 refine tkA 3 ?_
 refine tkA 4 ?_
 refine tkA 5 ?_
 refine tkA 6 ?_
 refine tkA 7 ?_
 (try simp only[zz])
 have G1:(W1.setRow w.heap.size R1.toArray).drew.heap[w.heap.size]? = some (.cells R1.toArray 35 (0,0)):=Qk (setRow_heap _ _ _ _ _ _ K.out.1)
 have G2:(W1.setRow w.heap.size R1.toArray).drew.heap[g]? = some (.cells xs.toArray 35 (0,0)):=Qk ((setRow_other _ _ _ _ (by have:=HX.out.1;omega)).trans K.out.2.2.1)
 refine rdH 8 (λK hK=>?_)
 refine step_copy_runI rfl _ _ 124 124 rfl _ _ rfl rfl (C2.out _ G1 G2 _ _ _ _ _ (by simp only[Nat.min_def];split<;>omega)) ?_
 refine hK.out _ _ trivial (λhHeld=>?_)
 clear hK K hHeld
 (try simp only[zz])
 refine wpAnyH_done Ow ?_ _
 have F:Hid (((W1.setRow w.heap.size R1.toArray).drew.setRow w.heap.size R2.toArray).ownsRow w.heap.size 35 1 (.slice (some ⟨w.heap.size,0,none⟩) (n+1) G) (n+1) (xs.take (i*1)++ys++xs.drop (i*1))/\Ok w ((W1.setRow w.heap.size R1.toArray).drew.setRow w.heap.size R2.toArray)):=by
  refine⟨⟨mJ.out,.inr ⟨w.heap.size,G,R2.toArray,rfl,Sq _,setRow_heap _ _ _ _ _ _ G1,HE.out.2.2.1,HE.out.2.2.2,by rw[Wu];exact HE.out.1,HE.out.2.1⟩⟩,?_⟩;exact below_setRow ((below_setRow K.out.2.2.2 (Sq _) _).drew) (Sq _) _
 clear G1 G2 C1 C2 K HE mJ HX
 go_wp2_with fail
 go_ret
 exact⟨_,rfl,F.out.1,F.out.2,rfl⟩
end
section
open Go.RowKit Go.Shelf Go.Sort Go.Maps Go.Lib
attribute [local go_sem] Oper.semAt_some
theorem qhu {F:Fence}(hd:F.depth=none)(k:Nat):F.room k:=λd h=>by rw[hd]at h;cases h
theorem qhv {F:Fence}(hd:F.depth=none){m:Nat}(m':Nat){P:Program}{l:Nat}{args:Array Value}{W:World}{R:Ending->World->Prop}(h:YieldAt F m P l args W R):YieldAt F m' P l args W R:=by
 obtain⟨fn,tmps,assign,body,hy,hR⟩:=h
 exact⟨fn,tmps,assign,body,hy,hR.1,λc cs _=>hR.2 c cs (qhu hd _)⟩
theorem qhw (ll:Nat)(S:Nat->Prop)(N:Nat)(I:Int×Value->Prop)(J Jx:List (Int×Value)->World->Prop)
  (oQ:∀pre W,J pre W->J pre W.drew) (hY:∀m pre x W,J pre W->pre.length<N->I x->YieldAt Fence.wide m prog ll #[.int .i64 x.1,x.2] W λe W' =>
   (e=.returned (.bool true)/\J (pre++[x]) W'/\Fr S W W')∨(e=.returned (.bool false)/\Jx (pre++[x]) W')) (T:Tr) :
  ∀(n:Nat) (pre:List (Int×Value)) (W:World),TrIn W T->(∀b∈T.blks,¬S b)->(∀v∈T.vals,∀k,v.ownBlock=some k->¬S k)->(∀x∈T.items,I x)->J pre W->pre.length+T.items.length<=N ->
   CallsIn Fence.wide n prog 222 #[T.ptr,.func (.yield ll) #[] #[]] W λe W' =>
    (e=.returned (.bool true)/\J (pre++T.items) W'/\Fr S W W')∨(e=.returned (.bool false)/\∃q,q <+: T.items/\Jx (pre++q) W'):=by
 have mixed:prog.follows .mixedOrders=true:=by kernel_rfl
 induction T with
 | nil =>
  intro n pre W ht _ _ _ hJ _;show CallsIn Fence.wide n prog 222 #[.pointer none,.func (.yield ll) #[] #[]] W _;refine callsIn_of_wp func222 rfl trivial ?_ rfl;simp only[ntmps222,Wu,Wq,List.length_nil,Nat.reduceAdd,Nat.reduceSub,Array.replicate_succ,Array.replicate_zero,List.push_toArray,List.append_toArray,List.nil_append,List.cons_append];clear hY;have HE:Hid (J (pre++Tr.nil.items) W.drew):=Ou (by rw[show pre++Tr.nil.items=pre from List.append_nil pre];exact oQ _ _ hJ);clear oQ hJ
  gi_wp2_with fail
  refine wpIn_region_any mixed ?_;(try (change wpAnyIn _ _ _ _ _ _ _ _ _ (World.drew _)));refine tkI 0 ?_ ?_ ?_;rotate_left
  ·(intro w;go_simp;try with_reducible rfl)
  (try simp only[zz]);refine tkI 1 ?_ ?_ ?_;rotate_left
  ·(intro w;go_simp;try with_reducible rfl)
  (try simp only[zz]);refine tkI 2 ?_ ?_ ?_;rotate_left
  ·(intro w;go_simp;try with_reducible rfl)
  (try simp only[zz]);refine tkU 3 ?_;(try simp only[zz]);refine tkU 4 ?_;(try simp only[zz]);refine tkU 5 ?_;(try simp only[zz]);refine tkU 6 ?_;(try simp only[zz]);refine tkU 7 ?_;(try simp only[zz]);refine wpAnyIn_ready (rs:=[8]) Ow Oy ?_;refine AllReadyIn.cons (o:=⟨some 13,_,_,_,_,_⟩) rfl (λK hK=>?_) AllReadyIn.nil;go_simp;refine⟨trivial,?_⟩;refine hK _ _ ?_;clear hK K;(try simp only[zz]);refine tkU 9 ?_;(try simp only[zz]);refine tkU 10 ?_;(try simp only[zz]);refine tkU 11 ?_;(try simp only[zz]);refine tkU 12 ?_;(try simp only[zz]);refine tkU 13 ?_;(try simp only[zz]);refine tkU 14 ?_;(try simp only[zz])
  refine tkU 15 ?_;(try simp only[zz]);refine tkU 16 ?_;(try simp only[zz]);refine tkU 17 ?_;(try simp only[zz]);refine tkU 18 ?_;(try simp only[zz]);refine wpAnyIn_ready (rs:=[19]) Ow Oy ?_;refine AllReadyIn.cons (o:=⟨some 24,_,_,_,_,_⟩) rfl (λK hK=>?_) AllReadyIn.nil;go_simp;(try refine⟨λ_ h=>(by cases h),?_⟩);refine hK _ _ ?_;clear hK K;(try simp only[zz]);refine tkU 20 ?_;(try simp only[zz]);refine tkU 21 ?_;(try simp only[zz]);refine tkU 22 ?_;(try simp only[zz]);refine tkU 23 ?_;(try simp only[zz]);refine tkU 24 ?_;(try simp only[zz]);refine tkU 25 ?_;(try simp only[zz]);refine tkU 26 ?_
  (try simp only[zz]);refine wpAnyIn_ready (rs:=[27]) Ow Oy ?_;refine AllReadyIn.cons (o:=⟨some 32,_,_,_,_,_⟩) rfl (λK hK=>?_) AllReadyIn.nil;go_simp;refine⟨trivial,?_⟩;refine hK _ _ ?_;clear hK K;(try simp only[zz]);refine tkU 28 ?_;(try simp only[zz]);refine tkI 29 ?_ ?_ ?_;rotate_left
  ·(intro w;go_simp;try with_reducible rfl)
  (try simp only[zz]);refine tkI 30 ?_ ?_ ?_;rotate_left
  ·(intro w;go_simp;try with_reducible rfl)
  (try simp only[zz]);refine wpAnyIn_done Ow ?_ _
  gi_wp2_with fail
  go_ret;exact .inl ⟨rfl,HE.out,(Fr.refl S W).drew⟩
 | node a k v q l r ihl ihr =>
  intro n pre W ht hb hv x9 hJ hN;have pP:(Tr.node a k v q l r).items=l.items++(k,v) :: r.items:=rfl;rw[pP]at hN ⊢;simp only[Su,Wq]at hN;have f0:Fr S W W.drew:=(Fr.refl S W).drew;have ht0:TrIn W.drew (.node a k v q l r):=TrIn.fr f0 ht hb hv;have hbl:∀b∈l.blks,¬S b:=λb h=>hb b (by simp[Tr.blks,h]);have hbr:∀b∈r.blks,¬S b:=λb h=>hb b (by simp[Tr.blks,h]);have hvl:∀u∈l.vals,∀k,u.ownBlock=some k->¬S k:=λu h=>hv u (by simp[Tr.vals,h]);have hvr:∀u∈r.vals,∀k,u.ownBlock=some k->¬S k:=λu h=>hv u (by simp[Tr.vals,h]);have HL:=Ou (ihl (n-1) pre W.drew ht0.2.2.1 hbl hvl (λx hx=>x9 x (by unfold Tr.items;exact Ws _ hx)) (oQ _ _ hJ) Oz)
  have HC:Hid (∀W1,Fr S W.drew W1->W1.cell? ⟨a,0,none⟩=some (.int .i64 k)/\W1.cell? ⟨a,1,none⟩=some v/\W1.cell? ⟨a,3,none⟩=some r.ptr/\TrIn W1 r):=Ou (λW1 hf=>by
   have h:=TrIn.fr hf ht0 hb hv
   exact⟨(h.1.c 0).trans rfl,(h.1.c 1).trans rfl,(h.1.c 3).trans rfl,h.2.2.2⟩)
  have HR:Hid (∀W1,TrIn W1 r->J (pre++l.items++[(k,v)]) W1->CallsIn Fence.wide (n-1) prog 222 #[r.ptr,.func (.yield ll) #[] #[]] W1 λe W' =>
    (e=.returned (.bool true)/\J (pre++l.items++[(k,v)]++r.items) W'/\Fr S W1 W')∨(e=.returned (.bool false)/\∃q,q <+: r.items/\Jx (pre++l.items++[(k,v)]++q) W')):=Ou (λW1 h1 h2=>ihr (n-1) _ W1 h1 hbr hvr (λx hx=>x9 x (by unfold Tr.items;exact Wx _ (List.mem_cons_of_mem _ hx))) h2 (by simp;omega))
  have HY:Hid (∀W1,J (pre++l.items) W1->YieldAt Fence.wide (n-1) prog ll #[.int .i64 k,v] W1 λe W' =>
   (e=.returned (.bool true)/\J (pre++l.items++[(k,v)]) W'/\Fr S W1 W')∨(e=.returned (.bool false)/\Jx (pre++l.items++[(k,v)]) W')):=Ou (λW1 h=>hY (n-1) _ (k,v) W1 h (by simp;omega) (x9 (k,v) (by unfold Tr.items;simp)))
  have c2:W.drew.cell? ⟨a,2,none⟩=some l.ptr:=(ht0.1.c 2).trans rfl;obtain⟨pl,hpl⟩:∃p,l.ptr=.pointer p:=by cases l<;>exact⟨_,rfl⟩
  obtain⟨pr,aH⟩:∃p,r.ptr=.pointer p:=by cases r<;>exact⟨_,rfl⟩
  obtain⟨va,vc,rfl,_⟩:=ZO ht.2.1;rw[hpl]at c2 HL;rw[aH]at HC HR;clear ihl ihr hY x9 ht hb hv hJ hN ht0 hbl hbr hvl hvr oQ f0;show CallsIn Fence.wide n prog 222 #[.pointer (some ⟨a,0,none⟩),.func (.yield ll) #[] #[]] W _;refine callsIn_of_wp func222 rfl trivial ?_ rfl;simp only[ntmps222,Wu,Wq,List.length_nil,Nat.reduceAdd,Nat.reduceSub,Array.replicate_succ,Array.replicate_zero,List.push_toArray,List.append_toArray,List.nil_append,List.cons_append]
  gi_wp2_with fail
  refine wpIn_region_any mixed ?_;(try (change wpAnyIn _ _ _ _ _ _ _ _ _ (World.drew _)));refine tkI 0 ?_ ?_ ?_;rotate_left
  ·(intro w;go_simp;try with_reducible rfl)
  (try simp only[zz]);refine tkI 1 ?_ ?_ ?_;rotate_left
  ·(intro w;go_simp;try with_reducible rfl)
  (try simp only[zz]);refine tkI 2 ?_ ?_ ?_;rotate_left
  ·(intro w;go_simp;try with_reducible rfl)
  (try simp only[zz]);refine tkI 3 ?_ ?_ ?_;rotate_left
  ·(intro w;go_simp;try with_reducible rfl)
  (try simp only[zz]);refine tkI 4 ?_ ?_ ?_;rotate_left
  ·(intro w;go_simp;try with_reducible rfl)
  (try simp only[zz]);refine tkI 5 ?_ ?_ ?_;rotate_left
  ·(intro w;go_simp;try with_reducible rfl)
  (try simp only[zz]);refine tkI 7 ?_ ?_ ?_;rotate_left
  ·(intro w;go_simp;try with_reducible rfl)
  (try simp only[zz]);refine wpAnyIn_ready (rs:=[6]) Ow Oy ?_;refine AllReadyIn.cons (o:=⟨some 11,_,_,_,_,_⟩) rfl (λK hK=>?_) AllReadyIn.nil;go_simp;(try go_simp);refine hK _ _ ?_;clear hK K;(try simp only[zz]);refine wpAnyIn_ready (rs:=[8]) Ow Oy ?_;refine AllReadyIn.cons (o:=⟨some 13,_,_,_,_,_⟩) rfl (λK hK=>?_) AllReadyIn.nil;go_simp;refine⟨trivial,λh=>(by cases h),?_⟩;refine HL.out.mono ?_;rintro e W1 (⟨rfl,xA,mN⟩ | ⟨rfl,q2,hq,hx⟩)
  ·refine hK _ _ ?_;clear hK K;(try simp only[zz]);obtain⟨c0,c1,c3,htr⟩:=HC.out W1 mN;have HY1:=Ou (HY.out W1 xA);clear HL HY xA;refine tkI 9 ?_ ?_ ?_;rotate_left
   ·(intro w;go_simp;try with_reducible rfl)
   (try simp only[zz]);refine tkI 10 ?_ ?_ ?_;rotate_left
   ·(intro w;go_simp;try with_reducible rfl)
   (try simp only[zz]);refine tkI 11 ?_ ?_ ?_;rotate_left
   ·(intro w;go_simp;try with_reducible rfl)
   (try simp only[zz]);refine tkI 12 ?_ ?_ ?_;rotate_left
   ·(intro w;go_simp;try with_reducible rfl)
   (try simp only[zz]);refine tkI 13 ?_ ?_ ?_;rotate_left
   ·(intro w;go_simp;try with_reducible rfl)
   (try simp only[zz]);refine tkI 15 ?_ ?_ ?_;rotate_left
   ·(intro w;go_simp;try with_reducible rfl)
   (try simp only[zz]);refine tkI 16 ?_ ?_ ?_;rotate_left
   ·(intro w;go_simp;try with_reducible rfl)
   (try simp only[zz]);refine tkI 17 ?_ ?_ ?_;rotate_left
   ·(intro w;go_simp;try with_reducible rfl)
   (try simp only[zz]);refine wpAnyIn_ready (rs:=[14,18]) Ow Oy ?_;refine AllReadyIn.cons (o:=⟨some 19,_,_,_,_,_⟩) rfl (λK hK=>?_) (AllReadyIn.cons (o:=⟨some 23,_,_,_,_,_⟩) rfl (λK hK=>?_) AllReadyIn.nil)
   ·go_simp;refine hK _ _ ?_;clear hK K;(try simp only[zz]);refine wpAnyIn_ready (rs:=[18]) Ow Oy ?_;refine AllReadyIn.cons (o:=⟨some 23,_,_,_,_,_⟩) rfl (λK hK=>?_) AllReadyIn.nil;go_simp;(try go_simp);refine hK _ _ ?_;clear hK K;(try simp only[zz]);obtain⟨fn,tmps,assign,body,hy,hRo⟩:=HY1.out;refine wpAnyIn_ready (rs:=[19]) Ow Oy ?_;refine AllReadyIn.cons (o:=⟨some 24,_,_,_,_,_⟩) rfl (λK hK=>?_) AllReadyIn.nil;go_simp;(try refine⟨λh=>(by cases h),?_⟩);refine hRo.mono ?_;rintro e W2 (⟨rfl,hJ2,hF2⟩ | ⟨rfl,hx⟩)
    ·refine hK _ _ ?_;clear hK K;(try simp only[zz]);obtain⟨-,-,e3,pZ⟩:=HC.out W2 (mN.t hF2);have bU:=Ou (HR.out W2 pZ hJ2);clear HR HC hJ2;refine tkI 20 ?_ ?_ ?_;rotate_left
     ·(intro w;go_simp;try with_reducible rfl)
     (try simp only[zz]);refine tkI 21 ?_ ?_ ?_;rotate_left
     ·(intro w;go_simp;try with_reducible rfl)
     (try simp only[zz]);refine tkI 22 ?_ ?_ ?_;rotate_left
     ·(intro w;go_simp;try with_reducible rfl)
     (try simp only[zz]);refine tkI 23 ?_ ?_ ?_;rotate_left
     ·(intro w;go_simp;try with_reducible rfl)
     (try simp only[zz]);refine tkI 24 ?_ ?_ ?_;rotate_left
     ·(intro w;go_simp;try with_reducible rfl)
     (try simp only[zz]);refine tkI 26 ?_ ?_ ?_;rotate_left
     ·(intro w;go_simp;try with_reducible rfl)
     (try simp only[zz]);refine wpAnyIn_ready (rs:=[25]) Ow Oy ?_;refine AllReadyIn.cons (o:=⟨some 30,_,_,_,_,_⟩) rfl (λK hK=>?_) AllReadyIn.nil;go_simp;(try go_simp);refine hK _ _ ?_;clear hK K;(try simp only[zz]);refine wpAnyIn_ready (rs:=[27]) Ow Oy ?_;refine AllReadyIn.cons (o:=⟨some 32,_,_,_,_,_⟩) rfl (λK hK=>?_) AllReadyIn.nil;go_simp;refine⟨trivial,λh=>(by cases h),?_⟩;refine bU.out.mono ?_;rintro e W3 (⟨rfl,hJ3,zX⟩ | ⟨rfl,q2,hq,hx⟩)
     ·refine hK _ _ ?_;clear hK K;(try simp only[zz]);refine tkI 28 ?_ ?_ ?_;rotate_left
      ·(intro w;go_simp;try with_reducible rfl)
      (try simp only[zz]);refine tkI 29 ?_ ?_ ?_;rotate_left
      ·(intro w;go_simp;try with_reducible rfl)
      (try simp only[zz]);refine tkI 30 ?_ ?_ ?_;rotate_left
      ·(intro w;go_simp;try with_reducible rfl)
      (try simp only[zz]);refine wpAnyIn_done Ow ?_ _
      gi_wp2_with fail
      go_ret;exact .inl ⟨rfl,by simpa [St] using hJ3,((Fr.refl S W).drew.t mN).t (hF2.t zX)⟩
     ·refine hK _ _ ?_;clear hK K;(try simp only[zz]);refine tkI 28 ?_ ?_ ?_;rotate_left
      ·(intro w;go_simp;try with_reducible rfl)
      (try simp only[zz]);refine tkI 29 ?_ ?_ ?_;rotate_left
      ·(intro w;go_simp;try with_reducible rfl)
      (try simp only[zz]);refine tkI 30 ?_ ?_ ?_;rotate_left
      ·(intro w;go_simp;try with_reducible rfl)
      (try simp only[zz]);refine wpAnyIn_done Ow ?_ _
      gi_wp2_with fail
      go_ret;obtain⟨z,hz⟩:=hq;exact .inr ⟨rfl,l.items++(k,Value.slice va q.length vc) :: q2,⟨z,by simp[<-hz]⟩,by simpa [St] using hx⟩
    ·refine hK _ _ ?_;clear hK K;(try simp only[zz]);refine tkI 20 ?_ ?_ ?_;rotate_left
     ·(intro w;go_simp;try with_reducible rfl)
     (try simp only[zz]);refine tkI 21 ?_ ?_ ?_;rotate_left
     ·(intro w;go_simp;try with_reducible rfl)
     (try simp only[zz]);refine tkU 22 ?_;(try simp only[zz]);refine tkU 23 ?_;(try simp only[zz]);refine tkU 24 ?_;(try simp only[zz]);refine tkU 25 ?_;(try simp only[zz]);refine tkU 26 ?_;(try simp only[zz]);refine wpAnyIn_ready (rs:=[27]) Ow Oy ?_;refine AllReadyIn.cons (o:=⟨some 32,_,_,_,_,_⟩) rfl (λK hK=>?_) AllReadyIn.nil;go_simp;refine⟨trivial,?_⟩;refine hK _ _ ?_;clear hK K;(try simp only[zz]);refine tkI 28 ?_ ?_ ?_;rotate_left
     ·(intro w;go_simp;try with_reducible rfl)
     (try simp only[zz]);refine tkI 29 ?_ ?_ ?_;rotate_left
     ·(intro w;go_simp;try with_reducible rfl)
     (try simp only[zz]);refine tkI 30 ?_ ?_ ?_;rotate_left
     ·(intro w;go_simp;try with_reducible rfl)
     (try simp only[zz]);refine wpAnyIn_done Ow ?_ _
     gi_wp2_with fail
     go_ret;exact .inr ⟨rfl,l.items++[(k,Value.slice va q.length vc)],⟨r.items,by simp⟩,by simpa [St] using hx⟩
   ·go_simp;refine hK _ _ ?_;clear hK K;(try simp only[zz]);refine wpAnyIn_ready (rs:=[14]) Ow Oy ?_;refine AllReadyIn.cons (o:=⟨some 19,_,_,_,_,_⟩) rfl (λK hK=>?_) AllReadyIn.nil;go_simp;(try go_simp);refine hK _ _ ?_;clear hK K;(try simp only[zz]);obtain⟨fn,tmps,assign,body,hy,hRo⟩:=HY1.out;refine wpAnyIn_ready (rs:=[19]) Ow Oy ?_;refine AllReadyIn.cons (o:=⟨some 24,_,_,_,_,_⟩) rfl (λK hK=>?_) AllReadyIn.nil;go_simp;(try refine⟨λh=>(by cases h),?_⟩);refine hRo.mono ?_;rintro e W2 (⟨rfl,hJ2,hF2⟩ | ⟨rfl,hx⟩)
    ·refine hK _ _ ?_;clear hK K;(try simp only[zz]);obtain⟨-,-,e3,pZ⟩:=HC.out W2 (mN.t hF2);have bU:=Ou (HR.out W2 pZ hJ2);clear HR HC hJ2;refine tkI 20 ?_ ?_ ?_;rotate_left
     ·(intro w;go_simp;try with_reducible rfl)
     (try simp only[zz]);refine tkI 21 ?_ ?_ ?_;rotate_left
     ·(intro w;go_simp;try with_reducible rfl)
     (try simp only[zz]);refine tkI 22 ?_ ?_ ?_;rotate_left
     ·(intro w;go_simp;try with_reducible rfl)
     (try simp only[zz]);refine tkI 23 ?_ ?_ ?_;rotate_left
     ·(intro w;go_simp;try with_reducible rfl)
     (try simp only[zz]);refine tkI 24 ?_ ?_ ?_;rotate_left
     ·(intro w;go_simp;try with_reducible rfl)
     (try simp only[zz]);refine tkI 26 ?_ ?_ ?_;rotate_left
     ·(intro w;go_simp;try with_reducible rfl)
     (try simp only[zz]);refine wpAnyIn_ready (rs:=[25]) Ow Oy ?_;refine AllReadyIn.cons (o:=⟨some 30,_,_,_,_,_⟩) rfl (λK hK=>?_) AllReadyIn.nil;go_simp;(try go_simp);refine hK _ _ ?_;clear hK K;(try simp only[zz]);refine wpAnyIn_ready (rs:=[27]) Ow Oy ?_;refine AllReadyIn.cons (o:=⟨some 32,_,_,_,_,_⟩) rfl (λK hK=>?_) AllReadyIn.nil;go_simp;refine⟨trivial,λh=>(by cases h),?_⟩;refine bU.out.mono ?_;rintro e W3 (⟨rfl,hJ3,zX⟩ | ⟨rfl,q2,hq,hx⟩)
     ·refine hK _ _ ?_;clear hK K;(try simp only[zz]);refine tkI 28 ?_ ?_ ?_;rotate_left
      ·(intro w;go_simp;try with_reducible rfl)
      (try simp only[zz]);refine tkI 29 ?_ ?_ ?_;rotate_left
      ·(intro w;go_simp;try with_reducible rfl)
      (try simp only[zz]);refine tkI 30 ?_ ?_ ?_;rotate_left
      ·(intro w;go_simp;try with_reducible rfl)
      (try simp only[zz]);refine wpAnyIn_done Ow ?_ _
      gi_wp2_with fail
      go_ret;exact .inl ⟨rfl,by simpa [St] using hJ3,((Fr.refl S W).drew.t mN).t (hF2.t zX)⟩
     ·refine hK _ _ ?_;clear hK K;(try simp only[zz]);refine tkI 28 ?_ ?_ ?_;rotate_left
      ·(intro w;go_simp;try with_reducible rfl)
      (try simp only[zz]);refine tkI 29 ?_ ?_ ?_;rotate_left
      ·(intro w;go_simp;try with_reducible rfl)
      (try simp only[zz]);refine tkI 30 ?_ ?_ ?_;rotate_left
      ·(intro w;go_simp;try with_reducible rfl)
      (try simp only[zz]);refine wpAnyIn_done Ow ?_ _
      gi_wp2_with fail
      go_ret;obtain⟨z,hz⟩:=hq;exact .inr ⟨rfl,l.items++(k,Value.slice va q.length vc) :: q2,⟨z,by simp[<-hz]⟩,by simpa [St] using hx⟩
    ·refine hK _ _ ?_;clear hK K;(try simp only[zz]);refine tkI 20 ?_ ?_ ?_;rotate_left
     ·(intro w;go_simp;try with_reducible rfl)
     (try simp only[zz]);refine tkI 21 ?_ ?_ ?_;rotate_left
     ·(intro w;go_simp;try with_reducible rfl)
     (try simp only[zz]);refine tkU 22 ?_;(try simp only[zz]);refine tkU 23 ?_;(try simp only[zz]);refine tkU 24 ?_;(try simp only[zz]);refine tkU 25 ?_;(try simp only[zz]);refine tkU 26 ?_;(try simp only[zz]);refine wpAnyIn_ready (rs:=[27]) Ow Oy ?_;refine AllReadyIn.cons (o:=⟨some 32,_,_,_,_,_⟩) rfl (λK hK=>?_) AllReadyIn.nil;go_simp;refine⟨trivial,?_⟩;refine hK _ _ ?_;clear hK K;(try simp only[zz]);refine tkI 28 ?_ ?_ ?_;rotate_left
     ·(intro w;go_simp;try with_reducible rfl)
     (try simp only[zz]);refine tkI 29 ?_ ?_ ?_;rotate_left
     ·(intro w;go_simp;try with_reducible rfl)
     (try simp only[zz]);refine tkI 30 ?_ ?_ ?_;rotate_left
     ·(intro w;go_simp;try with_reducible rfl)
     (try simp only[zz]);refine wpAnyIn_done Ow ?_ _
     gi_wp2_with fail
     go_ret;exact .inr ⟨rfl,l.items++[(k,Value.slice va q.length vc)],⟨r.items,by simp⟩,by simpa [St] using hx⟩
  ·refine hK _ _ ?_;clear hK K;(try simp only[zz]);refine tkI 9 ?_ ?_ ?_;rotate_left
   ·(intro w;go_simp;try with_reducible rfl)
   (try simp only[zz]);refine tkU 10 ?_;(try simp only[zz]);refine tkU 11 ?_;(try simp only[zz]);refine tkU 12 ?_;(try simp only[zz]);refine tkU 13 ?_;(try simp only[zz]);refine tkU 14 ?_;(try simp only[zz]);refine tkU 15 ?_;(try simp only[zz]);refine tkU 16 ?_;(try simp only[zz]);refine tkU 17 ?_;(try simp only[zz]);refine tkU 18 ?_;(try simp only[zz]);refine wpAnyIn_ready (rs:=[19]) Ow Oy ?_;refine AllReadyIn.cons (o:=⟨some 24,_,_,_,_,_⟩) rfl (λK hK=>?_) AllReadyIn.nil;go_simp;(try refine⟨λ_ h=>(by cases h),?_⟩);refine hK _ _ ?_;clear hK K;(try simp only[zz]);refine tkI 20 ?_ ?_ ?_;rotate_left
   ·(intro w;go_simp;try with_reducible rfl)
   (try simp only[zz]);refine tkI 21 ?_ ?_ ?_;rotate_left
   ·(intro w;go_simp;try with_reducible rfl)
   (try simp only[zz]);refine tkU 22 ?_;(try simp only[zz]);refine tkU 23 ?_;(try simp only[zz]);refine tkU 24 ?_;(try simp only[zz]);refine tkU 25 ?_;(try simp only[zz]);refine tkU 26 ?_;(try simp only[zz]);refine wpAnyIn_ready (rs:=[27]) Ow Oy ?_;refine AllReadyIn.cons (o:=⟨some 32,_,_,_,_,_⟩) rfl (λK hK=>?_) AllReadyIn.nil;go_simp;refine⟨trivial,?_⟩;refine hK _ _ ?_;clear hK K;(try simp only[zz]);refine tkI 28 ?_ ?_ ?_;rotate_left
   ·(intro w;go_simp;try with_reducible rfl)
   (try simp only[zz]);refine tkI 29 ?_ ?_ ?_;rotate_left
   ·(intro w;go_simp;try with_reducible rfl)
   (try simp only[zz]);refine tkI 30 ?_ ?_ ?_;rotate_left
   ·(intro w;go_simp;try with_reducible rfl)
   (try simp only[zz]);refine wpAnyIn_done Ow ?_ _
   gi_wp2_with fail
   go_ret;exact .inr ⟨rfl,q2,hq.trans (List.prefix_append _ _),hx⟩
attribute [local go_sem] Oper.semAt_some
theorem qhx (n ll Bt tb sb:Nat)(S:Nat->Prop)(T:Tr)(I:Int×Value->Prop)(J Jx:List (Int×Value)->World->Prop)(oQ:∀pre W,J pre W->J pre W.drew)
  (hY:∀m pre x W,J pre W->pre.length<T.items.length->I x->YieldAt Fence.wide m prog ll #[.int .i64 x.1,x.2] W λe W' =>
   (e=.returned (.bool true)/\J (pre++[x]) W'/\Fr S W W')∨(e=.returned (.bool false)/\Jx (pre++[x]) W'))
  (W:World) (zS:W.cell? ⟨Bt,0,none⟩=some (.pointer (some ⟨tb,0,none⟩))) (hc:CxIn W tb sb .top T.ptr) (ht:TrIn W T) (hb:∀b∈T.blks,¬S b) (hv:∀v∈T.vals,∀k,v.ownBlock=some k->¬S k) (hI:∀x∈T.items,I x) (h0:J [] W) :
  CallsIn Fence.wide n prog 221 #[.func (.yield ll) #[] #[],.pointer (some ⟨Bt,0,none⟩)] W λe W'=>(∃v,e=.returned v) /\
   ((∃ys,ys=T.items/\J ys W')∨(∃pre,pre <+: T.items/\Jx pre W')):=by
 have HP:=Ou (qhw ll S T.items.length I J Jx oQ hY T (n-1) [] W ht hb hv hI h0 Oy)
 have c1:=(J9 hc).1
 obtain⟨pt,hpt⟩:∃p,T.ptr=.pointer p:=by cases T<;>exact⟨_,rfl⟩
 rw[hpt]at c1 HP
 have c1':W.cell? ⟨tb,1,none⟩=some (.pointer pt):=c1
 clear hY oQ hc ht hb hv hI h0 c1
 refine callsIn_of_wp func221 rfl trivial ?_ rfl
 simp only[ntmps221,Wu,Wq,List.length_nil,Nat.reduceAdd,Nat.reduceSub,Array.replicate_succ,Array.replicate_zero,List.push_toArray,List.append_toArray,List.nil_append,List.cons_append]
 gi_wp2_with ((first|refine⟨trivial,λh=>(by cases h),?_⟩|refine⟨trivial,?_⟩|refine⟨λh=>(by cases h),?_⟩);refine HP.out.mono ?_;clear HP;rintro e W1 (⟨rfl,xA,_⟩ | ⟨rfl,q,hq,hx⟩))
 ·go_end0;exact⟨⟨_,rfl⟩,.inl ⟨_,rfl,by simpa using xA⟩⟩
 ·go_end0;exact⟨⟨_,rfl⟩,.inr ⟨q,hq,by simpa using hx⟩⟩
end
end Go.Proofs.YtikapeaodobkjaaGreat
