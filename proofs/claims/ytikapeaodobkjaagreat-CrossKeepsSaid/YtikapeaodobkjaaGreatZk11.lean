/- What the laws lean on, in a few texts (by shake.py): number 11 of 16. -/
import Derived.Test.YtikapeaodobkjaaGreatZk1
import Derived.Test.YtikapeaodobkjaaGreatZk2
import Derived.Test.YtikapeaodobkjaaGreatZk5
import Derived.Test.YtikapeaodobkjaaGreatZk9
import Derived.Test.YtikapeaodobkjaaGreatZk3
import Derived.ScopeJumps
import Derived.Deep.QuietTactic
import Derived.BigQuiet
import Derived.WalkMore
import Derived.Shelf.SlSortCmp.QuietGrown
import Derived.Laws.OwnMore
import Derived.Laws.AppendOwnNone
import Derived.RegionIn

set_option maxHeartbeats 16000000
set_option maxRecDepth 1000000
set_option linter.unusedVariables false
namespace Go.Proofs.YtikapeaodobkjaaGreat

inductive Tr where
 | nil:Tr
 | node (a:Nat) (key:Int) (v:Value) (q:List Int) (l r:Tr):Tr
abbrev Rq:=Int × List Int
def Tr.rows:Tr → List Rq
 | .nil=>[]
 | .node _ key _ q l r=>l.rows ++ (key,q) :: r.rows
def Tr.ptr:Tr → Value
 | .nil=>.pointer none
 | .node a _ _ _ _ _=>.pointer (some ⟨a,0,none⟩)
def Tr.blks:Tr → List Nat
 | .nil=>[]
 | .node a _ _ _ l r=>l.blks ++ a :: r.blks
def Tr.vals:Tr → List Value
 | .nil=>[]
 | .node _ _ v _ l r=>l.vals ++ v :: r.vals
def Tr.size:Tr → Nat
 | .nil=>0
 | .node _ _ _ _ l r=>l.size + r.size + 1
inductive Cx where
 | top:Cx
 | left (a:Nat) (key:Int) (v:Value) (q:List Int) (r:Tr) (c:Cx):Cx
 | right (a:Nat) (key:Int) (v:Value) (q:List Int) (l:Tr) (c:Cx):Cx
def Cx.plug:Cx → Tr → Tr
 | .top,t=>t
 | .left a key v q r c,t=>c.plug (.node a key v q t r)
 | .right a key v q l c,t=>c.plug (.node a key v q l t)
def Cx.pre:Cx → List Rq
 | .top=>[]
 | .left _ _ _ _ _ c=>c.pre
 | .right _ key _ q l c=>c.pre ++ (l.rows ++ [(key,q)])
def Cx.post:Cx → List Rq
 | .top=>[]
 | .left _ key _ q r c=>(key,q) :: r.rows ++ c.post
 | .right _ _ _ _ _ c=>c.post
def Cx.hole (t:Nat):Cx → Addr
 | .top=>⟨t,1,none⟩
 | .left a _ _ _ _ _=>⟨a,2,none⟩
 | .right a _ _ _ _ _=>⟨a,3,none⟩
theorem rows_plug:∀ (c:Cx) (t:Tr),(c.plug t).rows = c.pre ++ t.rows ++ c.post
 | .top,t=>by simp [Cx.plug,Cx.pre,Cx.post]
 | .left a key v q r c,t=>by simp [Cx.plug,rows_plug c,Cx.pre,Cx.post,Tr.rows]
 | .right a key v q l c,t=>by simp [Cx.plug,rows_plug c,Cx.pre,Cx.post,Tr.rows]
theorem bet_trans {s a b c:Int} (h:betN s a b = true) (k:betN s b c = true):betN s a c = true:=by
 rw [bet_iff] at h k ⊢
 rcases h with ⟨h1,h2⟩ | ⟨h1,h2⟩ <;> rcases k with ⟨k1,k2⟩ | ⟨k1,k2⟩ <;> omega
theorem bet_tri {s a b:Int} (hs:s = 1 ∨ s = 2) (h:betN s a b = false) (k:betN s b a = false):a = b:=by
 have h1:¬ betN s a b = true:=by rw [h];simp
 have k1:¬ betN s b a = true:=by rw [k];simp
 rw [bet_iff] at h1 k1
 omega
def Srt (s:Int) (R:List Rq):Prop:=R.Pairwise (fun x y=>betN s x.1 y.1 = true)
structure At (s key:Int) (c:Cx) (t:Tr):Prop where
 srt:Srt s (c.plug t).rows
 pre:∀ x ∈ c.pre,betN s x.1 key = true
 post:∀ x ∈ c.post,betN s key x.1 = true
theorem At.start {s key:Int} {t:Tr} (h:Srt s t.rows):At s key .top t:=⟨h,fun x hx=>(by cases hx),fun x hx=>(by cases hx)⟩
theorem At.goL {s key:Int} {c:Cx} {a:Nat} {k:Int} {v:Value} {q:List Int} {l r:Tr} (h:At s key c (.node a k v q l r)) (hb:betN s key k = true):At s key (.left a k v q r c) l:=by
 refine ⟨h.srt,h.pre,fun x hx=>?_⟩
 have hs:=h.srt
 rw [rows_plug] at hs
 unfold Srt at hs
 simp only [Tr.rows,List.append_assoc,List.cons_append] at hs
 rw [List.pairwise_append] at hs
 have h2:=hs.2.1
 rw [List.pairwise_append] at h2
 have h3:=h2.2.1
 rw [List.pairwise_cons] at h3
 simp only [Cx.post,List.cons_append,List.mem_cons,List.mem_append] at hx
 rcases hx with rfl | hx | hx
 ·exact hb
 ·exact bet_trans hb (h3.1 x (by simp [hx]))
 ·exact h.post x hx
theorem At.goR {s key:Int} {c:Cx} {a:Nat} {k:Int} {v:Value} {q:List Int} {l r:Tr} (h:At s key c (.node a k v q l r)) (hb:betN s k key = true):At s key (.right a k v q l c) r:=by
 refine ⟨h.srt,fun x hx=>?_,h.post⟩
 have hs:=h.srt
 rw [rows_plug] at hs
 unfold Srt at hs
 simp only [Tr.rows,List.append_assoc,List.cons_append] at hs
 rw [List.pairwise_append] at hs
 have h2:=hs.2.1
 rw [List.pairwise_append] at h2
 simp only [Cx.pre,List.mem_append,List.mem_singleton] at hx
 rcases hx with hx | hx | rfl
 ·exact h.pre x hx
 ·exact bet_trans (h2.2.2 x hx (k,q) (by simp)) hb
 ·exact hb
def Hangs (key:Int):Tr → Prop
 | .nil=>True
 | .node _ k _ _ _ _=>k = key
end Go.Proofs.YtikapeaodobkjaaGreat
namespace Go.Proofs.YtikapeaodobkjaaGreat
open Go.RowKit Go.Shelf Go.Sort Go.Maps Go.Lib

def idV (q:List Int):List Value:=q.map (fun x=>.int .u64 x)
abbrev ahF (sb:Nat):Value:=.func (.func 84) #[] #[.pointer (some ⟨sb,0,none⟩)]
def TrIn (W:World):Tr → Prop
 | .nil=>True
 | .node a key v q l r=>Cl 278 W a #[.int .i64 key,v,l.ptr,r.ptr]∧W.ownsRow 0 35 1 v q.length (idV q)∧TrIn W l∧TrIn W r
def CxIn (W:World) (tb sb:Nat):Cx → Value → Prop
 | .top,p=>Cl 156 W tb #[ahF sb,p]
 | .left a key v q r c,p=>Cl 278 W a #[.int .i64 key,v,p,r.ptr]∧W.ownsRow 0 35 1 v q.length (idV q)∧TrIn W r∧CxIn W tb sb c (.pointer (some ⟨a,0,none⟩))
 | .right a key v q l c,p=>Cl 278 W a #[.int .i64 key,v,l.ptr,p]∧W.ownsRow 0 35 1 v q.length (idV q)∧TrIn W l∧CxIn W tb sb c (.pointer (some ⟨a,0,none⟩))
theorem cx_hole {W:World} {tb sb:Nat} {c:Cx} {p:Value} (h:CxIn W tb sb c p):W.cell? (c.hole tb) = some p∧W.frozen? (c.hole tb) = false:=by
 cases c with
 | top=>exact ⟨(Cl.c h 1).trans rfl,Cl.f h⟩
 | left a key v q r c=>exact ⟨(h.1.c 2).trans rfl,h.1.f⟩
 | right a key v q l c=>exact ⟨(h.1.c 3).trans rfl,h.1.f⟩
theorem cx_fun {W:World} {tb sb:Nat}:∀ {c:Cx} {p:Value},CxIn W tb sb c p → W.cell? ⟨tb,0,none⟩ = some (ahF sb)
 | .top,p,h=>(Cl.c h 0).trans rfl
 | .left ..,p,h=>cx_fun h.2.2.2
 | .right ..,p,h=>cx_fun h.2.2.2

theorem gAhead_c (sb:Nat) (s a b:Int) (w:World) (h:Cl 3 w sb #[.int .i64 s]) :
  Calls Tryz.prog 84 #[.int .i64 a,.int .i64 b,.pointer (some ⟨sb,0,none⟩)] w fun e w'=>e = .returned (.bool (betN s a b))∧w' = w:=by
 have k0:w.cell? ⟨sb,0,none⟩ = some (.int .i64 s):=(h.c 0).trans rfl
 have HB:=Lib.hid (better_c s a b w)
 generalize betN s a b = r at *
 clear h
 go_enter Tryz.func84,Tryz.ntmps84
 go_wp2_with ((with_reducible refine HB.out.mono ?_);rintro e w1 ⟨rfl,rfl⟩)
 go_ret
 exact ⟨rfl,rfl⟩

theorem exists_least {p:Nat → Prop} (h:∃ n,p n):∃ n,p n∧∀ m,p m → n≤m:=by
 obtain ⟨n,hn⟩:=h
 induction n using Nat.strongRecOn with
 | _ n ih =>
  by_cases hx:∃ m,m < n∧p m
  ·obtain ⟨m,h1,h2⟩:=hx;exact ih m h1 h2
  ·exact ⟨n,hn,fun m hm=>Classical.byContradiction fun hlt=>hx ⟨m,by omega,hm⟩⟩
open Classical in
noncomputable def muJ (J:Nat → Act → World → Prop) (a:Act) (w:World):Nat:=if h:∃ n,J n a w then Classical.choose (exists_least h) else 0
theorem scope_ghost {P:Program} {c X:Code} {a:Act} {w:World} {Q:Exit → Act → World → Prop} (l:Nat) (J:Nat → Act → World → Prop) (hf:findLabel c l = some (Code.skip.seq X))
  (first:(∀ n a w,J n a w → X.wp P (Exit.jump l (fun a w=>∃ n,J n a w) Q) a w) → c.wp P (Exit.jump l (fun a w=>∃ n,J n a w) Q) a w)
  (pass:∀ n a w,J n a w → X.wp P (Exit.jump l (fun a' w'=>∃ m,m < n∧J m a' w') Q) a w):(Code.scope c).wp P Q a w:=by
 have sk:∀ {Q:Exit → Act → World → Prop} {a:Act} {w:World},X.wp P Q a w → (Code.skip.seq X).wp P Q a w:=fun h=>wp_seq (wp_skip h)
 refine wp_scope_jumps l (fun a w=>∃ n,J n a w) (muJ J) hf (first (fun n a w h=>Code.wp_mono (fun e a' w' hq=>by cases e with | goto l'=>(obtain ⟨h1,m,_,h3⟩:=hq;exact ⟨h1,m,h3⟩) | normal=>exact hq | exit id=>exact hq | ret=>exact hq | panic ch=>exact hq | outgrown=>exact hq) (pass n a w h))) (fun a w h=>?_)
 have hs:=Classical.choose_spec (exists_least h)
 have em:muJ J a w = Classical.choose (exists_least h):=by unfold muJ;rw [dif_pos h]
 refine Code.wp_mono (fun e a' w' hq=>?_) (sk (pass _ a w hs.1))
 cases e with
 | goto l' =>
  obtain ⟨h1,m,h2,h3⟩:=hq
  refine ⟨h1,⟨m,h3⟩,?_⟩
  have hx:∃ n,J n a' w':=⟨m,h3⟩
  have e2:muJ J a' w' = Classical.choose (exists_least hx):=by unfold muJ;rw [dif_pos hx]
  have h4:=(Classical.choose_spec (exists_least hx)).2 m h3
  rw [em,e2]
  omega
 | normal=>exact hq
 | exit id=>exact hq
 | ret=>exact hq
 | panic ch=>exact hq
 | outgrown=>exact hq
theorem hole_form (tb:Nat) (c:Cx):∃ b o,c.hole tb = ⟨b,o,none⟩:=by cases c <;> exact ⟨_,_,rfl⟩
theorem plug_ne:∀ (c:Cx) (a:Nat) (k:Int) (v:Value) (q:List Int) (l r:Tr),c.plug (.node a k v q l r) ≠ .nil
 | .top,_,_,_,_,_,_=>by intro h;cases h
 | .left b _ _ _ _ c,_,_,_,_,_,_=>plug_ne c _ _ _ _ _ _
 | .right b _ _ _ _ c,_,_,_,_,_,_=>plug_ne c _ _ _ _ _ _
structure SpI (w:World) (tb sb:Nat) (s key:Int) (T:Tr) (c:Cx) (t:Tr):Prop where
 eq:c.plug t = T
 at_:At s key c t
 cx:CxIn w tb sb c t.ptr
 tr:TrIn w t
def SpJ (w:World) (tb sb:Nat) (s key:Int) (T:Tr) (n:Nat) (a:Act) (w':World):Prop :=
 ∃ c t q,t.size = n∧Hid (SpI w tb sb s key T c t)∧w' = w.drewN q∧∃ u6 u7 u8 u9 u10 u11 u12 u13 u14 u15 u16 u17 u18 u19 u20 u21 u22 u23 u24 u25 u26 u27 u28 u29 u30 u31 u32 u33 u34 u35 u36 u37 u38 u39 u40 u41 u42 u43 u44 u45 u46 u47 u48 u49,a = ⟨#[.pointer (some ⟨tb,0,none⟩),.int .i64 key,undef,undef,.pointer none,.pointer (some (c.hole tb)),u6,u7,u8,u9,u10,u11,u12,u13,u14,u15,u16,u17,u18,u19,u20,u21,u22,u23,u24,u25,u26,u27,u28,u29,u30,u31,u32,u33,u34,u35,u36,u37,u38,u39,u40,u41,u42,u43,u44,u45,u46,u47,u48,u49],[]⟩
def SpEnd (w:World) (tb sb:Nat) (s key:Int) (T:Tr) (e:Ending) (w':World):Prop :=
 ∃ c t,e = .returned (.pointer (some (c.hole tb)))∧Hid (SpI w tb sb s key T c t∧Hangs key t)∧∃ n,w' = w.drewN n

theorem spot_c (tb sb:Nat) (s key:Int) (T:Tr) (w:World) (hs:T ≠ .nil → (s = 1 ∨ s = 2)) (hb:Cl 3 w sb #[.int .i64 s]) (hc:CxIn w tb sb .top T.ptr) (ht:TrIn w T) (hS:Srt s T.rows) :
  Calls Tryz.prog 223 #[.pointer (some ⟨tb,0,none⟩),.int .i64 key] w (SpEnd w tb sb s key T):=by
 have mixed:Tryz.prog.follows .mixedOrders = true:=by kernel_rfl
 have HI0:Hid (SpI w tb sb s key T .top T):=Lib.hid ⟨rfl,At.start hS,hc,ht⟩
 have HA0:Hid (∀ a b X,X.heap = w.heap → Calls Tryz.prog 84 #[.int .i64 a,.int .i64 b,.pointer (some ⟨sb,0,none⟩)] X fun e w'=>e = .returned (.bool (betN s a b))∧w' = X):=Lib.hid (fun a b X hX=>gAhead_c sb s a b X (by unfold Cl;rw [hX];exact hb))
 have k0:w.cell? ⟨tb,0,none⟩ = some (.func (.func 84) #[] #[.pointer (some ⟨sb,0,none⟩)]):=cx_fun hc
 have HS:=Lib.hid hs
 clear hc ht hS hb hs
 go_enter Tryz.func223,Tryz.ntmps223
 go_wp2_with fail
 refine scope_ghost 0 (SpJ w tb sb s key T) rfl ?_ ?_
 ·intro hp
  go_wp2_with fail
  go_step3
  rename_i K hK
  refine hK _ _ (hp T.size _ _ ⟨.top,T,0,rfl,HI0,rfl,?_⟩)
  exact ⟨_,_,_,_,_,_,_,_,_,_,_,_,_,_,_,_,_,_,_,_,_,_,_,_,_,_,_,_,_,_,_,_,_,_,_,_,_,_,_,_,_,_,_,_,rfl⟩
 ·rintro n a w' ⟨c,t,q,rfl,HI,rfl,u6,u7,u8,u9,u10,u11,u12,u13,u14,u15,u16,u17,u18,u19,u20,u21,u22,u23,u24,u25,u26,u27,u28,u29,u30,u31,u32,u33,u34,u35,u36,u37,u38,u39,u40,u41,u42,u43,u44,u45,u46,u47,u48,u49,rfl⟩
  obtain ⟨b,o,eh⟩:=hole_form tb c
  have h1:=cx_hole HI.out.cx
  rw [eh] at h1 ⊢
  obtain ⟨c1,c2⟩:=h1
  have HA:Hid (∀ a b n,Calls Tryz.prog 84 #[.int .i64 a,.int .i64 b,.pointer (some ⟨sb,0,none⟩)] ((w.drewN q).drewN n) fun e w'=>e = .returned (.bool (betN s a b))∧w' = (w.drewN q).drewN n):=Lib.hid (fun a b n=>HA0.out a b _ rfl)
  have HD:Hid (∀ n m,((w.drewN q).drewN n).drewN m = w.drewN (q + n + m)):=Lib.hid (fun n m=>by rw [World.drewN_drewN,World.drewN_drewN,Nat.add_assoc])
  have HA2:Hid (∀ a b n m,Calls Tryz.prog 84 #[.int .i64 a,.int .i64 b,.pointer (some ⟨sb,0,none⟩)] (((w.drewN q).drewN n).drewN m) fun e w'=>e = .returned (.bool (betN s a b))∧w' = ((w.drewN q).drewN n).drewN m):=Lib.hid (fun a b n m=>HA0.out a b _ rfl)
  have HD1:Hid (∀ n,(w.drewN q).drewN n = w.drewN (q + n)):=Lib.hid (fun n=>by rw [World.drewN_drewN])
  have k0q:(w.drewN q).cell? ⟨tb,0,none⟩ = some (.func (.func 84) #[] #[.pointer (some ⟨sb,0,none⟩)]):=k0
  clear k0 HA0
  cases t with
  | nil =>
   have c1':(w.drewN q).cell? ⟨b,o,none⟩ = some (.pointer none):=c1
   have HE:∀ n,Hid (SpEnd w tb sb s key T (.returned (.pointer (some ⟨b,o,none⟩))) (w.drewN n)):=fun n=>Lib.hid ⟨c,.nil,by rw [eh],Lib.hid ⟨HI.out,trivial⟩,n,rfl⟩
   clear c1 HI
   generalize w.drewN q = wq at *
   go_wp2_with fail
   go_quiet (((with_reducible exact Calls.quiet_of_same (HA.out _ _ _))))
   go_wp2_with fail
   go_quiet (((with_reducible exact Calls.quiet_of_same (HA.out _ _ _))))
   go_wp2_with fail
   show bodyPost Tryz.prog Tryz.f223 (SpEnd w tb sb s key T) Exit.ret _ _
   rw [HD.out]
   go_ret
   exact (HE _).out
  | node x k v qq l r =>
   have c1':(w.drewN q).cell? ⟨b,o,none⟩ = some (.pointer (some ⟨x,0,none⟩)):=c1
   have hx:=HI.out.tr.1
   have d0:(w.drewN q).cell? ⟨x,0,none⟩ = some (.int .i64 k):=(hx.c 0).trans rfl
   clear c1 hx
   cases h1:betN s key k with
   | true =>
    have HN:Hid (SpI w tb sb s key T (.left x k v qq r c) l):=Lib.hid ⟨HI.out.eq,HI.out.at_.goL h1,⟨HI.out.tr.1,HI.out.tr.2.1,HI.out.tr.2.2.2,HI.out.cx⟩,HI.out.tr.2.2.1⟩
    clear HI
    generalize w.drewN q = wq at *
    go_wp2_with fail
    go_quiet (((with_reducible exact Calls.quiet_of_same (HA.out _ _ _))))
    rw [h1]
    go_wp2_with fail
    go_step3
    exact ⟨rfl,l.size,by show l.size < l.size + r.size + 1;omega,.left x k v qq r c,l,_,rfl,HN,HD1.out _,_,_,_,_,_,_,_,_,_,_,_,_,_,_,_,_,_,_,_,_,_,_,_,_,_,_,_,_,_,_,_,_,_,_,_,_,_,_,_,_,_,_,_,_,rfl⟩
   | false =>
    cases h2:betN s k key with
    | true =>
     have HN:Hid (SpI w tb sb s key T (.right x k v qq l c) r):=Lib.hid ⟨HI.out.eq,HI.out.at_.goR h2,⟨HI.out.tr.1,HI.out.tr.2.1,HI.out.tr.2.2.1,HI.out.cx⟩,HI.out.tr.2.2.2⟩
     clear HI
     generalize w.drewN q = wq at *
     go_wp2_with fail
     go_quiet (((with_reducible exact Calls.quiet_of_same (HA.out _ _ _))))
     rw [h1]
     go_wp2_with fail
     have k0r:(wq.drewN nq).cell? ⟨tb,0,none⟩ = some (.func (.func 84) #[] #[.pointer (some ⟨sb,0,none⟩)]):=k0q
     have d0r:(wq.drewN nq).cell? ⟨x,0,none⟩ = some (.int .i64 k):=d0
     have HA3:=Lib.hid (fun a b m=>HA2.out a b nq m)
     have HD3:=Lib.hid (fun m=>HD.out nq m)
     clear HA2 HD k0q d0 c1' HA HD1
     generalize wq.drewN nq = wz at *
     go_quiet (((with_reducible exact Calls.quiet_of_same (HA3.out _ _ _))))
     rw [h2]
     go_wp2_with fail
     go_step3
     exact ⟨rfl,r.size,by show r.size < l.size + r.size + 1;omega,.right x k v qq l c,r,_,rfl,HN,HD3.out _,_,_,_,_,_,_,_,_,_,_,_,_,_,_,_,_,_,_,_,_,_,_,_,_,_,_,_,_,_,_,_,_,_,_,_,_,_,_,_,_,_,_,_,_,rfl⟩
    | false =>
     have HE:∀ n,Hid (SpEnd w tb sb s key T (.returned (.pointer (some ⟨b,o,none⟩))) (w.drewN n)):=fun n=>Lib.hid ⟨c,.node x k v qq l r,by rw [eh],Lib.hid ⟨HI.out,(bet_tri (HS.out (by rw [← HI.out.eq];exact plug_ne _ _ _ _ _ _ _)) h1 h2).symm⟩,n,rfl⟩
     clear HI
     generalize w.drewN q = wq at *
     go_wp2_with fail
     go_quiet (((with_reducible exact Calls.quiet_of_same (HA.out _ _ _))))
     rw [h1]
     go_wp2_with fail
     have k0r:(wq.drewN nq).cell? ⟨tb,0,none⟩ = some (.func (.func 84) #[] #[.pointer (some ⟨sb,0,none⟩)]):=k0q
     have d0r:(wq.drewN nq).cell? ⟨x,0,none⟩ = some (.int .i64 k):=d0
     have HA3:=Lib.hid (fun a b m=>HA2.out a b nq m)
     have HD3:=Lib.hid (fun m=>HD.out nq m)
     clear HA2 HD k0q d0 c1' HA HD1
     generalize wq.drewN nq = wz at *
     go_quiet (((with_reducible exact Calls.quiet_of_same (HA3.out _ _ _))))
     rw [h2]
     go_wp2_with fail
     show bodyPost Tryz.prog Tryz.f223 (SpEnd w tb sb s key T) Exit.ret _ _
     rw [HD3.out]
     go_ret
     exact (HE _).out

def Cx.blks:Cx → List Nat
 | .top=>[]
 | .left a _ _ _ r c=>a :: (r.blks ++ c.blks)
 | .right a _ _ _ l c=>a :: (l.blks ++ c.blks)
def Cx.vals:Cx → List Value
 | .top=>[]
 | .left _ _ v _ r c=>v :: (r.vals ++ c.vals)
 | .right _ _ v _ l c=>v :: (l.vals ++ c.vals)
theorem plug_blks:∀ (c:Cx) (t:Tr),(c.plug t).blks.Perm (t.blks ++ c.blks)
 | .top,t=>by simp [Cx.plug,Cx.blks]
 | .left a key v q r c,t=>by
  refine (plug_blks c _).trans ?_
  simp only [Tr.blks,Cx.blks,List.append_assoc,List.cons_append]
  exact List.Perm.refl _
 | .right a key v q l c,t=>by
  refine (plug_blks c _).trans ?_
  simp only [Tr.blks,Cx.blks,List.append_assoc,List.cons_append]
  exact List.perm_middle.trans ((List.Perm.cons a (List.perm_append_comm_assoc l.blks t.blks c.blks)).trans List.perm_middle.symm)
theorem TrIn.fr {S:Nat → Prop} {W W':World} (hf:Fr S W W'):∀ {t:Tr},TrIn W t → (∀ b ∈ t.blks,¬ S b) → (∀ v ∈ t.vals,∀ k,v.ownBlock = some k → ¬ S k) → TrIn W' t
 | .nil,_,_,_=>trivial
 | .node a key v q l r,h,hb,hv=>by
  refine ⟨hf.blk h.1 (hb a (by simp [Tr.blks])),own_fr h.2.1 hf (hv v (by simp [Tr.vals])),TrIn.fr hf h.2.2.1 (fun b hb'=>hb b (by simp [Tr.blks,hb'])) (fun v hv'=>hv v (by simp [Tr.vals,hv'])),TrIn.fr hf h.2.2.2 (fun b hb'=>hb b (by simp [Tr.blks,hb'])) (fun v hv'=>hv v (by simp [Tr.vals,hv']))⟩
theorem CxIn.fr {S:Nat → Prop} {W W':World} {tb sb:Nat} (hf:Fr S W W') (ht:¬ S tb):∀ {c:Cx} {p:Value},CxIn W tb sb c p → (∀ b ∈ c.blks,¬ S b) → (∀ v ∈ c.vals,∀ k,v.ownBlock = some k → ¬ S k) → CxIn W' tb sb c p
 | .top,p,h,_,_=>hf.blk h ht
 | .left a key v q r c,p,h,hb,hv=>by
  refine ⟨hf.blk h.1 (hb a (by simp [Cx.blks])),own_fr h.2.1 hf (hv v (by simp [Cx.vals])),TrIn.fr hf h.2.2.1 (fun b hb'=>hb b (by simp [Cx.blks,hb'])) (fun v hv'=>hv v (by simp [Cx.vals,hv'])),CxIn.fr hf ht h.2.2.2 (fun b hb'=>hb b (by simp [Cx.blks,hb'])) (fun v hv'=>hv v (by simp [Cx.vals,hv']))⟩
 | .right a key v q l c,p,h,hb,hv=>by
  refine ⟨hf.blk h.1 (hb a (by simp [Cx.blks])),own_fr h.2.1 hf (hv v (by simp [Cx.vals])),TrIn.fr hf h.2.2.1 (fun b hb'=>hb b (by simp [Cx.blks,hb'])) (fun v hv'=>hv v (by simp [Cx.vals,hv'])),CxIn.fr hf ht h.2.2.2 (fun b hb'=>hb b (by simp [Cx.blks,hb'])) (fun v hv'=>hv v (by simp [Cx.vals,hv']))⟩
theorem TrIn.ne {W:World} {g:Nat} {cs:Array Value} {T:TypeId} (hg:W.heap[g]? = some (.cells cs T (0,0))) (hT:35 ≠ T):∀ {t:Tr},TrIn W t → ∀ v ∈ t.vals,v.ownBlock ≠ some g
 | .nil,_,v,hv=>(by cases hv)
 | .node a key v q l r,h,u,hu=>by
  simp only [Tr.vals,List.mem_append,List.mem_cons] at hu
  rcases hu with hu | rfl | hu
  ·exact TrIn.ne hg hT h.2.2.1 u hu
  ·exact own_ne h.2.1 hg hT
  ·exact TrIn.ne hg hT h.2.2.2 u hu
theorem CxIn.ne {W:World} {tb sb g:Nat} {cs:Array Value} {T:TypeId} (hg:W.heap[g]? = some (.cells cs T (0,0))) (hT:35 ≠ T):∀ {c:Cx} {p:Value},CxIn W tb sb c p → ∀ v ∈ c.vals,v.ownBlock ≠ some g
 | .top,_,_,v,hv=>(by cases hv)
 | .left a key v q r c,p,h,u,hu=>by
  simp only [Cx.vals,List.mem_append,List.mem_cons] at hu
  rcases hu with rfl | hu | hu
  ·exact own_ne h.2.1 hg hT
  ·exact TrIn.ne hg hT h.2.2.1 u hu
  ·exact CxIn.ne hg hT h.2.2.2 u hu
 | .right a key v q l c,p,h,u,hu=>by
  simp only [Cx.vals,List.mem_append,List.mem_cons] at hu
  rcases hu with rfl | hu | hu
  ·exact own_ne h.2.1 hg hT
  ·exact TrIn.ne hg hT h.2.2.1 u hu
  ·exact CxIn.ne hg hT h.2.2.2 u hu
theorem CxIn.tree {W:World} {tb sb:Nat}:∀ {c:Cx} {p:Value},CxIn W tb sb c p → ∃ p',Cl 156 W tb #[ahF sb,p']
 | .top,p,h=>⟨p,h⟩
 | .left ..,p,h=>CxIn.tree h.2.2.2
 | .right ..,p,h=>CxIn.tree h.2.2.2
theorem CxIn.set {W:World} {tb sb:Nat} {c:Cx} {p:Value} (h:CxIn W tb sb c p) (hd:c.blks.Nodup) (p':Value):CxIn (W.setCell (c.hole tb) p') tb sb c p':=by
 cases c with
 | top=>exact (heap_set h).trans rfl
 | left a key v q r c =>
  obtain ⟨h1,h2,h3,h4⟩:=h
  have hf:Fr (fun k=>k = a) W (W.setCell ⟨a,2,none⟩ p'):=(Fr.refl (fun k=>k = a) W).set (p:=⟨a,2,none⟩) (.inl rfl) _
  have hnd:a ∉ r.blks ++ c.blks:=(List.nodup_cons.1 hd).1
  have hne:∀ (v:Value),v.ownBlock ≠ some a → ∀ k,v.ownBlock = some k → ¬ k = a:=fun v hv k hk e=>hv (by rw [hk,e])
  obtain ⟨pt,ht⟩:=CxIn.tree h4
  refine ⟨(heap_set h1).trans rfl,own_fr h2 hf (hne v (own_ne h2 h1 (by decide))),TrIn.fr hf h3 (fun b hb e=>hnd (by rw [← e];exact List.mem_append_left _ hb)) (fun v hv=>hne v (TrIn.ne h1 (by decide) h3 v hv)),CxIn.fr hf (fun e=>blk_ne ht h1 (by decide) e) h4 (fun b hb e=>hnd (by rw [← e];exact List.mem_append_right _ hb)) (fun v hv=>hne v (CxIn.ne h1 (by decide) h4 v hv))⟩
 | right a key v q l c =>
  obtain ⟨h1,h2,h3,h4⟩:=h
  have hf:Fr (fun k=>k = a) W (W.setCell ⟨a,3,none⟩ p'):=(Fr.refl (fun k=>k = a) W).set (p:=⟨a,3,none⟩) (.inl rfl) _
  have hnd:a ∉ l.blks ++ c.blks:=(List.nodup_cons.1 hd).1
  have hne:∀ (v:Value),v.ownBlock ≠ some a → ∀ k,v.ownBlock = some k → ¬ k = a:=fun v hv k hk e=>hv (by rw [hk,e])
  obtain ⟨pt,ht⟩:=CxIn.tree h4
  refine ⟨(heap_set h1).trans rfl,own_fr h2 hf (hne v (own_ne h2 h1 (by decide))),TrIn.fr hf h3 (fun b hb e=>hnd (by rw [← e];exact List.mem_append_left _ hb)) (fun v hv=>hne v (TrIn.ne h1 (by decide) h3 v hv)),CxIn.fr hf (fun e=>blk_ne ht h1 (by decide) e) h4 (fun b hb e=>hnd (by rw [← e];exact List.mem_append_right _ hb)) (fun v hv=>hne v (CxIn.ne h1 (by decide) h4 v hv))⟩
theorem plug_in {W:World} {tb sb:Nat}:∀ {c:Cx} {t:Tr},CxIn W tb sb c t.ptr → TrIn W t → CxIn W tb sb .top (c.plug t).ptr∧TrIn W (c.plug t)
 | .top,t,h,k=>⟨h,k⟩
 | .left a key v q r c,t,h,k=>plug_in (c:=c) (t:=.node a key v q t r) h.2.2.2 ⟨h.1,h.2.1,k,h.2.2.1⟩
 | .right a key v q l c,t,h,k=>plug_in (c:=c) (t:=.node a key v q l t) h.2.2.2 ⟨h.1,h.2.1,h.2.2.1,k⟩

def Tr.val:Tr → Value
 | .nil=>.slice none 0 0
 | .node _ _ v _ _ _=>v
def GetEnd (w:World) (tb sb:Nat) (s key:Int) (T:Tr) (e:Ending) (w':World):Prop :=
 ∃ c t,e = .returned t.val∧Hid (SpI w tb sb s key T c t∧Hangs key t)∧∃ n,w' = w.drewN n
theorem tGet_c (tb sb:Nat) (s key:Int) (T:Tr) (w:World) (hs:T ≠ .nil → (s = 1 ∨ s = 2)) (hb:Cl 3 w sb #[.int .i64 s]) (hc:CxIn w tb sb .top T.ptr) (ht:TrIn w T) (hS:Srt s T.rows) :
  Calls Tryz.prog 214 #[.pointer (some ⟨tb,0,none⟩),.int .i64 key] w (GetEnd w tb sb s key T):=by
 have HS:=Lib.hid (spot_c tb sb s key T w hs hb hc ht hS)
 clear hs hb hc ht hS
 go_enter Tryz.func214,Tryz.ntmps214
 go_wp2_with fail
 ((with_reducible refine HS.out.mono ?_);rintro e w1 ⟨c,t,rfl,h,n,rfl⟩)
 obtain ⟨b,o,eh⟩:=hole_form tb c
 have h1:=(cx_hole h.out.1.cx).1
 have HE:Hid (GetEnd w tb sb s key T (.returned t.val) (w.drewN n)):=Lib.hid ⟨c,t,rfl,h,n,rfl⟩
 rw [eh] at h1 ⊢
 cases t with
 | nil =>
  have c1:(w.drewN n).cell? ⟨b,o,none⟩ = some (.pointer none):=h1
  clear h1 HS h
  go_wp2_with fail
  go_ret
  exact HE.out
 | node x k v qq l r =>
  have c1:(w.drewN n).cell? ⟨b,o,none⟩ = some (.pointer (some ⟨x,0,none⟩)):=h1
  have d1:(w.drewN n).cell? ⟨x,1,none⟩ = some v:=(h.out.1.tr.1.c 1).trans rfl
  clear h1 HS h
  go_wp2_with fail
  go_ret
  exact HE.out

def Tr.with (x:Nat) (key:Int) (v:Value) (q:List Int):Tr → Tr
 | .nil=>.node x key v q .nil .nil
 | .node a k _ _ l r=>.node a k v q l r
def Tr.items:Tr → List (Int × Value)
 | .nil=>[]
 | .node _ k v _ l r=>l.items ++ (k,v) :: r.items
theorem items_row:∀ {t:Tr} {x:Int × Value},x ∈ t.items → ∃ q,(x.1,q) ∈ t.rows
 | .nil,x,h=>(by cases h)
 | .node a k v q l r,x,h=>by
  unfold Tr.items at h
  rcases List.mem_append.1 h with h | h
  ·obtain ⟨q',h'⟩:=items_row h
   exact ⟨q',by unfold Tr.rows;exact List.mem_append_left _ h'⟩
  ·rcases List.mem_cons.1 h with rfl | h
   ·exact ⟨q,by unfold Tr.rows;simp⟩
   ·obtain ⟨q',h'⟩:=items_row h
    exact ⟨q',by unfold Tr.rows;exact List.mem_append_right _ (List.mem_cons_of_mem _ h')⟩
theorem plug_items:∀ (c:Cx),∃ A C,∀ t:Tr,(c.plug t).items = A ++ t.items ++ C
 | .top=>⟨[],[],fun t=>by simp [Cx.plug]⟩
 | .left a key v q r c=>by
  obtain ⟨A,C,h⟩:=plug_items c
  exact ⟨A,(key,v) :: r.items ++ C,fun t=>by simp [Cx.plug,h,Tr.items]⟩
 | .right a key v q l c=>by
  obtain ⟨A,C,h⟩:=plug_items c
  exact ⟨A ++ (l.items ++ [(key,v)]),C,fun t=>by simp [Cx.plug,h,Tr.items]⟩
theorem no_key {s key:Int} {c:Cx} (h:At s key c .nil):∀ u,(key,u) ∉ (c.plug .nil).items:=by
 intro u hu
 obtain ⟨q,hq⟩:=items_row hu
 rw [rows_plug] at hq
 have irr:¬ betN s key key = true:=by rw [bet_iff];omega
 simp only [Tr.rows,List.append_nil] at hq
 rcases List.mem_append.1 hq with hq | hq
 ·exact irr (h.pre _ hq)
 ·exact irr (h.post _ hq)
structure TPut (w w':World) (tb sb:Nat) (s key:Int) (T T':Tr) (v:Value) (q:List Int):Prop where
 cx:CxIn w' tb sb .top T'.ptr
 tr:TrIn w' T'
 srt:Srt s T'.rows
 nd:T'.blks.Nodup
 fr:Fr (fun b=>b = tb ∨ b ∈ T.blks) w w'
 bl:∀ b ∈ T'.blks,b ∈ T.blks ∨ w.heap.size≤b
 rows:∃ P R Q,T.rows = P ++ R ++ Q∧T'.rows = P ++ (key,q) :: Q∧(R = [] ∨ ∃ q0,R = [(key,q0)])∧(∀ x ∈ P,betN s x.1 key = true)∧(∀ x ∈ Q,betN s key x.1 = true)
 vals:∃ A B C,T.vals = A ++ B ++ C∧T'.vals = A ++ v :: C∧((B = []∧∀ u,(key,u) ∉ T.items) ∨ ∃ u,B = [u]∧(key,u) ∈ T.items)
theorem TrIn.lt {W:World}:∀ {t:Tr},TrIn W t → ∀ b ∈ t.blks,b < W.heap.size
 | .nil,_,b,h=>(by cases h)
 | .node a key v q l r,h,b,hb=>by
  simp only [Tr.blks,List.mem_append,List.mem_cons] at hb
  rcases hb with hb | rfl | hb
  ·exact TrIn.lt h.2.2.1 b hb
  ·exact blk_lt h.1
  ·exact TrIn.lt h.2.2.2 b hb

theorem TrIn.at_ {W:World}:∀ {t:Tr},TrIn W t → ∀ b ∈ t.blks,∃ cs,Cl 278 W b cs
 | .nil,_,b,h=>(by cases h)
 | .node a key v q l r,h,b,hb=>by
  simp only [Tr.blks,List.mem_append,List.mem_cons] at hb
  rcases hb with hb | rfl | hb
  ·exact TrIn.at_ h.2.2.1 b hb
  ·exact ⟨_,h.1⟩
  ·exact TrIn.at_ h.2.2.2 b hb
theorem plug_vals:∀ (c:Cx),∃ A C,∀ t:Tr,(c.plug t).vals = A ++ t.vals ++ C
 | .top=>⟨[],[],fun t=>by simp [Cx.plug]⟩
 | .left a key v q r c=>by
  obtain ⟨A,C,h⟩:=plug_vals c
  exact ⟨A,v :: r.vals ++ C,fun t=>by simp [Cx.plug,h,Tr.vals]⟩
 | .right a key v q l c=>by
  obtain ⟨A,C,h⟩:=plug_vals c
  exact ⟨A ++ (l.vals ++ [v]),C,fun t=>by simp [Cx.plug,h,Tr.vals]⟩
theorem hole_blk (tb:Nat) (c:Cx):(c.hole tb).block = tb ∨ (c.hole tb).block ∈ c.blks:=by
 cases c <;> simp [Cx.hole,Cx.blks]
theorem srt_put {s key:Int} {q:List Int} {P R Q:List Rq} (h:Srt s (P ++ R ++ Q)) (hP:∀ x ∈ P,betN s x.1 key = true) (hQ:∀ x ∈ Q,betN s key x.1 = true):Srt s (P ++ (key,q) :: Q):=by
 unfold Srt at h ⊢
 rw [List.append_assoc,List.pairwise_append] at h
 obtain ⟨h1,h2,h3⟩:=h
 rw [List.pairwise_append] at h2
 rw [List.pairwise_append,List.pairwise_cons]
 refine ⟨h1,⟨hQ,h2.2.1⟩,fun a ha b hb=>?_⟩
 rcases List.mem_cons.1 hb with rfl | hb
 ·exact hP a ha
 ·exact h3 a ha b (List.mem_append_right _ hb)
theorem put_done {w w':World} {tb sb:Nat} {s key:Int} {T t:Tr} {c:Cx} {v:Value} {q:List Int} {x:Nat} (hI:SpI w tb sb s key T c t) (hh:Hangs key t) (hnd:T.blks.Nodup) (hx:w.heap.size≤x) (cx':CxIn w' tb sb c (t.with x key v q).ptr) (tr':TrIn w' (t.with x key v q)) (fr:Fr (fun b=>b = tb ∨ b ∈ T.blks) w w'):TPut w w' tb sb s key T (c.plug (t.with x key v q)) v q:=by
 obtain ⟨rfl,hat,hcx,htr⟩:=hI
 have hT:=(plug_in hcx htr).2
 have hb0:(c.plug t).blks.Perm (t.blks ++ c.blks):=plug_blks c t
 have hb1:=plug_blks c (t.with x key v q)
 obtain ⟨A,C,hv⟩:=plug_vals c
 have hp:=plug_in cx' tr'
 have hrows:∃ P R Q,(c.plug t).rows = P ++ R ++ Q∧(c.plug (t.with x key v q)).rows = P ++ (key,q) :: Q∧(R = [] ∨ ∃ q0,R = [(key,q0)])∧(∀ x ∈ P,betN s x.1 key = true)∧(∀ x ∈ Q,betN s key x.1 = true):=by
  cases t with
  | nil=>exact ⟨c.pre,[],c.post,by simp [rows_plug,Tr.rows],by simp [rows_plug,Tr.rows,Tr.with],.inl rfl,hat.pre,hat.post⟩
  | node a k u q0 l r =>
   have hk:k = key:=hh
   subst hk
   have hs:=hat.srt
   rw [rows_plug] at hs
   unfold Srt at hs
   simp only [Tr.rows,List.append_assoc,List.cons_append] at hs
   rw [List.pairwise_append] at hs
   have h2:=hs.2.1
   rw [List.pairwise_append] at h2
   refine ⟨c.pre ++ l.rows,[(k,q0)],r.rows ++ c.post,by simp [rows_plug,Tr.rows],by simp [rows_plug,Tr.rows,Tr.with],.inr ⟨q0,rfl⟩,fun x hx=>?_,fun x hx=>?_⟩
   ·rcases List.mem_append.1 hx with hx | hx
    ·exact hat.pre x hx
    ·exact h2.2.2 x hx (k,q0) (by simp)
   ·exact (List.pairwise_cons.1 h2.2.1).1 x hx
 have hsrt:Srt s (c.plug (t.with x key v q)).rows:=by
  obtain ⟨P,R,Q,e1,e2,_,hP,hQ⟩:=hrows
  rw [e2]
  exact srt_put (by rw [← e1];exact hat.srt) hP hQ
 refine ⟨hp.1,hp.2,hsrt,?_,fr,?_,hrows,?_⟩
 ·cases t with
  | nil =>
   refine hb1.nodup_iff.2 ?_
   show (x :: ([] ++ c.blks)).Nodup
   have h0:=hb0.nodup_iff.1 hnd
   refine List.nodup_cons.2 ⟨fun hm=>?_,h0⟩
   exact absurd (TrIn.lt hT x (hb0.mem_iff.2 hm)) (by omega)
  | node a k u q0 l r=>exact hb1.nodup_iff.2 (hb0.nodup_iff.1 hnd)
 ·intro b hb
  have hb2:=hb1.mem_iff.1 hb
  cases t with
  | nil =>
   simp only [Tr.with,Tr.blks,List.nil_append,List.cons_append,List.mem_cons] at hb2
   rcases hb2 with rfl | hb2
   ·exact .inr hx
   ·exact .inl (hb0.mem_iff.2 hb2)
  | node a k u q0 l r=>exact .inl (hb0.mem_iff.2 hb2)
 ·cases t with
  | nil=>exact ⟨A,[],C,by simp [hv,Tr.vals],by simp [hv,Tr.vals,Tr.with],.inl ⟨rfl,no_key hat⟩⟩
  | node a k u q0 l r =>
   have hk:k = key:=hh
   subst hk
   obtain ⟨A2,C2,hi⟩:=plug_items c
   exact ⟨A ++ l.vals,[u],r.vals ++ C,by simp [hv,Tr.vals],by simp [hv,Tr.vals,Tr.with],.inr ⟨u,rfl,by rw [hi];simp [Tr.items]⟩⟩
theorem own_off {w:World} {tb sb:Nat} {T t:Tr} {c:Cx} {s key:Int} {v:Value} {n:Nat} {xs:List Value} (hI:SpI w tb sb s key T c t) (hv:w.ownsRow 0 35 1 v n xs):∀ k,v.ownBlock = some k → ¬ (k = tb ∨ k ∈ T.blks):=by
 intro k hk hc
 obtain ⟨pt,ht⟩:=CxIn.tree hI.cx
 have hT:=(plug_in hI.cx hI.tr).2
 rw [hI.eq] at hT
 rcases hc with rfl | hc
 ·exact own_ne hv ht (by decide) hk
 ·obtain ⟨cs,h⟩:=TrIn.at_ hT k hc
  exact own_ne hv h (by decide) hk
theorem put_node {w:World} {tb sb:Nat} {s key:Int} {T:Tr} {c:Cx} {x:Nat} {k:Int} {u v:Value} {qq q:List Int} {l r:Tr} (n:Nat) (hI:SpI w tb sb s key T c (.node x k u qq l r)) (hh:k = key) (hnd:T.blks.Nodup) (hv:w.ownsRow 0 35 1 v q.length (idV q)) :
  TPut w ((w.drewN n).setCell ⟨x,1,none⟩ v) tb sb s key T (c.plug (.node x k v q l r)) v q:=by
 have hperm:=plug_blks c (.node x k u qq l r)
 rw [hI.eq] at hperm
 have hxT:x ∈ T.blks:=hperm.mem_iff.2 (by simp [Tr.blks])
 have fr:Fr (fun b=>b = tb ∨ b ∈ T.blks) w ((w.drewN n).setCell ⟨x,1,none⟩ v):=((Fr.refl _ w).drewN n).set (p:=⟨x,1,none⟩) (.inl (.inr hxT)) v
 have fx:Fr (fun b=>b = x) w ((w.drewN n).setCell ⟨x,1,none⟩ v):=((Fr.refl (fun b=>b = x) w).drewN n).set (p:=⟨x,1,none⟩) (.inl rfl) v
 have hoff:=own_off hI hv
 have hd:=hperm.nodup_iff.1 hnd
 obtain ⟨pt,ht⟩:=CxIn.tree hI.cx
 have hx:=hI.tr.1
 have hne:∀ (v:Value),v.ownBlock ≠ some x → ∀ k,v.ownBlock = some k → ¬ k = x:=fun v hv k hk e=>hv (by rw [hk,e])
 have hd1:=(List.nodup_append.1 hd).1
 have hd2:=(List.nodup_append.1 hd).2.2
 have hxl:x ∉ l.blks:=fun h=>by
  have:=List.nodup_append.1 (show (l.blks ++ x :: r.blks).Nodup from hd1)
  exact this.2.2 x h x (by simp) rfl
 have hxr:x ∉ r.blks:=fun h=>by
  have:=(List.nodup_append.1 (show (l.blks ++ x :: r.blks).Nodup from hd1)).2.1
  exact (List.nodup_cons.1 this).1 h
 have hxc:x ∉ c.blks:=fun h=>hd2 x (by simp [Tr.blks]) x h rfl
 subst hh
 refine put_done (t:=.node x k u qq l r) (x:=w.heap.size) hI rfl hnd (Nat.le_refl _) ?_ ?_ fr
 ·exact CxIn.fr fx (fun e=>blk_ne ht hx (by decide) e) hI.cx (fun b hb e=>hxc (by rw [← e];exact hb)) (fun v hv=>hne v (CxIn.ne hx (by decide) hI.cx v hv))
 ·refine ⟨(heap_set (w:=w.drewN n) hx).trans rfl,own_fr hv fr hoff,?_,?_⟩
  ·exact TrIn.fr fx hI.tr.2.2.1 (fun b hb e=>hxl (by rw [← e];exact hb)) (fun v hv=>hne v (TrIn.ne hx (by decide) hI.tr.2.2.1 v hv))
  ·exact TrIn.fr fx hI.tr.2.2.2 (fun b hb e=>hxr (by rw [← e];exact hb)) (fun v hv=>hne v (TrIn.ne hx (by decide) hI.tr.2.2.2 v hv))
abbrev ndN (key:Int) (v:Value):Array Value:=#[.int .i64 key,v,.pointer none,.pointer none]
theorem nil_cx {w:World} {tb sb:Nat} {s key:Int} {T:Tr} {c:Cx} (n:Nat) (hI:SpI w tb sb s key T c .nil) (hnd:T.blks.Nodup) {W1 W2:World} (e1:W1 = (w.drewN n).alloc (.cells (ndN key (.slice none 0 0)) 278)) (e2:W2 = W1.setCell (c.hole tb) (.pointer (some ⟨w.heap.size,0,none⟩))) :
  CxIn W1 tb sb c (.pointer none)∧CxIn W2 tb sb c (.pointer (some ⟨w.heap.size,0,none⟩))∧Cl 278 W2 w.heap.size (ndN key (.slice none 0 0))∧Fr (fun b=>b = tb ∨ b ∈ T.blks) w W2∧w.heap.size ∉ c.blks∧tb ≠ w.heap.size:=by
 have hperm:=plug_blks c .nil
 rw [hI.eq] at hperm
 have hT:=(plug_in hI.cx hI.tr).2
 rw [hI.eq] at hT
 have hd:c.blks.Nodup:=hperm.nodup_iff.1 hnd
 obtain ⟨pt,ht⟩:=CxIn.tree hI.cx
 have htb:=blk_lt ht
 have hnc:w.heap.size ∉ c.blks:=fun h=>absurd (TrIn.lt hT _ (hperm.mem_iff.2 h)) (by omega)
 have f1:Fr (fun _=>False) w W1:=e1 ▸ ((Fr.refl _ w).drewN n).alloc _
 have h1:CxIn W1 tb sb c (.pointer none):=CxIn.fr f1 (fun h=>h) hI.cx (fun _ _ h=>h) (fun _ _ _ _ h=>h)
 have h2:CxIn W2 tb sb c (.pointer (some ⟨w.heap.size,0,none⟩)):=e2 ▸ CxIn.set h1 hd _
 have f2:Fr (fun b=>b = tb ∨ b ∈ c.blks) W1 W2:=e2 ▸ (Fr.refl _ W1).set (.inl (hole_blk tb c)) _
 have hn1:Cl 278 W1 w.heap.size (ndN key (.slice none 0 0)):=e1 ▸ hd_last rfl
 refine ⟨h1,h2,f2.blk hn1 ?_,?_,hnc,by omega⟩
 ·rintro (h | h)
  ·omega
  ·exact hnc h
 ·have f1':Fr (fun b=>b = tb ∨ b ∈ T.blks) w W1:=f1.mono (fun _ h=>absurd h id)
  refine f1'.trans f2 (fun b hb=>.inl ?_)
  rcases hb with hb | hb
  ·exact .inl hb
  ·exact .inr (hperm.mem_iff.2 hb)
theorem put_nil {w:World} {tb sb:Nat} {s key:Int} {T:Tr} {c:Cx} {v:Value} {q:List Int} (n:Nat) (hI:SpI w tb sb s key T c .nil) (hnd:T.blks.Nodup) (hv:w.ownsRow 0 35 1 v q.length (idV q)) {W1 W2:World} (e1:W1 = (w.drewN n).alloc (.cells (ndN key (.slice none 0 0)) 278)) (e2:W2 = W1.setCell (c.hole tb) (.pointer (some ⟨w.heap.size,0,none⟩))) :
  TPut w (W2.setCell ⟨w.heap.size,1,none⟩ v) tb sb s key T (c.plug (.node w.heap.size key v q .nil .nil)) v q:=by
 obtain ⟨h1,h2,h3,h4,h5,h6⟩:=nil_cx n hI hnd e1 e2
 have fx:Fr (fun b=>b = w.heap.size) W2 (W2.setCell ⟨w.heap.size,1,none⟩ v):=(Fr.refl (fun b=>b = w.heap.size) W2).set (p:=⟨w.heap.size,1,none⟩) (.inl rfl) v
 have fr:Fr (fun b=>b = tb ∨ b ∈ T.blks) w (W2.setCell ⟨w.heap.size,1,none⟩ v):=h4.set (p:=⟨w.heap.size,1,none⟩) (.inr (Nat.le_refl _)) v
 have hne:∀ (v:Value),v.ownBlock ≠ some w.heap.size → ∀ k,v.ownBlock = some k → ¬ k = w.heap.size:=fun v hv k hk e=>hv (by rw [hk,e])
 refine put_done (t:=.nil) (x:=w.heap.size) hI trivial hnd (Nat.le_refl _) ?_ ?_ fr
 ·exact CxIn.fr fx h6 h2 (fun b hb e=>h5 (by rw [← e];exact hb)) (fun v hv=>hne v (CxIn.ne h3 (by decide) h2 v hv))
 ·exact ⟨(heap_set h3).trans rfl,own_fr hv fr (own_off hI hv),trivial,trivial⟩

theorem tPut_c (tb sb:Nat) (s key:Int) (T:Tr) (v:Value) (q:List Int) (w:World) (hs:s = 1 ∨ s = 2) (hb:Cl 3 w sb #[.int .i64 s]) (hc:CxIn w tb sb .top T.ptr) (ht:TrIn w T) (hS:Srt s T.rows) (hnd:T.blks.Nodup) (hv:w.ownsRow 0 35 1 v q.length (idV q)) :
  Calls Tryz.prog 218 #[.pointer (some ⟨tb,0,none⟩),.int .i64 key,v] w fun e w'=>e = .returned (.tuple #[])∧∃ T',Hid (TPut w w' tb sb s key T T' v q):=by
 have HS:=Lib.hid (spot_c tb sb s key T w (fun _=>hs) hb hc ht hS)
 have HV:=Lib.hid hv
 have HT:=Lib.hid (And.intro ht hnd)
 obtain ⟨A0,c0,rfl,_⟩:=own_que2 hv
 clear hs hb hc ht hS hnd hv
 go_enter Tryz.func218,Tryz.ntmps218
 go_wp2_with fail
 ((with_reducible refine HS.out.mono ?_);rintro e w1 ⟨c,t,rfl,h,n,rfl⟩)
 obtain ⟨b,o,eh⟩:=hole_form tb c
 have h1:=cx_hole h.out.1.cx
 rw [eh] at h1 ⊢
 cases t with
 | nil =>
  obtain ⟨W1,e1⟩:∃ W1,W1 = (w.drewN n).alloc (.cells (ndN key (.slice none 0 0)) 278):=⟨_,rfl⟩
  obtain ⟨W2,e2⟩:∃ W2,W2 = W1.setCell (c.hole tb) (.pointer (some ⟨w.heap.size,0,none⟩)):=⟨_,rfl⟩
  have HP:=Lib.hid (put_nil n h.out.1 HT.out.2 HV.out e1 e2)
  obtain ⟨k1,k2,k3,-,-,-⟩:=nil_cx n h.out.1 HT.out.2 e1 e2
  have m1:=cx_hole k1
  have m2:=(cx_hole k2).1
  have d1:=k3.c 1
  have d2:W2.frozen? ⟨w.heap.size,1,none⟩ = false:=k3.f
  rw [eh] at m1 m2 e2
  obtain ⟨m1,m3⟩:=m1
  have c1:(w.drewN n).cell? ⟨b,o,none⟩ = some (.pointer none):=h1.1
  subst e2
  subst e1
  clear h1 HS k1 k2 k3 h
  go_wp2_with fail
  go_end0
  exact ⟨rfl,_,HP⟩
 | node x k u qq l r =>
  have c1:(w.drewN n).cell? ⟨b,o,none⟩ = some (.pointer (some ⟨x,0,none⟩)):=h1.1
  have d1:(w.drewN n).cell? ⟨x,1,none⟩ = some u:=(h.out.1.tr.1.c 1).trans rfl
  have d2:(w.drewN n).frozen? ⟨x,1,none⟩ = false:=h.out.1.tr.1.f
  clear h1 HS
  go_wp2_with fail
  go_end0
  exact ⟨rfl,_,Lib.hid (put_node n h.out.1 h.out.2 HT.out.2 HV.out)⟩

def Tr.fst:Tr → Option (Int × Value × List Int)
 | .nil=>none
 | .node _ k v q l _=>match l.fst with
  | none=>some (k,v,q)
  | some x=>some x
theorem fst_rows:∀ t:Tr,t.rows.head? = t.fst.map (fun x=>(x.1,x.2.2))
 | .nil=>rfl
 | .node a k v q l r=>by
  have h:=fst_rows l
  unfold Tr.fst
  cases e:l.fst with
  | none =>
   rw [e] at h
   have hn:l.rows = []:=List.head?_eq_none_iff.1 h
   simp [Tr.rows,hn]
  | some x =>
   rw [e] at h
   simp only [Tr.rows]
   rw [List.head?_append,h]
   rfl
theorem fst_vals:∀ t:Tr,t.vals.head? = t.fst.map (fun x=>x.2.1)
 | .nil=>rfl
 | .node a k v q l r=>by
  have h:=fst_vals l
  unfold Tr.fst
  cases e:l.fst with
  | none =>
   rw [e] at h
   have hn:l.vals = []:=List.head?_eq_none_iff.1 h
   simp [Tr.vals,hn]
  | some x =>
   rw [e] at h
   simp only [Tr.vals]
   rw [List.head?_append,h]
   rfl
theorem fst_in {W:World}:∀ {t:Tr},TrIn W t → ∀ x,t.fst = some x → W.ownsRow 0 35 1 x.2.1 x.2.2.length (idV x.2.2)
 | .nil,_,x,h=>(by cases h)
 | .node a k v q l r,h,x,hx=>by
  unfold Tr.fst at hx
  cases e:l.fst with
  | none=>rw [e] at hx;cases hx;exact h.2.1
  | some y=>rw [e] at hx;cases hx;exact fst_in h.2.2.1 _ e
def fstV:Option (Int × Value × List Int) → Value
 | none=>.tuple #[.slice none 0 0,.bool false]
 | some x=>.tuple #[x.2.1,.bool true]
theorem fst_down {a:Nat} {k:Int} {v:Value} {q:List Int} {l r:Tr} (h:l ≠ .nil):(Tr.node a k v q l r).fst = l.fst:=by
 cases l with
 | nil=>exact absurd rfl h
 | node a' k' v' q' l' r' =>
  show (match (Tr.node a' k' v' q' l' r').fst with | none=>some (k,v,q) | some x=>some x) = (Tr.node a' k' v' q' l' r').fst
  cases e:(Tr.node a' k' v' q' l' r').fst with
  | none=>simp only [Tr.fst] at e;split at e <;> cases e
  | some x=>rfl
def FiJ (w:World) (T:Tr) (n:Nat) (a:Act) (w':World):Prop :=
 ∃ x k v q l r,(Tr.node x k v q l r).size = n∧(Tr.node x k v q l r).fst = T.fst∧Hid (TrIn w (.node x k v q l r))∧w = w'∧∃ u0 u1 u2 u3 u5 u6 u7 u8 u9 u10 u11 u12 u13 u14 u15 u16 u17 u18 u19 u20 u21 u22 u23 u24,a = ⟨#[u0,u1,u2,u3,.pointer (some ⟨x,0,none⟩),u5,u6,u7,u8,u9,u10,u11,u12,u13,u14,u15,u16,u17,u18,u19,u20,u21,u22,u23,u24],[]⟩
theorem tFirst_c (tb sb:Nat) (T:Tr) (w:World) (hc:CxIn w tb sb .top T.ptr) (ht:TrIn w T) :
  Calls Tryz.prog 213 #[.pointer (some ⟨tb,0,none⟩)] w fun e w'=>e = .returned (fstV T.fst)∧w = w':=by
 have k1:=(cx_hole hc).1
 have HT:=Lib.hid ht
 clear hc ht
 cases T with
 | nil =>
  have k1':w.cell? ⟨tb,1,none⟩ = some (.pointer none):=k1
  clear k1
  go_enter Tryz.func213,Tryz.ntmps213
  go_wp2_with fail
  refine scope_ghost 0 (fun _ _ _=>False) rfl (fun hp=>?_) (fun _ _ _ h=>h.elim)
  go_wp2_with fail
  show bodyPost Tryz.prog Tryz.f213 (fun e w'=>e = .returned (fstV Tr.nil.fst)∧w = w') Exit.ret _ _
  go_ret2
  exact ⟨rfl,rfl⟩
 | node x k v q l r =>
  have k1':w.cell? ⟨tb,1,none⟩ = some (.pointer (some ⟨x,0,none⟩)):=k1
  clear k1
  go_enter Tryz.func213,Tryz.ntmps213
  go_wp2_with fail
  refine scope_ghost 0 (FiJ w (.node x k v q l r)) rfl ?_ ?_
  ·intro hp
   go_wp2_with fail
   go_step3
   rename_i K hK
   refine hK _ _ (hp _ _ _ ⟨x,k,v,q,l,r,rfl,rfl,HT,rfl,?_⟩)
   exact ⟨_,_,_,_,_,_,_,_,_,_,_,_,_,_,_,_,_,_,_,_,_,_,_,_,rfl⟩
  ·clear k1' HT
   obtain ⟨F,hF⟩:∃ F,F = (Tr.node x k v q l r).fst:=⟨_,rfl⟩
   rintro n a w' ⟨y,j,u,p,l',r',rfl,e,HI,rfl,u0,u1,u2,u3,u5,u6,u7,u8,u9,u10,u11,u12,u13,u14,u15,u16,u17,u18,u19,u20,u21,u22,u23,u24,rfl⟩
   have hx:=HI.out.1
   have d1:w.cell? ⟨y,1,none⟩ = some u:=(hx.c 1).trans rfl
   have d2:w.cell? ⟨y,2,none⟩ = some l'.ptr:=(hx.c 2).trans rfl
   clear hx
   cases l' with
   | nil =>
    have d2':w.cell? ⟨y,2,none⟩ = some (.pointer none):=d2
    clear d2
    go_wp2_with fail
    show bodyPost Tryz.prog Tryz.f213 (fun e w'=>e = .returned (fstV (Tr.node x k v q l r).fst)∧w = w') Exit.ret _ _
    go_ret2
    rw [← e]
    exact ⟨rfl,rfl⟩
   | node y2 j2 u2 p2 l2 r2 =>
    have d2':w.cell? ⟨y,2,none⟩ = some (.pointer (some ⟨y2,0,none⟩)):=d2
    clear d2
    go_wp2_with fail
    go_step3
    refine ⟨rfl,_,?_,y2,j2,u2,p2,l2,r2,rfl,(fst_down (by intro h;cases h)).symm.trans e,Lib.hid HI.out.2.2.1,rfl,_,_,_,_,_,_,_,_,_,_,_,_,_,_,_,_,_,_,_,_,_,_,_,_,rfl⟩
    simp only [Tr.size]
    omega

def CtIn (W:World):Cx → Value → Prop
 | .top,p=>True
 | .left a key v q r c,p=>Cl 278 W a #[.int .i64 key,v,p,r.ptr]∧W.ownsRow 0 35 1 v q.length (idV q)∧TrIn W r∧CtIn W c (.pointer (some ⟨a,0,none⟩))
 | .right a key v q l c,p=>Cl 278 W a #[.int .i64 key,v,l.ptr,p]∧W.ownsRow 0 35 1 v q.length (idV q)∧TrIn W l∧CtIn W c (.pointer (some ⟨a,0,none⟩))
theorem plug_out {W:World}:∀ {c:Cx} {t:Tr},TrIn W (c.plug t) → CtIn W c t.ptr∧TrIn W t
 | .top,t,h=>⟨trivial,h⟩
 | .left a key v q r c,t,h=>by
  obtain ⟨h1,h2⟩:=plug_out (c:=c) h
  exact ⟨⟨h2.1,h2.2.1,h2.2.2.2,h1⟩,h2.2.2.1⟩
 | .right a key v q l c,t,h=>by
  obtain ⟨h1,h2⟩:=plug_out (c:=c) h
  exact ⟨⟨h2.1,h2.2.1,h2.2.2.1,h1⟩,h2.2.2.2⟩
theorem plug_in2 {W:World}:∀ {c:Cx} {t:Tr},CtIn W c t.ptr → TrIn W t → TrIn W (c.plug t)
 | .top,t,h,k=>k
 | .left a key v q r c,t,h,k=>plug_in2 (c:=c) (t:=.node a key v q t r) h.2.2.2 ⟨h.1,h.2.1,k,h.2.2.1⟩
 | .right a key v q l c,t,h,k=>plug_in2 (c:=c) (t:=.node a key v q l t) h.2.2.2 ⟨h.1,h.2.1,h.2.2.1,k⟩
theorem CtIn.fr {S:Nat → Prop} {W W':World} (hf:Fr S W W'):∀ {c:Cx} {p:Value},CtIn W c p → (∀ b ∈ c.blks,¬ S b) → (∀ v ∈ c.vals,∀ k,v.ownBlock = some k → ¬ S k) → CtIn W' c p
 | .top,p,h,_,_=>trivial
 | .left a key v q r c,p,h,hb,hv=>by
  refine ⟨hf.blk h.1 (hb a (by simp [Cx.blks])),own_fr h.2.1 hf (hv v (by simp [Cx.vals])),TrIn.fr hf h.2.2.1 (fun b hb'=>hb b (by simp [Cx.blks,hb'])) (fun v hv'=>hv v (by simp [Cx.vals,hv'])),CtIn.fr hf h.2.2.2 (fun b hb'=>hb b (by simp [Cx.blks,hb'])) (fun v hv'=>hv v (by simp [Cx.vals,hv']))⟩
 | .right a key v q l c,p,h,hb,hv=>by
  refine ⟨hf.blk h.1 (hb a (by simp [Cx.blks])),own_fr h.2.1 hf (hv v (by simp [Cx.vals])),TrIn.fr hf h.2.2.1 (fun b hb'=>hb b (by simp [Cx.blks,hb'])) (fun v hv'=>hv v (by simp [Cx.vals,hv'])),CtIn.fr hf h.2.2.2 (fun b hb'=>hb b (by simp [Cx.blks,hb'])) (fun v hv'=>hv v (by simp [Cx.vals,hv']))⟩
theorem CtIn.ne {W:World} {g:Nat} {cs:Array Value} {T:TypeId} (hg:W.heap[g]? = some (.cells cs T (0,0))) (hT:35 ≠ T):∀ {c:Cx} {p:Value},CtIn W c p → ∀ v ∈ c.vals,v.ownBlock ≠ some g
 | .top,_,_,v,hv=>(by cases hv)
 | .left a key v q r c,p,h,u,hu=>by
  simp only [Cx.vals,List.mem_append,List.mem_cons] at hu
  rcases hu with rfl | hu | hu
  ·exact own_ne h.2.1 hg hT
  ·exact TrIn.ne hg hT h.2.2.1 u hu
  ·exact CtIn.ne hg hT h.2.2.2 u hu
 | .right a key v q l c,p,h,u,hu=>by
  simp only [Cx.vals,List.mem_append,List.mem_cons] at hu
  rcases hu with rfl | hu | hu
  ·exact own_ne h.2.1 hg hT
  ·exact TrIn.ne hg hT h.2.2.1 u hu
  ·exact CtIn.ne hg hT h.2.2.2 u hu
def jhole (nb:Nat):Cx → Addr
 | .top=>⟨nb,0,none⟩
 | .left a _ _ _ _ _=>⟨a,2,none⟩
 | .right a _ _ _ _ _=>⟨a,3,none⟩
theorem jhole_form (nb:Nat) (c:Cx):∃ b o,jhole nb c = ⟨b,o,none⟩:=by cases c <;> exact ⟨_,_,rfl⟩
def Cx.ro:Cx → Prop
 | .top=>True
 | .left ..=>False
 | .right _ _ _ _ _ c=>c.ro
theorem ro_post:∀ {c:Cx},c.ro → c.post = []
 | .top,_=>rfl
 | .left ..,h=>h.elim
 | .right _ _ _ _ _ c,h=>ro_post (c:=c) h
theorem ro_vals:∀ {c:Cx},c.ro → ∃ A,∀ t:Tr,(c.plug t).vals = A ++ t.vals
 | .top,_=>⟨[],fun t=>rfl⟩
 | .left ..,h=>h.elim
 | .right a key v q l c,h=>by
  obtain ⟨A,hA⟩:=ro_vals (c:=c) h
  exact ⟨A ++ (l.vals ++ [v]),fun t=>by simp [Cx.plug,hA,Tr.vals]⟩
theorem plug_ptr:∀ (c:Cx) (a:Nat) (k k':Int) (v v':Value) (q q':List Int) (l l' r r':Tr),(c.plug (.node a k v q l r)).ptr = (c.plug (.node a k' v' q' l' r')).ptr
 | .top,_,_,_,_,_,_,_,_,_,_,_=>rfl
 | .left b key u p r0 c,_,_,_,_,_,_,_,_,_,_,_=>plug_ptr c b _ _ _ _ _ _ _ _ _ _
 | .right b key u p l0 c,_,_,_,_,_,_,_,_,_,_,_=>plug_ptr c b _ _ _ _ _ _ _ _ _ _
structure JoinIs (w w':World) (L R T:Tr):Prop where
 tr:TrIn w' T
 rows:T.rows = L.rows ++ R.rows
 vals:T.vals = L.vals ++ R.vals
 blks:T.blks.Perm (L.blks ++ R.blks)
 fr:Fr (fun b=>b ∈ L.blks) w w'
structure JoI (L:Tr) (c:Cx) (t:Tr):Prop where
 eq:c.plug t = L
 ro:c.ro
theorem jo_hole {W:World} {nb:Nat} {L t:Tr} {c:Cx} (hI:JoI L c t) (hL:TrIn W L) (hb:Cl 154 W nb #[L.ptr]):W.cell? (jhole nb c) = some t.ptr∧W.frozen? (jhole nb c) = false:=by
 obtain ⟨rfl,hr⟩:=hI
 cases c with
 | top=>exact ⟨(hb.c 0).trans rfl,hb.f⟩
 | left=>exact hr.elim
 | right a key v q l c =>
  have h:=(plug_out hL).1.1
  exact ⟨(h.c 3).trans rfl,h.f⟩
theorem jo_done {w W W':World} {nb:Nat} {L R:Tr} {c:Cx} (hI:JoI L c .nil) (hL:TrIn w L) (hR:TrIn w R) (hd:(L.blks ++ R.blks).Nodup) (hn:nb = w.heap.size) (hW:W = w.alloc (.cells #[L.ptr] 154)) (hW':W' = W.setCell (jhole nb c) R.ptr) :
  JoinIs w W' L R (c.plug R)∧W'.cell? ⟨nb,0,none⟩ = some (c.plug R).ptr:=by
 have f1:Fr (fun _=>False) w W:=hW ▸ (Fr.refl (fun _=>False) w).alloc _
 have hb:Cl 154 W nb #[L.ptr]:=by rw [hW,hn];exact hd_last rfl
 have hL1:TrIn W L:=TrIn.fr f1 hL (fun _ _ h=>h) (fun _ _ _ _ h=>h)
 have hR1:TrIn W R:=TrIn.fr f1 hR (fun _ _ h=>h) (fun _ _ _ _ h=>h)
 obtain ⟨rfl,hr⟩:=hI
 have hperm:=plug_blks c .nil
 have hperm2:=plug_blks c R
 obtain ⟨A,hA⟩:=ro_vals hr
 have hrows:(c.plug R).rows = (c.plug .nil).rows ++ R.rows:=by simp [rows_plug,ro_post hr,Tr.rows]
 have hvals:(c.plug R).vals = (c.plug .nil).vals ++ R.vals:=by simp [hA,Tr.vals]
 have hblks:(c.plug R).blks.Perm ((c.plug .nil).blks ++ R.blks):=by
  refine hperm2.trans (List.perm_append_comm.trans ?_)
  exact List.Perm.append_right _ hperm.symm
 cases c with
 | top =>
  have f2:Fr (fun b=>b = nb) W W':=hW' ▸ (Fr.refl (fun b=>b = nb) W).set (p:=⟨nb,0,none⟩) (.inl rfl) _
  have hne:∀ (v:Value),v.ownBlock ≠ some nb → ∀ k,v.ownBlock = some k → ¬ k = nb:=fun v hv k hk e=>hv (by rw [hk,e])
  refine ⟨⟨TrIn.fr f2 hR1 (fun b hb' e=>?_) (fun v hv=>hne v (TrIn.ne hb (by decide) hR1 v hv)),hrows,hvals,hblks,?_⟩,?_⟩
  ·have:=TrIn.lt hR b hb'
   omega
  ·refine (f1.trans f2 (fun b hb'=>.inr (by omega))).mono (fun _ h=>h.elim)
  ·rw [hW']
   exact (Cl.c (heap_set hb) 0).trans rfl
 | left=>exact hr.elim
 | right a key v q l c =>
  have hC:=(plug_out hL1).1
  have hx:=hC.1
  have hTa:a ∈ ((Cx.right a key v q l c).plug .nil).blks:=hperm.mem_iff.2 (by simp [Cx.blks,Tr.blks])
  have f2:Fr (fun b=>b = a) W W':=hW' ▸ (Fr.refl (fun b=>b = a) W).set (p:=⟨a,3,none⟩) (.inl rfl) _
  have hne:∀ (v:Value),v.ownBlock ≠ some a → ∀ k,v.ownBlock = some k → ¬ k = a:=fun v hv k hk e=>hv (by rw [hk,e])
  have hd1:(a :: (l.blks ++ c.blks)).Nodup:=hperm.nodup_iff.1 (List.nodup_append.1 hd).1
  have hna:=(List.nodup_cons.1 hd1).1
  have hnR:a ∉ R.blks:=fun h=>(List.nodup_append.1 hd).2.2 a hTa a h rfl
  have fr:Fr (fun b=>b ∈ ((Cx.right a key v q l c).plug .nil).blks) w W':=Fr.trans (f1.mono (fun _ h=>h.elim)) f2 (fun b hb'=>.inl (by rw [hb'];exact hTa))
  have hnab:¬ nb = a:=fun e=>absurd (TrIn.lt hL a hTa) (by omega)
  refine ⟨⟨plug_in2 (c:=.right a key v q l c) ⟨?_,own_fr hC.2.1 f2 (hne v (own_ne hC.2.1 hx (by decide))),TrIn.fr f2 hC.2.2.1 (fun b hb' e=>hna (by rw [← e];exact List.mem_append_left _ hb')) (fun v hv=>hne v (TrIn.ne hx (by decide) hC.2.2.1 v hv)),CtIn.fr f2 hC.2.2.2 (fun b hb' e=>hna (by rw [← e];exact List.mem_append_right _ hb')) (fun v hv=>hne v (CtIn.ne hx (by decide) hC.2.2.2 v hv))⟩ (TrIn.fr f2 hR1 (fun b hb' e=>hnR (by rw [← e];exact hb')) (fun v hv=>hne v (TrIn.ne hx (by decide) hR1 v hv))),hrows,hvals,hblks,fr⟩,?_⟩
  ·rw [hW']
   exact (heap_set hx).trans rfl
  ·show W'.cell? ⟨nb,0,none⟩ = some (c.plug (.node a key v q l R)).ptr
   rw [plug_ptr c a key key v v q q l l R .nil]
   exact (Cl.c (f2.blk hb hnab) 0).trans rfl
def JoJ (w W:World) (L:Tr) (pl pr:Option Addr) (n:Nat) (a:Act) (w':World):Prop :=
 ∃ c t,t.size = n∧Hid (JoI L c t)∧W = w'∧∃ u3 u6 u7 u8 u9 u10 u11 u12 u13 u14 u15 u16 u17 u18,a = ⟨#[.pointer pl,.pointer pr,.pointer (some ⟨w.heap.size,0,none⟩),u3,.pointer none,.pointer (some (jhole w.heap.size c)),u6,u7,u8,u9,u10,u11,u12,u13,u14,u15,u16,u17,u18],[]⟩
theorem tJoin_c (L R:Tr) (w:World) (hL:TrIn w L) (hR:TrIn w R) (hd:(L.blks ++ R.blks).Nodup) :
  Calls Tryz.prog 225 #[L.ptr,R.ptr] w fun e w'=>∃ T,e = .returned T.ptr∧Hid (JoinIs w w' L R T):=by
 obtain ⟨W,hW⟩:∃ W,W = w.alloc (.cells #[L.ptr] 154):=⟨_,rfl⟩
 have HJ:Hid (∀ c,JoI L c .nil → JoinIs w (W.setCell (jhole w.heap.size c) R.ptr) L R (c.plug R)∧(W.setCell (jhole w.heap.size c) R.ptr).cell? ⟨w.heap.size,0,none⟩ = some (c.plug R).ptr):=Lib.hid (fun c hI=>jo_done hI hL hR hd rfl hW rfl)
 have HL:Hid (TrIn W L):=Lib.hid (TrIn.fr (hW ▸ (Fr.refl (fun _=>False) w).alloc _) hL (fun _ _ h=>h) (fun _ _ _ _ h=>h))
 have HB:Hid (Cl 154 W w.heap.size #[L.ptr]):=Lib.hid (hW ▸ hd_last rfl)
 clear hL hR hd
 obtain ⟨pl,hpl⟩:∃ p,L.ptr = .pointer p:=by cases L <;> exact ⟨_,rfl⟩
 obtain ⟨pr,hpr⟩:∃ p,R.ptr = .pointer p:=by cases R <;> exact ⟨_,rfl⟩
 rw [hpl] at HB hW
 rw [hpr] at HJ
 rw [hpl,hpr]
 go_enter Tryz.func225,Tryz.ntmps225
 go_wp2_with fail
 refine scope_ghost 0 (JoJ w W L pl pr) rfl ?_ ?_
 ·intro hp
  go_wp2_with fail
  go_step3
  rename_i K hK
  refine hK _ _ (hp _ _ _ ⟨.top,L,rfl,Lib.hid ⟨rfl,trivial⟩,hW,?_⟩)
  exact ⟨_,_,_,_,_,_,_,_,_,_,_,_,_,_,rfl⟩
 ·clear hW
  rintro n a w' ⟨c,t,rfl,HI,rfl,u3,u6,u7,u8,u9,u10,u11,u12,u13,u14,u15,u16,u17,u18,rfl⟩
  have hm:=jo_hole HI.out HL.out (by rw [hpl];exact HB.out)
  obtain ⟨b,o,eh⟩:=jhole_form w.heap.size c
  cases t with
  | nil =>
   obtain ⟨hj,hc⟩:=HJ.out c HI.out
   have Hj:=Lib.hid hj
   clear hj
   rw [eh] at hm hc Hj ⊢
   have m1:W.cell? ⟨b,o,none⟩ = some (.pointer none):=hm.1
   have m2:=hm.2
   clear hm HJ HL HB
   have HE:Hid (∃ T,Ending.returned (c.plug R).ptr = .returned T.ptr∧Hid (JoinIs w (W.setCell ⟨b,o,none⟩ (.pointer pr)) L R T)):=Lib.hid ⟨_,rfl,Hj⟩
   clear Hj
   generalize (c.plug R).ptr = P at *
   go_wp2_with fail
   show bodyPost Tryz.prog Tryz.f225 (fun e w'=>∃ T,e = .returned T.ptr∧Hid (JoinIs w w' L R T)) Exit.ret _ _
   go_ret
   exact HE.out
  | node y k v q l r =>
   rw [eh] at hm ⊢
   have m1:W.cell? ⟨b,o,none⟩ = some (.pointer (some ⟨y,0,none⟩)):=hm.1
   clear hm HJ HL HB
   go_wp2_with fail
   go_step3
   refine ⟨rfl,r.size,?_,.right y k v q l c,r,rfl,Lib.hid ⟨HI.out.eq,HI.out.ro⟩,rfl,_,_,_,_,_,_,_,_,_,_,_,_,_,_,rfl⟩
   show r.size < l.size + r.size + 1
   omega

theorem hole_cl {W:World} {tb sb:Nat} {c:Cx} {p:Value} (h:CxIn W tb sb c p):∃ cs T,W.heap[(c.hole tb).block]? = some (.cells cs T (0,0))∧35 ≠ T:=by
 cases c with
 | top=>exact ⟨_,_,h,by decide⟩
 | left=>exact ⟨_,_,h.1,by decide⟩
 | right=>exact ⟨_,_,h.1,by decide⟩
structure TDrop (w w':World) (tb sb:Nat) (s key:Int) (T T':Tr):Prop where
 cx:CxIn w' tb sb .top T'.ptr
 tr:TrIn w' T'
 srt:Srt s T'.rows
 nd:T'.blks.Nodup
 fr:Fr (fun b=>b = tb ∨ b ∈ T.blks) w w'
 bl:∀ b ∈ T'.blks,b ∈ T.blks
 rows:∃ P R Q,T.rows = P ++ R ++ Q∧T'.rows = P ++ Q∧(R = [] ∨ ∃ q0,R = [(key,q0)])∧(∀ x ∈ P,betN s x.1 key = true)∧(∀ x ∈ Q,betN s key x.1 = true)
 vals:∃ A B C,T.vals = A ++ B ++ C∧T'.vals = A ++ C∧(B = [] ∨ ∃ u,B = [u])
theorem srt_drop {s:Int} {P R Q:List Rq} (h:Srt s (P ++ R ++ Q)):Srt s (P ++ Q):=by
 unfold Srt at h ⊢
 rw [List.append_assoc,List.pairwise_append] at h
 obtain ⟨h1,h2,h3⟩:=h
 rw [List.pairwise_append] at h2
 rw [List.pairwise_append]
 exact ⟨h1,h2.2.1,fun a ha b hb=>h3 a ha b (List.mem_append_right _ hb)⟩
theorem drop_none {w:World} {tb sb:Nat} {s key:Int} {T:Tr} {c:Cx} (n:Nat) (hI:SpI w tb sb s key T c .nil) (hnd:T.blks.Nodup):TDrop w (w.drewN n) tb sb s key T T:=by
 have hT:=plug_in hI.cx hI.tr
 have hsrt:=hI.at_.srt
 obtain ⟨A,C,hv⟩:=plug_vals c
 have hrows:∃ P R Q,T.rows = P ++ R ++ Q∧T.rows = P ++ Q∧(R = [] ∨ ∃ q0,R = [(key,q0)])∧(∀ x ∈ P,betN s x.1 key = true)∧(∀ x ∈ Q,betN s key x.1 = true) :=
  ⟨c.pre,[],c.post,by rw [← hI.eq,rows_plug];simp [Tr.rows],by rw [← hI.eq,rows_plug];simp [Tr.rows],.inl rfl,hI.at_.pre,hI.at_.post⟩
 have f:Fr (fun b=>b = tb ∨ b ∈ T.blks) w (w.drewN n):=(Fr.refl _ w).drewN n
 have f0:Fr (fun _=>False) w (w.drewN n):=(Fr.refl _ w).drewN n
 rw [hI.eq] at hT hsrt
 exact ⟨CxIn.fr f0 (fun h=>h) hT.1 (fun _ _ h=>h) (fun _ _ _ _ h=>h),TrIn.fr f0 hT.2 (fun _ _ h=>h) (fun _ _ _ _ h=>h),hsrt,hnd,f,fun _ h=>h,hrows,T.vals,[],[],by simp,by simp,.inl rfl⟩
theorem drop_mid {w X w1:World} {tb sb:Nat} {s key:Int} {T:Tr} {c:Cx} {x:Nat} {k:Int} {u:Value} {qq:List Int} {l r J:Tr} (hI:SpI w tb sb s key T c (.node x k u qq l r)) (hnd:T.blks.Nodup) (hX:Fr (fun _=>False) w X) (hj:JoinIs X w1 l r J) :
  CxIn w1 tb sb c (.pointer (some ⟨x,0,none⟩))∧Cl 278 w1 x #[.int .i64 k,u,l.ptr,r.ptr]∧Fr (fun b=>b ∈ l.blks) w w1∧(l.blks ++ r.blks).Nodup∧x ∉ c.blks∧x ≠ tb∧(∀ b,(b = tb ∨ b ∈ c.blks) → b ∉ l.blks∧b ∉ r.blks):=by
 have hperm:=plug_blks c (.node x k u qq l r)
 rw [hI.eq] at hperm
 have hd:=hperm.nodup_iff.1 hnd
 have hd1:(l.blks ++ x :: r.blks).Nodup:=(List.nodup_append.1 hd).1
 have hd2:=(List.nodup_append.1 hd).2.2
 have hd3:=List.nodup_append.1 hd1
 obtain ⟨pt,ht⟩:=CxIn.tree hI.cx
 have hx:=hI.tr.1
 have hoff:∀ b ∈ l.blks ++ x :: r.blks,b ≠ tb:=fun b hb e=>by
  have hm:b ∈ (Tr.node x k u qq l r).blks:=hb
  obtain ⟨cs,h⟩:=TrIn.at_ hI.tr b hm
  exact blk_ne h ht (by decide) e
 have fr:Fr (fun b=>b ∈ l.blks) w w1:=Fr.trans (hX.mono (fun _ h=>h.elim)) hj.fr (fun b hb=>.inl hb)
 have hxl:x ∉ l.blks:=fun h=>hd3.2.2 x h x (by simp) rfl
 have hlc:∀ b ∈ c.blks,b ∉ l.blks:=fun b hb h=>hd2 b (by simp [Tr.blks,h]) b hb rfl
 have hrc:∀ b ∈ c.blks,b ∉ r.blks:=fun b hb h=>hd2 b (by simp [Tr.blks,h]) b hb rfl
 refine ⟨CxIn.fr fr (fun h=>hoff tb (by simp [h]) rfl) hI.cx hlc (fun v hv k hk h=>?_),fr.blk hx hxl,fr,?_,fun h=>hd2 x (by simp [Tr.blks]) x h rfl,hoff x (by simp),fun b hb=>?_⟩
 ·obtain ⟨cs,hc⟩:=TrIn.at_ hI.tr.2.2.1 k h
  exact CxIn.ne hc (by decide) hI.cx v hv hk
 ·rw [List.nodup_append]
  exact ⟨hd3.1,(List.nodup_cons.1 hd3.2.1).2,fun a ha b hb=>hd3.2.2 a ha b (by simp [hb])⟩
 ·rcases hb with rfl | hb
  ·exact ⟨fun h=>hoff b (by simp [h]) rfl,fun h=>hoff b (by simp [h]) rfl⟩
  ·exact ⟨hlc b hb,hrc b hb⟩
theorem drop_done {w X w1:World} {tb sb:Nat} {s key:Int} {T:Tr} {c:Cx} {x:Nat} {k:Int} {u:Value} {qq:List Int} {l r J:Tr} (hI:SpI w tb sb s key T c (.node x k u qq l r)) (hk:k = key) (hnd:T.blks.Nodup) (hX:Fr (fun _=>False) w X) (hj:JoinIs X w1 l r J) :
  TDrop w (w1.setCell (c.hole tb) J.ptr) tb sb s key T (c.plug J):=by
 obtain ⟨hc1,hx1,fr1,hlr,hxc,hxt,hoff⟩:=drop_mid hI hnd hX hj
 have hperm:=plug_blks c (.node x k u qq l r)
 rw [hI.eq] at hperm
 have hperm2:=plug_blks c J
 have hd:=hperm.nodup_iff.1 hnd
 have hcd:=(List.nodup_append.1 hd).2.1
 have hc2:=CxIn.set hc1 hcd J.ptr
 obtain ⟨cs,Tt,hcl,hT⟩:=hole_cl hc1
 have f2:Fr (fun b=>b = (c.hole tb).block) w1 (w1.setCell (c.hole tb) J.ptr):=(Fr.refl (fun b=>b = (c.hole tb).block) w1).set (p:=c.hole tb) (.inl rfl) _
 have hJl:∀ b ∈ J.blks,b ∈ l.blks ∨ b ∈ r.blks:=fun b hb=>List.mem_append.1 (hj.blks.mem_iff.1 hb)
 have hJ2:TrIn (w1.setCell (c.hole tb) J.ptr) J:=by
  refine TrIn.fr f2 hj.tr (fun b hb e=>?_) (fun v hv k hk e=>TrIn.ne hcl hT hj.tr v hv (by rw [hk,e]))
  have h:=hoff _ (hole_blk tb c)
  rw [← e] at h
  rcases hJl b hb with h1 | h1
  ·exact h.1 h1
  ·exact h.2 h1
 obtain ⟨A,C,hv⟩:=plug_vals c
 have hp:=plug_in hc2 hJ2
 have hs:=hI.at_.srt
 rw [hI.eq] at hs
 have hrows:∃ P R Q,T.rows = P ++ R ++ Q∧(c.plug J).rows = P ++ Q∧(R = [] ∨ ∃ q0,R = [(key,q0)])∧(∀ x ∈ P,betN s x.1 key = true)∧(∀ x ∈ Q,betN s key x.1 = true):=by
  subst hk
  have hs':=hs
  rw [← hI.eq,rows_plug] at hs'
  unfold Srt at hs'
  simp only [Tr.rows,List.append_assoc,List.cons_append] at hs'
  rw [List.pairwise_append] at hs'
  have h2:=hs'.2.1
  rw [List.pairwise_append] at h2
  refine ⟨c.pre ++ l.rows,[(k,qq)],r.rows ++ c.post,by rw [← hI.eq,rows_plug];simp [Tr.rows],by rw [rows_plug,hj.rows];simp,.inr ⟨qq,rfl⟩,fun x hx=>?_,fun x hx=>?_⟩
  ·rcases List.mem_append.1 hx with hx | hx
   ·exact hI.at_.pre x hx
   ·exact h2.2.2 x hx (k,qq) (by simp)
  ·exact (List.pairwise_cons.1 h2.2.1).1 x hx
 refine ⟨hp.1,hp.2,?_,?_,?_,?_,hrows,A ++ l.vals,[u],r.vals ++ C,by rw [← hI.eq,hv];simp [Tr.vals],by rw [hv,hj.vals];simp,.inr ⟨u,rfl⟩⟩
 ·obtain ⟨P,R,Q,e1,e2,_⟩:=hrows
  rw [e2]
  exact srt_drop (by rw [← e1];exact hs)
 ·refine hperm2.nodup_iff.2 ?_
  rw [List.nodup_append]
  refine ⟨hj.blks.nodup_iff.2 hlr,hcd,fun a ha b hb e=>?_⟩
  subst e
  rcases hJl a ha with h1 | h1
  ·exact (hoff a (.inr hb)).1 h1
  ·exact (hoff a (.inr hb)).2 h1
 ·refine Fr.trans (S:=fun b=>b = tb ∨ b ∈ T.blks) (fr1.mono (fun b hb=>.inl (.inr (hperm.mem_iff.2 (by simp [Tr.blks,hb]))))) f2 (fun b hb=>.inl ?_)
  subst hb
  rcases hole_blk tb c with h | h
  ·exact .inl h
  ·exact .inr (hperm.mem_iff.2 (List.mem_append_right _ h))
 ·intro b hb
  rcases List.mem_append.1 (hperm2.mem_iff.1 hb) with h | h
  ·rcases hJl b h with h | h <;> exact hperm.mem_iff.2 (by simp [Tr.blks,h])
  ·exact hperm.mem_iff.2 (List.mem_append_right _ h)
theorem tDrop_c (tb sb:Nat) (s key:Int) (T:Tr) (w:World) (hs:s = 1 ∨ s = 2) (hb:Cl 3 w sb #[.int .i64 s]) (hc:CxIn w tb sb .top T.ptr) (ht:TrIn w T) (hS:Srt s T.rows) (hnd:T.blks.Nodup) :
  Calls Tryz.prog 217 #[.pointer (some ⟨tb,0,none⟩),.int .i64 key] w fun e w'=>e = .returned (.tuple #[])∧∃ T',Hid (TDrop w w' tb sb s key T T'):=by
 have HS:=Lib.hid (spot_c tb sb s key T w (fun _=>hs) hb hc ht hS)
 have HT:=Lib.hid hnd
 clear hs hb hc ht hS hnd
 go_enter Tryz.func217,Tryz.ntmps217
 go_wp2_with fail
 ((with_reducible refine HS.out.mono ?_);rintro e w1 ⟨c,t,rfl,h,n,rfl⟩)
 obtain ⟨b,o,eh⟩:=hole_form tb c
 have h1:=cx_hole h.out.1.cx
 rw [eh] at h1 ⊢
 cases t with
 | nil =>
  have c1:(w.drewN n).cell? ⟨b,o,none⟩ = some (.pointer none):=h1.1
  clear h1 HS
  go_wp2_with fail
  go_end0
  exact ⟨rfl,T,Lib.hid (drop_none n h.out.1 HT.out)⟩
 | node x k u qq l r =>
  have c1:(w.drewN n).cell? ⟨b,o,none⟩ = some (.pointer (some ⟨x,0,none⟩)):=h1.1
  clear h1 HS
  have hX:Fr (fun _=>False) w (w.drewN n).drew:=((Fr.refl _ w).drewN n).drew
  have HX:=Lib.hid hX
  have HM:Hid (∀ w1 J,JoinIs (w.drewN n).drew w1 l r J → CxIn w1 tb sb c (.pointer (some ⟨x,0,none⟩))∧Cl 278 w1 x #[.int .i64 k,u,l.ptr,r.ptr]∧Fr (fun b=>b ∈ l.blks) w w1∧(l.blks ++ r.blks).Nodup∧x ∉ c.blks∧x ≠ tb∧(∀ b,(b = tb ∨ b ∈ c.blks) → b ∉ l.blks∧b ∉ r.blks)):=Lib.hid (fun w1 J hj=>drop_mid h.out.1 HT.out hX hj)
  have HD:Hid (∀ w1 J,JoinIs (w.drewN n).drew w1 l r J → TDrop w (w1.setCell ⟨b,o,none⟩ J.ptr) tb sb s key T (c.plug J)):=Lib.hid (fun w1 J hj=>by rw [← eh];exact drop_done h.out.1 h.out.2 HT.out hX hj)
  have HJ:Hid (Calls Tryz.prog 225 #[l.ptr,r.ptr] (w.drewN n).drew fun e w'=>∃ T,e = .returned T.ptr∧Hid (JoinIs (w.drewN n).drew w' l r T)):=Lib.hid (tJoin_c l r _ (TrIn.fr hX h.out.1.tr.2.2.1 (fun _ _ h=>h) (fun _ _ _ _ h=>h)) (TrIn.fr hX h.out.1.tr.2.2.2 (fun _ _ h=>h) (fun _ _ _ _ h=>h)) (by
   have hperm:=plug_blks c (.node x k u qq l r)
   rw [h.out.1.eq] at hperm
   have hd1:(l.blks ++ x :: r.blks).Nodup:=(List.nodup_append.1 (hperm.nodup_iff.1 HT.out)).1
   have hd3:=List.nodup_append.1 hd1
   rw [List.nodup_append]
   exact ⟨hd3.1,(List.nodup_cons.1 hd3.2.1).2,fun a ha b hb=>hd3.2.2 a ha b (by simp [hb])⟩))
  have HC:Cl 278 (w.drewN n).drew x #[.int .i64 k,u,l.ptr,r.ptr]:=hX.blk h.out.1.tr.1 (fun h=>h)
  obtain ⟨pl,hpl⟩:∃ p,l.ptr = .pointer p:=by cases l <;> exact ⟨_,rfl⟩
  obtain ⟨pr,hpr⟩:∃ p,r.ptr = .pointer p:=by cases r <;> exact ⟨_,rfl⟩
  rw [hpl,hpr] at HC HM HJ
  have HB:Hid (b = tb ∨ b ∈ c.blks):=Lib.hid (by have:=hole_blk tb c;rw [eh] at this;exact this)
  go_wp2_with fail
  refine wp_region_held_drew (S:=fun W=>Cl 278 W x #[.int .i64 k,u,.pointer pl,.pointer pr]) (by kernel_rfl) (by exact HC) (fun hHeld=>?_)
  refine tkH 0 ?_ ?_ (by assumption) ?_
  rotate_left
  ·(intro w hSw;(try dsimp only at hSw);go_simp;try with_reducible rfl)
  (try simp only [zz])
  refine tkH 1 ?_ ?_ (by assumption) ?_
  rotate_left
  ·(intro w hSw;(try dsimp only at hSw);go_simp;try with_reducible rfl)
  (try simp only [zz])
  refine tkH 2 ?_ ?_ (by assumption) ?_
  rotate_left
  ·(intro w hSw;(try dsimp only at hSw);go_simp;try with_reducible rfl)
  (try simp only [zz])
  refine tkH 3 ?_ ?_ (by assumption) ?_
  rotate_left
  ·(intro w hSw;(try dsimp only at hSw);go_simp;try with_reducible rfl)
  (try simp only [zz])
  refine tkH 4 ?_ ?_ (by assumption) ?_
  rotate_left
  ·(intro w hSw;have m1:w.cell? ⟨x,2,none⟩ = some (.pointer pl):=(Cl.c hSw 2).trans rfl;(try dsimp only at hSw);go_simp;try with_reducible rfl)
  (try simp only [zz])
  refine tkH 5 ?_ ?_ (by assumption) ?_
  rotate_left
  ·(intro w hSw;(try dsimp only at hSw);go_simp;try with_reducible rfl)
  (try simp only [zz])
  refine tkH 6 ?_ ?_ (by assumption) ?_
  rotate_left
  ·(intro w hSw;(try dsimp only at hSw);go_simp;try with_reducible rfl)
  (try simp only [zz])
  refine tkH 7 ?_ ?_ (by assumption) ?_
  rotate_left
  ·(intro w hSw;(try dsimp only at hSw);go_simp;try with_reducible rfl)
  (try simp only [zz])
  refine tkH 8 ?_ ?_ (by assumption) ?_
  rotate_left
  ·(intro w hSw;have m1:w.cell? ⟨x,3,none⟩ = some (.pointer pr):=(Cl.c hSw 3).trans rfl;(try dsimp only at hSw);go_simp;try with_reducible rfl)
  (try simp only [zz])
  refine rdH 9 (fun K hK=>?_)
  go_simp
  refine HJ.out.mono ?_
  rintro e w1 ⟨J,rfl,hj⟩
  have HDo:=Lib.hid (HD.out w1 J hj.out)
  obtain ⟨g1,g2,-,-,g3,g4,-⟩:=HM.out w1 J hj.out
  have e1:=cx_hole g1
  rw [eh] at e1
  obtain ⟨e1,e2⟩:=e1
  obtain ⟨pj,hpj⟩:∃ p,J.ptr = .pointer p:=by cases J <;> exact ⟨_,rfl⟩
  rw [hpj] at HDo ⊢
  refine hK.out _ _ (by exact g2) (fun hHeld=>?_)
  clear hK K
  (try simp only [zz])
  refine tkH 10 ?_ ?_ (by assumption) ?_
  rotate_left
  ·(intro w hSw;(try dsimp only at hSw);go_simp;try with_reducible rfl)
  (try simp only [zz])
  refine rdH 11 (fun K hK=>?_)
  go_simp
  (try go_wp2_with fail)
  refine hK.out _ _ (by exact (heap_far (a:=⟨b,o,none⟩) (fun e=>by rcases HB.out with h | h <;> first | exact g4 (e.symm.trans h) | exact g4 (e.trans h) | exact g3 (e ▸ h))).trans g2) (fun hHeld=>?_)
  clear hK K
  (try simp only [zz])
  refine wpAnyH_done (by kernel_rfl) ?_ _
  go_wp2_with fail
  go_end0
  exact ⟨rfl,_,HDo⟩

structure Sg where
 tb:Nat
 sb:Nat
 t:Tr
structure SgIn (w:World) (s:Int) (g:Sg):Prop where
 box:Cl 3 w g.sb #[.int .i64 s]
 cx:CxIn w g.tb g.sb .top g.t.ptr
 tr:TrIn w g.t
 srt:Srt s g.t.rows
 nd:g.t.blks.Nodup
theorem SgIn.fr {S:Nat → Prop} {w w':World} {s:Int} {g:Sg} (h:SgIn w s g) (hf:Fr S w w') (h1:¬ S g.sb) (h2:¬ S g.tb) (h3:∀ b ∈ g.t.blks,¬ S b) (h4:∀ v ∈ g.t.vals,∀ k,v.ownBlock = some k → ¬ S k):SgIn w' s g :=
 ⟨hf.blk h.box h1,hf.blk h.cx h2,TrIn.fr hf h.tr h3 h4,h.srt,h.nd⟩
theorem SgIn.below {w w':World} {s:Int} {g:Sg} (h:SgIn w s g) (hf:Below w.heap.size w w'):SgIn w' s g :=
 h.fr (S:=fun _=>False) (Fr.of_below hf) (fun h=>h) (fun h=>h) (fun _ _ h=>h) (fun _ _ _ _ h=>h)
theorem planted_c (s:Int) (w:World):Calls Tryz.prog 72 #[.int .i64 s] w fun e w'=>e = .returned (.pointer (some ⟨w.heap.size + 1,0,none⟩))∧Hid (SgIn w' s ⟨w.heap.size + 1,w.heap.size,.nil⟩∧Below w.heap.size w w'∧w'.heap.size = w.heap.size + 2):=by
 go_enter Tryz.func72,Tryz.ntmps72
 go_wp2_with fail
 go_ret
 refine ⟨rfl,Lib.hid ⟨⟨?_,?_,trivial,List.Pairwise.nil,List.nodup_nil⟩,((Below.refl _ _).alloc (Nat.le_refl _) _).alloc (by simp) _,by simp⟩⟩
 ·exact hd_prev (by simp) (hd_last rfl)
 ·exact hd_last (by simp)
def sidD (g1 g2:Sg):DataW Value:=.map [(.int .i64 1,.held (.pointer (some ⟨g1.tb,0,none⟩))),(.int .i64 2,.held (.pointer (some ⟨g2.tb,0,none⟩)))]
def sideP (g1 g2:Sg) (side:Int):Value:=if side = 1 then .pointer (some ⟨g1.tb,0,none⟩) else if side = 2 then .pointer (some ⟨g2.tb,0,none⟩) else .pointer none
theorem zeroP (w:World):(zeroValue 134).run Tryz.prog w = .ok (.pointer none) w:=by kernel_rfl
theorem sidD_at (g1 g2:Sg) (side:Int):(sidD g1 g2).atKey (.int .i64 side) (.held (.pointer none)) = .held (sideP g1 g2 side):=by
 unfold sideP
 by_cases e1:side = 1
 ·subst e1
  simp [sidD,DataW.atKey,Lit.sameKey]
 ·by_cases e2:side = 2
  ·subst e2
   simp [sidD,DataW.atKey,Lit.sameKey]
  ·have e1':¬ (1:Int) = side:=fun h=>e1 h.symm
   have e2':¬ (2:Int) = side:=fun h=>e2 h.symm
   simp [sidD,DataW.atKey,Lit.sameKey,e1,e2,e1',e2']
theorem look_tree {w:World} {m:Nat} {g1 g2:Sg} (h:w.ownsMap Tryz.prog 3 RV m 2 (sidD g1 g2)) (side:Int) (hs:(Lit.int .i64 side).wf = true) :
  (Instr.lookup 136 (.map (some m)) (.int .i64 side) false).run Tryz.prog w = .ok (sideP g1 g2 side) w:=by
 have hat:=sidD_at g1 g2 side
 obtain ⟨es,clock,hb,F,_,hD⟩:=h
 rw [hD] at hat
 rcases Maps.fit_look false keyI Tryz.underlying136 (zeroP w) hb F (keyOf_int_mk Tryz.underlying3 hs) with ⟨hrun,_,hz⟩ | ⟨e0,y,_,_,hrun,hR,hz,_⟩
 ·rw [hz] at hat
  replace hat:=DataW.held.inj hat
  simp only [Bool.false_eq_true,if_false] at hrun
  exact hrun.trans (congrArg (fun v=>Result.ok v w) hat)
 ·rw [hz] at hat
  unfold RV at hR
  replace hR:=Option.some.inj hR
  rw [← hR] at hat
  replace hat:=DataW.held.inj hat
  simp only [Bool.false_eq_true,if_false] at hrun
  exact hrun.trans (congrArg (fun v=>Result.ok v w) hat)
structure Gk (w:World) (b:Option Addr) (mm:Option (Nat × Nat)) (L:DataW Value) (g1 g2:Sg):Prop where
 shape:(b = none∧mm = none) ∨ ∃ p,b = some ⟨p,0,none⟩∧Cl 138 w p #[.map (mm.map Prod.fst),.map (mm.map Prod.snd)]
 om:∀ m ms,mm = some (m,ms) → w.ownsMap Tryz.prog 35 RV m 64 L
 sm:∀ m ms,mm = some (m,ms) → w.ownsMap Tryz.prog 3 RV ms 2 (sidD g1 g2)
 s1:mm.isSome = true → SgIn w 1 g1
 s2:mm.isSome = true → SgIn w 2 g2
theorem neq_omap (m:Option Nat) (w:World):(binOp .neq 133 (.map m) (.map none)).run Tryz.prog w = .ok (.bool m.isSome) w:=by
 cases m <;> kernel_rfl
theorem gMade_c (b:Option Addr) (mm:Option (Nat × Nat)) (L:DataW Value) (g1 g2:Sg) (w:World) (H:Gk w b mm L g1 g2) :
  Calls Tryz.prog 208 #[.pointer b] w fun e w'=>e = .returned (.bool mm.isSome)∧w = w':=by
 rcases H.shape with ⟨rfl,rfl⟩ | ⟨p,rfl,hp⟩
 ·clear H
  go_enter Tryz.func208,Tryz.ntmps208
  go_wp2_with fail
  go_ret
  exact ⟨rfl,rfl⟩
 ·have c0:w.cell? ⟨p,0,none⟩ = some (.map (mm.map Prod.fst)):=(hp.c 0).trans rfl
  have hn:=neq_omap (mm.map Prod.fst) w
  have he:(mm.map Prod.fst).isSome = mm.isSome:=by cases mm <;> rfl
  rw [he] at hn
  generalize mm.map Prod.fst = m at *
  generalize mm.isSome = bb at *
  clear H hp
  go_enter Tryz.func208,Tryz.ntmps208
  go_wp2_with fail
  go_ret
  exact ⟨rfl,rfl⟩
inductive SideIs (w w':World) (mm:Option (Nat × Nat)) (g1 g2:Sg) (side:Int):Sg → Prop where
 | own1:mm.isSome = true → side = 1 → w = w' → SideIs w w' mm g1 g2 side g1
 | own2:mm.isSome = true → side = 2 → w = w' → SideIs w w' mm g1 g2 side g2
 | new:(mm.isSome = false ∨ (side ≠ 1∧side ≠ 2)) → Below w.heap.size w w' → SgIn w' side ⟨w.heap.size + 1,w.heap.size,.nil⟩ → SideIs w w' mm g1 g2 side ⟨w.heap.size + 1,w.heap.size,.nil⟩
theorem sideP_none (g1 g2:Sg) (side:Int) (h:side ≠ 1∧side ≠ 2):sideP g1 g2 side = .pointer none:=by
 unfold sideP
 rw [if_neg h.1,if_neg h.2]
theorem gSide_c (b:Option Addr) (mm:Option (Nat × Nat)) (L:DataW Value) (g1 g2:Sg) (side:Int) (w:World) (hs:(Lit.int .i64 side).wf = true) (H:Gk w b mm L g1 g2) :
  Calls Tryz.prog 210 #[.pointer b,.int .i64 side] w fun e w'=>∃ g,e = .returned (.pointer (some ⟨g.tb,0,none⟩))∧Hid (SideIs w w' mm g1 g2 side g):=by
 have HM:=Lib.hid (gMade_c b mm L g1 g2 w H)
 have HP:=Lib.hid (planted_c side w)
 cases mm with
 | none =>
  have HR:Hid (∀ w',(SgIn w' side ⟨w.heap.size + 1,w.heap.size,.nil⟩∧Below w.heap.size w w'∧w'.heap.size = w.heap.size + 2) → SideIs w w' none g1 g2 side ⟨w.heap.size + 1,w.heap.size,.nil⟩):=Lib.hid (fun w' h=>.new (.inl rfl) h.2.1 h.1)
  clear H
  go_enter Tryz.func210,Tryz.ntmps210
  go_wp2_with (first | ((with_reducible refine (HM.out).mono ?_);rintro e w' ⟨rfl,rfl⟩) | ((with_reducible refine (HP.out).mono ?_);rintro e w' ⟨rfl,k⟩))
  go_ret
  exact ⟨_,rfl,Lib.hid (HR.out _ k.out)⟩
 | some mm =>
  obtain ⟨m,ms⟩:=mm
  have hl:=look_tree (H.sm m ms rfl) side hs
  rcases H.shape with ⟨_,h0⟩ | ⟨p,rfl,hp⟩
  ·cases h0
  have c1:w.cell? ⟨p,1,none⟩ = some (.map (some ms)):=(hp.c 1).trans rfl
  clear H hp
  by_cases e1:side = 1
  ·have HR:Hid (SideIs w w (some (m,ms)) g1 g2 side g1):=Lib.hid (.own1 rfl e1 rfl)
   have he:sideP g1 g2 side = .pointer (some ⟨g1.tb,0,none⟩):=by unfold sideP;rw [if_pos e1]
   rw [he] at hl
   clear HP he e1
   go_enter Tryz.func210,Tryz.ntmps210
   go_wp2_with (((with_reducible refine (HM.out).mono ?_);rintro e w' ⟨rfl,rfl⟩))
   go_ret
   exact ⟨_,rfl,HR⟩
  ·by_cases e2:side = 2
   ·have HR:Hid (SideIs w w (some (m,ms)) g1 g2 side g2):=Lib.hid (.own2 rfl e2 rfl)
    have he:sideP g1 g2 side = .pointer (some ⟨g2.tb,0,none⟩):=by unfold sideP;rw [if_neg e1,if_pos e2]
    rw [he] at hl
    clear HP he e1 e2
    go_enter Tryz.func210,Tryz.ntmps210
    go_wp2_with (((with_reducible refine (HM.out).mono ?_);rintro e w' ⟨rfl,rfl⟩))
    go_ret
    exact ⟨_,rfl,HR⟩
   ·have HR:Hid (∀ w',(SgIn w' side ⟨w.heap.size + 1,w.heap.size,.nil⟩∧Below w.heap.size w w'∧w'.heap.size = w.heap.size + 2) → SideIs w w' (some (m,ms)) g1 g2 side ⟨w.heap.size + 1,w.heap.size,.nil⟩):=Lib.hid (fun w' h=>.new (.inr ⟨e1,e2⟩) h.2.1 h.1)
    rw [sideP_none g1 g2 side ⟨e1,e2⟩] at hl
    go_enter Tryz.func210,Tryz.ntmps210
    go_wp2_with (first | ((with_reducible refine (HM.out).mono ?_);rintro e w' ⟨rfl,rfl⟩) | ((with_reducible refine (HP.out).mono ?_);rintro e w' ⟨rfl,k⟩))
    go_ret
    exact ⟨_,rfl,Lib.hid (HR.out _ k.out)⟩

abbrev Gn (w:World) (b:Option Addr):Prop:=Gk w b none (.map []) ⟨0,0,.nil⟩ ⟨0,0,.nil⟩
theorem Gn.below {w w':World} {b:Option Addr} (h:Gn w b) (hf:Below w.heap.size w w'):Gn w' b:=by
 refine ⟨?_,fun _ _ h=>(by cases h),fun _ _ h=>(by cases h),fun h=>(by cases h),fun h=>(by cases h)⟩
 rcases h.shape with ⟨h1,_⟩ | ⟨p,h1,h2⟩
 ·exact .inl ⟨h1,rfl⟩
 ·exact .inr ⟨p,h1,(hf.block _ (blk_lt h2)).trans h2⟩

theorem told_nil (b:Option Addr) (w:World) :
  Calls Tryz.prog 212 #[.pointer b,.slice none 0 0,.slice none 0 0] w fun e w'=>e = .returned (.slice none 0 0)∧w = w':=by
 go_enter Tryz.func212,Tryz.ntmps212
 go_wp2_with fail
 go_loopw [1,11] (fun v s wr=>v = .slice none 0 0∧s = .int .i64 0∧w = wr) (fun _ _ _=>0)
 case atStart=>exact ⟨rfl,rfl,rfl⟩
 case round =>
  obtain ⟨rfl,rfl,rfl⟩:=hrel
  go_wp2_with fail
  go_ret
  exact ⟨rfl,rfl⟩
theorem spot_nil {w:World} {tb sb:Nat} {s key:Int} {c:Cx} {t:Tr} (h:SpI w tb sb s key .nil c t):t = .nil:=by
 cases t with
 | nil=>rfl
 | node a k v q l r=>exact absurd h.eq (plug_ne _ _ _ _ _ _ _)
end Go.Proofs.YtikapeaodobkjaaGreat
namespace Go.Proofs.YtikapeaodobkjaaGreat
open Go.RowKit Go.Sort Go.Lib Go.Shelf


theorem info_U:(Tryz.prog.info? 35).map (fun i=>(i.zero,i.size,i.bytes)) = some (some (.int .u64 0),1,8):=by kernel_rfl
theorem size_U:(Tryz.prog.info? 35).map (·.size) = some 1:=by kernel_rfl
theorem sizeOf_U (w:World):(sizeOf 35).run Tryz.prog w = .ok 1 w:=by kernel_rfl
theorem ov_U (w:World) (g vb a b c d n m:Nat) (hne:vb ≠ g) (cs ys:Array Value) (hg:w.heap[g]? = some (.cells cs 35 (0,0))) (hv:w.heap[vb]? = some (.cells ys 35 (0,0))) (h0:0 < cs.size) :
  (callFunc 226 #[.slice (some ⟨vb,a,none⟩) n c,.slice (some ⟨g,b,none⟩) m d]).run Tryz.prog w = .ok (.value (.bool false)) w:=by
 rw [run_callFunc_extern Tryz.func226 (by kernel_rfl) (by kernel_rfl) (by kernel_rfl) (e:=Extern.SlicesOverlaps.overlaps #[124,124] #[4]) (by kernel_rfl),
  Lib.run_overlaps_apart w 124 4 35 Tryz.underlying124 1 sizeOf_U ⟨vb,a,none⟩ ⟨g,b,none⟩ n c m d hne 35 35 ys.size cs.size (by unfold World.shape?;rw [hv]) (by unfold World.shape?;rw [hg]) (by omega) (frozen_of_row _ _ _ _ _ hv) (frozen_of_row _ _ _ _ _ hv)]
 rfl
theorem insS_U (w:World) (g n c i vb:Nat) (cur ys:List Value) (hg:w.heap[g]? = some (.cells cur.toArray 35 (0,0))) (hl:cur.length = c * 1) (hc:n + 1≤c) (hi:i < n) (hcm:c≤maxLen) (hvb:vb ≠ g) (hv:w.heap[vb]? = some (.cells ys.toArray 35 (0,0))) (hy:ys.length = 1) (h1:∀ v ∈ cur.take (n * 1),v.oneCell' = true) (h2:∀ v ∈ ys,v.oneCell' = true) :
  Calls Tryz.prog 220 #[.slice (some ⟨g,0,none⟩) n c,.int .i64 i,.slice (some ⟨vb,0,none⟩) 1 1] w fun e w'=>e = .returned (.slice (some ⟨g,0,none⟩) (n + 1) c)∧Hid (InsIn w g 35 (insC cur ys n i 1) w'):=by
 have mixed:Tryz.prog.follows .mixedOrders = true:=by kernel_rfl
 have hcm':c≤9223372036854775807:=by unfold maxLen at hcm;omega
 have hov:=fun W (h:W.heap[g]? = some (.cells cur.toArray 35 (0,0))) (h':W.heap[vb]? = some (.cells ys.toArray 35 (0,0))) b n c m d=>ov_U W g vb 0 b c d n m hvb cur.toArray ys.toArray h h' (by simp;omega)
 have hov:=hov w hg hv
 have q1:¬ ((i:Int) = (n:Int)):=by omega
 have q2:¬ ((c:Int) < (n:Int) + 1):=by omega
 have q3:(0:Int)≤(i:Int) + 1:=by omega
 have q4:¬ (c = i + 1):=by omega
 have q5:¬ (c = i):=by omega
 have q6:(i:Int)≤(n:Int):=by omega
 have q7:(n:Int) + 1≤(c:Int):=by omega
 have q8:IntKind.i64.wrap ((i:Int) + 1) = (i:Int) + 1:=by rw [IntKind.wrap_i64];omega
 have q9:IntKind.i64.wrap ((n:Int) + 1) = (n:Int) + 1:=by rw [IntKind.wrap_i64];omega
 have q10:((i:Int) + 1).toNat = i + 1:=by omega
 have q11:((n:Int) + 1).toNat = n + 1:=by omega
 have q12:(i:Int)≤(n:Int) + 1:=by omega
 have q13:(i:Int) + 1≤(n:Int) + 1:=by omega
 have q14:(c:Int)≤9223372036854775807:=by omega
 have hik:(i + 1) * 1 = i * 1 + 1:=by omega
 have hni:(n - i) * 1 = n * 1 - i * 1:=by omega
 have hnk:(n + 1) * 1≤c * 1:=by omega
 obtain ⟨X,eX⟩:∃ X,X = (cur.drop (i * 1)).take ((n - i) * 1):=⟨_,rfl⟩
 have lX:X.length = (n - i) * 1:=by rw [eX,List.length_take,List.length_drop];omega
 obtain ⟨A1,e1⟩:∃ A1,A1 = (cur.take ((i + 1) * 1) ++ X ++ cur.drop ((i + 1) * 1 + X.length)):=⟨_,rfl⟩
 have l1:A1.length = c * 1:=by rw [e1];simp only [List.length_append,List.length_take,List.length_drop,lX];omega
 have e2:A1.take (i * 1) ++ ys ++ A1.drop (i * 1 + ys.length) = insC cur ys n i 1:=by rw [e1,eX];exact insC_steps (by omega) hc hl hy
 have C1:Hid (∀ ty dl dc sl sc,Nat.min sl dl = n - i → (Builtin.copy_ #[124,124] ty #[.slice (some ⟨g,i + 1,none⟩) dl dc,.slice (some ⟨g,i,none⟩) sl sc]).run Tryz.prog w.drew = .ok (goInt ((n - i:Nat):Int)) (w.drew.setRow g A1.toArray)):=Lib.hid (fun ty dl dc sl sc hm=>by
  have:=run_copyK w.drew 124 124 ty 35 1 g ((i + 1) * 1) dl dc ⟨g,i * 1,none⟩ sl sc cur.toArray 35 X Tryz.underlying124 size_U (hd_drew hg) (n - i) hm lX (fun j v hj=>by
   rw [addr_add,cell_of_row _ _ _ _ _ _ (hd_drew hg)]
   rw [eX,List.getElem?_take] at hj
   split at hj
   ·rw [List.getElem?_drop] at hj
    rw [List.getElem?_toArray];exact hj
   ·cases hj) (by rw [lX];simp only [List.size_toArray];omega) (fun v hv=>h1 v (by rw [eX,hni,← List.drop_take] at hv;exact List.mem_of_mem_drop hv))
  rw [e1]
  simp only [Nat.mul_one] at this ⊢
  exact this)
 have G1:(w.drew.setRow g A1.toArray).heap[g]? = some (.cells A1.toArray 35 (0,0)):=setRow_heap _ _ _ _ _ _ (hd_drew hg)
 have C2:Hid (∀ ty dl dc sc,Nat.min 1 dl = 1 → (Builtin.copy_ #[124,124] ty #[.slice (some ⟨g,i,none⟩) dl dc,.slice (some ⟨vb,0,none⟩) 1 sc]).run Tryz.prog (w.drew.setRow g A1.toArray) = .ok (goInt 1) ((w.drew.setRow g A1.toArray).setRow g (insC cur ys n i 1).toArray)):=Lib.hid (fun ty dl dc sc hm=>by
  have:=run_copyK (w.drew.setRow g A1.toArray) 124 124 ty 35 1 g (i * 1) dl dc ⟨vb,0,none⟩ 1 sc A1.toArray 35 ys Tryz.underlying124 size_U G1 1 hm (by omega) (fun j v hj=>by
   rw [addr_add,Nat.zero_add,cell_of_row _ _ _ _ _ _ ((setRow_other _ _ _ _ hvb).trans (hd_drew hv)),List.getElem?_toArray];exact hj) (by simp only [List.size_toArray];omega) h2
  rw [← e2]
  simp only [Nat.mul_one] at this ⊢
  exact this)
 have F:Hid (InsIn w g 35 (insC cur ys n i 1) ((w.drew.setRow g A1.toArray).setRow g (insC cur ys n i 1).toArray)):=insIn_trans (insIn_trans (insIn_drew hg) (insIn_set (hd_drew hg))) (insIn_set G1)
 clear eX lX e1 l1 e2 G1 hik hni hnk
 have HX:=Lib.hid (And.intro hl (And.intro hc (And.intro hi (And.intro hy (And.intro h1 h2)))))
 clear hg hv hl hc hy h1 h2 hcm
 go_enter Tryz.func220,Tryz.ntmps220
 go_wp2_with (simp only [hov])
 refine wp_region_held_drew (S:=fun _=>True) (by kernel_rfl) trivial (fun hHeld=>?_)
 clear hHeld
 refine tkH 0 ?_ ?_ trivial ?_
 rotate_left
 ·(intro w hSw;go_simp;try with_reducible rfl)
 (try simp only [zz])
 refine tkH 1 ?_ ?_ trivial ?_
 rotate_left
 ·(intro w hSw;go_simp;try with_reducible rfl)
 (try simp only [zz])
 refine tkH 2 ?_ ?_ trivial ?_
 rotate_left
 ·(intro w hSw;go_simp;try with_reducible rfl)
 (try simp only [zz])
 refine tkH 3 ?_ ?_ trivial ?_
 rotate_left
 ·(intro w hSw;go_simp;try with_reducible rfl)
 (try simp only [zz])
 refine tkH 4 ?_ ?_ trivial ?_
 rotate_left
 ·(intro w hSw;go_simp;try with_reducible rfl)
 (try simp only [zz])
 refine tkH 5 ?_ ?_ trivial ?_
 rotate_left
 ·(intro w hSw;go_simp;try with_reducible rfl)
 (try simp only [zz])
 refine tkH 6 ?_ ?_ trivial ?_
 rotate_left
 ·(intro w hSw;go_simp;try with_reducible rfl)
 (try simp only [zz])
 refine tkH 7 ?_ ?_ trivial ?_
 rotate_left
 ·(intro w hSw;go_simp;try with_reducible rfl)
 (try simp only [zz])
 refine rdH 8 (fun K hK=>?_)
 refine step_copy_runI rfl _ _ 124 124 rfl _ _ rfl rfl (C1.out _ _ _ _ _ (by simp only [Nat.min_def];split <;> omega)) ?_
 refine hK.out _ _ trivial (fun hHeld=>?_)
 clear hK K hHeld
 (try simp only [zz])
 refine wpAnyH_done (by kernel_rfl) ?_ _
 clear C1
 go_wp2_with fail
 rw [C2.out _ _ _ _ (by simp only [Nat.min_def];split <;> omega)]
 go_wp2_with fail
 go_ret
 exact ⟨rfl,F.out⟩
theorem insG_U (w:World) (g n i vb:Nat) (xs ys:List Value) (hg:w.heap[g]? = some (.cells xs.toArray 35 (0,0))) (hl:xs.length = n * 1) (hn:n≤1000) (hi:i < n) (hv:w.heap[vb]? = some (.cells ys.toArray 35 (0,0))) (hy:ys.length = 1) (h1:∀ v ∈ xs,v.oneCell' = true) (h2:∀ v ∈ ys,v.oneCell' = true) :
  Calls Tryz.prog 220 #[.slice (some ⟨g,0,none⟩) n n,.int .i64 i,.slice (some ⟨vb,0,none⟩) 1 1] w fun e w'=>∃ v',e = .returned v'∧Hid (w'.ownsRow w.heap.size 35 1 v' (n + 1) (xs.take (i * 1) ++ ys ++ xs.drop (i * 1))∧Below w.heap.size w w'∧v'.ownBlock = some w.heap.size):=by
 have mixed:Tryz.prog.follows .mixedOrders = true:=by kernel_rfl
 obtain ⟨i0,hi0,hz0,hz1,hz2⟩:=info_parts info_U
 have hgl:=blk_lt hg
 have hvl:=blk_lt hv
 have q0:(n:Int) < (n:Int) + 1:=by omega
 have q1:¬ ((i:Int) = (n:Int)):=by omega
 have q3:(0:Int)≤(i:Int) + 1:=by omega
 have q5:¬ (n = i):=by omega
 have q6:(i:Int)≤(n:Int):=by omega
 have q8:IntKind.i64.wrap ((i:Int) + 1) = (i:Int) + 1:=by rw [IntKind.wrap_i64];omega
 have q9:IntKind.i64.wrap ((n:Int) + 1) = (n:Int) + 1:=by rw [IntKind.wrap_i64];omega
 have q10:((i:Int) + 1).toNat = i + 1:=by omega
 have q12:(i:Int)≤(n:Int) + 1:=by omega
 have q13:(i:Int) + 1≤(n:Int) + 1:=by omega
 have q14:(n:Int)≤9223372036854775807:=by omega
 have q15:IntKind.i64.wrap ((n:Int) + 1 - (i:Int)) = ((n + 1 - i:Nat):Int):=by rw [IntKind.wrap_i64];omega
 have hik:(i + 1) * 1 = i * 1 + 1:=by omega
 have hxt:(xs.take (i * 1)).length = i * 1:=by rw [List.length_take];omega
 have hold:(Builtin.firstCells i0.size i (.slice (some ⟨g,0,none⟩) i n)).run Tryz.prog w.drew = .ok (xs.take (i * 1)).toArray w.drew:=by
  rw [hz1]
  exact run_firstCells_some w.drew 1 i ⟨g,0,none⟩ i n (xs.take (i * 1)) hxt (fun j v hj=>by
   rw [addr_add,Nat.zero_add,cell_of_row _ _ _ _ _ _ (hd_drew hg),List.getElem?_toArray]
   rw [List.getElem?_take] at hj
   split at hj
   ·exact hj
   ·cases hj)
 have hin:i + (n + 1 - i) = n + 1:=by omega
 have hrz:∀ ty,(Builtin.append_ #[124,3] ty #[.slice (some ⟨g,0,none⟩) i n,.int .i64 ((n + 1 - i:Nat):Int)]).run Tryz.prog w = .ok (.slice (some ⟨w.heap.size,0,none⟩) (n + 1) (grownCap w (n + 1) n 35)) (w.drew.alloc (.cells ((xs.take (i * 1)).toArray ++ Builtin.zeroCells ((.int .u64 0):Value).cells (n + 1 - i) ++ Builtin.zeroCells ((.int .u64 0):Value).cells (grownCap w (n + 1) n 35 - (n + 1))) 35)):=fun ty=>by
  have h:=Lib.run_append_grow_zeros w 124 3 ty 35 i0 _ .i64 .i64 Tryz.underlying124 Tryz.underlying3 hi0 hz0 (some ⟨g,0,none⟩) i n (xs.take (i * 1)) hold (n + 1 - i) (by omega) (by omega) (by omega) (by omega) (by rw [hz2];omega) (by rw [hz2,hin];exact growslice_fits (by omega) (by omega))
  rw [hin] at h
  exact h
 obtain ⟨G,hG⟩:∃ G,G = grownCap w (n + 1) n 35:=⟨_,rfl⟩
 have hGn:n + 1≤G:=by rw [hG];exact grownCap_ge w _ _ _
 have hGm:G≤maxLen:=by rw [hG];exact grownCap_le_maxLen w (n + 1) n 35 (by unfold maxLen;omega)
 have hG63:(G:Int)≤9223372036854775807:=by unfold maxLen at hGm;omega
 rw [← hG] at hrz
 obtain ⟨R,hR⟩:∃ R:List Value,R.toArray = (xs.take (i * 1)).toArray ++ Builtin.zeroCells ((.int .u64 0):Value).cells (n + 1 - i) ++ Builtin.zeroCells ((.int .u64 0):Value).cells (G - (n + 1)):=⟨_,Array.toArray_toList⟩
 rw [← hR] at hrz
 have lR:R.length = G * 1:=by
  have:=congrArg Array.size hR
  simp only [List.size_toArray,Array.size_append,hxt] at this
  simp [Builtin.zeroCells,Value.cells] at this
  omega
 have tR:R.take (i * 1) = xs.take (i * 1):=by
  have:=congrArg Array.toList hR
  rw [Array.toList_append,Array.toList_append] at this
  rw [show R = R.toArray.toList from rfl,this,List.append_assoc,List.take_append_of_le_length (by show _≤(xs.take (i * 1)).length;omega)]
  exact List.take_of_length_le (by show (xs.take (i * 1)).length≤_;omega)
 obtain ⟨R1,e1⟩:∃ R1,R1 = R.take (i * 1) ++ ys ++ R.drop (i * 1 + ys.length):=⟨_,rfl⟩
 obtain ⟨R2,e2⟩:∃ R2,R2 = R1.take ((i + 1) * 1) ++ xs.drop (i * 1) ++ R1.drop ((i + 1) * 1 + (xs.drop (i * 1)).length):=⟨_,rfl⟩
 obtain ⟨l1,l2,t2⟩:=grow_steps tR lR hGn hl hy (by omega) e1 e2
 have HW:Hid (∀ W,W = (w.alloc (.cells R.toArray 35)).drew → W.heap[w.heap.size]? = some (.cells R.toArray 35 (0,0))∧W.heap[vb]? = some (.cells ys.toArray 35 (0,0))∧W.heap[g]? = some (.cells xs.toArray 35 (0,0))∧Below w.heap.size w W):=Lib.hid (fun W hW=>by
  rw [hW]
  exact ⟨hd_drew (hd_last rfl),hd_drew (hd_prev hvl hv),hd_drew (hd_prev hgl hg),((Below.refl _ _).alloc (Nat.le_refl _) _).drew⟩)
 have ldx:(xs.drop (i * 1)).length = (n - i) * 1:=by rw [List.length_drop,hl];omega
 have C1:Hid (∀ W,W.heap[w.heap.size]? = some (.cells R.toArray 35 (0,0)) → W.heap[vb]? = some (.cells ys.toArray 35 (0,0)) → ∀ ty dl dc sc,Nat.min 1 dl = 1 → (Builtin.copy_ #[124,124] ty #[.slice (some ⟨w.heap.size,i,none⟩) dl dc,.slice (some ⟨vb,0,none⟩) 1 sc]).run Tryz.prog W = .ok (goInt 1) (W.setRow w.heap.size R1.toArray)):=Lib.hid (fun W k1 k2 ty dl dc sc hm=>by
  have:=run_copyK W 124 124 ty 35 1 w.heap.size (i * 1) dl dc ⟨vb,0,none⟩ 1 sc R.toArray 35 ys Tryz.underlying124 size_U k1 1 hm (by omega) (fun j v hj=>by
   rw [addr_add,Nat.zero_add,cell_of_row _ _ _ _ _ _ k2,List.getElem?_toArray];exact hj) (by simp only [List.size_toArray];omega) h2
  rw [e1]
  simp only [Nat.mul_one] at this ⊢
  exact this)
 have C2:Hid (∀ W,W.heap[w.heap.size]? = some (.cells R1.toArray 35 (0,0)) → W.heap[g]? = some (.cells xs.toArray 35 (0,0)) → ∀ ty dl dc sl sc,Nat.min sl dl = n - i → (Builtin.copy_ #[124,124] ty #[.slice (some ⟨w.heap.size,i + 1,none⟩) dl dc,.slice (some ⟨g,i,none⟩) sl sc]).run Tryz.prog W = .ok (goInt ((n - i:Nat):Int)) (W.setRow w.heap.size R2.toArray)):=Lib.hid (fun W k1 k2 ty dl dc sl sc hm=>by
  have:=run_copyK W 124 124 ty 35 1 w.heap.size ((i + 1) * 1) dl dc ⟨g,i * 1,none⟩ sl sc R1.toArray 35 (xs.drop (i * 1)) Tryz.underlying124 size_U k1 (n - i) hm ldx (fun j v hj=>by
   rw [addr_add,cell_of_row _ _ _ _ _ _ k2,List.getElem?_toArray]
   rw [List.getElem?_drop] at hj
   exact hj) (by simp only [List.size_toArray];omega) (fun v hv=>h1 v (List.mem_of_mem_drop hv))
  rw [e2]
  simp only [Nat.mul_one] at this ⊢
  exact this)
 have HE:=Lib.hid (And.intro l2 (And.intro t2 (And.intro hGn hGm)))
 have HX:=Lib.hid (And.intro hgl hy)
 have HXL:=Lib.hid (show (xs.take (i * 1) ++ ys ++ xs.drop (i * 1)).length = (n + 1) * 1 by simp only [List.length_append,hxt,hy,ldx];omega)
 have q16:¬ (G = i):=by omega
 have q17:¬ (G = i + 1):=by omega
 clear e1 e2 l1 l2 t2 tR lR hR hG hold hin hg hv hl hy hz0 hz1 hz2 hi0 hGn hGm ldx hxt h1 h2 hik
 go_enter Tryz.func220,Tryz.ntmps220
 go_wp2_with (at_builtin;refine Lib.wpList_append_run _ rfl _ _ _ _ rfl _ _ rfl rfl _ _ (hrz _) ?_)
 clear hrz
 generalize hW1:World.drew (w.alloc (.cells R.toArray 35)) = W1
 obtain ⟨k1,k2,k3,k4⟩:=HW.out W1 hW1.symm
 have K:=Lib.hid (And.intro k1 (And.intro k2 (And.intro k3 k4)))
 clear hW1 HW k1 k2 k3 k4
 rw [C1.out W1 K.out.1 K.out.2.1 _ _ _ _ (by simp only [Nat.min_def];split <;> omega)]
 go_wp2_with fail
 refine wp_region_held_drew (S:=fun _=>True) (by kernel_rfl) trivial (fun hHeld=>?_)
 clear hHeld
 refine tkH 0 ?_ ?_ trivial ?_
 rotate_left
 ·(intro w hSw;go_simp;try with_reducible rfl)
 (try simp only [zz])
 refine tkH 1 ?_ ?_ trivial ?_
 rotate_left
 ·(intro w hSw;go_simp;try with_reducible rfl)
 (try simp only [zz])
 refine tkH 2 ?_ ?_ trivial ?_
 rotate_left
 ·(intro w hSw;go_simp;try with_reducible rfl)
 (try simp only [zz])
 refine tkH 3 ?_ ?_ trivial ?_
 rotate_left
 ·(intro w hSw;go_simp;try with_reducible rfl)
 (try simp only [zz])
 refine tkH 4 ?_ ?_ trivial ?_
 rotate_left
 ·(intro w hSw;go_simp;try with_reducible rfl)
 (try simp only [zz])
 refine tkH 5 ?_ ?_ trivial ?_
 rotate_left
 ·(intro w hSw;go_simp;try with_reducible rfl)
 (try simp only [zz])
 refine tkH 6 ?_ ?_ trivial ?_
 rotate_left
 ·(intro w hSw;go_simp;try with_reducible rfl)
 (try simp only [zz])
 refine tkH 7 ?_ ?_ trivial ?_
 rotate_left
 ·(intro w hSw;go_simp;try with_reducible rfl)
 (try simp only [zz])
 have G1:(W1.setRow w.heap.size R1.toArray).drew.heap[w.heap.size]? = some (.cells R1.toArray 35 (0,0)):=hd_drew (setRow_heap _ _ _ _ _ _ K.out.1)
 have G2:(W1.setRow w.heap.size R1.toArray).drew.heap[g]? = some (.cells xs.toArray 35 (0,0)):=hd_drew ((setRow_other _ _ _ _ (by have:=HX.out.1;omega)).trans K.out.2.2.1)
 refine rdH 8 (fun K hK=>?_)
 refine step_copy_runI rfl _ _ 124 124 rfl _ _ rfl rfl (C2.out _ G1 G2 _ _ _ _ _ (by simp only [Nat.min_def];split <;> omega)) ?_
 refine hK.out _ _ trivial (fun hHeld=>?_)
 clear hK K hHeld
 (try simp only [zz])
 refine wpAnyH_done (by kernel_rfl) ?_ _
 have F:Hid (((W1.setRow w.heap.size R1.toArray).drew.setRow w.heap.size R2.toArray).ownsRow w.heap.size 35 1 (.slice (some ⟨w.heap.size,0,none⟩) (n + 1) G) (n + 1) (xs.take (i * 1) ++ ys ++ xs.drop (i * 1))∧Below w.heap.size w ((W1.setRow w.heap.size R1.toArray).drew.setRow w.heap.size R2.toArray)):=by
  refine ⟨⟨HXL.out,.inr ⟨w.heap.size,G,R2.toArray,rfl,Nat.le_refl _,setRow_heap _ _ _ _ _ _ G1,HE.out.2.2.1,HE.out.2.2.2,by rw [List.size_toArray];exact HE.out.1,HE.out.2.1⟩⟩,?_⟩
  exact below_setRow ((below_setRow K.out.2.2.2 (Nat.le_refl _) _).drew) (Nat.le_refl _) _
 clear G1 G2 C1 C2 K HE HXL HX
 go_wp2_with fail
 go_ret
 exact ⟨_,rfl,F.out.1,F.out.2,rfl⟩
end Go.Proofs.YtikapeaodobkjaaGreat
namespace Go.Proofs.YtikapeaodobkjaaGreat
open Go.RowKit Go.Shelf Go.Sort Go.Maps Go.Lib

attribute [local go_sem] Oper.semAt_some

theorem room_of_none {F:Fence} (hd:F.depth = none) (k:Nat):F.room k:=fun d h=>by rw [hd] at h;cases h
theorem yield_any {F:Fence} (hd:F.depth = none) {m:Nat} (m':Nat) {P:Program} {l:Nat} {args:Array Value} {W:World} {R:Ending → World → Prop} (h:YieldAt F m P l args W R):YieldAt F m' P l args W R:=by
 obtain ⟨fn,tmps,assign,body,hy,hR⟩:=h
 exact ⟨fn,tmps,assign,body,hy,hR.1,fun c cs _=>hR.2 c cs (room_of_none hd _)⟩
theorem trwalk_in (ll:Nat) (S:Nat → Prop) (N:Nat) (I:Int × Value → Prop) (J Jx:List (Int × Value) → World → Prop)
  (hJd:∀ pre W,J pre W → J pre W.drew) (hY:∀ m pre x W,J pre W → pre.length < N → I x → YieldAt Fence.wide m Tryz.prog ll #[.int .i64 x.1,x.2] W fun e W' =>
   (e = .returned (.bool true)∧J (pre ++ [x]) W'∧Fr S W W') ∨ (e = .returned (.bool false)∧Jx (pre ++ [x]) W')) (T:Tr) :
  ∀ (n:Nat) (pre:List (Int × Value)) (W:World),TrIn W T → (∀ b ∈ T.blks,¬ S b) → (∀ v ∈ T.vals,∀ k,v.ownBlock = some k → ¬ S k) → (∀ x ∈ T.items,I x) → J pre W → pre.length + T.items.length≤N →
   CallsIn Fence.wide n Tryz.prog 222 #[T.ptr,.func (.yield ll) #[] #[]] W fun e W' =>
    (e = .returned (.bool true)∧J (pre ++ T.items) W'∧Fr S W W') ∨ (e = .returned (.bool false)∧∃ q,q <+: T.items∧Jx (pre ++ q) W'):=by
 have mixed:Tryz.prog.follows .mixedOrders = true:=by kernel_rfl
 induction T with
 | nil =>
  intro n pre W ht _ _ _ hJ _
  show CallsIn Fence.wide n Tryz.prog 222 #[.pointer none,.func (.yield ll) #[] #[]] W _
  refine callsIn_of_wp Tryz.func222 rfl trivial ?_ rfl
  simp only [Tryz.ntmps222,List.size_toArray,List.length_cons,List.length_nil,Nat.reduceAdd,Nat.reduceSub,Array.replicate_succ,Array.replicate_zero,List.push_toArray,List.append_toArray,List.nil_append,List.cons_append]
  clear hY
  have HE:Hid (J (pre ++ Tr.nil.items) W.drew):=Lib.hid (by rw [show pre ++ Tr.nil.items = pre from List.append_nil pre];exact hJd _ _ hJ)
  clear hJd hJ
  gi_wp2_with fail
  refine wpIn_region_any mixed ?_
  (try (change wpAnyIn _ _ _ _ _ _ _ _ _ (World.drew _)))
  refine tkI 0 ?_ ?_ ?_
  rotate_left
  ·(intro w;go_simp;try with_reducible rfl)
  (try simp only [zz])
  refine tkI 1 ?_ ?_ ?_
  rotate_left
  ·(intro w;go_simp;try with_reducible rfl)
  (try simp only [zz])
  refine tkI 2 ?_ ?_ ?_
  rotate_left
  ·(intro w;go_simp;try with_reducible rfl)
  (try simp only [zz])
  refine tkU 3 ?_
  (try simp only [zz])
  refine tkU 4 ?_
  (try simp only [zz])
  refine tkU 5 ?_
  (try simp only [zz])
  refine tkU 6 ?_
  (try simp only [zz])
  refine tkU 7 ?_
  (try simp only [zz])
  refine wpAnyIn_ready (rs:=[8]) (by kernel_rfl) (by simp) ?_
  refine AllReadyIn.cons (o:=⟨some 13,_,_,_,_,_⟩) rfl (fun K hK=>?_) AllReadyIn.nil
  go_simp
  refine ⟨trivial,?_⟩
  refine hK _ _ ?_
  clear hK K
  (try simp only [zz])
  refine tkU 9 ?_
  (try simp only [zz])
  refine tkU 10 ?_
  (try simp only [zz])
  refine tkU 11 ?_
  (try simp only [zz])
  refine tkU 12 ?_
  (try simp only [zz])
  refine tkU 13 ?_
  (try simp only [zz])
  refine tkU 14 ?_
  (try simp only [zz])
  refine tkU 15 ?_
  (try simp only [zz])
  refine tkU 16 ?_
  (try simp only [zz])
  refine tkU 17 ?_
  (try simp only [zz])
  refine tkU 18 ?_
  (try simp only [zz])
  refine wpAnyIn_ready (rs:=[19]) (by kernel_rfl) (by simp) ?_
  refine AllReadyIn.cons (o:=⟨some 24,_,_,_,_,_⟩) rfl (fun K hK=>?_) AllReadyIn.nil
  go_simp
  (try refine ⟨fun _ h=>(by cases h),?_⟩)
  refine hK _ _ ?_
  clear hK K
  (try simp only [zz])
  refine tkU 20 ?_
  (try simp only [zz])
  refine tkU 21 ?_
  (try simp only [zz])
  refine tkU 22 ?_
  (try simp only [zz])
  refine tkU 23 ?_
  (try simp only [zz])
  refine tkU 24 ?_
  (try simp only [zz])
  refine tkU 25 ?_
  (try simp only [zz])
  refine tkU 26 ?_
  (try simp only [zz])
  refine wpAnyIn_ready (rs:=[27]) (by kernel_rfl) (by simp) ?_
  refine AllReadyIn.cons (o:=⟨some 32,_,_,_,_,_⟩) rfl (fun K hK=>?_) AllReadyIn.nil
  go_simp
  refine ⟨trivial,?_⟩
  refine hK _ _ ?_
  clear hK K
  (try simp only [zz])
  refine tkU 28 ?_
  (try simp only [zz])
  refine tkI 29 ?_ ?_ ?_
  rotate_left
  ·(intro w;go_simp;try with_reducible rfl)
  (try simp only [zz])
  refine tkI 30 ?_ ?_ ?_
  rotate_left
  ·(intro w;go_simp;try with_reducible rfl)
  (try simp only [zz])
  refine wpAnyIn_done (by kernel_rfl) ?_ _
  gi_wp2_with fail
  go_ret
  exact .inl ⟨rfl,HE.out,(Fr.refl S W).drew⟩
 | node a k v q l r ihl ihr =>
  intro n pre W ht hb hv hIt hJ hN
  have hitems:(Tr.node a k v q l r).items = l.items ++ (k,v) :: r.items:=rfl
  rw [hitems] at hN ⊢
  simp only [List.length_append,List.length_cons] at hN
  have f0:Fr S W W.drew:=(Fr.refl S W).drew
  have ht0:TrIn W.drew (.node a k v q l r):=TrIn.fr f0 ht hb hv
  have hbl:∀ b ∈ l.blks,¬ S b:=fun b h=>hb b (by simp [Tr.blks,h])
  have hbr:∀ b ∈ r.blks,¬ S b:=fun b h=>hb b (by simp [Tr.blks,h])
  have hvl:∀ u ∈ l.vals,∀ k,u.ownBlock = some k → ¬ S k:=fun u h=>hv u (by simp [Tr.vals,h])
  have hvr:∀ u ∈ r.vals,∀ k,u.ownBlock = some k → ¬ S k:=fun u h=>hv u (by simp [Tr.vals,h])
  have HL:=Lib.hid (ihl (n - 1) pre W.drew ht0.2.2.1 hbl hvl (fun x hx=>hIt x (by unfold Tr.items;exact List.mem_append_left _ hx)) (hJd _ _ hJ) (by omega))
  have HC:Hid (∀ W1,Fr S W.drew W1 → W1.cell? ⟨a,0,none⟩ = some (.int .i64 k)∧W1.cell? ⟨a,1,none⟩ = some v∧W1.cell? ⟨a,3,none⟩ = some r.ptr∧TrIn W1 r):=Lib.hid (fun W1 hf=>by
   have h:=TrIn.fr hf ht0 hb hv
   exact ⟨(h.1.c 0).trans rfl,(h.1.c 1).trans rfl,(h.1.c 3).trans rfl,h.2.2.2⟩)
  have HR:Hid (∀ W1,TrIn W1 r → J (pre ++ l.items ++ [(k,v)]) W1 → CallsIn Fence.wide (n - 1) Tryz.prog 222 #[r.ptr,.func (.yield ll) #[] #[]] W1 fun e W' =>
    (e = .returned (.bool true)∧J (pre ++ l.items ++ [(k,v)] ++ r.items) W'∧Fr S W1 W') ∨ (e = .returned (.bool false)∧∃ q,q <+: r.items∧Jx (pre ++ l.items ++ [(k,v)] ++ q) W')):=Lib.hid (fun W1 h1 h2=>ihr (n - 1) _ W1 h1 hbr hvr (fun x hx=>hIt x (by unfold Tr.items;exact List.mem_append_right _ (List.mem_cons_of_mem _ hx))) h2 (by simp;omega))
  have HY:Hid (∀ W1,J (pre ++ l.items) W1 → YieldAt Fence.wide (n - 1) Tryz.prog ll #[.int .i64 k,v] W1 fun e W' =>
   (e = .returned (.bool true)∧J (pre ++ l.items ++ [(k,v)]) W'∧Fr S W1 W') ∨ (e = .returned (.bool false)∧Jx (pre ++ l.items ++ [(k,v)]) W')):=Lib.hid (fun W1 h=>hY (n - 1) _ (k,v) W1 h (by simp;omega) (hIt (k,v) (by unfold Tr.items;simp)))
  have c2:W.drew.cell? ⟨a,2,none⟩ = some l.ptr:=(ht0.1.c 2).trans rfl
  obtain ⟨pl,hpl⟩:∃ p,l.ptr = .pointer p:=by cases l <;> exact ⟨_,rfl⟩
  obtain ⟨pr,hpr⟩:∃ p,r.ptr = .pointer p:=by cases r <;> exact ⟨_,rfl⟩
  obtain ⟨va,vc,rfl,_⟩:=own_que2 ht.2.1
  rw [hpl] at c2 HL
  rw [hpr] at HC HR
  clear ihl ihr hY hIt ht hb hv hJ hN ht0 hbl hbr hvl hvr hJd f0
  show CallsIn Fence.wide n Tryz.prog 222 #[.pointer (some ⟨a,0,none⟩),.func (.yield ll) #[] #[]] W _
  refine callsIn_of_wp Tryz.func222 rfl trivial ?_ rfl
  simp only [Tryz.ntmps222,List.size_toArray,List.length_cons,List.length_nil,Nat.reduceAdd,Nat.reduceSub,Array.replicate_succ,Array.replicate_zero,List.push_toArray,List.append_toArray,List.nil_append,List.cons_append]
  gi_wp2_with fail
  refine wpIn_region_any mixed ?_
  (try (change wpAnyIn _ _ _ _ _ _ _ _ _ (World.drew _)))
  refine tkI 0 ?_ ?_ ?_
  rotate_left
  ·(intro w;go_simp;try with_reducible rfl)
  (try simp only [zz])
  refine tkI 1 ?_ ?_ ?_
  rotate_left
  ·(intro w;go_simp;try with_reducible rfl)
  (try simp only [zz])
  refine tkI 2 ?_ ?_ ?_
  rotate_left
  ·(intro w;go_simp;try with_reducible rfl)
  (try simp only [zz])
  refine tkI 3 ?_ ?_ ?_
  rotate_left
  ·(intro w;go_simp;try with_reducible rfl)
  (try simp only [zz])
  refine tkI 4 ?_ ?_ ?_
  rotate_left
  ·(intro w;go_simp;try with_reducible rfl)
  (try simp only [zz])
  refine tkI 5 ?_ ?_ ?_
  rotate_left
  ·(intro w;go_simp;try with_reducible rfl)
  (try simp only [zz])
  refine tkI 7 ?_ ?_ ?_
  rotate_left
  ·(intro w;go_simp;try with_reducible rfl)
  (try simp only [zz])
  refine wpAnyIn_ready (rs:=[6]) (by kernel_rfl) (by simp) ?_
  refine AllReadyIn.cons (o:=⟨some 11,_,_,_,_,_⟩) rfl (fun K hK=>?_) AllReadyIn.nil
  go_simp
  (try go_simp)
  refine hK _ _ ?_
  clear hK K
  (try simp only [zz])
  refine wpAnyIn_ready (rs:=[8]) (by kernel_rfl) (by simp) ?_
  refine AllReadyIn.cons (o:=⟨some 13,_,_,_,_,_⟩) rfl (fun K hK=>?_) AllReadyIn.nil
  go_simp
  refine ⟨trivial,fun h=>(by cases h),?_⟩
  refine HL.out.mono ?_
  rintro e W1 (⟨rfl,hJ1,hF1⟩ | ⟨rfl,q2,hq,hx⟩)
  ·refine hK _ _ ?_
   clear hK K
   (try simp only [zz])
   obtain ⟨c0,c1,c3,htr⟩:=HC.out W1 hF1
   have HY1:=Lib.hid (HY.out W1 hJ1)
   clear HL HY hJ1
   refine tkI 9 ?_ ?_ ?_
   rotate_left
   ·(intro w;go_simp;try with_reducible rfl)
   (try simp only [zz])
   refine tkI 10 ?_ ?_ ?_
   rotate_left
   ·(intro w;go_simp;try with_reducible rfl)
   (try simp only [zz])
   refine tkI 11 ?_ ?_ ?_
   rotate_left
   ·(intro w;go_simp;try with_reducible rfl)
   (try simp only [zz])
   refine tkI 12 ?_ ?_ ?_
   rotate_left
   ·(intro w;go_simp;try with_reducible rfl)
   (try simp only [zz])
   refine tkI 13 ?_ ?_ ?_
   rotate_left
   ·(intro w;go_simp;try with_reducible rfl)
   (try simp only [zz])
   refine tkI 15 ?_ ?_ ?_
   rotate_left
   ·(intro w;go_simp;try with_reducible rfl)
   (try simp only [zz])
   refine tkI 16 ?_ ?_ ?_
   rotate_left
   ·(intro w;go_simp;try with_reducible rfl)
   (try simp only [zz])
   refine tkI 17 ?_ ?_ ?_
   rotate_left
   ·(intro w;go_simp;try with_reducible rfl)
   (try simp only [zz])
   refine wpAnyIn_ready (rs:=[14,18]) (by kernel_rfl) (by simp) ?_
   refine AllReadyIn.cons (o:=⟨some 19,_,_,_,_,_⟩) rfl (fun K hK=>?_) (AllReadyIn.cons (o:=⟨some 23,_,_,_,_,_⟩) rfl (fun K hK=>?_) AllReadyIn.nil)
   ·go_simp
    refine hK _ _ ?_
    clear hK K
    (try simp only [zz])
    refine wpAnyIn_ready (rs:=[18]) (by kernel_rfl) (by simp) ?_
    refine AllReadyIn.cons (o:=⟨some 23,_,_,_,_,_⟩) rfl (fun K hK=>?_) AllReadyIn.nil
    go_simp
    (try go_simp)
    refine hK _ _ ?_
    clear hK K
    (try simp only [zz])
    obtain ⟨fn,tmps,assign,body,hy,hRo⟩:=HY1.out
    refine wpAnyIn_ready (rs:=[19]) (by kernel_rfl) (by simp) ?_
    refine AllReadyIn.cons (o:=⟨some 24,_,_,_,_,_⟩) rfl (fun K hK=>?_) AllReadyIn.nil
    go_simp
    (try refine ⟨fun h=>(by cases h),?_⟩)
    refine hRo.mono ?_
    rintro e W2 (⟨rfl,hJ2,hF2⟩ | ⟨rfl,hx⟩)
    ·refine hK _ _ ?_
     clear hK K
     (try simp only [zz])
     obtain ⟨-,-,e3,htr2⟩:=HC.out W2 (hF1.t hF2)
     have HR1:=Lib.hid (HR.out W2 htr2 hJ2)
     clear HR HC hJ2
     refine tkI 20 ?_ ?_ ?_
     rotate_left
     ·(intro w;go_simp;try with_reducible rfl)
     (try simp only [zz])
     refine tkI 21 ?_ ?_ ?_
     rotate_left
     ·(intro w;go_simp;try with_reducible rfl)
     (try simp only [zz])
     refine tkI 22 ?_ ?_ ?_
     rotate_left
     ·(intro w;go_simp;try with_reducible rfl)
     (try simp only [zz])
     refine tkI 23 ?_ ?_ ?_
     rotate_left
     ·(intro w;go_simp;try with_reducible rfl)
     (try simp only [zz])
     refine tkI 24 ?_ ?_ ?_
     rotate_left
     ·(intro w;go_simp;try with_reducible rfl)
     (try simp only [zz])
     refine tkI 26 ?_ ?_ ?_
     rotate_left
     ·(intro w;go_simp;try with_reducible rfl)
     (try simp only [zz])
     refine wpAnyIn_ready (rs:=[25]) (by kernel_rfl) (by simp) ?_
     refine AllReadyIn.cons (o:=⟨some 30,_,_,_,_,_⟩) rfl (fun K hK=>?_) AllReadyIn.nil
     go_simp
     (try go_simp)
     refine hK _ _ ?_
     clear hK K
     (try simp only [zz])
     refine wpAnyIn_ready (rs:=[27]) (by kernel_rfl) (by simp) ?_
     refine AllReadyIn.cons (o:=⟨some 32,_,_,_,_,_⟩) rfl (fun K hK=>?_) AllReadyIn.nil
     go_simp
     refine ⟨trivial,fun h=>(by cases h),?_⟩
     refine HR1.out.mono ?_
     rintro e W3 (⟨rfl,hJ3,hF3⟩ | ⟨rfl,q2,hq,hx⟩)
     ·refine hK _ _ ?_
      clear hK K
      (try simp only [zz])
      refine tkI 28 ?_ ?_ ?_
      rotate_left
      ·(intro w;go_simp;try with_reducible rfl)
      (try simp only [zz])
      refine tkI 29 ?_ ?_ ?_
      rotate_left
      ·(intro w;go_simp;try with_reducible rfl)
      (try simp only [zz])
      refine tkI 30 ?_ ?_ ?_
      rotate_left
      ·(intro w;go_simp;try with_reducible rfl)
      (try simp only [zz])
      refine wpAnyIn_done (by kernel_rfl) ?_ _
      gi_wp2_with fail
      go_ret
      exact .inl ⟨rfl,by simpa [List.append_assoc] using hJ3,((Fr.refl S W).drew.t hF1).t (hF2.t hF3)⟩
     ·refine hK _ _ ?_
      clear hK K
      (try simp only [zz])
      refine tkI 28 ?_ ?_ ?_
      rotate_left
      ·(intro w;go_simp;try with_reducible rfl)
      (try simp only [zz])
      refine tkI 29 ?_ ?_ ?_
      rotate_left
      ·(intro w;go_simp;try with_reducible rfl)
      (try simp only [zz])
      refine tkI 30 ?_ ?_ ?_
      rotate_left
      ·(intro w;go_simp;try with_reducible rfl)
      (try simp only [zz])
      refine wpAnyIn_done (by kernel_rfl) ?_ _
      gi_wp2_with fail
      go_ret
      obtain ⟨z,hz⟩:=hq
      exact .inr ⟨rfl,l.items ++ (k,Value.slice va q.length vc) :: q2,⟨z,by simp [← hz]⟩,by simpa [List.append_assoc] using hx⟩
    ·refine hK _ _ ?_
     clear hK K
     (try simp only [zz])
     refine tkI 20 ?_ ?_ ?_
     rotate_left
     ·(intro w;go_simp;try with_reducible rfl)
     (try simp only [zz])
     refine tkI 21 ?_ ?_ ?_
     rotate_left
     ·(intro w;go_simp;try with_reducible rfl)
     (try simp only [zz])
     refine tkU 22 ?_
     (try simp only [zz])
     refine tkU 23 ?_
     (try simp only [zz])
     refine tkU 24 ?_
     (try simp only [zz])
     refine tkU 25 ?_
     (try simp only [zz])
     refine tkU 26 ?_
     (try simp only [zz])
     refine wpAnyIn_ready (rs:=[27]) (by kernel_rfl) (by simp) ?_
     refine AllReadyIn.cons (o:=⟨some 32,_,_,_,_,_⟩) rfl (fun K hK=>?_) AllReadyIn.nil
     go_simp
     refine ⟨trivial,?_⟩
     refine hK _ _ ?_
     clear hK K
     (try simp only [zz])
     refine tkI 28 ?_ ?_ ?_
     rotate_left
     ·(intro w;go_simp;try with_reducible rfl)
     (try simp only [zz])
     refine tkI 29 ?_ ?_ ?_
     rotate_left
     ·(intro w;go_simp;try with_reducible rfl)
     (try simp only [zz])
     refine tkI 30 ?_ ?_ ?_
     rotate_left
     ·(intro w;go_simp;try with_reducible rfl)
     (try simp only [zz])
     refine wpAnyIn_done (by kernel_rfl) ?_ _
     gi_wp2_with fail
     go_ret
     exact .inr ⟨rfl,l.items ++ [(k,Value.slice va q.length vc)],⟨r.items,by simp⟩,by simpa [List.append_assoc] using hx⟩
   ·go_simp
    refine hK _ _ ?_
    clear hK K
    (try simp only [zz])
    refine wpAnyIn_ready (rs:=[14]) (by kernel_rfl) (by simp) ?_
    refine AllReadyIn.cons (o:=⟨some 19,_,_,_,_,_⟩) rfl (fun K hK=>?_) AllReadyIn.nil
    go_simp
    (try go_simp)
    refine hK _ _ ?_
    clear hK K
    (try simp only [zz])
    obtain ⟨fn,tmps,assign,body,hy,hRo⟩:=HY1.out
    refine wpAnyIn_ready (rs:=[19]) (by kernel_rfl) (by simp) ?_
    refine AllReadyIn.cons (o:=⟨some 24,_,_,_,_,_⟩) rfl (fun K hK=>?_) AllReadyIn.nil
    go_simp
    (try refine ⟨fun h=>(by cases h),?_⟩)
    refine hRo.mono ?_
    rintro e W2 (⟨rfl,hJ2,hF2⟩ | ⟨rfl,hx⟩)
    ·refine hK _ _ ?_
     clear hK K
     (try simp only [zz])
     obtain ⟨-,-,e3,htr2⟩:=HC.out W2 (hF1.t hF2)
     have HR1:=Lib.hid (HR.out W2 htr2 hJ2)
     clear HR HC hJ2
     refine tkI 20 ?_ ?_ ?_
     rotate_left
     ·(intro w;go_simp;try with_reducible rfl)
     (try simp only [zz])
     refine tkI 21 ?_ ?_ ?_
     rotate_left
     ·(intro w;go_simp;try with_reducible rfl)
     (try simp only [zz])
     refine tkI 22 ?_ ?_ ?_
     rotate_left
     ·(intro w;go_simp;try with_reducible rfl)
     (try simp only [zz])
     refine tkI 23 ?_ ?_ ?_
     rotate_left
     ·(intro w;go_simp;try with_reducible rfl)
     (try simp only [zz])
     refine tkI 24 ?_ ?_ ?_
     rotate_left
     ·(intro w;go_simp;try with_reducible rfl)
     (try simp only [zz])
     refine tkI 26 ?_ ?_ ?_
     rotate_left
     ·(intro w;go_simp;try with_reducible rfl)
     (try simp only [zz])
     refine wpAnyIn_ready (rs:=[25]) (by kernel_rfl) (by simp) ?_
     refine AllReadyIn.cons (o:=⟨some 30,_,_,_,_,_⟩) rfl (fun K hK=>?_) AllReadyIn.nil
     go_simp
     (try go_simp)
     refine hK _ _ ?_
     clear hK K
     (try simp only [zz])
     refine wpAnyIn_ready (rs:=[27]) (by kernel_rfl) (by simp) ?_
     refine AllReadyIn.cons (o:=⟨some 32,_,_,_,_,_⟩) rfl (fun K hK=>?_) AllReadyIn.nil
     go_simp
     refine ⟨trivial,fun h=>(by cases h),?_⟩
     refine HR1.out.mono ?_
     rintro e W3 (⟨rfl,hJ3,hF3⟩ | ⟨rfl,q2,hq,hx⟩)
     ·refine hK _ _ ?_
      clear hK K
      (try simp only [zz])
      refine tkI 28 ?_ ?_ ?_
      rotate_left
      ·(intro w;go_simp;try with_reducible rfl)
      (try simp only [zz])
      refine tkI 29 ?_ ?_ ?_
      rotate_left
      ·(intro w;go_simp;try with_reducible rfl)
      (try simp only [zz])
      refine tkI 30 ?_ ?_ ?_
      rotate_left
      ·(intro w;go_simp;try with_reducible rfl)
      (try simp only [zz])
      refine wpAnyIn_done (by kernel_rfl) ?_ _
      gi_wp2_with fail
      go_ret
      exact .inl ⟨rfl,by simpa [List.append_assoc] using hJ3,((Fr.refl S W).drew.t hF1).t (hF2.t hF3)⟩
     ·refine hK _ _ ?_
      clear hK K
      (try simp only [zz])
      refine tkI 28 ?_ ?_ ?_
      rotate_left
      ·(intro w;go_simp;try with_reducible rfl)
      (try simp only [zz])
      refine tkI 29 ?_ ?_ ?_
      rotate_left
      ·(intro w;go_simp;try with_reducible rfl)
      (try simp only [zz])
      refine tkI 30 ?_ ?_ ?_
      rotate_left
      ·(intro w;go_simp;try with_reducible rfl)
      (try simp only [zz])
      refine wpAnyIn_done (by kernel_rfl) ?_ _
      gi_wp2_with fail
      go_ret
      obtain ⟨z,hz⟩:=hq
      exact .inr ⟨rfl,l.items ++ (k,Value.slice va q.length vc) :: q2,⟨z,by simp [← hz]⟩,by simpa [List.append_assoc] using hx⟩
    ·refine hK _ _ ?_
     clear hK K
     (try simp only [zz])
     refine tkI 20 ?_ ?_ ?_
     rotate_left
     ·(intro w;go_simp;try with_reducible rfl)
     (try simp only [zz])
     refine tkI 21 ?_ ?_ ?_
     rotate_left
     ·(intro w;go_simp;try with_reducible rfl)
     (try simp only [zz])
     refine tkU 22 ?_
     (try simp only [zz])
     refine tkU 23 ?_
     (try simp only [zz])
     refine tkU 24 ?_
     (try simp only [zz])
     refine tkU 25 ?_
     (try simp only [zz])
     refine tkU 26 ?_
     (try simp only [zz])
     refine wpAnyIn_ready (rs:=[27]) (by kernel_rfl) (by simp) ?_
     refine AllReadyIn.cons (o:=⟨some 32,_,_,_,_,_⟩) rfl (fun K hK=>?_) AllReadyIn.nil
     go_simp
     refine ⟨trivial,?_⟩
     refine hK _ _ ?_
     clear hK K
     (try simp only [zz])
     refine tkI 28 ?_ ?_ ?_
     rotate_left
     ·(intro w;go_simp;try with_reducible rfl)
     (try simp only [zz])
     refine tkI 29 ?_ ?_ ?_
     rotate_left
     ·(intro w;go_simp;try with_reducible rfl)
     (try simp only [zz])
     refine tkI 30 ?_ ?_ ?_
     rotate_left
     ·(intro w;go_simp;try with_reducible rfl)
     (try simp only [zz])
     refine wpAnyIn_done (by kernel_rfl) ?_ _
     gi_wp2_with fail
     go_ret
     exact .inr ⟨rfl,l.items ++ [(k,Value.slice va q.length vc)],⟨r.items,by simp⟩,by simpa [List.append_assoc] using hx⟩
  ·refine hK _ _ ?_
   clear hK K
   (try simp only [zz])
   refine tkI 9 ?_ ?_ ?_
   rotate_left
   ·(intro w;go_simp;try with_reducible rfl)
   (try simp only [zz])
   refine tkU 10 ?_
   (try simp only [zz])
   refine tkU 11 ?_
   (try simp only [zz])
   refine tkU 12 ?_
   (try simp only [zz])
   refine tkU 13 ?_
   (try simp only [zz])
   refine tkU 14 ?_
   (try simp only [zz])
   refine tkU 15 ?_
   (try simp only [zz])
   refine tkU 16 ?_
   (try simp only [zz])
   refine tkU 17 ?_
   (try simp only [zz])
   refine tkU 18 ?_
   (try simp only [zz])
   refine wpAnyIn_ready (rs:=[19]) (by kernel_rfl) (by simp) ?_
   refine AllReadyIn.cons (o:=⟨some 24,_,_,_,_,_⟩) rfl (fun K hK=>?_) AllReadyIn.nil
   go_simp
   (try refine ⟨fun _ h=>(by cases h),?_⟩)
   refine hK _ _ ?_
   clear hK K
   (try simp only [zz])
   refine tkI 20 ?_ ?_ ?_
   rotate_left
   ·(intro w;go_simp;try with_reducible rfl)
   (try simp only [zz])
   refine tkI 21 ?_ ?_ ?_
   rotate_left
   ·(intro w;go_simp;try with_reducible rfl)
   (try simp only [zz])
   refine tkU 22 ?_
   (try simp only [zz])
   refine tkU 23 ?_
   (try simp only [zz])
   refine tkU 24 ?_
   (try simp only [zz])
   refine tkU 25 ?_
   (try simp only [zz])
   refine tkU 26 ?_
   (try simp only [zz])
   refine wpAnyIn_ready (rs:=[27]) (by kernel_rfl) (by simp) ?_
   refine AllReadyIn.cons (o:=⟨some 32,_,_,_,_,_⟩) rfl (fun K hK=>?_) AllReadyIn.nil
   go_simp
   refine ⟨trivial,?_⟩
   refine hK _ _ ?_
   clear hK K
   (try simp only [zz])
   refine tkI 28 ?_ ?_ ?_
   rotate_left
   ·(intro w;go_simp;try with_reducible rfl)
   (try simp only [zz])
   refine tkI 29 ?_ ?_ ?_
   rotate_left
   ·(intro w;go_simp;try with_reducible rfl)
   (try simp only [zz])
   refine tkI 30 ?_ ?_ ?_
   rotate_left
   ·(intro w;go_simp;try with_reducible rfl)
   (try simp only [zz])
   refine wpAnyIn_done (by kernel_rfl) ?_ _
   gi_wp2_with fail
   go_ret
   exact .inr ⟨rfl,q2,hq.trans (List.prefix_append _ _),hx⟩

attribute [local go_sem] Oper.semAt_some

theorem each1_in (n ll Bt tb sb:Nat) (S:Nat → Prop) (T:Tr) (I:Int × Value → Prop) (J Jx:List (Int × Value) → World → Prop) (hJd:∀ pre W,J pre W → J pre W.drew)
  (hY:∀ m pre x W,J pre W → pre.length < T.items.length → I x → YieldAt Fence.wide m Tryz.prog ll #[.int .i64 x.1,x.2] W fun e W' =>
   (e = .returned (.bool true)∧J (pre ++ [x]) W'∧Fr S W W') ∨ (e = .returned (.bool false)∧Jx (pre ++ [x]) W'))
  (W:World) (hBt:W.cell? ⟨Bt,0,none⟩ = some (.pointer (some ⟨tb,0,none⟩))) (hc:CxIn W tb sb .top T.ptr) (ht:TrIn W T) (hb:∀ b ∈ T.blks,¬ S b) (hv:∀ v ∈ T.vals,∀ k,v.ownBlock = some k → ¬ S k) (hI:∀ x ∈ T.items,I x) (h0:J [] W) :
  CallsIn Fence.wide n Tryz.prog 221 #[.func (.yield ll) #[] #[],.pointer (some ⟨Bt,0,none⟩)] W fun e W'=>(∃ v,e = .returned v) ∧
   ((∃ ys,ys = T.items∧J ys W') ∨ (∃ pre,pre <+: T.items∧Jx pre W')):=by
 have HP:=Lib.hid (trwalk_in ll S T.items.length I J Jx hJd hY T (n - 1) [] W ht hb hv hI h0 (by simp))
 have c1:=(cx_hole hc).1
 obtain ⟨pt,hpt⟩:∃ p,T.ptr = .pointer p:=by cases T <;> exact ⟨_,rfl⟩
 rw [hpt] at c1 HP
 have c1':W.cell? ⟨tb,1,none⟩ = some (.pointer pt):=c1
 clear hY hJd hc ht hb hv hI h0 c1
 refine callsIn_of_wp Tryz.func221 rfl trivial ?_ rfl
 simp only [Tryz.ntmps221,List.size_toArray,List.length_cons,List.length_nil,Nat.reduceAdd,Nat.reduceSub,Array.replicate_succ,Array.replicate_zero,List.push_toArray,List.append_toArray,List.nil_append,List.cons_append]
 gi_wp2_with ((first | refine ⟨trivial,fun h=>(by cases h),?_⟩ | refine ⟨trivial,?_⟩ | refine ⟨fun h=>(by cases h),?_⟩);refine HP.out.mono ?_;clear HP;rintro e W1 (⟨rfl,hJ1,_⟩ | ⟨rfl,q,hq,hx⟩))
 ·go_end0
  exact ⟨⟨_,rfl⟩,.inl ⟨_,rfl,by simpa using hJ1⟩⟩
 ·go_end0
  exact ⟨⟨_,rfl⟩,.inr ⟨q,hq,by simpa using hx⟩⟩
end Go.Proofs.YtikapeaodobkjaaGreat
