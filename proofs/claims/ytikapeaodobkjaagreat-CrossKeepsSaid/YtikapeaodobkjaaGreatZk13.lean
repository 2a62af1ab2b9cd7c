/- What the laws lean on, in a few texts (by shake.py): number 13 of 16. -/
import Derived.Test.YtikapeaodobkjaaGreatZk1
import Derived.Test.YtikapeaodobkjaaGreatZk2
import Derived.Test.YtikapeaodobkjaaGreatZk5
import Derived.Test.YtikapeaodobkjaaGreatZk10
import Derived.Test.YtikapeaodobkjaaGreatZk9
import Derived.Test.YtikapeaodobkjaaGreatZk11
import Derived.Test.YtikapeaodobkjaaGreatZk3
import Derived.Maps.OwnSet
import Derived.Maps.Views
import Derived.Shelf.SlSortCmp.QuietGrown
import Derived.Laws.OwnMore
import Derived.Laws.AppendOwnNone
import Derived.Shelf.SlGeneric
import Derived.Shelf.SlicesE.DeleteFunc
import Derived.Ground.SlgfProg
import Derived.Test.YtikapeaodobkjaaGreatProg
import Derived.Deep.WholeRow
import Derived.Maps.AppendAt
import Derived.LoopNIn

set_option maxHeartbeats 16000000
set_option maxRecDepth 1000000
set_option linter.unusedVariables false
namespace Go.Proofs.YtikapeaodobkjaaGreat
open Go.RowKit Go.Sort Go.Lib Go.Maps

def zO:Od:=⟨0,0,0,0,0,0⟩
def Ids (L:List Od):Prop:=L.Pairwise (fun x y=>¬ x.id = y.id)
def omL (L:List Od) (id:Int):Option Od:=L.find? (fun x=>x.id == id)
theorem ids_eq:∀ {L:List Od},Ids L → ∀ {x y:Od},x ∈ L → y ∈ L → x.id = y.id → x = y
 | [],_,x,y,hx,_,_=>(by cases hx)
 | z :: L,h,x,y,hx,hy,e=>by
  obtain ⟨h1,h2⟩:=List.pairwise_cons.1 h
  rcases List.mem_cons.1 hx with ex | hx
  ·rcases List.mem_cons.1 hy with ey | hy
   ·rw [ex,ey]
   ·rw [ex] at e;exact absurd e (h1 y hy)
  ·rcases List.mem_cons.1 hy with ey | hy
   ·rw [ey] at e;exact absurd e.symm (h1 x hx)
   ·exact ids_eq h2 hx hy e
theorem omL_some {L:List Od} (h:Ids L) {id:Int} {x:Od}:omL L id = some x ↔ x ∈ L∧x.id = id:=by
 unfold omL
 constructor
 ·intro hf
  exact ⟨List.mem_of_find?_eq_some hf,by have:=List.find?_some hf;simpa using this⟩
 ·rintro ⟨hx,rfl⟩
  cases hf:L.find? (fun y=>y.id == x.id) with
  | none =>
   have:=List.find?_eq_none.1 hf x hx
   simp at this
  | some y =>
   have e1:=List.mem_of_find?_eq_some hf
   have e2:=List.find?_some hf
   simp at e2
   rw [ids_eq h e1 hx e2]
theorem omL_none {L:List Od} {id:Int}:omL L id = none ↔ ∀ x ∈ L,¬ x.id = id:=by
 unfold omL
 rw [List.find?_eq_none]
 simp
theorem idsP {L M:List Od} (h:Ids L) (hp:L.Perm M):Ids M:=hp.pairwise h (fun h e=>h e.symm)
theorem omL_perm {L M:List Od} (h:Ids L) (hp:L.Perm M) (id:Int):omL L id = omL M id:=by
 apply Option.ext
 intro x
 rw [omL_some h,omL_some (idsP h hp),hp.mem_iff]
theorem omL_cons (x:Od) (L:List Od) (id:Int):omL (x :: L) id = if id = x.id then some x else omL L id:=by
 unfold omL
 rw [List.find?_cons]
 by_cases e:id = x.id
 ·subst e;simp
 ·rw [if_neg e]
  have:(x.id == id) = false:=by simp;exact fun h=>e h.symm
  rw [this]
theorem omL_drop (L:List Od) (k id:Int):omL (L.filter (fun x=>!(x.id == k))) id = if id = k then none else omL L id:=by
 by_cases e:id = k
 ·subst e
  rw [if_pos rfl,omL_none]
  intro x hx
  have:=(List.mem_filter.1 hx).2
  simpa using this
 ·rw [if_neg e]
  unfold omL
  rw [List.find?_filter]
  congr 1
  funext x
  by_cases h:x.id = id
  ·have:¬ x.id = k:=fun h2=>e (h.symm.trans h2)
   simp [h,e]
  ·simp [h]
structure OmT (D:DataW Value) (L:List Od):Prop where
 tidy:Tidy D
 at_:∀ id,D.atKey (.int .u64 id) (.held zO.val) = .held ((omL L id).getD zO).val
 has:∀ id,Maps.has D (.int .u64 id) = (omL L id).isSome
 size:Maps.size D = L.length
theorem omT_empty:OmT (.map []) []:=⟨tidy_empty,fun _=>rfl,fun _=>rfl,rfl⟩
theorem OmT.of {D:DataW Value} {L M:List Od} (h:OmT D L) (hf:∀ id,omL M id = omL L id) (hl:M.length = L.length):OmT D M :=
 ⟨h.tidy,fun id=>by rw [hf,h.at_],fun id=>by rw [hf,h.has],by rw [hl,h.size]⟩
theorem OmT.perm {D:DataW Value} {L M:List Od} (h:OmT D L) (hd:Ids L) (hp:L.Perm M):OmT D M :=
 h.of (fun id=>(omL_perm hd hp id).symm) hp.length_eq.symm
theorem lit_ne {a b:Int} (h:¬ a = b):(Lit.int .u64 a) ≠ (Lit.int .u64 b):=fun e=>by injection e with _ e;exact h e
theorem OmT.put {D:DataW Value} {L M:List Od} (h:OmT D L) (x:Od) (hk:WideAt.IsKeyLit (.int .u64 x.id)) (hf:∀ id,omL M id = if id = x.id then some x else omL L id) (hl:M.length = if (omL L x.id).isSome = true then L.length else L.length + 1) :
  OmT (D.put (.int .u64 x.id) (.held x.val)) M:=by
 refine ⟨h.tidy.put hk _,fun id=>?_,fun id=>?_,?_⟩
 ·rw [hf]
  by_cases e:id = x.id
  ·subst e;rw [if_pos rfl,atKey_put_same h.tidy.isMap hk];rfl
  ·rw [if_neg e,atKey_put_other (lit_ne e),h.at_]
 ·rw [hf]
  by_cases e:id = x.id
  ·subst e;rw [if_pos rfl,has_put_same h.tidy.isMap hk];rfl
  ·rw [if_neg e,has_put_other (lit_ne e),h.has]
 ·rw [size_put h.tidy,h.has,h.size,hl]
theorem OmT.del {D:DataW Value} {L M:List Od} (h:OmT D L) (k:Int) (hf:∀ id,omL M id = if id = k then none else omL L id) (hl:M.length + (if (omL L k).isSome = true then 1 else 0) = L.length) :
  OmT (D.del (.int .u64 k)) M:=by
 refine ⟨h.tidy.del _,fun id=>?_,fun id=>?_,?_⟩
 ·rw [hf]
  by_cases e:id = k
  ·subst e;rw [if_pos rfl,atKey_del_same];rfl
  ·rw [if_neg e,atKey_del_other (lit_ne e),h.at_]
 ·rw [hf]
  by_cases e:id = k
  ·subst e;rw [if_pos rfl,has_del_same];rfl
  ·rw [if_neg e,has_del_other (lit_ne e),h.has]
 ·have:=size_del (k:=.int .u64 k) h.tidy
  rw [h.has,h.size] at this
  omega

def rqOf (r:Rw):Rq:=(r.pr,r.q.map (·.id))
def VD (l:List Value):Prop:=l.Pairwise (fun u v=>∀ j,u.ownBlock = some j → v.ownBlock ≠ some j)
theorem VD.perm {l m:List Value} (h:VD l) (hp:l.Perm m):VD m:=hp.pairwise h (fun h j hj hi=>h j hi hj)
theorem part_one {s p:Int} {A B P Q:List Rw} {M R:List Rw} (h:A ++ M ++ B = P ++ R ++ Q) (hA:∀ a ∈ A,betN s a.pr p = true) (hM:∀ a ∈ M,a.pr = p) (hB:∀ b ∈ B,betN s p b.pr = true)
  (hP:∀ a ∈ P,betN s a.pr p = true) (hR:∀ a ∈ R,a.pr = p) (hQ:∀ b ∈ Q,betN s p b.pr = true):A = P∧M = R∧B = Q:=by
 have irr:∀ x:Int,betN s x x = false:=fun x=>by
  cases hx:betN s x x with
  | false=>rfl
  | true=>rw [bet_iff] at hx;omega
 have asy:∀ x y:Int,betN s x y = true → betN s y x = false:=fun x y hx=>by
  cases hy:betN s y x with
  | false=>rfl
  | true=>have:=bet_trans hx hy;rw [irr] at this;cases this
 have key:∀ (X Y Z:List Rw),(∀ a ∈ X,betN s a.pr p = true) → (∀ a ∈ Y,a.pr = p) → (∀ a ∈ Z,betN s p a.pr = true) →
   X = (X ++ Y ++ Z).filter (fun a=>betN s a.pr p)∧Y = (X ++ Y ++ Z).filter (fun a=>a.pr == p)∧Z = (X ++ Y ++ Z).filter (fun a=>betN s p a.pr):=by
  intro X Y Z hX hY hZ
  refine ⟨?_,?_,?_⟩
  ·rw [List.filter_append,List.filter_append,List.filter_eq_self.2 hX,List.filter_eq_nil_iff.2 (fun a ha=>by rw [hY a ha,irr];decide),List.filter_eq_nil_iff.2 (fun a ha=>by rw [asy _ _ (hZ a ha)];decide)]
   simp
  ·rw [List.filter_append,List.filter_append,List.filter_eq_nil_iff.2 (fun a ha=>by
    intro e
    have:=hX a ha
    rw [beq_iff_eq.1 e,irr] at this;cases this),List.filter_eq_self.2 (fun a ha=>by rw [hY a ha];simp),List.filter_eq_nil_iff.2 (fun a ha=>by
    intro e
    have:=hZ a ha
    rw [beq_iff_eq.1 e,irr] at this;cases this)]
   simp
  ·rw [List.filter_append,List.filter_append,List.filter_eq_nil_iff.2 (fun a ha=>by rw [asy _ _ (hX a ha)];decide),List.filter_eq_nil_iff.2 (fun a ha=>by rw [hY a ha,irr];decide),List.filter_eq_self.2 hZ]
   simp
 have k1:=key A M B hA hM hB
 have k2:=key P R Q hP hR hQ
 rw [h] at k1
 exact ⟨k1.1.trans k2.1.symm,k1.2.1.trans k2.2.1.symm,k1.2.2.trans k2.2.2.symm⟩
theorem part_rq {s p:Int} {Rs:List Rw} {A B:List Rw} {M:List Rw} (hs:Rs = A ++ M ++ B) (hA:∀ a ∈ A,betN s a.pr p = true) (hM:∀ a ∈ M,a.pr = p) (hB:∀ b ∈ B,betN s p b.pr = true)
  {P R Q:List Rq} (h:Rs.map rqOf = P ++ R ++ Q) (hP:∀ a ∈ P,betN s a.1 p = true) (hR:∀ a ∈ R,a.1 = p) (hQ:∀ b ∈ Q,betN s p b.1 = true):A.map rqOf = P∧M.map rqOf = R∧B.map rqOf = Q:=by
 obtain ⟨X,Z,rfl,hXP,hZ⟩:=List.map_eq_append_iff.1 h
 obtain ⟨X,Y,rfl,hX,hY⟩:=List.map_eq_append_iff.1 hXP
 have mem:∀ {l:List Rw} {m:List Rq} {f:Int → Prop},l.map rqOf = m → (∀ a ∈ m,f a.1) → ∀ a ∈ l,f a.pr:=fun hl hm a ha=>hm (rqOf a) (by rw [← hl];exact List.mem_map_of_mem ha)
 obtain ⟨rfl,rfl,rfl⟩:=part_one hs.symm hA hM hB (mem (f:=fun x=>betN s x p = true) hX hP) (mem (f:=fun x=>x = p) hY hR) (mem (f:=fun x=>betN s p x = true) hZ hQ)
 exact ⟨hX,hY,hZ⟩
end Go.Proofs.YtikapeaodobkjaaGreat
namespace Go.Proofs.YtikapeaodobkjaaGreat
open Go.RowKit Go.Sort Go.Lib Go.Shelf

theorem app_full (w:World) (base n g:Nat) (xs:List Value) (ys:List Value) (ad:Addr) (cc:Nat) (ty:TypeId) (i0:TypeInfo) (hi0:Tryz.prog.info? 35 = some i0) (hz0:i0.zero = some (.int .u64 0)) (hz1:i0.size = 1) (hz2:i0.bytes = 8)
  (hown:w.ownsRow base 35 1 (.slice (some ⟨g,0,none⟩) n n) n xs) (hl:ys.length = 1) (hnews:∀ j u,ys[j]? = some u → w.cell? (ad.add j) = some u) (hn:n≤1000) (hb:base≤w.heap.size) :
  ∃ v' w',(Builtin.append_ #[124,124] ty #[.slice (some ⟨g,0,none⟩) n n,.slice (some ad) 1 cc]).run Tryz.prog w = .ok v' w'∧w'.ownsRow base 35 1 v' (n + 1) (xs ++ ys)∧w.grownBy w' none∧v'.ownBlock = some w.heap.size:=by
 have holds:∀ j u,xs[j]? = some u → w.cell? ((⟨g,0,none⟩:Addr).add j) = some u:=hown.cells (g:=g) rfl
 have hr:=run_append_grow (P:=Tryz.prog) w 124 ty 35 i0 (.int .u64 0) Tryz.underlying124 hi0 hz0 ⟨g,0,none⟩ n n xs (by rw [hz1];exact hown.1) holds ad 1 cc ys (by rw [hz1];exact hl) hnews (by omega) (by omega) (growslice_fits (by omega) (by rw [hz2];omega))
 have hge:=grownCap_ge w (n + 1) n 35
 have hcm:grownCap w (n + 1) n 35≤maxLen:=grownCap_le_maxLen w (n + 1) n 35 (by unfold maxLen;omega)
 have hlen:(xs ++ ys).length = (n + 1) * 1:=by rw [List.length_append,hown.1,hl];omega
 refine ⟨_,_,hr,⟨hlen,.inr ⟨w.heap.size,_,_,rfl,hb,heap_alloc_new w.drew _,hge,hcm,?_,?_⟩⟩,⟨rfl,rfl,rfl,by simp,fun k hk _=>heap_alloc_old w.drew _ hk⟩,rfl⟩
 ·have:=hown.1
  simp only [Array.size_append,List.size_toArray,size_zeroCells,hl,Value.cells]
  simp
  omega
 ·simp only [Array.toList_append,List.append_assoc]
  rw [← List.append_assoc,← hlen]
  exact List.take_left
theorem insB_U (w:World) (base n:Nat) (v:Value) (xs ys:List Value) (vb:Nat) (hown:w.ownsRow base 35 1 v n xs) (hb:base≤w.heap.size) (hn:n≤1000) (hv:w.heap[vb]? = some (.cells ys.toArray 35 (0,0))) (hy:ys.length = 1) (h2:∀ v ∈ ys,v.oneCell' = true) :
  Calls Tryz.prog 220 #[v,.int .i64 n,.slice (some ⟨vb,0,none⟩) 1 1] w fun e w'=>∃ v',e = .returned v'∧Hid (w'.ownsRow base 35 1 v' (n + 1) (xs ++ ys)∧w.grownBy w' v.ownBlock∧((v'.ownBlock = some w.heap.size∧w.grownBy w' none) ∨ ∃ g c,v = .slice (some ⟨g,0,none⟩) n c∧v' = .slice (some ⟨g,0,none⟩) (n + 1) c)):=by
 obtain ⟨i0,hi0,hz0,hz1,hz2⟩:=info_parts info_U
 have HO:=Lib.hid hown
 have hnw:Hid (∀ (j:Nat) (u:Value),ys[j]? = some u → w.cell? ((⟨vb,0,none⟩:Addr).add j) = some u):=Lib.hid (fun j u hj=>by
  rw [addr_add,Nat.zero_add,cell_of_row _ _ _ _ _ _ hv,List.getElem?_toArray];exact hj)
 have q1:IntKind.i64.wrap ((n:Int) + 1) = (n:Int) + 1:=by rw [IntKind.wrap_i64];omega
 rcases hown.2 with ⟨rfl,rfl⟩ | ⟨g,c,cur,rfl,_,_,hc,hm,_,_⟩
 ·clear hown hv
  go_enter Tryz.func220,Tryz.ntmps220
  go_wp2_with (at_builtin;refine wpList_append_own_at _ rfl _ _ 124 rfl base 35 i0 (.int .u64 0) 1 8 Tryz.underlying124 hi0 hz0 hz1 hz2 rfl (by decide) _ _ _ rfl HO.out ⟨vb,0,none⟩ 1 1 ys rfl (by omega) hnw.out h2 (by unfold maxLen;omega) (by omega) hb ?_)
  intro v1 w1 k1 k2 k4 k3
  have HR:Hid (w1.ownsRow base 35 1 v1 (0 + 1) (xs ++ ys)∧w.grownBy w1 none∧v1.ownBlock = some w.heap.size):=by
   refine ⟨k1,k2,?_⟩
   rcases k3 with h | h
   ·rcases k1.2 with ⟨_,h0⟩ | ⟨g,c,cur,rfl,_⟩
    ·omega
    ·cases h
   ·exact h
  clear k1 k2 k3 k4
  go_wp2_with fail
  go_ret
  exact ⟨_,rfl,HR.out.1,HR.out.2.1,.inl ⟨HR.out.2.2,HR.out.2.1⟩⟩
 ·have hcm:c≤9223372036854775807:=by unfold maxLen at hm;omega
  have q2:(n:Int)≤(c:Int):=by omega
  have q3:(c:Int)≤9223372036854775807:=by omega
  clear hown hv hm
  by_cases hcn:c = n
  ·subst hcn
   have HA:=Lib.hid (fun ty=>app_full w base c g xs ys ⟨vb,0,none⟩ 1 ty i0 hi0 hz0 hz1 hz2 HO.out hy hnw.out hn hb)
   go_enter Tryz.func220,Tryz.ntmps220
   obtain ⟨v1,w1,hr,k1,k2,k3⟩:=HA.out 124
   have HR:Hid (w1.ownsRow base 35 1 v1 (c + 1) (xs ++ ys)∧w.grownBy w1 none∧v1.ownBlock = some w.heap.size):=⟨k1,k2,k3⟩
   have HX:=Lib.hid hr
   clear k1 k2 k3 HA hr
   go_wp2_with (at_builtin;refine wpList_append_run _ rfl _ _ _ _ rfl _ _ rfl rfl _ _ HX.out ?_)
   go_wp2_with fail
   go_ret
   have h:=HR.out.2.1
   exact ⟨_,rfl,HR.out.1,⟨h.os,h.tape,h.output,h.size,fun k hk _=>h.block k hk (by simp)⟩,.inl ⟨HR.out.2.2,h⟩⟩
  ·go_enter Tryz.func220,Tryz.ntmps220
   go_wp2_with (at_builtin;refine wpList_append_fits _ rfl _ _ 124 rfl base 35 i0 1 Tryz.underlying124 hi0 hz1 g n c xs rfl HO.out ⟨vb,0,none⟩ 1 1 ys rfl (by omega) hnw.out h2 (by omega) ?_)
   intro w1 k1 k2
   have HR:Hid (w1.ownsRow base 35 1 (.slice (some ⟨g,0,none⟩) (n + 1) c) (n + 1) (xs ++ ys)∧w.grownBy w1 (some g)):=⟨k1,k2⟩
   clear k1 k2
   go_wp2_with fail
   go_ret
   exact ⟨_,rfl,HR.out.1,HR.out.2,.inr ⟨g,c,rfl,rfl⟩⟩
theorem ins2_U (w:World) (base n i:Nat) (v:Value) (xs ys:List Value) (vb:Nat) (hown:w.ownsRow base 35 1 v n xs) (hb:base≤w.heap.size) (hn:n≤1000) (hi:i≤n) (hvb:v.ownBlock ≠ some vb) (hv:w.heap[vb]? = some (.cells ys.toArray 35 (0,0))) (hy:ys.length = 1) (h1:∀ u ∈ xs,u.oneCell' = true) (h2:∀ u ∈ ys,u.oneCell' = true) :
  Calls Tryz.prog 220 #[v,.int .i64 i,.slice (some ⟨vb,0,none⟩) 1 1] w fun e w'=>∃ v',e = .returned v'∧Hid (w'.ownsRow base 35 1 v' (n + 1) (xs.take (i * 1) ++ ys ++ xs.drop (i * 1))∧w.grownBy w' v.ownBlock∧((v'.ownBlock = some w.heap.size∧w.grownBy w' none) ∨ ∃ g c,v = .slice (some ⟨g,0,none⟩) n c∧v' = .slice (some ⟨g,0,none⟩) (n + 1) c)):=by
 have hl:=hown.1
 by_cases hin:i = n
 ·subst hin
  refine (insB_U w base i v xs ys vb hown hb hn hv hy h2).mono fun e w' ⟨v',he,h⟩=>⟨v',he,?_⟩
  rw [List.take_of_length_le (by omega),List.drop_eq_nil_of_le (by omega),List.append_nil]
  exact h
 rcases hown.2 with ⟨_,h0⟩ | ⟨g,c,cur,rfl,hbg,hg,hc,hm,hs,ht⟩
 ·omega
 have hvg:vb ≠ g:=fun e=>hvb (by rw [e];rfl)
 have hll:cur.toList.length = c * 1:=by rw [Array.length_toList];exact hs
 by_cases hcn:n + 1≤c
 ·refine (insS_U w g n c i vb cur.toList ys (by rw [Array.toArray_toList];exact hg) hll hcn (by omega) hm hvg hv hy (by rw [ht];exact h1) h2).mono fun e w' ⟨he,h⟩=>⟨_,he,?_⟩
  obtain ⟨k1,k2⟩:=insC_take (xs:=xs) (i:=i) (by omega) hcn hll hy ht
  refine ⟨⟨?_,.inr ⟨g,c,_,rfl,hbg,h.out.2,hcn,hm,by rw [List.size_toArray];exact k1,k2⟩⟩,h.out.1,.inr ⟨g,c,rfl,rfl⟩⟩
  simp only [List.length_append,List.length_take,List.length_drop,hy]
  omega
 ·obtain rfl:c = n:=by omega
  have ex:cur = xs.toArray:=by rw [← ht,List.take_of_length_le (by omega),Array.toArray_toList]
  rw [ex] at hg
  refine (insG_U w g c i vb xs ys hg hl hn (by omega) hv hy h1 h2).mono fun e w' ⟨v',he,h⟩=>⟨v',he,own_base h.out.1 hb,?_,.inl ⟨h.out.2.2,⟨h.out.2.1.os,h.out.2.1.tape,h.out.2.1.output,h.out.2.1.size,fun j hj _=>h.out.2.1.block j hj⟩⟩⟩
  exact ⟨h.out.2.1.os,h.out.2.1.tape,h.out.2.1.output,h.out.2.1.size,fun j hj _=>h.out.2.1.block j hj⟩
end Go.Proofs.YtikapeaodobkjaaGreat
namespace Go.Proofs
open Go.Shelf
def Tryz.delL_ren:Go.Shelf.Ren:=⟨fun | 10=>215 | 6=>224 | n=>n,fun | 22=>124 | 23=>35 | 25=>213 | 3=>3 | 4=>4 | 0=>0 | n=>n,fun | n=>n⟩
theorem Tryz.delL:Go.Proofs.SlLaysH.n10 Tryz.prog Tryz.delL_ren:={
 mixed:=by kernel_rfl
 f6:=⟨Tryz.f224.name,by decide,Tryz.func224.trans (congrArg some (by kernel_rfl))⟩
 f10:=⟨Tryz.f215.name,by decide,Tryz.func215.trans (congrArg some (by kernel_rfl))⟩
 t0:=Tryz.underlying0
 a0:=Tryz.isAgg0
 z0:=Tryz.sizeOf0
 v0:=Tryz.zeroValue0
 t3:=Tryz.underlying3
 a3:=Tryz.isAgg3
 z3:=Tryz.sizeOf3
 v3:=Tryz.zeroValue3
 t4:=Tryz.underlying4
 a4:=Tryz.isAgg4
 z4:=Tryz.sizeOf4
 v4:=Tryz.zeroValue4
 t22:=Tryz.underlying124
 a22:=Tryz.isAgg124
 z22:=Tryz.sizeOf124
 v22:=Tryz.zeroValue124
 a23:=Tryz.isAgg35
 z23:=Tryz.sizeOf35
 t25:=Tryz.underlying213
 a25:=Tryz.isAgg213
 z25:=Tryz.sizeOf213
 v25:=Tryz.zeroValue213 }
end Go.Proofs
namespace Go.Proofs.YtikapeaodobkjaaGreat
open Go.RowKit Go.Sort Go.Lib Go.Shelf

abbrev encU:Int → Value:=Value.int .u64
theorem idV_enc (q:List Int):idV q = q.map encU:=rfl
theorem tak1_c (id x:Int) (B:Nat) (W:World) (hc:W.cell? ⟨B,0,none⟩ = some (.int .u64 id)) :
  FnGives Tryz.prog 216 #[.pointer (some ⟨B,0,none⟩)] #[.int .u64 x] (.bool (x == id)) W:=by
 show Calls Tryz.prog 216 #[.int .u64 x,.pointer (some ⟨B,0,none⟩)] W _
 generalize hr:(x == id) = r
 go_enter Tryz.func216,Tryz.ntmps216
 go_wp2
 all_goals (go_ret;exact ⟨by simp_all,0,rfl⟩)
theorem holds_u {w:World} {g:Nat} {cur:Array Value} {e:TypeId} {ss:List Int} (hb:w.heap[g]? = some (.cells cur e (0,0))) (ht:cur.toList.take ss.length = ss.map encU):Holds encU w g 0 ss.toArray:=by
 intro j hj
 have hj':j < ss.length:=by simpa using hj
 refine ⟨?_,by simp [World.frozen?,hb]⟩
 have h1:(cur.toList.take ss.length)[j]? = (ss.map encU)[j]?:=by rw [ht]
 rw [List.getElem?_take_of_lt hj'] at h1
 simp only [World.cell?,hb,Nat.zero_add]
 simp only [Option.isSome_none,Bool.false_eq_true,if_false]
 rw [← Array.getElem?_toList,h1]
 simp [hj']
theorem heap_u {w:World} {g n:Nat} {cur:Array Value} {e:TypeId} {fr:Nat × Nat} (d:Array Int) (hb:w.heap[g]? = some (.cells cur e fr)) :
  (putRow encU (Sort.ahead w n) g 0 d).heap[g]? = some (.cells (putCells encU 0 d cur) e fr):=by
 simp [putRow,mapBlock,Sort.ahead,Array.getElem?_modify,hb,onCells]
theorem grownBy_u {w:World} {g n:Nat} (d:Array Int):w.grownBy (putRow encU (Sort.ahead w n) g 0 d) (some g):=by
 refine ⟨rfl,rfl,rfl,by simp,fun k hk hne=>?_⟩
 have:g ≠ k:=fun e=>hne (by rw [e])
 simp [putRow,mapBlock,Sort.ahead,Array.getElem?_modify,this]
theorem take_u (cur:Array Value) (ts:List Int) (h:ts.length≤cur.size):(putCells encU 0 ts.toArray cur).toList.take ts.length = ts.map encU:=by
 apply List.ext_getElem?
 intro j
 by_cases hj:j < ts.length
 ·rw [List.getElem?_take_of_lt hj,Array.getElem?_toList]
  simp [putCells,hj,show j < cur.size by omega]
 ·rw [List.getElem?_take_eq_none (by omega),List.getElem?_eq_none (by simp;omega)]
def outQ (id:Int) (q:List Int):List Int:=q.filter fun x=>!(x == id)
def oldQ (id:Int) (q:List Int):List Int:=outQ id q ++ List.replicate (q.length - (outQ id q).length) 0
theorem outQ_len (id:Int) (q:List Int):(outQ id q).length≤q.length:=List.length_filter_le _ _
theorem oldQ_len (id:Int) (q:List Int):(oldQ id q).length = q.length:=by
 have:=outQ_len id q
 unfold oldQ
 rw [List.length_append,List.length_replicate]
 omega
theorem zero_u (w:World):(zeroValue 35).run Tryz.prog w = .ok (.int .u64 0) w:=by kernel_rfl
theorem del_U (w:World) (base g c B:Nat) (id:Int) (q:List Int) (hown:w.ownsRow base 35 1 (.slice (some ⟨g,0,none⟩) q.length c) q.length (idV q)) (hn:q.length≤1000) (hB:Cl 35 w B #[.int .u64 id]) (hne:B ≠ g) :
  Calls Tryz.prog 215 #[.slice (some ⟨g,0,none⟩) q.length c,.func (.func 216) #[] #[.pointer (some ⟨B,0,none⟩)]] w fun e w' =>
   e = .returned (.slice (some ⟨g,0,none⟩) (outQ id q).length c)∧Hid (w'.ownsRow base 35 1 (.slice (some ⟨g,0,none⟩) (outQ id q).length c) (outQ id q).length (idV (outQ id q)) ∧
    w'.ownsRow base 35 1 (.slice (some ⟨g,0,none⟩) q.length c) q.length (idV (oldQ id q))∧w.grownBy w' (some g)):=by
 rcases hown.2 with ⟨hv,_⟩ | ⟨k,cap,cur,hv,hbk,hk,hnc,hcm,hcs,ht⟩
 ·cases hv
 injection hv with e1 _ e3
 injection e1 with e1
 injection e1 with e1
 subst e1 e3
 have hcell:w.cell? ⟨B,0,none⟩ = some (.int .u64 id):=(hB.c 0).trans rfl
 have hBl:B < w.heap.size:=blk_lt hB
 have eg:∀ args w,(callFunc 216 args).run Tryz.prog w = .ok (.enter 216 args) w:=enters_of Tryz.func216 (by kernel_rfl) rfl
 have hcon:=AnyE.slices_DeleteFunc Tryz.delL encU (fun _=>rfl) (fun x=>x == id) 216 #[.pointer (some ⟨B,0,none⟩)] eg 0 zero_u g 0 c q.toArray w
  (fun W x hb=>tak1_c id x B W ((hb.cell (p:=⟨B,0,none⟩) hBl).trans hcell))
  (fun n os dk x _=>tak1_c id x B _ (by
   unfold sortWorld
   rw [cell?_grow _ _ _ (by show B < (putRow _ _ _ _ _).heap.size;rw [size_putRow];exact hBl),cell?_putRow_other _ _ g 0 _ _ (Or.inl hne)]
   exact hcell))
  (holds_u hk (by rw [Nat.mul_one] at ht;exact ht)) (by simp;omega) (by simpa using hnc)
 change Calls Tryz.prog 215 _ _ _ at hcon
 have es:q.toArray.size = q.length:=by simp
 rw [es] at hcon
 refine hcon.mono fun e w' ⟨he,n,hw⟩=>⟨he,?_⟩
 have hw2:w' = putRow encU (Sort.ahead w n) g 0 (oldQ id q).toArray:=hw
 subst hw2
 have hl:=oldQ_len id q
 have hT:=take_u cur (oldQ id q) (by rw [hl,hcs];omega)
 refine ⟨⟨by simp [idV],.inr ⟨g,c,_,rfl,hbk,heap_u _ hk,Nat.le_trans (outQ_len id q) hnc,hcm,by simp [putCells,hcs],?_⟩⟩,⟨by simp [idV,hl],.inr ⟨g,c,_,rfl,hbk,heap_u _ hk,hnc,hcm,by simp [putCells,hcs],?_⟩⟩,grownBy_u _⟩
 ·rw [Nat.mul_one]
  have h2:((putCells encU 0 (oldQ id q).toArray cur).toList.take (oldQ id q).length).take (outQ id q).length = ((oldQ id q).map encU).take (outQ id q).length:=by rw [hT]
  rw [List.take_take,Nat.min_eq_left (by rw [hl];exact outQ_len id q)] at h2
  rw [h2,idV_enc]
  unfold oldQ
  rw [List.map_append,List.take_left' (by simp)]
 ·rw [Nat.mul_one,idV_enc,← hl]
  exact hT
end Go.Proofs.YtikapeaodobkjaaGreat
namespace Go.Proofs.YtikapeaodobkjaaGreat
open Go.RowKit Go.Sort Go.Lib Go.Maps

theorem keyU:Keyed Tryz.prog 35:=int_keyed Tryz.underlying35
theorem om_le {w:World} {P:Program} {K:TypeId} {m n k:Nat} {D:DataW Value} (h:w.ownsMap P K RV m n D) (hz:Maps.size D≤k):w.ownsMap P K RV m k D:=by
 obtain ⟨es,clock,hb,F,_,hD⟩:=h
 refine ⟨es,clock,hb,F,?_,hD⟩
 rw [hD] at hz
 simpa [Maps.size,length_sorted] using hz
theorem zero_o (w:World):(zeroValue 38).run Tryz.prog w = .ok zO.val w:=by kernel_rfl
theorem rv_eq {v u:Value} {ps:List MemPlace} (h:RV v = some (.held u,ps)):v = u:=DataW.held.inj (congrArg Prod.fst (Option.some.inj h))
theorem look_o {w:World} {m n:Nat} {D:DataW Value} {L:List Od} (h:w.ownsMap Tryz.prog 35 RV m n D) (hO:OmT D L) (id:Int) (hs:(Lit.int .u64 id).wf = true) :
  (Instr.lookup 133 (.map (some m)) (.int .u64 id) false).run Tryz.prog w = .ok ((omL L id).getD zO).val w:=by
 obtain ⟨v,ps,hr,hv⟩:=h.lookup keyU Tryz.underlying133 (zero_o w) (R:=RV) rfl (keyOf_int_mk Tryz.underlying35 hs)
 rw [hO.at_] at hv
 rw [hr,rv_eq hv]
theorem look_ok {w:World} {m n:Nat} {D:DataW Value} {L:List Od} (h:w.ownsMap Tryz.prog 35 RV m n D) (hO:OmT D L) (id:Int) (hs:(Lit.int .u64 id).wf = true) :
  (Instr.lookup 133 (.map (some m)) (.int .u64 id) true).run Tryz.prog w = .ok (.tuple #[((omL L id).getD zO).val,.bool (omL L id).isSome]) w:=by
 obtain ⟨v,ps,hr,hv⟩:=h.look_ok keyU Tryz.underlying133 (zero_o w) (R:=RV) rfl (keyOf_int_mk Tryz.underlying35 hs)
 rw [hO.at_] at hv
 rw [hr,rv_eq hv,hO.has]
theorem len_o {w:World} {m n:Nat} {D:DataW Value} {L:List Od} (h:w.ownsMap Tryz.prog 35 RV m n D) (hO:OmT D L) (ty:TypeId) :
  (Builtin.len_ #[133] ty #[.map (some m)]).run Tryz.prog w = .ok (.int .i64 (L.length:Nat)) w:=by
 rw [h.len Tryz.underlying133 ty,hO.size]
theorem put_o {w:World} {m n:Nat} {D:DataW Value} {L M:List Od} (h:w.ownsMap Tryz.prog 35 RV m n D) (hn:n≤1000) (hO:OmT D L) (x:Od) (hs:(Lit.int .u64 x.id).wf = true)
  (hf:∀ id,omL M id = if id = x.id then some x else omL L id) (hl:M.length = if (omL L x.id).isSome = true then L.length else L.length + 1) (hk:M.length≤64) :
  ∃ w',(Instr.mapUpdate 133 (.map (some m)) (.int .u64 x.id) x.val).run Tryz.prog w = .ok () w'∧∃ D',w'.ownsMap Tryz.prog 35 RV m 64 D'∧OmT D' M∧w.grownBy w' (some m):=by
 obtain ⟨w',hr,h1,h2⟩:=h.store keyU Tryz.underlying133 (by unfold maxLen;omega) (keyOf_int_mk Tryz.underlying35 hs) (show RV x.val = some (.held x.val,[]) from rfl)
 have hO':=hO.put x (by trivial) hf hl
 exact ⟨w',hr,_,om_le h1 (by rw [hO'.size];exact hk),hO',h2.grown⟩
theorem del_o {w:World} {m n:Nat} {D:DataW Value} {L M:List Od} (h:w.ownsMap Tryz.prog 35 RV m n D) (hO:OmT D L) (k:Int) (hs:(Lit.int .u64 k).wf = true)
  (hf:∀ id,omL M id = if id = k then none else omL L id) (hl:M.length + (if (omL L k).isSome = true then 1 else 0) = L.length) (hk:M.length≤64) (ty:TypeId) :
  ∃ w',(Builtin.delete_ #[133,35] ty #[.map (some m),.int .u64 k]).run Tryz.prog w = .ok (.tuple #[]) w'∧∃ D',w'.ownsMap Tryz.prog 35 RV m 64 D'∧OmT D' M∧w.grownBy w' (some m):=by
 obtain ⟨w',hr,h1,h2⟩:=h.drop keyU Tryz.underlying133 (keyOf_int_mk Tryz.underlying35 hs) ty
 have hO':=hO.del k hf hl
 exact ⟨w',hr,_,om_le h1 (by rw [hO'.size];exact hk),hO',h2.grown⟩

structure GW (w:World) (p m ms:Nat) (D:DataW Value) (g1 g2:Sg) (Q1 Q2:List Rw):Prop where
 gk:Gk w (some ⟨p,0,none⟩) (some (m,ms)) D g1 g2
 om:OmT D (bookL Q1 Q2)
 e1:g1.t.rows = Q1.map rqOf
 e2:g2.t.rows = Q2.map rqOf
 ok1:SideOk 1 Q1
 ok2:SideOk 2 Q2
 ids:Ids (bookL Q1 Q2)
 len:(bookL Q1 Q2).length≤64
 ok:∀ x ∈ bookL Q1 Q2,Od.ok w x∧goodO x = true
 vd:VD (g1.t.vals ++ g2.t.vals)
 bd:∀ b ∈ g1.t.blks,b ∉ g2.t.blks
 tb:g1.tb ≠ g2.tb
 mm:m ≠ ms
 sb:g1.sb ≠ g2.sb
def sfoot (g:Sg) (k:Nat):Prop:=k = g.sb ∨ k = g.tb ∨ k ∈ g.t.blks ∨ ∃ v ∈ g.t.vals,v.ownBlock = some k
def gfoot (p m ms:Nat) (g1 g2:Sg) (k:Nat):Prop:=k = p ∨ k = m ∨ k = ms ∨ sfoot g1 k ∨ sfoot g2 k
theorem Gk.fr {S:Nat → Prop} {w w':World} {p m ms:Nat} {D:DataW Value} {g1 g2:Sg} (h:Gk w (some ⟨p,0,none⟩) (some (m,ms)) D g1 g2) (hf:Fr S w w') (hn:∀ k,gfoot p m ms g1 g2 k → ¬ S k):Gk w' (some ⟨p,0,none⟩) (some (m,ms)) D g1 g2:=by
 refine ⟨?_,fun a b e=>?_,fun a b e=>?_,fun e=>?_,fun e=>?_⟩
 ·rcases h.shape with ⟨h0,_⟩ | ⟨q,hq,hc⟩
  ·cases h0
  ·refine .inr ⟨q,hq,hf.blk hc ?_⟩
   injection hq with hq;injection hq with hq
   exact hn q (.inl hq.symm)
 ·have:=h.om a b e
  injection e with e;injection e with e1 e2
  exact ownsMap_fr this hf (hn a (.inr (.inl e1.symm)))
 ·have:=h.sm a b e
  injection e with e;injection e with e1 e2
  exact ownsMap_fr this hf (hn b (.inr (.inr (.inl e2.symm))))
 ·exact (h.s1 e).fr hf (hn _ (.inr (.inr (.inr (.inl (.inl rfl)))))) (hn _ (.inr (.inr (.inr (.inl (.inr (.inl rfl))))))) (fun b hb=>hn _ (.inr (.inr (.inr (.inl (.inr (.inr (.inl hb)))))))) (fun v hv k hk=>hn _ (.inr (.inr (.inr (.inl (.inr (.inr (.inr ⟨v,hv,hk⟩))))))))
 ·exact (h.s2 e).fr hf (hn _ (.inr (.inr (.inr (.inr (.inl rfl)))))) (hn _ (.inr (.inr (.inr (.inr (.inr (.inl rfl))))))) (fun b hb=>hn _ (.inr (.inr (.inr (.inr (.inr (.inr (.inl hb)))))))) (fun v hv k hk=>hn _ (.inr (.inr (.inr (.inr (.inr (.inr (.inr ⟨v,hv,hk⟩))))))))
theorem GW.fr {S:Nat → Prop} {w w':World} {p m ms:Nat} {D:DataW Value} {g1 g2:Sg} {Q1 Q2:List Rw} (h:GW w p m ms D g1 g2 Q1 Q2) (hf:Fr S w w') (hn:∀ k,gfoot p m ms g1 g2 k → ¬ S k):GW w' p m ms D g1 g2 Q1 Q2 :=
 ⟨h.gk.fr hf hn,h.om,h.e1,h.e2,h.ok1,h.ok2,h.ids,h.len,h.ok,h.vd,h.bd,h.tb,h.mm,h.sb⟩
theorem GW.below {w w':World} {p m ms:Nat} {D:DataW Value} {g1 g2:Sg} {Q1 Q2:List Rw} (h:GW w p m ms D g1 g2 Q1 Q2) (hf:Below w.heap.size w w'):GW w' p m ms D g1 g2 Q1 Q2 :=
 h.fr (S:=fun _=>False) (Fr.of_below hf) (fun _ _ h=>h)
theorem TrIn.vlt {W:World}:∀ {t:Tr},TrIn W t → ∀ v ∈ t.vals,∀ k,v.ownBlock = some k → k < W.heap.size
 | .nil,_,v,h=>(by cases h)
 | .node a k v q l r,h,u,hu=>by
  unfold Tr.vals at hu
  rcases List.mem_append.1 hu with hu | hu
  ·exact TrIn.vlt h.2.2.1 u hu
  ·rcases List.mem_cons.1 hu with rfl | hu
   ·exact fun k hk=>(h.2.1.lt k hk).2
   ·exact TrIn.vlt h.2.2.2 u hu
theorem SgIn.lt {w:World} {s:Int} {g:Sg} (h:SgIn w s g):∀ k,sfoot g k → k < w.heap.size:=by
 rintro k (rfl | rfl | hk | ⟨v,hv,hk⟩)
 ·exact blk_lt h.box
 ·exact blk_lt h.cx
 ·exact h.tr.lt k hk
 ·exact h.tr.vlt v hv k hk
theorem GW.lt {w:World} {p m ms:Nat} {D:DataW Value} {g1 g2:Sg} {Q1 Q2:List Rw} (h:GW w p m ms D g1 g2 Q1 Q2):∀ k,gfoot p m ms g1 g2 k → k < w.heap.size:=by
 rintro k (rfl | rfl | rfl | hk | hk)
 ·rcases h.gk.shape with ⟨h0,_⟩ | ⟨q,hq,hc⟩
  ·cases h0
  ·injection hq with hq;injection hq with hq
   rw [hq];exact blk_lt hc
 ·exact (h.gk.om _ _ rfl).lt
 ·exact (h.gk.sm _ _ rfl).lt
 ·exact (h.gk.s1 rfl).lt k hk
 ·exact (h.gk.s2 rfl).lt k hk
theorem GW.bookp {w:World} {p m ms:Nat} {D:DataW Value} {g1 g2:Sg} {Q1 Q2:List Rw} (h:GW w p m ms D g1 g2 Q1 Q2):Cl 138 w p #[.map (some m),.map (some ms)]:=by
 rcases h.gk.shape with ⟨h0,_⟩ | ⟨q,hq,hc⟩
 ·cases h0
 ·injection hq with hq;injection hq with hq
  rw [hq];exact hc

theorem gLen_c (p m ms:Nat) (D:DataW Value) (g1 g2:Sg) (Q1 Q2:List Rw) (w:World) (H:GW w p m ms D g1 g2 Q1 Q2) :
  Calls Tryz.prog 204 #[.pointer (some ⟨p,0,none⟩)] w fun e w'=>e = .returned (.int .i64 (bookL Q1 Q2).length)∧w = w':=by
 have HM:=Lib.hid (gMade_c (some ⟨p,0,none⟩) (some (m,ms)) D g1 g2 w H.gk)
 have k0:w.cell? ⟨p,0,none⟩ = some (.map (some m)):=(H.bookp.c 0).trans rfl
 have hl:=fun ty=>len_o (H.gk.om _ _ rfl) H.om ty
 generalize (bookL Q1 Q2).length = n at hl
 clear H
 go_enter Tryz.func204,Tryz.ntmps204
 go_wp2_with ((with_reducible refine HM.out.mono ?_);rintro e w1 ⟨rfl,rfl⟩;clear HM)
 go_ret
 exact ⟨rfl,rfl⟩
theorem gGet_c (p m ms:Nat) (D:DataW Value) (g1 g2:Sg) (Q1 Q2:List Rw) (id:Int) (hs:(Lit.int .u64 id).wf = true) (w:World) (H:GW w p m ms D g1 g2 Q1 Q2) :
  Calls Tryz.prog 203 #[.pointer (some ⟨p,0,none⟩),.int .u64 id] w fun e w'=>e = .returned (.tuple #[.agg (OC ((omL (bookL Q1 Q2) id).getD zO)),.bool (omL (bookL Q1 Q2) id).isSome])∧Hid (Below w.heap.size w w'):=by
 have hb:Below w.heap.size w (w.alloc (.cells (OC ⟨0,0,0,0,0,0⟩) 38)):=(Below.refl _ _).alloc (Nat.le_refl _) _
 have HM:=Lib.hid (gMade_c (some ⟨p,0,none⟩) (some (m,ms)) D g1 g2 _ (H.below hb).gk)
 have k0:(w.alloc (.cells (OC ⟨0,0,0,0,0,0⟩) 38)).cell? ⟨p,0,none⟩ = some (.map (some m)):=((H.below hb).bookp.c 0).trans rfl
 have hl:=look_ok ((H.below hb).gk.om _ _ rfl) H.om id hs
 generalize (omL (bookL Q1 Q2) id).isSome = there at hl ⊢
 generalize (omL (bookL Q1 Q2) id).getD zO = z at hl ⊢
 have hl':(Instr.lookup 133 (.map (some m)) (.int .u64 id) true).run Tryz.prog (w.alloc (.cells (OC ⟨0,0,0,0,0,0⟩) 38)) = .ok (.tuple #[.agg (OC z),.bool there]) (w.alloc (.cells (OC ⟨0,0,0,0,0,0⟩) 38)):=hl
 have HB:=Lib.hid hb
 clear H hb hl
 go_enter Tryz.func203,Tryz.ntmps203
 go_wp2_with ((with_reducible refine HM.out.mono ?_);rintro e w1 ⟨rfl,rfl⟩;clear HM)
 refine bodyPost_ret (retOt rfl _ _ _ rfl z _ (hd_prev (by simp) (hd_last rfl)) _ rfl) rfl ?_
 exact ⟨rfl,Lib.hid (((Below.refl _ _).alloc (Nat.le_refl _) _).alloc (by simp) _)⟩

theorem fr_below {B:Nat} {w w':World} (h:Below B w w'):Fr (fun k=>B≤k) w w':=⟨h.os,h.tape,h.output,h.size,fun k hk hn=>h.block k (by omega)⟩
theorem wf_u {a:Int} (h:0≤a∧a≤18446744073709551615):(Lit.int .u64 a).wf = true:=WalkArith.wf_u64 h
theorem six_o (w:World) (x:Od) (T:TypeId):∀ (j:Nat) (u:Value),(encO x)[j]? = some u → (w.alloc (Obj.cells (OC x) T)).cell? ((⟨w.heap.size,0,none⟩:Addr).add j) = some u:=by
 intro j u hu
 rw [addr_add,cell_of_row _ _ _ _ _ _ (heap_alloc_new w _)]
 match j,hu with
 | 0,hu=>simpa [encO] using hu
 | 1,hu=>simpa [encO] using hu
 | 2,hu=>simpa [encO] using hu
 | 3,hu=>simpa [encO] using hu
 | 4,hu=>simpa [encO] using hu
 | 5,hu=>simpa [encO] using hu
theorem info_or:(Tryz.prog.info? 38).map (fun i=>(i.zero,i.size,i.bytes)) = some (some (.agg (OC ⟨0,0,0,0,0,0⟩)),6,48):=by kernel_rfl
def QIn (w:World) (B:Nat) (A:Option Addr) (Y:List Od):Prop:=∀ k,k < Y.length → ∃ g,A = some ⟨g,0,none⟩∧g < B∧w.cell? ⟨g,k,none⟩ = some (.int .u64 (Y[k]!).id)
theorem QIn.below {w w':World} {B:Nat} {A:Option Addr} {Y:List Od} (h:QIn w B A Y) (hb:Below B w w'):QIn w' B A Y:=fun k hk=>by
 obtain ⟨g,h1,h2,h3⟩:=h k hk
 exact ⟨g,h1,h2,(hb.cell (p:=⟨g,k,none⟩) h2).trans h3⟩
theorem gtold_c (p m ms:Nat) (D:DataW Value) (g1 g2:Sg) (Q1 Q2:List Rw) (w:World) (H:GW w p m ms D g1 g2 Q1 Q2) (B:Nat) (hB:∀ k,gfoot p m ms g1 g2 k → k < B) (hBw:B≤w.heap.size)
  (v:Value) (n:Nat) (X:List Od) (hown:w.ownsRow B 38 6 v n (ol X)) (hn:n≤1000) (A:Option Addr) (c:Nat) (Y:List Od) (hY:∀ x ∈ Y,x ∈ bookL Q1 Q2) (hQ:QIn w B A Y) (hm:Y.length≤1000) :
  Calls Tryz.prog 212 #[.pointer (some ⟨p,0,none⟩),v,.slice A Y.length c] w fun e w'=>∃ v',e = .returned v'∧Hid (w'.ownsRow B 38 6 v' (n + Y.length) (ol (X ++ Y))∧Below B w w'):=by
 obtain ⟨i0,hi0,hz0,hz1,hz2⟩:=info_parts info_or
 have HH:=Lib.hid H
 have HB:=Lib.hid hB
 have HQ:=Lib.hid hQ
 have HY:=Lib.hid hY
 clear H hB hQ hY
 have hmI:(Y.length:Int)≤1000:=by omega
 go_enter Tryz.func212,Tryz.ntmps212
 go_wp2_with fail
 obtain ⟨N,hN⟩:∃ N,N = Y.length:=⟨_,rfl⟩
 rw [← hN] at hm hmI ⊢
 have HN:=Lib.hid hN
 clear hN
 go_loopg [1,11] N (fun kx s1 s11 wr=>∃ k:Nat,s11 = .int .i64 (k:Int)∧k≤N∧N - k≤kx∧wr.ownsRow B 38 6 s1 (n + k) (ol (X ++ Y.take k))∧Hid (Below B w wr))
 case atStart=>exact ⟨0,rfl,by omega,by omega,by simpa using hown,Below.refl _ _⟩
 case round =>
  obtain ⟨k,rfl,hk,hkx,hown',hd⟩:=hrel
  by_cases hlt:k < N
  ·have hltI:(k:Int) < (N:Int):=by omega
   have hk0:(0:Int)≤(k:Int):=by omega
   have hkY:k < Y.length:=by rw [← HN.out];exact hlt
   obtain ⟨g,rfl,hgB,hc⟩:=(HQ.out.below hd.out) k hkY
   obtain ⟨x,ex⟩:∃ x,Y[k]! = x:=⟨_,rfl⟩
   rw [ex] at hc
   have hxY:x ∈ Y:=by rw [← ex,getElem!_pos Y k hkY];exact List.getElem_mem _
   have hxL:=HY.out x hxY
   have G:=HH.out.fr (fr_below hd.out) (fun j hj hbad=>by have:=HB.out j hj;omega)
   have hsome:omL (bookL Q1 Q2) x.id = some x:=(omL_some G.ids).2 ⟨hxL,rfl⟩
   have hl:=look_o (G.gk.om _ _ rfl) G.om x.id (wf_u (G.ok x hxL).1.1)
   rw [hsome] at hl
   have hl':(Instr.lookup 133 (.map (some m)) (.int .u64 x.id) false).run Tryz.prog wr = .ok (.agg (OC x)) wr:=hl
   have k0:wr.cell? ⟨p,0,none⟩ = some (.map (some m)):=(G.bookp.c 0).trans rfl
   have HS:Hid (ol (X ++ Y.take (k + 1)) = ol (X ++ Y.take k) ++ encO x):=Lib.hid (by
    rw [List.take_succ_eq_append_getElem hkY,← List.append_assoc,ol_app,← getElem!_pos Y k hkY,ex])
   have hsz:=hd.out.size
   have hnk:n + k≤2000:=by omega
   clear ex hxY hxL G hsome hl
   generalize x.id = xi at *
   go_wp2_with (at_builtin;refine wpList_append_own _ rfl _ _ 22 rfl B 38 i0 (.agg (OC ⟨0,0,0,0,0,0⟩)) 6 48 Tryz.underlying22 hi0 hz0 hz1 hz2 rfl (by decide) _ _ _ rfl (hown'.alloc _) ⟨wr.heap.size,0,none⟩ 1 1 (encO x) rfl rfl ?c1 ?c2 ?c3 ?c4 ?c5 ?_)
   case c1=>exact six_o wr x _
   case c2=>exact enc_one x
   case c3=>unfold maxLen;omega
   case c4=>omega
   case c5=>simp;omega
   intro v1 w1 hown1 hg1 _
   have hB1:Hid (Below B w w1):=Below.grown (hd.out.alloc (Nat.le_trans hBw hsz) _) hg1 (by simp;omega) (fun k hk=>(hown'.lt k hk).1)
   rw [← HS.out] at hown1
   clear hg1 hown' hd
   go_wp2_with fail
   go_roundg (N - (k + 1))
   case measure=>omega
   case rel=>exact ⟨k + 1,by go_num,by omega,by omega,hown1,hB1⟩
  ·have hltI:¬ (k:Int) < (N:Int):=by omega
   obtain rfl:k = N:=by omega
   rw [List.take_of_length_le (by rw [← HN.out];exact Nat.le_refl _)] at hown'
   have HF:=Lib.hid (And.intro hown' hd.out)
   clear hown' hd
   go_wp2_with fail
   go_ret
   have eN:=HN.out
   subst eN
   refine ⟨?v,?e,?h⟩
   case h=>exact HF
   case e=>rfl

theorem row_q {w:World} {A:Option Addr} {n c:Nat} {Y:List Od} {B:Nat} (h:w.ownsRow 0 35 1 (.slice A n c) n (idV (Y.map (·.id)))) (hB:∀ k,(Value.slice A n c).ownBlock = some k → k < B):n = Y.length∧QIn w B A Y:=by
 have hl:=h.1
 simp only [idV,List.length_map] at hl
 refine ⟨by omega,fun k hk=>?_⟩
 rcases h.2 with ⟨hv,h0⟩ | ⟨g,cap,cur,hv,_,hg,_,_,_,ht⟩
 ·omega
 ·injection hv with e1 _ _
  subst e1
  refine ⟨g,rfl,hB g rfl,?_⟩
  rw [cell_of_row _ _ _ _ _ _ hg,← Array.getElem?_toList]
  have h2:(cur.toList.take (n * 1))[k]? = (idV (Y.map (·.id)))[k]?:=by rw [ht]
  rw [List.getElem?_take,if_pos (by omega)] at h2
  rw [h2,idV,List.map_map,List.getElem?_map,List.getElem?_eq_getElem hk,getElem!_pos Y k hk]
  rfl
theorem spot_row {w:World} {g:Sg} {s pr:Int} {Q:List Rw} {c:Cx} {t:Tr} (hI:SpI w g.tb g.sb s pr g.t c t) (hh:Hangs pr t) (e:g.t.rows = Q.map rqOf) (hQ:SideOk s Q) :
  ∃ A M B,Q = A ++ M ++ B∧(∀ a ∈ A,betN s a.pr pr = true)∧(∀ b ∈ B,betN s pr b.pr = true) ∧
   ((t = .nil∧M = []) ∨ ∃ a v q l r m,t = .node a pr v q l r∧M = [m]∧m.pr = pr∧q = m.q.map (·.id)∧A.map rqOf = c.pre ++ l.rows∧B.map rqOf = r.rows ++ c.post):=by
 have h:=e.symm
 rw [← hI.eq,rows_plug] at h
 have mem:∀ {l:List Rw} {m:List Rq} {f:Int → Prop},l.map rqOf = m → (∀ a ∈ m,f a.1) → ∀ a ∈ l,f a.pr:=fun hl hm a ha=>hm (rqOf a) (by rw [← hl];exact List.mem_map_of_mem ha)
 cases t with
 | nil =>
  rw [show Tr.rows .nil = [] from rfl,List.append_nil] at h
  obtain ⟨X,Z,rfl,hX,hZ⟩:=List.map_eq_append_iff.1 h
  exact ⟨X,[],Z,by simp,mem (f:=fun x=>betN s x pr = true) hX hI.at_.pre,mem (f:=fun x=>betN s pr x = true) hZ hI.at_.post,.inl ⟨rfl,rfl⟩⟩
 | node a k v q l r =>
  have hk:k = pr:=hh
  subst hk
  have hs:=hI.at_.srt
  rw [rows_plug] at hs
  unfold Srt at hs
  rw [show Tr.rows (.node a k v q l r) = l.rows ++ (k,q) :: r.rows from rfl] at hs h
  have e1:c.pre ++ (l.rows ++ (k,q) :: r.rows) ++ c.post = (c.pre ++ l.rows) ++ [(k,q)] ++ (r.rows ++ c.post):=by simp
  rw [e1] at hs h
  obtain ⟨XY,Z,rfl,hXY,hZ⟩:=List.map_eq_append_iff.1 h
  obtain ⟨X,Y,rfl,hX,hY⟩:=List.map_eq_append_iff.1 hXY
  have hs1:=(List.pairwise_append.1 hs).1
  have hs2:=(List.pairwise_append.1 hs).2.2
  have hs3:=(List.pairwise_append.1 hs1).2.2
  match Y,hY with
  | [m],hY =>
   injection hY with hm _
   have hm1:m.pr = k:=congrArg Prod.fst hm
   have hm2:m.q.map (·.id) = q:=congrArg Prod.snd hm
   exact ⟨X,[m],Z,rfl,mem (f:=fun x=>betN s x k = true) hX (fun x hx=>hs3 x hx (k,q) (by simp)),mem (f:=fun x=>betN s k x = true) hZ (fun x hx=>hs2 (k,q) (by simp) x hx),.inr ⟨a,v,q,l,r,m,rfl,rfl,hm1,hm2.symm,hX,hZ⟩⟩

def atP (pr:Int) (Q:List Rw):List Od:=(flatR Q).filter (fun x=>x.price == pr)
theorem irr_b (s x:Int):betN s x x = false:=by
 cases hx:betN s x x with
 | false=>rfl
 | true=>rw [bet_iff] at hx;omega
theorem atP_split {s pr:Int} {A M B:List Rw} (h:SideOk s (A ++ M ++ B)) (hA:∀ a ∈ A,betN s a.pr pr = true) (hB:∀ b ∈ B,betN s pr b.pr = true) (hM:∀ r ∈ M,r.pr = pr):atP pr (A ++ M ++ B) = flatR M:=by
 unfold atP flatR
 rw [List.flatMap_append,List.flatMap_append,List.filter_append,List.filter_append]
 have fA:∀ (X:List Rw),(∀ r ∈ X,r ∈ A ++ M ++ B) → (∀ r ∈ X,¬ r.pr = pr) → (X.flatMap (·.q)).filter (fun x=>x.price == pr) = []:=fun X hX hp=>by
  rw [List.filter_eq_nil_iff]
  intro x hx
  obtain ⟨r,hr,hxr⟩:=List.mem_flatMap.1 hx
  have:=(h.mem r (hX r hr) x hxr).2
  intro e
  rw [beq_iff_eq] at e
  exact hp r hr (this.symm.trans e)
 have fM:((M.flatMap (·.q)).filter (fun x=>x.price == pr)) = M.flatMap (·.q):=by
  rw [List.filter_eq_self]
  intro x hx
  obtain ⟨r,hr,hxr⟩:=List.mem_flatMap.1 hx
  rw [(h.mem r (by simp [hr]) x hxr).2,hM r hr]
  simp
 rw [fA A (fun r hr=>by simp [hr]) (fun r hr e=>by have:=hA r hr;rw [e,irr_b] at this;cases this),fA B (fun r hr=>by simp [hr]) (fun r hr e=>by have:=hB r hr;rw [e,irr_b] at this;cases this),fM]
 simp
theorem get_row {w:World} {g:Sg} {s pr:Int} {Q:List Rw} {c:Cx} {t:Tr} (hI:SpI w g.tb g.sb s pr g.t c t) (hh:Hangs pr t) (e:g.t.rows = Q.map rqOf) (hQ:SideOk s Q) (hS:SgIn w s g) {B:Nat} (hB:∀ k,sfoot g k → k < B) :
  ∃ A cc,t.val = .slice A (atP pr Q).length cc∧QIn w B A (atP pr Q):=by
 obtain ⟨X,M,Z,rfl,hX,hZ,hM⟩:=spot_row hI hh e hQ
 rcases hM with ⟨rfl,rfl⟩ | ⟨a,v,q,l,r,m,rfl,rfl,hm,rfl,_,_⟩
 ·rw [atP_split hQ hX hZ (fun r hr=>by cases hr)]
  exact ⟨none,0,rfl,fun k hk=>absurd hk (by simp [flatR])⟩
 ·rw [atP_split hQ hX hZ (fun r hr=>by rw [List.mem_singleton.1 hr];exact hm)]
  have e1:flatR [m] = m.q:=by simp [flatR]
  rw [e1]
  have ho:=hI.tr.2.1
  have hv:v ∈ g.t.vals:=by
   obtain ⟨A,C,hp⟩:=plug_vals c
   rw [← hI.eq,hp]
   simp [Tr.vals]
  rw [List.length_map] at ho
  rcases ho.2 with ⟨rfl,h0⟩ | ⟨gg,cap,cur,rfl,_⟩
  ·rw [h0] at ho ⊢
   have:=row_q (Y:=m.q) (B:=B) ho (fun k hk=>by cases hk)
   exact ⟨none,0,by rw [Tr.val],this.2⟩
  ·have:=row_q (Y:=m.q) (B:=B) ho (fun k hk=>hB k (.inr (.inr (.inr ⟨_,hv,hk⟩))))
   exact ⟨_,_,rfl,this.2⟩

structure OwnS (w:World) (p m ms:Nat) (D:DataW Value) (g1 g2:Sg) (Q1 Q2:List Rw) (sd:Int) (g:Sg) (Q:List Rw):Prop where
 s12:sd = 1 ∨ sd = 2
 sg:SgIn w sd g
 eq:g.t.rows = Q.map rqOf
 ok:SideOk sd Q
 ft:∀ k,sfoot g k → gfoot p m ms g1 g2 k
 mem:∀ x ∈ flatR Q,x ∈ bookL Q1 Q2
 len:(flatR Q).length≤64
 ids:Ids (bookL Q1 Q2) → Ids (flatR Q)
 call:∀ W,GW W p m ms D g1 g2 Q1 Q2 → Calls Tryz.prog 210 #[.pointer (some ⟨p,0,none⟩),.int .i64 sd] W fun e w'=>e = .returned (.pointer (some ⟨g.tb,0,none⟩))∧W = w'
theorem GW.own1 {w:World} {p m ms:Nat} {D:DataW Value} {g1 g2:Sg} {Q1 Q2:List Rw} (h:GW w p m ms D g1 g2 Q1 Q2):OwnS w p m ms D g1 g2 Q1 Q2 1 g1 Q1:=by
 refine ⟨.inl rfl,h.gk.s1 rfl,h.e1,h.ok1,fun k hk=>.inr (.inr (.inr (.inl hk))),fun x hx=>List.mem_append_left _ hx,(by have:=h.len;unfold bookL at this;rw [List.length_append] at this;omega),fun hi=>(List.pairwise_append.1 hi).1,fun W hW=>(gSide_c _ _ D g1 g2 1 W (by decide) hW.gk).mono ?_⟩
 rintro e w' ⟨g,rfl,hg⟩
 cases hg.out with
 | own1 _ _ hw=>exact ⟨rfl,hw⟩
 | own2 _ h2 _=>exact absurd h2 (by decide)
 | new h1 _ _=>rcases h1 with h1 | h1;cases h1;exact absurd rfl h1.1
theorem GW.own2 {w:World} {p m ms:Nat} {D:DataW Value} {g1 g2:Sg} {Q1 Q2:List Rw} (h:GW w p m ms D g1 g2 Q1 Q2):OwnS w p m ms D g1 g2 Q1 Q2 2 g2 Q2:=by
 refine ⟨.inr rfl,h.gk.s2 rfl,h.e2,h.ok2,fun k hk=>.inr (.inr (.inr (.inr hk))),fun x hx=>List.mem_append_right _ hx,(by have:=h.len;unfold bookL at this;rw [List.length_append] at this;omega),fun hi=>(List.pairwise_append.1 hi).2.1,fun W hW=>(gSide_c _ _ D g1 g2 2 W (by decide) hW.gk).mono ?_⟩
 rintro e w' ⟨g,rfl,hg⟩
 cases hg.out with
 | own1 _ h1 _=>exact absurd h1 (by decide)
 | own2 _ _ hw=>exact ⟨rfl,hw⟩
 | new h1 _ _=>rcases h1 with h1 | h1;cases h1;exact absurd rfl h1.2
def rsq (Q1 Q2:List Rw) (sd:Int):List Rw:=if sd = 1 then Q1 else if sd = 2 then Q2 else []
theorem GW.drewN {w:World} {p m ms:Nat} {D:DataW Value} {g1 g2:Sg} {Q1 Q2:List Rw} (h:GW w p m ms D g1 g2 Q1 Q2) (n:Nat):GW (w.drewN n) p m ms D g1 g2 Q1 Q2:=h.below (below_drewN (Below.refl _ _) n)

theorem gLevel_own (p m ms:Nat) (D:DataW Value) (g1 g2:Sg) (Q1 Q2:List Rw) (sd pr:Int) (g:Sg) (Q:List Rw) (w:World) (H:GW w p m ms D g1 g2 Q1 Q2) (S:OwnS w p m ms D g1 g2 Q1 Q2 sd g Q) :
  Calls Tryz.prog 205 #[.pointer (some ⟨p,0,none⟩),.int .i64 sd,.int .i64 pr] w fun e w'=>∃ v,e = .returned v∧Hid (w'.ownsRow w.heap.size 38 6 v (atP pr Q).length (ol (atP pr Q))∧Below w.heap.size w w'):=by
 have HS:=Lib.hid (S.call w H)
 have HG:=Lib.hid (tGet_c g.tb g.sb sd pr g.t w (fun _=>S.s12) S.sg.box S.sg.cx S.sg.tr S.sg.srt)
 have HT:=Lib.hid (show ∀ n A c,QIn (w.drewN n) w.heap.size A (atP pr Q) → Calls Tryz.prog 212 #[.pointer (some ⟨p,0,none⟩),.slice none 0 0,.slice A (atP pr Q).length c] (w.drewN n) fun e w'=>∃ v',e = .returned v'∧Hid (w'.ownsRow w.heap.size 38 6 v' (0 + (atP pr Q).length) (ol ([] ++ atP pr Q))∧Below w.heap.size (w.drewN n) w') from fun n A c hq =>
  gtold_c p m ms D g1 g2 Q1 Q2 (w.drewN n) (H.drewN n) w.heap.size (fun k hk=>H.lt k hk) (Nat.le_refl _) _ 0 [] (World.ownsRow_nil _ _ _ _) (by omega) A c (atP pr Q) (fun x hx=>S.mem x (List.mem_filter.1 hx).1) hq (by
   have h1:(atP pr Q).length≤(flatR Q).length:=List.length_filter_le _ _
   have h2:=S.len
   omega))
 have HI:=Lib.hid (show ∀ W c t n,W = w.drewN n → SpI w g.tb g.sb sd pr g.t c t → Hangs pr t → ∃ A cc,t.val = .slice A (atP pr Q).length cc∧QIn (w.drewN n) w.heap.size A (atP pr Q) from fun W c t n hW hI hh=>by
  obtain ⟨A,cc,h1,h2⟩:=get_row hI hh S.eq S.ok S.sg (B:=w.heap.size) (fun k hk=>S.sg.lt k hk)
  exact ⟨A,cc,h1,h2.below (below_drewN (Below.refl _ _) n)⟩)
 clear H S
 go_enter Tryz.func205,Tryz.ntmps205
 go_wp2_with fail
 ((with_reducible refine HS.out.mono ?_);rintro e w1 ⟨rfl,rfl⟩)
 go_wp2_with fail
 ((with_reducible refine HG.out.mono ?_);rintro e w2 ⟨c,t,rfl,hh,n,rfl⟩)
 obtain ⟨A,cc,ev,hq⟩:=HI.out _ c t n rfl hh.out.1 hh.out.2
 rw [ev]
 have HT2:=Lib.hid (HT.out n A cc hq)
 clear HS HG HT HI hh ev hq
 go_wp2_with fail
 ((with_reducible refine HT2.out.mono ?_);rintro e w3 ⟨v,rfl,h3⟩)
 clear HT2
 go_wp2_with fail
 go_ret
 refine ⟨_,rfl,?_⟩
 rw [Nat.zero_add,List.nil_append] at h3
 exact Lib.hid ⟨h3.out.1,(below_drewN (Below.refl _ _) n).trans h3.out.2⟩
end Go.Proofs.YtikapeaodobkjaaGreat
namespace Go.Proofs.YtikapeaodobkjaaGreat
open Go.RowKit Go.Sort Go.Lib Go.Maps Go.Shelf

theorem off_side {w w':World} {mm:Option (Nat × Nat)} {side:Int} {g g1 g2:Sg} (h:SideIs w w' mm g1 g2 side g) (hn:¬ side = 1∧¬ side = 2):g.t = .nil∧SgIn w' side g∧Below w.heap.size w w':=by
 cases h with
 | own1 _ h=>exact absurd h hn.1
 | own2 _ h=>exact absurd h hn.2
 | new _ hb hs=>exact ⟨rfl,hs,hb⟩
theorem gLevel_off (b:Option Addr) (mm:Option (Nat × Nat)) (D:DataW Value) (g1 g2:Sg) (sd pr:Int) (hn:¬ sd = 1∧¬ sd = 2) (hs:(Lit.int .i64 sd).wf = true) (w:World) (H:Gk w b mm D g1 g2) :
  Calls Tryz.prog 205 #[.pointer b,.int .i64 sd,.int .i64 pr] w fun e w'=>∃ v,e = .returned v∧Hid (w'.ownsRow w.heap.size 38 6 v 0 (ol [])∧Below w.heap.size w w'):=by
 have HS:=Lib.hid (gSide_c b mm D g1 g2 sd w hs H)
 have HT:Hid (∀ W,Calls Tryz.prog 212 #[.pointer b,.slice none 0 0,.slice none 0 0] W fun e w'=>e = .returned (.slice none 0 0)∧W = w'):=Lib.hid (fun W=>told_nil b W)
 clear H
 go_enter Tryz.func205,Tryz.ntmps205
 go_wp2_with (first | ((with_reducible refine HS.out.mono ?_);rintro e w1 ⟨⟨tb,sb,t⟩,rfl,hg⟩;obtain ⟨h1,h2,h3⟩:=off_side hg.out hn;dsimp only at h1 h2;subst h1;have HF:=Lib.hid (tGet_c tb sb sd pr .nil w1 (fun h=>absurd rfl h) h2.box h2.cx h2.tr h2.srt);have B1:=Lib.hid h3;clear HS hg h2 h3) | ((with_reducible refine HF.out.mono ?_);rintro e w2 ⟨c,t,rfl,ht,n,rfl⟩;obtain rfl:=spot_nil ht.out.1;dsimp only [Tr.val]) | ((with_reducible refine (HT.out _).mono ?_);rintro e w3 ⟨rfl,rfl⟩))
 go_ret
 exact ⟨.slice none 0 0,rfl,Lib.hid ⟨World.ownsRow_nil _ _ _ _,((Fr.of_below (S:=fun _=>False) B1.out).drewN _).below (fun _ h=>False.elim h) (Nat.le_refl _)⟩⟩
theorem gk_below {w w':World} {b:Option Addr} {mm:Option (Nat × Nat)} {D:DataW Value} {g1 g2:Sg} (h:Gk w b mm D g1 g2) (hf:Below w.heap.size w w'):Gk w' b mm D g1 g2:=by
 refine ⟨?_,fun a b e=>ownsMap_fr (h.om a b e) (Fr.of_below (S:=fun _=>False) hf) (fun h=>h),fun a b e=>ownsMap_fr (h.sm a b e) (Fr.of_below (S:=fun _=>False) hf) (fun h=>h),fun e=>(h.s1 e).below hf,fun e=>(h.s2 e).below hf⟩
 rcases h.shape with h0 | ⟨q,hq,hc⟩
 ·exact .inl h0
 ·exact .inr ⟨q,hq,(Fr.of_below (S:=fun _=>False) hf).blk hc (fun h=>h)⟩
theorem gBest_off (b:Option Addr) (mm:Option (Nat × Nat)) (D:DataW Value) (g1 g2:Sg) (sd:Int) (hn:¬ sd = 1∧¬ sd = 2) (hs:(Lit.int .i64 sd).wf = true) (w:World) (H:Gk w b mm D g1 g2) :
  Calls Tryz.prog 201 #[.pointer b,.int .i64 sd] w fun e w'=>e = .returned (.tuple #[optV none,.bool false])∧Hid (Below w.heap.size w w'):=by
 have hb:Below w.heap.size w (w.alloc (.cells (OC ⟨0,0,0,0,0,0⟩) 38)):=(Below.refl _ _).alloc (Nat.le_refl _) _
 have HS:=Lib.hid (gSide_c b mm D g1 g2 sd (w.alloc (.cells (OC ⟨0,0,0,0,0,0⟩) 38)) hs (gk_below H hb))
 have HB:=Lib.hid hb
 clear H hb
 go_enter Tryz.func201,Tryz.ntmps201
 go_wp2_with (first | ((with_reducible refine HS.out.mono ?_);rintro e w1 ⟨⟨tb,sb,t⟩,rfl,hg⟩;obtain ⟨h1,h2,h3⟩:=off_side hg.out hn;dsimp only at h1 h2;subst h1;have HF:=Lib.hid (tFirst_c tb sb .nil w1 h2.cx h2.tr);have B1:Hid (Below w.heap.size w w1):=HB.out.trans (h3.mono HB.out.size);have C1:Cl 38 w1 w.heap.size (OC ⟨0,0,0,0,0,0⟩):=(h3.block _ (by rw [World.size_alloc];exact Nat.lt_succ_self _)).trans (hd_last rfl);have C0:=Lib.hid C1;obtain ⟨x0,x1,x2,x3,x4,x5⟩:=six_of C1;have f0:=C1.f (k:=0);have f1:=C1.f (k:=1);have f2:=C1.f (k:=2);have f3:=C1.f (k:=3);have f4:=C1.f (k:=4);have f5:=C1.f (k:=5);clear HS hg h2 h3 C1) | ((with_reducible refine HF.out.mono ?_);rintro e w2 ⟨rfl,rfl⟩;dsimp only [fstV,Tr.fst]))
 have hf:=put6_cl ⟨0,0,0,0,0,0⟩ C0.out
 have hb:=put6_below ⟨0,0,0,0,0,0⟩ (Nat.le_refl _) B1.out
 refine bodyPost_ret (retOt rfl _ _ _ rfl ⟨0,0,0,0,0,0⟩ _ hf _ rfl) rfl ?_
 exact ⟨rfl,Lib.hid hb⟩
theorem size_oc (x:Od):(Tryz.prog.info? 38).map (·.size) = some (OC x).size:=infoO
section
variable {ops : Array Oper} {o : Oper} {a : Act} {w : World} {Q : Exit → Act → World → Prop}
theorem any_storeOd {K:Act → World → Prop} {E:Prop} (hgd:Region.wanted o (yielded ops a.tmps) = true) (x y:Operand) (ho:o.op = .store 38 x y) (g:Nat) (z:Od) (hx:a.eval x = .pointer (some ⟨g,0,none⟩)) (hy:a.eval y = .agg (OC z)) (z':Od) (t:TypeId)
  (hg:w.heap[g]? = some (.cells (OC z') t (0,0))) (h:K (a.put o.dst undef) (w.setRow g (OC z))):if Region.wanted o (yielded ops a.tmps) = true then Oper.wp Tryz.prog o a w K Q else E:=by
 rw [if_pos hgd]
 exact wp_store_row _ x y ho g _ hx hy _ _ hg (size_oc z) rfl (all_oneCell_toArray (cs:=encO z) (enc_one z)) h
end
theorem fr_row {w X:World} {c:Nat} {cs:Array Value} (h:Fr (· = c) w X):Fr (· = c) w (X.setRow c cs) :=
 ⟨h.os,h.tape,h.output,by simpa [World.setRow] using h.size,fun k hk hn=>(setRow_other X c k cs hn).trans (h.block k hk hn)⟩
theorem put6_frg {w X:World} {c:Nat} (o:Od) (h:Fr (· = c) w X):Fr (· = c) w (put6 X c o):=by
 unfold put6
 exact (((((h.set (.inl rfl) _).set (.inl rfl) _).set (.inl rfl) _).set (.inl rfl) _).set (.inl rfl) _).set (.inl rfl) _
def fstO (Q:List Rw):Option Od:=(flatR Q).head?
theorem gBest_own (p m ms:Nat) (D:DataW Value) (g1 g2:Sg) (Q1 Q2:List Rw) (sd:Int) (g:Sg) (Q:List Rw) (w:World) (H:GW w p m ms D g1 g2 Q1 Q2) (S:OwnS w p m ms D g1 g2 Q1 Q2 sd g Q) :
  Calls Tryz.prog 201 #[.pointer (some ⟨p,0,none⟩),.int .i64 sd] w fun e w'=>e = .returned (.tuple #[optV (fstO Q),.bool (fstO Q).isSome])∧Hid (Below w.heap.size w w'):=by
 have hb:Below w.heap.size w (w.alloc (.cells (OC ⟨0,0,0,0,0,0⟩) 38)):=(Below.refl _ _).alloc (Nat.le_refl _) _
 obtain ⟨w1,hw1⟩:∃ w1,w.alloc (.cells (OC ⟨0,0,0,0,0,0⟩) 38) = w1:=⟨_,rfl⟩
 rw [hw1] at hb
 have HS:=Lib.hid (S.call w1 (H.below hb))
 have hsg:=S.sg.below hb
 have HF:=Lib.hid (tFirst_c g.tb g.sb g.t w1 hsg.cx hsg.tr)
 have HC1:Hid (Cl 38 w1 w.heap.size (OC ⟨0,0,0,0,0,0⟩)):=Lib.hid (by rw [← hw1];exact hd_last rfl)
 have HB:=Lib.hid hb
 have hr:=fst_rows g.t
 rw [S.eq] at hr
 cases hf:g.t.fst with
 | none =>
  rw [hf] at hr HF
  have hQ:Q = []:=by cases Q with | nil=>rfl | cons r Q=>simp at hr
  subst hQ
  obtain ⟨x0,x1,x2,x3,x4,x5⟩:=six_of HC1.out
  have f0:=Cl.f HC1.out (k:=0);have f1:=Cl.f HC1.out (k:=1);have f2:=Cl.f HC1.out (k:=2);have f3:=Cl.f HC1.out (k:=3);have f4:=Cl.f HC1.out (k:=4);have f5:=Cl.f HC1.out (k:=5)
  clear H S hsg hr hf hb
  go_enter Tryz.func201,Tryz.ntmps201
  go_wp2_with fail
  ((with_reducible refine HS.out.mono ?_);rintro e w2 ⟨rfl,rfl⟩)
  go_wp2_with fail
  ((with_reducible refine HF.out.mono ?_);rintro e w2 ⟨rfl,rfl⟩;dsimp only [fstV])
  go_wp2_with fail
  have hf:=put6_cl ⟨0,0,0,0,0,0⟩ HC1.out
  have hb:=put6_below ⟨0,0,0,0,0,0⟩ (Nat.le_refl _) HB.out
  refine bodyPost_ret (retOt rfl _ _ _ rfl ⟨0,0,0,0,0,0⟩ _ hf _ rfl) rfl ?_
  exact ⟨rfl,Lib.hid hb⟩
 | some f =>
  obtain ⟨k,v,q⟩:=f
  rw [hf] at hr HF
  obtain ⟨r,Q',rfl⟩:∃ r Q',Q = r :: Q':=by cases Q with | nil=>simp at hr | cons r Q'=>exact ⟨r,Q',rfl⟩
  have hr2:rqOf r = (k,q):=by simpa using hr
  have hq:q = r.q.map (·.id):=(congrArg Prod.snd hr2).symm
  obtain ⟨x,rq,hx⟩:∃ x rq,r.q = x :: rq:=by
   cases hh:r.q with
   | nil=>exact absurd hh (S.ok.some r List.mem_cons_self)
   | cons x rq=>exact ⟨x,rq,rfl⟩
  have hfo:fstO (r :: Q') = some x:=by unfold fstO flatR;rw [List.flatMap_cons,hx];rfl
  have hxm:x ∈ bookL Q1 Q2:=S.mem x (by unfold flatR;rw [List.flatMap_cons,hx];simp)
  rw [hfo]
  have ho:=fst_in hsg.tr _ hf
  dsimp only at ho
  have hv:v ∈ g.t.vals:=by
   have:=fst_vals g.t
   rw [hf] at this
   cases hvl:g.t.vals with
   | nil=>rw [hvl] at this;simp at this
   | cons u vs=>rw [hvl] at this;simp at this;rw [this];exact List.mem_cons_self
  rw [hq,hx] at ho
  rcases ho.2 with ⟨_,h0⟩ | ⟨gg,cap,cur,rfl,_,hg,_,_,hcs,ht⟩
  ·simp at h0
  have hc0:w1.cell? ⟨gg,0,none⟩ = some (.int .u64 x.id):=by
   rw [cell_of_row _ _ _ _ _ _ hg,← Array.getElem?_toList]
   have h2:(cur.toList.take (((x :: rq).map (·.id)).length * 1))[0]? = (idV ((x :: rq).map (·.id)))[0]?:=by rw [ht]
   rw [List.getElem?_take,if_pos (by simp)] at h2
   rw [h2];rfl
  have hft:=S.ft gg (.inr (.inr (.inr ⟨_,hv,rfl⟩)))
  have hgl:gg < w.heap.size:=H.lt gg hft
  have hne:∀ j,gfoot p m ms g1 g2 j → ¬ j = w.heap.size:=fun j hj e=>by have:=H.lt j hj;omega
  have HP2:Hid (∀ W,(Fr (· = w.heap.size) w1 W∧∃ z0,Cl 38 W w.heap.size (OC z0)) → W.cell? ⟨p,0,none⟩ = some (.map (some m))):=Lib.hid fun W hW=>(((H.below hb).fr hW.1 hne).bookp.c 0).trans rfl
  have HQ2:Hid (∀ W,(Fr (· = w.heap.size) w1 W∧∃ z0,Cl 38 W w.heap.size (OC z0)) → W.cell? ⟨gg,0,none⟩ = some (.int .u64 x.id)):=Lib.hid fun W hW=>by
   have e:=hW.1.block gg (blk_lt hg) (by omega)
   have:W.heap[gg]? = some (.cells cur 35 (0,0)):=e.trans hg
   rw [cell_of_row _ _ _ _ _ _ this,← cell_of_row _ _ _ _ _ _ hg]
   exact hc0
  have HL2:Hid (∀ W,(Fr (· = w.heap.size) w1 W∧∃ z0,Cl 38 W w.heap.size (OC z0)) → (Instr.lookup 133 (.map (some m)) (.int .u64 x.id) false).run Tryz.prog W = .ok (.agg (OC x)) W):=Lib.hid fun W hW=>by
   have G:=(H.below hb).fr hW.1 hne
   have:=look_o (G.gk.om _ _ rfl) G.om x.id (wf_u (G.ok x hxm).1.1)
   rw [(omL_some G.ids).2 ⟨hxm,rfl⟩] at this
   exact this
  have hlq:((x :: rq).map (·.id)).length = rq.length + 1:=by simp
  rw [hq,hx,hlq] at HF
  have hl0:(0:Int)≤(rq.length:Int):=by omega
  generalize rq.length = n at HF hl0
  generalize x.id = xi at HQ2 HL2
  clear H S hsg hr hf hb hr2 hq hx hfo hxm ho hv hg hcs ht hc0 hft hgl hne hlq
  go_enter Tryz.func201,Tryz.ntmps201
  go_wp2_with fail
  ((with_reducible refine HS.out.mono ?_);rintro e w2 ⟨rfl,rfl⟩)
  go_wp2_with fail
  ((with_reducible refine HF.out.mono ?_);rintro e w2 ⟨rfl,rfl⟩;dsimp only [fstV])
  go_wp2_with fail
  refine wp_region_held_drew (S:=fun W=>Fr (· = w.heap.size) w1 W∧∃ z0,Cl 38 W w.heap.size (OC z0)) (by kernel_rfl) (by exact ⟨Fr.drew (Fr.refl _ _),_,hd_drew HC1.out⟩) (fun hHeld=>?_)
  refine tkH 0 ?_ ?_ (by assumption) ?_
  rotate_left
  ·(intro w hSw;(try dsimp only at hSw);go_simp;try with_reducible rfl)
  (try simp only [zz])
  refine tkH 1 ?_ ?_ (by assumption) ?_
  rotate_left
  ·(intro w hSw;(try dsimp only at hSw);go_simp;try with_reducible rfl)
  (try simp only [zz])
  refine tkH 2 ?_ ?_ (by assumption) ?_
  rotate_left
  ·(intro w hSw;(try dsimp only at hSw);go_simp;try with_reducible rfl)
  (try simp only [zz])
  refine tkH 3 ?_ ?_ (by assumption) ?_
  rotate_left
  ·(intro w hSw;have hs:=HP2.out _ hSw;(try dsimp only at hSw);go_simp;try with_reducible rfl)
  (try simp only [zz])
  refine tkH 4 ?_ ?_ (by assumption) ?_
  rotate_left
  ·(intro w hSw;(try dsimp only at hSw);go_simp;try with_reducible rfl)
  (try simp only [zz])
  refine tkH 5 ?_ ?_ (by assumption) ?_
  rotate_left
  ·(intro w hSw;(try dsimp only at hSw);go_simp;try with_reducible rfl)
  (try simp only [zz])
  refine tkH 6 ?_ ?_ (by assumption) ?_
  rotate_left
  ·(intro w hSw;have hs:=HQ2.out _ hSw;(try dsimp only at hSw);go_simp;try with_reducible rfl)
  (try simp only [zz])
  refine tkH 7 ?_ ?_ (by assumption) ?_
  rotate_left
  ·(intro w hSw;have hs:=HL2.out _ hSw;(try dsimp only at hSw);go_simp;try with_reducible rfl)
  (try simp only [zz])
  refine rdH 8 (fun K hK=>?_)
  ((with_reducible apply any_storeOd);rfl;rfl;rfl;rfl;exact hd_drew HC1.out;skip)
  refine hK.out _ _ (by exact ⟨fr_row (Fr.drew (Fr.refl _ _)),_,setRow_heap _ _ _ _ _ _ (hd_drew HC1.out)⟩) (fun hHeld=>?_)
  clear hK K
  (try simp only [zz])
  refine tkH 9 ?_ ?_ (by assumption) ?_
  rotate_left
  ·(intro w hSw;(try dsimp only at hSw);go_simp;try with_reducible rfl)
  (try simp only [zz])
  refine wpAnyH_done (by kernel_rfl) ?_ _
  go_wp2_with fail
  have hX:Cl 38 (w1.drew.setRow w.heap.size (OC x)) w.heap.size (OC x):=setRow_heap _ _ _ _ _ _ (hd_drew HC1.out)
  refine bodyPost_ret (retOt rfl _ _ _ rfl x _ hX _ rfl) rfl ?_
  exact ⟨rfl,Lib.hid (HB.out.trans (hHeld.1.below (fun k hk=>by rw [hk];exact Nat.le_refl _) (by rw [← hw1];simp)))⟩
def bstQ (Q1 Q2:List Rw) (sd:Int):Option Od:=fstO (rsq Q1 Q2 sd)
theorem gBest_c (p m ms:Nat) (D:DataW Value) (g1 g2:Sg) (Q1 Q2:List Rw) (sd:Int) (hs:(Lit.int .i64 sd).wf = true) (w:World) (H:GW w p m ms D g1 g2 Q1 Q2) :
  Calls Tryz.prog 201 #[.pointer (some ⟨p,0,none⟩),.int .i64 sd] w fun e w'=>e = .returned (.tuple #[optV (bstQ Q1 Q2 sd),.bool (bstQ Q1 Q2 sd).isSome])∧Hid (Below w.heap.size w w'):=by
 unfold bstQ rsq
 by_cases h1:sd = 1
 ·subst h1;rw [if_pos rfl];exact gBest_own p m ms D g1 g2 Q1 Q2 1 g1 Q1 w H H.own1
 rw [if_neg h1]
 by_cases h2:sd = 2
 ·subst h2;rw [if_pos rfl];exact gBest_own p m ms D g1 g2 Q1 Q2 2 g2 Q2 w H H.own2
 rw [if_neg h2]
 exact gBest_off _ _ D g1 g2 sd ⟨h1,h2⟩ hs w H.gk
theorem gLevel_c (p m ms:Nat) (D:DataW Value) (g1 g2:Sg) (Q1 Q2:List Rw) (sd pr:Int) (hs:(Lit.int .i64 sd).wf = true) (w:World) (H:GW w p m ms D g1 g2 Q1 Q2) :
  Calls Tryz.prog 205 #[.pointer (some ⟨p,0,none⟩),.int .i64 sd,.int .i64 pr] w fun e w'=>∃ v,e = .returned v∧Hid (w'.ownsRow w.heap.size 38 6 v (atP pr (rsq Q1 Q2 sd)).length (ol (atP pr (rsq Q1 Q2 sd)))∧Below w.heap.size w w'):=by
 unfold rsq
 by_cases h1:sd = 1
 ·subst h1;rw [if_pos rfl];exact gLevel_own p m ms D g1 g2 Q1 Q2 1 pr g1 Q1 w H H.own1
 rw [if_neg h1]
 by_cases h2:sd = 2
 ·subst h2;rw [if_pos rfl];exact gLevel_own p m ms D g1 g2 Q1 Q2 2 pr g2 Q2 w H H.own2
 rw [if_neg h2]
 refine (gLevel_off _ _ D g1 g2 sd pr ⟨h1,h2⟩ hs w H.gk).mono ?_
 rintro e w' ⟨v,rfl,h⟩
 exact ⟨v,rfl,h⟩

theorem put1_c (W:World) (ob bb qb p m g n c i:Nat) (o x:Od) (hi:i < n) (h1:Cl 38 W ob (OC o)) (h2:Cl 104 W bb #[.pointer (some ⟨p,0,none⟩)]) (h3:Cl 124 W qb #[.slice (some ⟨g,0,none⟩) n c])
  (hp:W.cell? ⟨p,0,none⟩ = some (.map (some m))∧p < W.heap.size) (hx:W.cell? ⟨g,i,none⟩ = some (.int .u64 x.id)∧g < W.heap.size)
  (hl:∀ W',Gw W W' → (Instr.lookup 133 (.map (some m)) (.int .u64 x.id) false).run Tryz.prog W' = .ok (.agg (OC x)) W') :
  Calls Tryz.prog 219 #[.int .i64 i,.pointer (some ⟨ob,0,none⟩),.pointer (some ⟨bb,0,none⟩),.pointer (some ⟨qb,0,none⟩)] W fun e w'=>e = .returned (.bool (ahdO o x))∧Gw W w':=by
 have HO:Hid (∀ W',Gw W W' → Cl 38 W' ob (OC o)):=Lib.hid fun W' h=>(h.b.block _ (blk_lt h1)).trans h1
 have HB:Hid (∀ W',Gw W W' → W'.cell? ⟨bb,0,none⟩ = some (.pointer (some ⟨p,0,none⟩))):=Lib.hid fun W' h=>(h.b.cell (p:=⟨bb,0,none⟩) (blk_lt h2)).trans ((h2.c 0).trans rfl)
 have HP:Hid (∀ W',Gw W W' → W'.cell? ⟨p,0,none⟩ = some (.map (some m))):=Lib.hid fun W' h=>(h.b.cell (p:=⟨p,0,none⟩) hp.2).trans hp.1
 have HQ:Hid (∀ W',Gw W W' → W'.cell? ⟨qb,0,none⟩ = some (.slice (some ⟨g,0,none⟩) n c)):=Lib.hid fun W' h=>(h.b.cell (p:=⟨qb,0,none⟩) (blk_lt h3)).trans ((h3.c 0).trans rfl)
 have HX:Hid (∀ W',Gw W W' → W'.cell? ⟨g,i,none⟩ = some (.int .u64 x.id)):=Lib.hid fun W' h=>(h.b.cell (p:=⟨g,i,none⟩) hx.2).trans hx.1
 have HL:=Lib.hid hl
 have HA:=Lib.hid (fun W'=>ahead_c o.id o.acc o.side o.price o.qty o.seq x.id x.acc x.side x.price x.qty x.seq W')
 have hr:ahdN o.id o.side o.price o.seq x.id x.side x.price x.seq = ahdO o x:=rfl
 rw [hr] at HA
 generalize ahdO o x = r at HA ⊢
 have q1:(i:Int) < (n:Int):=by omega
 have q2:(0:Int)≤(i:Int):=by omega
 clear h1 h2 h3 hp hx hl hr hi
 go_enter Tryz.func219,Tryz.ntmps219
 go_wp2_with fail
 refine wp_region_held_drew (S:=fun W'=>Gw W W') (by kernel_rfl) (by exact ⟨(Below.refl _ _).drew,Nat.le_succ _⟩) (fun hHeld=>?_)
 refine tkH 0 ?_ ?_ (by assumption) ?_
 rotate_left
 ·(intro w hSw;obtain ⟨x0,x1,x2,x3,x4,x5⟩:=six_of (HO.out _ hSw);(try dsimp only at hSw);go_simp;try with_reducible rfl)
 (try simp only [zz])
 refine tkH 1 ?_ ?_ (by assumption) ?_
 rotate_left
 ·(intro w hSw;have hs:=HB.out _ hSw;(try dsimp only at hSw);go_simp;try with_reducible rfl)
 (try simp only [zz])
 refine tkH 2 ?_ ?_ (by assumption) ?_
 rotate_left
 ·(intro w hSw;(try dsimp only at hSw);go_simp;try with_reducible rfl)
 (try simp only [zz])
 refine tkH 3 ?_ ?_ (by assumption) ?_
 rotate_left
 ·(intro w hSw;(try dsimp only at hSw);go_simp;try with_reducible rfl)
 (try simp only [zz])
 refine tkH 4 ?_ ?_ (by assumption) ?_
 rotate_left
 ·(intro w hSw;have hs:=HP.out _ hSw;(try dsimp only at hSw);go_simp;try with_reducible rfl)
 (try simp only [zz])
 refine tkH 5 ?_ ?_ (by assumption) ?_
 rotate_left
 ·(intro w hSw;have hs:=HQ.out _ hSw;(try dsimp only at hSw);go_simp;try with_reducible rfl)
 (try simp only [zz])
 refine tkH 6 ?_ ?_ (by assumption) ?_
 rotate_left
 ·(intro w hSw;(try dsimp only at hSw);go_simp;try with_reducible rfl)
 (try simp only [zz])
 refine tkH 7 ?_ ?_ (by assumption) ?_
 rotate_left
 ·(intro w hSw;(try dsimp only at hSw);go_simp;try with_reducible rfl)
 (try simp only [zz])
 refine tkH 8 ?_ ?_ (by assumption) ?_
 rotate_left
 ·(intro w hSw;have hs:=HX.out _ hSw;(try dsimp only at hSw);go_simp;try with_reducible rfl)
 (try simp only [zz])
 refine tkH 9 ?_ ?_ (by assumption) ?_
 rotate_left
 ·(intro w hSw;have hs:=HL.out _ hSw;(try dsimp only at hSw);go_simp;try with_reducible rfl)
 (try simp only [zz])
 refine rdH 10 (fun K hK=>?_)
 go_simp
 ((with_reducible refine (HA.out _).mono ?_);rintro e y1 ⟨rfl,hg'⟩;have hg:=Lib.hid hg';clear hg')
 refine hK.out _ _ (by exact hHeld.trans hg.out) (fun hHeld=>?_)
 clear hK K
 (try simp only [zz])
 refine tkH 11 ?_ ?_ (by assumption) ?_
 rotate_left
 ·(intro w hSw;(try dsimp only at hSw);go_simp;try with_reducible rfl)
 (try simp only [zz])
 refine wpAnyH_done (by kernel_rfl) ?_ _
 go_wp2_with fail
 go_ret
 exact ⟨rfl,hHeld⟩

theorem cl_ne_map {T:TypeId} {w:World} {c m n:Nat} {cs:Array Value} {P:Program} {K:TypeId} {R:Value → Option (DataW Value × List MemPlace)} {D:DataW Value} (h:Cl T w c cs) (hm:w.ownsMap P K R m n D):c ≠ m:=by
 rintro rfl
 obtain ⟨es,clock,hb,_⟩:=hm
 rw [h] at hb
 cases hb
theorem TrIn.vcl {W:World}:∀ {t:Tr},TrIn W t → ∀ v ∈ t.vals,∀ k,v.ownBlock = some k → ∃ cur,Cl 35 W k cur
 | .nil,_,v,h=>(by cases h)
 | .node a k v q l r,h,u,hu=>by
  unfold Tr.vals at hu
  rcases List.mem_append.1 hu with hu | hu
  ·exact TrIn.vcl h.2.2.1 u hu
  ·rcases List.mem_cons.1 hu with rfl | hu
   ·intro j hj
    rcases h.2.1.2 with ⟨rfl,_⟩ | ⟨g,cap,cur,rfl,_,hg,_⟩
    ·cases hj
    ·injection hj with hj
     subst hj
     exact ⟨cur,hg⟩
   ·exact TrIn.vcl h.2.2.2 u hu
theorem SgIn.cl {w:World} {s:Int} {g:Sg} (h:SgIn w s g):∀ k,sfoot g k → ∃ T cs,Cl T w k cs:=by
 rintro k (rfl | rfl | hk | ⟨v,hv,hk⟩)
 ·exact ⟨_,_,h.box⟩
 ·exact ⟨_,_,h.cx⟩
 ·obtain ⟨cs,hc⟩:=h.tr.at_ k hk
  exact ⟨_,cs,hc⟩
 ·obtain ⟨cs,hc⟩:=h.tr.vcl v hv k hk
  exact ⟨_,cs,hc⟩
theorem SgIn.no_map {w:World} {s:Int} {g:Sg} (h:SgIn w s g) {m n:Nat} {P:Program} {K:TypeId} {R:Value → Option (DataW Value × List MemPlace)} {D:DataW Value} (hm:w.ownsMap P K R m n D):∀ k,sfoot g k → k ≠ m:=by
 intro k hk
 obtain ⟨T,cs,hc⟩:=h.cl k hk
 exact cl_ne_map hc hm
theorem SgIn.keep {S:Nat → Prop} {w w':World} {s:Int} {g:Sg} (h:SgIn w s g) (hf:Fr S w w') (hn:∀ k,sfoot g k → ¬ S k):SgIn w' s g :=
 h.fr hf (hn _ (.inl rfl)) (hn _ (.inr (.inl rfl))) (fun b hb=>hn b (.inr (.inr (.inl hb)))) (fun v hv k hk=>hn k (.inr (.inr (.inr ⟨v,hv,hk⟩))))
theorem fr_grown {row:Nat} {w w':World} (h:w.grownBy w' (some row)):Fr (· = row) w w':=⟨h.os,h.tape,h.output,h.size,fun k hk hn=>h.block k hk (fun e=>hn (by injection e))⟩
theorem fr_grown0 {S:Nat → Prop} {w w':World} (h:w.grownBy w' none):Fr S w w':=⟨h.os,h.tape,h.output,h.size,fun k hk _=>h.block k hk (by simp)⟩
theorem Gk.setom {w w':World} {p m ms:Nat} {D D':DataW Value} {g1 g2:Sg} (h:Gk w (some ⟨p,0,none⟩) (some (m,ms)) D g1 g2) (hg:w.grownBy w' (some m)) (ho:w'.ownsMap Tryz.prog 35 RV m 64 D') (hm:m ≠ ms):Gk w' (some ⟨p,0,none⟩) (some (m,ms)) D' g1 g2:=by
 have hf:=fr_grown hg
 refine ⟨?_,fun a b e=>?_,fun a b e=>?_,fun e=>?_,fun e=>?_⟩
 ·rcases h.shape with ⟨h0,_⟩ | ⟨q,hq,hc⟩
  ·cases h0
  ·exact .inr ⟨q,hq,hf.blk hc (cl_ne_map hc (h.om _ _ rfl))⟩
 ·injection e with e;injection e with e1 e2
  subst e1;exact ho
 ·have:=h.sm a b e
  injection e with e;injection e with e1 e2
  subst e2;exact ownsMap_fr this hf (fun e=>hm e.symm)
 ·exact (h.s1 e).keep hf (fun k hk=>(h.s1 e).no_map (h.om _ _ rfl) k hk)
 ·exact (h.s2 e).keep hf (fun k hk=>(h.s2 e).no_map (h.om _ _ rfl) k hk)
theorem plug_vals2:∀ (c:Cx) (t:Tr),(c.plug t).vals.Perm (t.vals ++ c.vals)
 | .top,t=>by simp [Cx.plug,Cx.vals]
 | .left a key v q r c,t=>by
  refine (plug_vals2 c _).trans ?_
  simp only [Tr.vals,Cx.vals,List.append_assoc,List.cons_append]
  exact List.Perm.refl _
 | .right a key v q l c,t=>by
  refine (plug_vals2 c _).trans ?_
  simp only [Tr.vals,Cx.vals,List.append_assoc,List.cons_append]
  exact List.perm_middle.trans ((List.Perm.cons v (List.perm_append_comm_assoc l.vals t.vals c.vals)).trans List.perm_middle.symm)
theorem plug_blks_eq:∀ (c:Cx) (t t':Tr),t.blks = t'.blks → (c.plug t).blks = (c.plug t').blks
 | .top,t,t',h=>h
 | .left a key v q r c,t,t',h=>plug_blks_eq c _ _ (by simp only [Tr.blks,h])
 | .right a key v q l c,t,t',h=>plug_blks_eq c _ _ (by simp only [Tr.blks,h])
theorem stale {W W':World} {g:Sg} {s key:Int} {c:Cx} {a b0:Nat} {v:Value} {q q':List Int} {l r:Tr} (hS:SgIn W s g) (hI:SpI W g.tb g.sb s key g.t c (.node a key v q l r)) (hv:v.ownBlock = some b0) (hVD:VD g.t.vals) (hf:Fr (· = b0) W W') (hq:W'.ownsRow 0 35 1 v q'.length (idV q')) :
  SgIn W' s ⟨g.tb,g.sb,c.plug (.node a key v q' l r)⟩∧(c.plug (.node a key v q' l r)).vals = g.t.vals∧(c.plug (.node a key v q' l r)).blks = g.t.blks∧(c.plug (.node a key v q' l r)).items = g.t.items:=by
 have hvv:=hI.tr.2.1
 obtain ⟨cur,hcur⟩:∃ cur,Cl 35 W b0 cur:=by
  rcases hvv.2 with ⟨rfl,_⟩ | ⟨gg,cap,cur,rfl,_,hg,_⟩
  ·cases hv
  ·injection hv with hv;subst hv;exact ⟨cur,hg⟩
 have hp0:g.t.vals.Perm ((Tr.node a key v q l r).vals ++ c.vals):=by rw [← hI.eq];exact plug_vals2 c _
 have hVP:=hVD.perm hp0
 simp only [Tr.vals,List.append_assoc,List.cons_append] at hVP
 have hVQ:VD (v :: (l.vals ++ (r.vals ++ c.vals))):=hVP.perm List.perm_middle
 have hno:∀ u ∈ l.vals ++ (r.vals ++ c.vals),∀ k,u.ownBlock = some k → ¬ k = b0:=fun u hu k hk e=>by
  subst e
  exact (List.pairwise_cons.1 hVQ).1 u hu k hv hk
 have cne:∀ {T:TypeId} {k:Nat} {cs:Array Value},35 ≠ T → Cl T W k cs → ¬ k = b0:=fun hT hc e=>by
  subst e
  have e2:some _ = some _:=Eq.trans (Eq.symm hc) hcur
  injection e2 with e2
  injection e2 with _ e2 _
  exact hT e2.symm
 have hblk:∀ b ∈ g.t.blks,¬ b = b0:=fun b hb=>by
  obtain ⟨cs,hc⟩:=hS.tr.at_ b hb
  exact cne (by decide) hc
 have hB:=plug_blks c (.node a key v q l r)
 rw [hI.eq] at hB
 have hB2:∀ b ∈ (Tr.node a key v q l r).blks ++ c.blks,¬ b = b0:=fun b hb=>hblk b (hB.mem_iff.2 hb)
 simp only [Tr.blks,List.append_assoc,List.cons_append] at hB2
 have htb:¬ g.tb = b0:=cne (by decide) hS.cx
 have cx':CxIn W' g.tb g.sb c (.pointer (some ⟨a,0,none⟩)):=CxIn.fr hf htb hI.cx (fun b hb=>hB2 b (by simp [hb])) (fun u hu k hk=>hno u (by simp [hu]) k hk)
 have tr':TrIn W' (.node a key v q' l r):=⟨hf.blk hI.tr.1 (hB2 a (by simp)),hq,TrIn.fr hf hI.tr.2.2.1 (fun b hb=>hB2 b (by simp [hb])) (fun u hu k hk=>hno u (by simp [hu]) k hk),TrIn.fr hf hI.tr.2.2.2 (fun b hb=>hB2 b (by simp [hb])) (fun u hu k hk=>hno u (by simp [hu]) k hk)⟩
 have hp:=plug_in (t:=.node a key v q' l r) cx' tr'
 obtain ⟨A,C,hpv⟩:=plug_vals c
 obtain ⟨A2,C2,hpi⟩:=plug_items c
 have ev:(c.plug (.node a key v q' l r)).vals = g.t.vals:=by rw [← hI.eq,hpv,hpv];rfl
 have eb:(c.plug (.node a key v q' l r)).blks = g.t.blks:=by rw [← hI.eq];exact plug_blks_eq c _ _ rfl
 have ei:(c.plug (.node a key v q' l r)).items = g.t.items:=by rw [← hI.eq,hpi,hpi];rfl
 have hbox:Cl 3 W' g.sb #[.int .i64 s]:=hf.blk hS.box (cne (by decide) hS.box)
 have hsrt:Srt s (c.plug (.node a key v q' l r)).rows:=by
  have h:=hS.srt
  rw [← hI.eq,rows_plug] at h
  rw [rows_plug]
  unfold Srt at h ⊢
  simp only [Tr.rows,List.append_assoc,List.cons_append] at h ⊢
  have h2:=(List.pairwise_map (f:=fun x:Rq=>x.1) (R:=fun x y=>betN s x y = true)).2 h
  refine (List.pairwise_map (f:=fun x:Rq=>x.1) (R:=fun x y=>betN s x y = true)).1 ?_
  simpa using h2
 exact ⟨⟨hbox,hp.1,hp.2,hsrt,by rw [eb];exact hS.nd⟩,ev,eb,ei⟩

theorem own_take {w:World} {g n k c:Nat} {xs:List Int} (h:w.ownsRow 0 35 1 (.slice (some ⟨g,0,none⟩) n c) n (idV xs)) (hk:k≤n):w.ownsRow 0 35 1 (.slice (some ⟨g,0,none⟩) k c) k (idV (xs.take k)):=by
 have hl:=h.1
 simp only [idV,List.length_map] at hl
 rcases h.2 with ⟨hv,_⟩ | ⟨g',cap,cur,hv,hb,hg,hnc,hcm,hcs,ht⟩
 ·cases hv
 ·injection hv with e1 _ e3
  injection e1 with e1
  injection e1 with e1
  subst e1 e3
  refine ⟨by simp [idV];omega,.inr ⟨g,c,cur,rfl,hb,hg,by omega,hcm,hcs,?_⟩⟩
  have h2:(cur.toList.take (n * 1)).take k = (idV xs).take k:=by rw [ht]
  rw [List.take_take,Nat.min_eq_left (by omega)] at h2
  rw [Nat.mul_one,h2]
  simp [idV,List.map_take]
def fakeR (pr:Int) (q:List Int):Rw:=⟨pr,.slice none 0 0,q.map fun i=>⟨i,0,0,0,0,0⟩⟩
theorem fake_rq (pr:Int) (q:List Int):rqOf (fakeR pr q) = (pr,q):=by
 unfold rqOf fakeR
 simp [List.map_map,Function.comp_def]
structure Rew (Wj:World) (s pr:Int) (g:Sg) (A M B:List Rw) (T:Tr):Prop where
 sg:SgIn Wj s ⟨g.tb,g.sb,T⟩
 vals:T.vals = g.t.vals
 blks:T.blks = g.t.blks
 items:T.items = g.t.items
 rows:∃ M',T.rows = (A ++ M' ++ B).map rqOf∧∀ a ∈ M',a.pr = pr
theorem rew_same {Wj W:World} {s pr:Int} {g:Sg} {A M B:List Rw} (hS:SgIn W s g) (hf:Fr (fun _=>False) W Wj) (e:g.t.rows = (A ++ M ++ B).map rqOf) (hM:∀ a ∈ M,a.pr = pr):Rew Wj s pr g A M B g.t :=
 ⟨hS.keep hf (fun _ _ h=>h),rfl,rfl,rfl,M,e,hM⟩
theorem rew_place {Wj W:World} {s pr:Int} {g:Sg} {A B:List Rw} {m:Rw} {c:Cx} {a b0:Nat} {v:Value} {q q':List Int} {l r:Tr} (hS:SgIn W s g) (hI:SpI W g.tb g.sb s pr g.t c (.node a pr v q l r)) (hv:v.ownBlock = some b0) (hVD:VD g.t.vals) (hf:Fr (· = b0) W Wj) (hq:Wj.ownsRow 0 35 1 v q'.length (idV q'))
  (hA:A.map rqOf = c.pre ++ l.rows) (hB:B.map rqOf = r.rows ++ c.post):Rew Wj s pr g A [m] B (c.plug (.node a pr v q' l r)):=by
 obtain ⟨h1,h2,h3,h4⟩:=stale hS hI hv hVD hf hq
 refine ⟨h1,h2,h3,h4,[fakeR pr q'],?_,fun a ha=>by rw [List.mem_singleton.1 ha];rfl⟩
 rw [rows_plug,List.map_append,List.map_append,hA,hB]
 simp [Tr.rows,fake_rq]
theorem ids_putQ (o:Od) (q:List Od):(idV (q.map (·.id))).take (plN o q * 1) ++ [.int .u64 o.id] ++ (idV (q.map (·.id))).drop (plN o q * 1) = idV ((putQ o q).map (·.id)):=by
 unfold putQ idV
 simp [List.map_take,List.map_drop]
theorem put_rows {W w':World} {sd:Int} {tb sb:Nat} {g:Sg} {A M B:List Rw} {o:Od} {Tw T':Tr} {v':Value} {ids:List Int} (hQ:SideOk sd (A ++ M ++ B)) (hA:∀ a ∈ A,betN sd a.pr o.price = true) (hB:∀ b ∈ B,betN sd o.price b.pr = true)
  (hM:M = [] ∨ ∃ m,M = [m]∧m.pr = o.price) (hR:Rew W sd o.price g A M B Tw) (hP:TPut W w' tb sb sd o.price Tw T' v' ids) (hids:ids = (putQ o (flatR M)).map (·.id)) :
  ∃ Q',T'.rows = Q'.map rqOf∧PutR sd o (A ++ M ++ B) Q':=by
 obtain ⟨M',e,hM'⟩:=hR.rows
 obtain ⟨P,R,Z,h1,h2,h3,hP1,hZ1⟩:=hP.rows
 rw [e] at h1
 obtain ⟨e1,e2,e3⟩:=part_rq rfl hA hM' hB h1 hP1 (fun a ha=>by rcases h3 with h3 | ⟨q0,h3⟩ <;> (rw [h3] at ha;simp at ha);rw [ha]) hZ1
 refine ⟨A ++ ⟨o.price,.slice none 0 0,putQ o (flatR M)⟩ :: B,?_,A,B,_,M,rfl,rfl,rfl,hA,hB,?_⟩
 ·rw [h2,← e1,← e3,hids]
  simp [rqOf]
 ·rcases hM with rfl | ⟨m,rfl,hm⟩
  ·refine .inl ⟨rfl,?_⟩
   show putQ o [] = [o]
   simp [putQ]
  ·refine .inr ⟨m,rfl,hm,?_⟩
   show putQ o (flatR [m]) = putQ o m.q
   simp [flatR]
theorem items_fst:∀ t:Tr,t.items.map Prod.fst = t.rows.map Prod.fst
 | .nil=>rfl
 | .node a k v q l r=>by simp [Tr.items,Tr.rows,items_fst l,items_fst r]
theorem items_one {s:Int} {t:Tr} (h:Srt s t.rows) {k:Int} {u v:Value} (h1:(k,u) ∈ t.items) (h2:(k,v) ∈ t.items):u = v:=by
 have irr:¬ betN s k k = true:=by rw [bet_iff];omega
 have hp:(t.items.map Prod.fst).Pairwise (fun x y=>betN s x y = true):=by
  rw [items_fst]
  exact List.pairwise_map.2 h
 rw [List.pairwise_map] at hp
 revert h1 h2 hp
 generalize t.items = R
 intro h1 h2 hp
 induction R with
 | nil=>cases h1
 | cons x R ih =>
  obtain ⟨hx,hR⟩:=List.pairwise_cons.1 hp
  rcases List.mem_cons.1 h1 with e1 | h1
  ·rcases List.mem_cons.1 h2 with e2 | h2
   ·rw [← e1] at e2;exact (Prod.mk.inj e2).2.symm
   ·have:=hx _ h2;rw [← e1] at this;exact absurd this irr
  ·rcases List.mem_cons.1 h2 with e2 | h2
   ·have:=hx _ h1;rw [← e2] at this;exact absurd this irr
   ·exact ih h1 h2 hR

section
variable {ops : Array Oper} {o : Oper} {a : Act} {w : World} {Q : Exit → Act → World → Prop}
theorem any_upd {K:Act → World → Prop} {E:Prop} (hgd:Region.wanted o (yielded ops a.tmps) = true) (t:TypeId) (x y z:Operand) (ho:o.op = .mapUpdate t x y z) (mv kv vv:Value) (hx:a.eval x = mv) (hy:a.eval y = kv) (hz:a.eval z = vv) {w':World}
  (hr:(Instr.mapUpdate t mv kv vv).run Tryz.prog w = .ok () w') (h:K (a.put o.dst undef) w'):if Region.wanted o (yielded ops a.tmps) = true then Oper.wp Tryz.prog o a w K Q else E:=by
 rw [if_pos hgd]
 unfold Oper.wp
 simp [execOp,ho,hx,hy,hz,hr,Result.andThen]
 exact h
end
theorem gSideO_c {p m ms:Nat} {D:DataW Value} {g1 g2:Sg} {sd:Int} {g:Sg} (h12:(sd = 1∧g = g1) ∨ (sd = 2∧g = g2)) (W:World) (hG:Gk W (some ⟨p,0,none⟩) (some (m,ms)) D g1 g2) :
  Calls Tryz.prog 210 #[.pointer (some ⟨p,0,none⟩),.int .i64 sd] W fun e w'=>e = .returned (.pointer (some ⟨g.tb,0,none⟩))∧W = w':=by
 have hwf:(Lit.int .i64 sd).wf = true:=by rcases h12 with ⟨rfl,_⟩ | ⟨rfl,_⟩ <;> decide
 refine (gSide_c _ _ D g1 g2 sd W hwf hG).mono ?_
 rintro e w' ⟨g',rfl,hg⟩
 cases hg.out with
 | own1 _ h1 hw=>rcases h12 with ⟨_,rfl⟩ | ⟨h2,_⟩;exact ⟨rfl,hw⟩;omega
 | own2 _ h1 hw=>rcases h12 with ⟨h2,_⟩ | ⟨_,rfl⟩;omega;exact ⟨rfl,hw⟩
 | new h1 _ _=>rcases h1 with h1 | h1;cases h1;rcases h12 with ⟨h2,_⟩ | ⟨h2,_⟩;exact absurd h2 h1.1;exact absurd h2 h1.2
def InsIs (w4 w5:World) (qv v':Value) (n:Nat) (ids:List Int):Prop :=
 Hid (w5.ownsRow 0 35 1 v' (n + 1) (idV ids)∧w4.grownBy w5 qv.ownBlock∧((v'.ownBlock = some w4.heap.size∧w4.grownBy w5 none) ∨ ∃ g c,qv = .slice (some ⟨g,0,none⟩) n c∧v' = .slice (some ⟨g,0,none⟩) (n + 1) c))
theorem ins_rew {w1 w4 w5:World} {s pr:Int} {g:Sg} {A M B:List Rw} {c:Cx} {t:Tr} {n:Nat} {v':Value} {ids:List Int} (hS:SgIn w1 s g) (hI:SpI w1 g.tb g.sb s pr g.t c t) (hVD:VD g.t.vals) (e:g.t.rows = (A ++ M ++ B).map rqOf)
  (hM:(t = .nil∧M = []) ∨ ∃ a v q l r m,t = .node a pr v q l r∧M = [m]∧m.pr = pr∧q = m.q.map (·.id)∧A.map rqOf = c.pre ++ l.rows∧B.map rqOf = r.rows ++ c.post)
  (hf:Fr (fun _=>False) w1 w4) (h:InsIs w4 w5 t.val v' n ids) :
  ∃ Tw,Rew w5 s pr g A M B Tw∧((∃ j,w1.heap.size≤j∧v'.ownBlock = some j) ∨ ∃ u,(pr,u) ∈ g.t.items∧v'.ownBlock = u.ownBlock)∧Fr (sfoot g) w1 w5:=by
 obtain ⟨k1,k2,k3⟩:=h.out
 rcases k3 with ⟨k3,k4⟩ | ⟨b0,cc,k3,k4⟩
 ·have hf5:Fr (fun _=>False) w1 w5:=hf.trans (fr_grown0 (S:=fun _=>False) k4) (fun _ h=>.inl h)
  exact ⟨g.t,rew_same hS hf5 e (fun a ha=>by rcases hM with ⟨_,rfl⟩ | ⟨_,_,_,_,_,m,_,rfl,hm,_⟩;cases ha;rw [List.mem_singleton.1 ha];exact hm),.inl ⟨_,hf.size,k3⟩,hf5.mono (fun _ h=>h.elim)⟩
 ·rcases hM with ⟨rfl,_⟩ | ⟨a,v,q,l,r,m,rfl,rfl,hm,hq,hA,hB⟩
  ·cases k3
  ·have hv:v = .slice (some ⟨b0,0,none⟩) n cc:=k3
   have hvb:v.ownBlock = some b0:=by rw [hv];rfl
   have hval:(Tr.node a pr v q l r).val = v:=rfl
   rw [hval,hvb] at k2
   rw [k4] at k1
   have hl:=k1.1
   simp only [idV,List.length_map] at hl
   have hq':=own_take k1 (k:=n) (by omega)
   rw [← hv] at hq'
   have hln:(ids.take n).length = n:=by rw [List.length_take];omega
   have hf5:Fr (· = b0) w1 w5:=(hf.mono (fun _ h=>h.elim)).trans (fr_grown k2) (fun _ h=>.inl h)
   obtain ⟨A2,C2,hpi⟩:=plug_items c
   have hmem:(pr,v) ∈ g.t.items:=by rw [← hI.eq,hpi];simp [Tr.items]
   obtain ⟨A3,C3,hpv⟩:=plug_vals c
   have hvm:v ∈ g.t.vals:=by rw [← hI.eq,hpv];simp [Tr.vals]
   exact ⟨_,rew_place hS hI hvb hVD hf5 (by rw [hln];exact hq') hA hB,.inr ⟨v,hmem,by rw [k4,hvb];rfl⟩,hf5.mono (fun k h=>.inl (.inr (.inr (.inr ⟨v,hvm,by rw [hvb,h]⟩))))⟩

theorem cl_ne {T T':TypeId} {w:World} {k k':Nat} {cs cs':Array Value} (h:Cl T w k cs) (h':Cl T' w k' cs') (hT:T ≠ T'):¬ k = k':=by
 rintro rfl
 have e2:some _ = some _:=Eq.trans (Eq.symm h) h'
 injection e2 with e2
 injection e2 with _ e2 _
 exact hT e2
theorem put_off {w:World} {s:Int} {g:Sg} {T:TypeId} {k:Nat} {cs:Array Value} (h:SgIn w s g) (hc:Cl T w k cs) (h1:T ≠ 156) (h2:T ≠ 278):¬ (k = g.tb ∨ k ∈ g.t.blks):=by
 rintro (rfl | hk)
 ·exact cl_ne hc h.cx h1 rfl
 ·obtain ⟨cs',hc'⟩:=h.tr.at_ k hk
  exact cl_ne hc hc' h2 rfl
def PutMem (w w':World) (m:Nat) (sd:Int) (g:Sg) (Q:List Rw) (L:List Od) (o:Od):Prop:=∃ D' T' Q' v',
 w'.ownsMap Tryz.prog 35 RV m 64 D'∧OmT D' (o :: L)∧SgIn w' sd ⟨g.tb,g.sb,T'⟩∧T'.rows = Q'.map rqOf∧PutR sd o Q Q'∧(∀ b ∈ T'.blks,b ∈ g.t.blks ∨ w.heap.size≤b) ∧
 (∃ A B C,g.t.vals = A ++ B ++ C∧T'.vals = A ++ v' :: C∧((∃ j,w.heap.size≤j∧v'.ownBlock = some j) ∨ ∃ u,B = [u]∧v'.ownBlock = u.ownBlock))∧Fr (fun k=>k = m ∨ sfoot g k) w w'
theorem gput_fin {w w0 w1 w5 w6:World} {m ms p:Nat} {D D':DataW Value} {g1 g2:Sg} {Q1 Q2:List Rw} {g:Sg} {Q A M B:List Rw} {o:Od} {Tw T':Tr} {v':Value}
  (S:OwnS w p m ms D g1 g2 Q1 Q2 o.side g Q) (b0:Below w.heap.size w w0) (hg01:w0.grownBy w1 (some m)) (sg1:SgIn w1 o.side g) (om1:w1.ownsMap Tryz.prog 35 RV m 64 D') (hO1:OmT D' (o :: bookL Q1 Q2)) (hQe:Q = A ++ M ++ B) (hA:∀ a ∈ A,betN o.side a.pr o.price = true) (hB:∀ b ∈ B,betN o.side o.price b.pr = true)
  (hM:M = [] ∨ ∃ m,M = [m]∧m.pr = o.price) (hR:Rew w5 o.side o.price g A M B Tw) (hN:((∃ j,w1.heap.size≤j∧v'.ownBlock = some j) ∨ ∃ u,(o.price,u) ∈ g.t.items∧v'.ownBlock = u.ownBlock)∧Fr (sfoot g) w1 w5)
  (h6:TPut w5 w6 g.tb g.sb o.side o.price Tw T' v' ((putQ o (flatR M)).map (·.id))):PutMem w w6 m o.side g Q (bookL Q1 Q2) o:=by
 have hf56:Fr (sfoot g) w5 w6:=h6.fr.mono (fun k hk=>.inl (by
  rcases hk with rfl | hk
  ·exact .inr (.inl rfl)
  ·rw [hR.blks] at hk;exact .inr (.inr (.inl hk))))
 have hf16:Fr (sfoot g) w1 w6:=hN.2.trans hf56 (fun _ h=>.inl h)
 have hz1:w.heap.size≤w1.heap.size:=Nat.le_trans b0.size hg01.size
 have hbx:Cl 3 w6 g.sb #[.int .i64 o.side]:=h6.fr.blk hR.sg.box (put_off hR.sg hR.sg.box (by decide) (by decide))
 obtain ⟨Q',e1,e2⟩:=put_rows (by rw [← hQe];exact S.ok) hA hB hM hR h6 rfl
 refine ⟨D',T',Q',v',ownsMap_fr om1 hf16 (fun h=>sg1.no_map om1 m h rfl),hO1,⟨hbx,h6.cx,h6.tr,h6.srt,h6.nd⟩,e1,by rw [hQe];exact e2,fun b hb=>?_,?_,?_⟩
 ·rcases h6.bl b hb with h | h
  ·rw [hR.blks] at h;exact .inl h
  ·exact .inr (Nat.le_trans hz1 (Nat.le_trans hN.2.size h))
 ·obtain ⟨A',B',C',k1,k2,k3⟩:=h6.vals
  rw [hR.vals] at k1
  refine ⟨A',B',C',k1,k2,?_⟩
  rcases hN.1 with ⟨j,hj,hv⟩ | ⟨u,hu,hv⟩
  ·exact .inl ⟨j,by omega,hv⟩
  ·rcases k3 with ⟨_,k3⟩ | ⟨u',rfl,k3⟩
   ·exact absurd (by rw [hR.items];exact hu) (k3 u)
   ·rw [hR.items] at k3
    have:=items_one sg1.srt hu k3
    exact .inr ⟨u',rfl,by rw [← this];exact hv⟩
 ·have f1:Fr (fun k=>k = m ∨ sfoot g k) w w1:=(Fr.of_below (S:=fun k=>k = m ∨ sfoot g k) b0).trans (fr_grown hg01) (fun k h=>.inl (.inl h))
  exact f1.trans hf16 (fun k h=>.inl (.inr h))
theorem val_que {w:World} {tb sb:Nat} {s pr:Int} {T:Tr} {A M B:List Rw} {c:Cx} {t:Tr} (hI:SpI w tb sb s pr T c t) (hM:(t = .nil∧M = []) ∨ ∃ a v q l r m,t = .node a pr v q l r∧M = [m]∧m.pr = pr∧q = m.q.map (·.id)∧A.map rqOf = c.pre ++ l.rows∧B.map rqOf = r.rows ++ c.post) :
  ∃ Aq cc,t.val = .slice Aq (flatR M).length cc∧w.ownsRow 0 35 1 (.slice Aq (flatR M).length cc) (flatR M).length (idV ((flatR M).map (·.id))):=by
 rcases hM with ⟨rfl,rfl⟩ | ⟨a,v,q,l,r,m,rfl,rfl,hm,rfl,_,_⟩
 ·exact ⟨none,0,rfl,World.ownsRow_nil _ _ _ _⟩
 ·have e1:flatR [m] = m.q:=by simp [flatR]
  rw [e1]
  have ho:=hI.tr.2.1
  rw [List.length_map] at ho
  rcases ho.2 with ⟨rfl,h0⟩ | ⟨gg,cap,cur,rfl,_⟩
  ·rw [h0] at ho ⊢
   exact ⟨none,0,rfl,ho⟩
  ·exact ⟨_,_,rfl,ho⟩
theorem ahd_flip {sd:Int} (hsd:sd = 1 ∨ sd = 2) {o x:Od} (ho:o.side = sd) (hx:x.side = sd) (hp:x.price = o.price) (hi:¬ x.id = o.id):ahdO o x = !ahdO x o:=by
 cases h:ahdO x o with
 | true =>
  cases h2:ahdO o x with
  | false=>rfl
  | true=>have h1:=lt_of_ahd h;have h2:=lt_of_ahd h2;rw [lt_asym h1] at h2;cases h2
 | false=>exact ahd_tot (hx.trans ho.symm) (by rw [hx];exact hsd) hp hi h

theorem gPut_w (p m ms:Nat) (D:DataW Value) (g1 g2:Sg) (Q1 Q2:List Rw) (sd:Int) (g:Sg) (Q:List Rw) (o:Od) (w:World) (H:GW w p m ms D g1 g2 Q1 Q2) (S:OwnS w p m ms D g1 g2 Q1 Q2 sd g Q) (h12:(sd = 1∧g = g1) ∨ (sd = 2∧g = g2))
  (hVD:VD g.t.vals) (hs:o.side = sd) (hid:∀ x ∈ bookL Q1 Q2,¬ x.id = o.id) (hok:Od.ok w o) (hl:(bookL Q1 Q2).length < 64) :
  Calls Tryz.prog 209 #[.pointer (some ⟨p,0,none⟩),.agg #[.int .u64 o.id,.int .i64 o.acc,.int .i64 o.side,.int .i64 o.price,.int .i64 o.qty,.int .u64 o.seq]] w fun e w'=>e = .returned (.tuple #[])∧Hid (PutMem w w' m sd g Q (bookL Q1 Q2) o):=by
 subst hs
 have hmf:=hmf_any
 have hsd:=S.s12
 obtain ⟨w0,hw0⟩:∃ w0,((w.alloc (.cells #[.pointer (some ⟨p,0,none⟩)] 104)).alloc (.cells (OC o) 38)) = w0:=⟨_,rfl⟩
 have b0:Below w.heap.size w w0:=by rw [← hw0];exact ((Below.refl _ _).alloc (Nat.le_refl _) _).alloc (by simp) _
 have hz0:w0.heap.size = w.heap.size + 2:=by rw [← hw0];simp
 have cB:Cl 104 w0 w.heap.size #[.pointer (some ⟨p,0,none⟩)]:=by rw [← hw0];exact hd_prev (by simp) (hd_last rfl)
 have cO:Cl 38 w0 (w.heap.size + 1) (OC o):=by rw [← hw0];exact hd_last (by simp)
 have H0:=H.below b0
 have om0:=H0.gk.om _ _ rfl
 have hnone:omL (bookL Q1 Q2) o.id = none:=omL_none.2 hid
 obtain ⟨w1,hr,D',om1,hO1,hg1⟩:=put_o (M:=o :: bookL Q1 Q2) (om0.drew) (by omega) H.om o (wf_u hok.1) (fun id=>omL_cons o _ id) (by rw [hnone];simp) (by simp;omega)
 have hg01:w0.grownBy w1 (some m):=⟨hg1.os,hg1.tape,hg1.output,hg1.size,hg1.block⟩
 have HR:Hid ((Instr.mapUpdate 133 (.map (some m)) (.int .u64 o.id) (.agg (OC o))).run Tryz.prog w0.drew = .ok () w1):=Lib.hid hr
 have nB:=cl_ne_map cB om0
 have nO:=cl_ne_map cO om0
 have nP:=cl_ne_map H0.bookp om0
 have HB:Hid (∀ W,w0.grownBy W (some m) → W.cell? ⟨w.heap.size,0,none⟩ = some (.pointer (some ⟨p,0,none⟩))):=Lib.hid fun W h=>(Cl.c ((fr_grown h).blk cB nB) 0).trans rfl
 have HO:Hid (∀ W,w0.grownBy W (some m) → Cl 38 W (w.heap.size + 1) (OC o)):=Lib.hid fun W h=>(fr_grown h).blk cO nO
 have HP:Hid (∀ W,w0.grownBy W (some m) → W.cell? ⟨p,0,none⟩ = some (.map (some m))):=Lib.hid fun W h=>(Cl.c ((fr_grown h).blk H0.bookp nP) 0).trans rfl
 have HG1:=Lib.hid hg01
 have gk1:=H0.gk.setom hg01 om1 H.mm
 have sg1:SgIn w1 o.side g:=by
  rcases h12 with ⟨h,rfl⟩ | ⟨h,rfl⟩
  ·rw [h];exact gk1.s1 rfl
  ·rw [h];exact gk1.s2 rfl
 have cB1:=(fr_grown hg01).blk cB nB
 have cO1:=(fr_grown hg01).blk cO nO
 have HS1:=Lib.hid (gSideO_c h12 w1 gk1)
 have HGt:=Lib.hid (tGet_c g.tb g.sb o.side o.price g.t w1 (fun _=>hsd) sg1.box sg1.cx sg1.tr sg1.srt)
 obtain ⟨x0,x1,x2,x3,x4,x5⟩:=six_of cO1
 have kB:w1.cell? ⟨w.heap.size,0,none⟩ = some (.pointer (some ⟨p,0,none⟩)):=(Cl.c cB1 0).trans rfl
 have HH:=Lib.hid (And.intro H (And.intro S (And.intro b0 (And.intro hz0 (And.intro gk1 (And.intro sg1 (And.intro cB1 (And.intro cO1 (And.intro om1 (And.intro hO1 (And.intro hid (And.intro hVD (And.intro hok hl)))))))))))))
 clear om0 H0 nB nO nP cB cO b0 hz0 gk1 sg1 cB1 cO1 om1 hO1 hnone hr hg1 hg01 H S hid hVD hok hl
 go_enter Tryz.func209,Tryz.ntmps209
 go_wp2_with fail
 refine wp_region_held_drew (S:=fun W=>w0.grownBy W (some m)) (by kernel_rfl) (by exact ⟨rfl,rfl,rfl,Nat.le_refl _,fun _ _ _=>rfl⟩) (fun hHeld=>?_)
 refine tkH 0 ?_ ?_ (by assumption) ?_
 rotate_left
 ·(intro w hSw;have hs:=HB.out _ hSw;(try dsimp only at hSw);go_simp;try with_reducible rfl)
 (try simp only [zz])
 refine tkH 1 ?_ ?_ (by assumption) ?_
 rotate_left
 ·(intro w hSw;(try dsimp only at hSw);go_simp;try with_reducible rfl)
 (try simp only [zz])
 refine tkH 2 ?_ ?_ (by assumption) ?_
 rotate_left
 ·(intro w hSw;(try dsimp only at hSw);go_simp;try with_reducible rfl)
 (try simp only [zz])
 refine tkH 3 ?_ ?_ (by assumption) ?_
 rotate_left
 ·(intro w hSw;have hs:=HP.out _ hSw;(try dsimp only at hSw);go_simp;try with_reducible rfl)
 (try simp only [zz])
 refine tkH 4 ?_ ?_ (by assumption) ?_
 rotate_left
 ·(intro w hSw;(try dsimp only at hSw);go_simp;try with_reducible rfl)
 (try simp only [zz])
 refine tkH 5 ?_ ?_ (by assumption) ?_
 rotate_left
 ·(intro w hSw;obtain ⟨x0,x1,x2,x3,x4,x5⟩:=six_of (HO.out _ hSw);(try dsimp only at hSw);go_simp;try with_reducible rfl)
 (try simp only [zz])
 refine tkH 6 ?_ ?_ (by assumption) ?_
 rotate_left
 ·(intro w hSw;obtain ⟨x0,x1,x2,x3,x4,x5⟩:=six_of (HO.out _ hSw);(try dsimp only at hSw);go_simp;try with_reducible rfl)
 (try simp only [zz])
 refine rdH 7 (fun K hK=>?_)
 ((with_reducible apply any_upd);rfl;rfl;rfl;rfl;rfl;exact HR.out;skip)
 refine hK.out _ _ (by exact HG1.out) (fun hHeld=>?_)
 clear hK K
 (try simp only [zz])
 refine wpAnyH_done (by kernel_rfl) ?_ _
 clear hHeld HB HO HP HR
 go_wp2_with fail
 ((with_reducible refine HS1.out.mono ?_);rintro e wS ⟨rfl,rfl⟩)
 clear HS1
 go_wp2_with fail
 ((with_reducible refine HGt.out.mono ?_);rintro e wG ⟨c,t,rfl,hh,n,rfl⟩)
 clear HGt
 obtain ⟨H,S,b0,hz0,gk1,sg1,cB1,cO1,om1,hO1,hid,hVD,hok,hl⟩:=HH.out
 obtain ⟨A,M,B,hQe,hA,hB,hM⟩:=spot_row hh.out.1 hh.out.2 S.eq S.ok
 obtain ⟨Aq,cc,ev,hown⟩:=val_que hh.out.1 hM
 rw [ev]
 have hQok:SideOk o.side (A ++ M ++ B):=by rw [← hQe];exact S.ok
 have hMp:∀ r ∈ M,r.pr = o.price:=by rcases hM with ⟨_,rfl⟩ | ⟨_,_,_,_,_,m',_,rfl,hm,_⟩;intro r hr;cases hr;intro r hr;rw [List.mem_singleton.1 hr];exact hm
 have hxm:∀ x ∈ flatR M,x ∈ bookL Q1 Q2∧x.side = o.side∧x.price = o.price:=fun x hx=>by
  obtain ⟨r,hr,hxr⟩:=List.mem_flatMap.1 hx
  have hr':r ∈ A ++ M ++ B:=by simp [hr]
  have h:=hQok.mem r hr' x hxr
  exact ⟨S.mem x (by rw [hQe];exact List.mem_flatMap.2 ⟨r,hr',hxr⟩),h.1,h.2.trans (hMp r hr)⟩
 have hpw:(flatR M).Pairwise (fun x y=>ahdO x y = true):=by
  rcases hM with ⟨_,rfl⟩ | ⟨_,_,_,_,_,m',_,rfl,hm,_⟩
  ·exact List.Pairwise.nil
  ·have:=hQok.que m' (by simp)
   simpa [flatR] using this
 have hNl:(flatR M).length≤64:=by
  have h1:(flatR Q).length = (flatR A).length + (flatR M).length + (flatR B).length:=by rw [hQe];simp [flatR];omega
  have:=S.len
  omega
 obtain ⟨w2,hw2⟩:∃ w2,((w1.drewN n).alloc (.cells #[.slice none 0 0] 124)).setCell ⟨w1.heap.size,0,none⟩ (.slice Aq (flatR M).length cc) = w2:=⟨_,rfl⟩
 have cz:Cl 124 ((w1.drewN n).alloc (.cells #[.slice none 0 0] 124)) w1.heap.size #[.slice none 0 0]:=hd_last rfl
 have z1:((w1.drewN n).alloc (.cells #[.slice none 0 0] 124)).cell? ⟨w1.heap.size,0,none⟩ = some (.slice none 0 0):=(Cl.c cz 0).trans rfl
 have z2:((w1.drewN n).alloc (.cells #[.slice none 0 0] 124)).frozen? ⟨w1.heap.size,0,none⟩ = false:=Cl.f cz
 have hn0:(w1.drewN n).heap.size = w1.heap.size:=rfl
 have b12:Below w1.heap.size w1 w2:=by rw [← hw2];exact ((below_drewN (Below.refl _ _) n).alloc (Nat.le_refl _) _).setCell (p:=⟨w1.heap.size,0,none⟩) (Nat.le_refl _) _
 have cQ2:Cl 124 w2 w1.heap.size #[.slice Aq (flatR M).length cc]:=by rw [← hw2];exact heap_set cz
 have cO2:Cl 38 w2 (w.heap.size + 1) (OC o):=(b12.block _ (blk_lt cO1)).trans cO1
 have cB2:Cl 104 w2 w.heap.size #[.pointer (some ⟨p,0,none⟩)]:=(b12.block _ (blk_lt cB1)).trans cB1
 have hbp:Cl 138 w1 p #[.map (some m),.map (some ms)]:=by
  rcases gk1.shape with ⟨h0,_⟩ | ⟨q,hq,hc⟩
  ·cases h0
  ·injection hq with hq;injection hq with hq
   rw [hq];exact hc
 have hq2:QIn w1 w1.heap.size Aq (flatR M):=(row_q hown (fun k hk=>(hown.lt k hk).2)).2
 have hids2:Ids (o :: bookL Q1 Q2):=List.pairwise_cons.2 ⟨fun x hx e=>hid x hx e.symm,H.ids⟩
 have HSr:=Any.sort_Search Tryz.searchL 219 #[.pointer (some ⟨w.heap.size + 1,0,none⟩),.pointer (some ⟨w.heap.size,0,none⟩),.pointer (some ⟨w1.heap.size,0,none⟩)] (flatR M).length (fun i=>!ahdO (flatR M)[i]! o) w2 (enters_of Tryz.func219 (by kernel_rfl) rfl) (by omega)
  (fun mm os i hi=>by
   have hG:=Gw.of_grow w2 mm os
   have hB1:Below w1.heap.size w1 (Go.Sort.grow (w2.drewN mm) os):=b12.trans (hG.b.mono b12.size)
   obtain ⟨gq,rfl,hgq,hcq⟩:=hq2 i hi
   have hxi:=hxm (flatR M)[i]! (by rw [getElem!_pos (flatR M) i hi];exact List.getElem_mem _)
   have hfl:=ahd_flip hsd rfl hxi.2.1 hxi.2.2 (hid _ hxi.1)
   have:=put1_c (Go.Sort.grow (w2.drewN mm) os) (w.heap.size + 1) w.heap.size w1.heap.size p m gq (flatR M).length cc i o (flatR M)[i]! hi ((hG.b.block _ (blk_lt cO2)).trans cO2) ((hG.b.block _ (blk_lt cB2)).trans cB2) ((hG.b.block _ (blk_lt cQ2)).trans cQ2)
    ⟨(hB1.cell (p:=⟨p,0,none⟩) (blk_lt hbp)).trans ((Cl.c hbp 0).trans rfl),Nat.lt_of_lt_of_le (blk_lt hbp) hB1.size⟩ ⟨(hB1.cell (p:=⟨gq,i,none⟩) hgq).trans hcq,Nat.lt_of_lt_of_le hgq hB1.size⟩
    (fun W' hW'=>by
     have hBW:Below w1.heap.size w1 W':=hB1.trans (hW'.b.mono hB1.size)
     have om':=ownsMap_fr om1 (Fr.of_below (S:=fun _=>False) hBW) (fun h=>h)
     have hlk:=look_o om' hO1 (flatR M)[i]!.id (wf_u (H.ok _ hxi.1).1.1)
     rw [(omL_some hids2).2 ⟨List.mem_cons_of_mem _ hxi.1,rfl⟩] at hlk
     exact hlk)
   rw [hfl] at this
   exact this.mono fun e w' ⟨h1,h2⟩=>⟨h1,h2.grow⟩)
  (mono_not (que_mono hpw))
 rw [count_not (flatR M) (fun x=>ahdO x o),show List.countP (fun x=>ahdO x o) (flatR M) = plN o (flatR M) from rfl] at HSr
 have HSr':=Lib.hid HSr
 have hpl:plN o (flatR M)≤(flatR M).length:=List.countP_le_length
 have kQ:w2.cell? ⟨w1.heap.size,0,none⟩ = some (.slice Aq (flatR M).length cc):=(Cl.c cQ2 0).trans rfl
 have kB2:w2.cell? ⟨w.heap.size,0,none⟩ = some (.pointer (some ⟨p,0,none⟩)):=(Cl.c cB2 0).trans rfl
 have HH2:=Lib.hid (And.intro b12 (And.intro cQ2 (And.intro cO2 (And.intro hown (And.intro hQok (And.intro hQe (And.intro hA (And.intro hB (And.intro hM (And.intro hNl (And.intro hh.out.1 ev)))))))))))
 clear cz H S b0 hz0 gk1 sg1 cB1 cO1 om1 hO1 hid hVD hok hl hh hA hB hM ev hown hQok hQe hMp hxm hpw hNl b12 cQ2 cO2 cB2 hbp hq2 hids2 HSr kB x0 x1 x2 x3 x4 x5
 generalize hNN:(flatR M).length = N at *
 go_wp2_with fail
 refine HSr'.out.mono ?_
 rintro e w3 ⟨rfl,hg3'⟩
 have g3:Gw w2 w3:=by obtain ⟨nq,os,rfl⟩:=hg3';exact Gw.of_grow _ _ _
 clear hg3' HSr' z1 z2 hw2 kQ kB2
 obtain ⟨H,S,b0,hz0,gk1,sg1,cB1,cO1,om1,hO1,hid,hVD,hok,hl⟩:=HH.out
 obtain ⟨b12,cQ2,cO2,hown,hQok,hQe,hA,hB,hM,hNl,hI,ev⟩:=HH2.out
 have b13:Below w1.heap.size w1 w3:=b12.trans (g3.b.mono b12.size)
 have cO3:Cl 38 w3 (w.heap.size + 1) (OC o):=(g3.b.block _ (blk_lt cO2)).trans cO2
 have cQ3:Cl 124 w3 w1.heap.size #[.slice Aq N cc]:=(g3.b.block _ (blk_lt cQ2)).trans cQ2
 have C3:=Lib.hid (And.intro cO3 cQ3)
 obtain ⟨w4,hw4⟩:∃ w4,w3.drew.alloc (.cells #[.int .u64 o.id] 35) = w4:=⟨_,rfl⟩
 have b34:Below w3.heap.size w3 w4:=by rw [← hw4];exact ((Below.refl _ _).drew).alloc (Nat.le_refl _) _
 have b14:Below w1.heap.size w1 w4:=b13.trans (b34.mono b13.size)
 have cO4:Cl 38 w4 (w.heap.size + 1) (OC o):=(b34.block _ (blk_lt cO3)).trans cO3
 have cQ4:Cl 124 w4 w1.heap.size #[.slice Aq N cc]:=(b34.block _ (blk_lt cQ3)).trans cQ3
 have C4:=Lib.hid (And.intro cO4 cQ4)
 have hv4:w4.heap[w3.heap.size]? = some (.cells ([.int .u64 o.id]:List Value).toArray 35 (0,0)):=by rw [← hw4];exact hd_last rfl
 have own4:w4.ownsRow 0 35 1 (.slice Aq N cc) N (idV ((flatR M).map (·.id))):=own_fr hown (Fr.of_below (S:=fun _=>False) b14) (fun _ _ h=>h)
 have hvb:(Value.slice Aq N cc).ownBlock ≠ some w3.heap.size:=fun e=>by have:=(hown.lt _ e).2;have:=b13.size;omega
 have HI:Hid (Calls Tryz.prog 220 #[.slice Aq N cc,.int .i64 (plN o (flatR M)),.slice (some ⟨w3.heap.size,0,none⟩) 1 1] w4 fun e w'=>∃ v',e = .returned v'∧InsIs w4 w' (.slice Aq N cc) v' N ((putQ o (flatR M)).map (·.id))) :=
  Lib.hid ((ins2_U w4 0 N (plN o (flatR M)) (.slice Aq N cc) (idV ((flatR M).map (·.id))) [.int .u64 o.id] w3.heap.size own4 (Nat.zero_le _) (by omega) hpl hvb hv4 rfl (fun u hu=>by
   obtain ⟨a,_,rfl⟩:=List.mem_map.1 hu;rfl) (fun u hu=>by rw [List.mem_singleton.1 hu];rfl)).mono fun e w' ⟨v',he,h⟩=>⟨v',he,by rw [ids_putQ] at h;exact h⟩)
 have HX:=Lib.hid (fun w5 v' (h:InsIs w4 w5 (.slice Aq N cc) v' N ((putQ o (flatR M)).map (·.id)))=>ins_rew sg1 hI hVD (A:=A) (M:=M) (B:=B) (by rw [S.eq,hQe]) hM (Fr.of_below b14) (by rw [ev];exact h))
 have HC5:=Lib.hid (fun w5 v' (h:InsIs w4 w5 (.slice Aq N cc) v' N ((putQ o (flatR M)).map (·.id)))=>And.intro ((h.out.2.1.block _ (blk_lt cO4) (fun e=>own_ne own4 cO4 (by decide) e.symm)).trans cO4) ((h.out.2.1.block _ (blk_lt cQ4) (fun e=>own_ne own4 cQ4 (by decide) e.symm)).trans cQ4))
 have HND:=Lib.hid sg1.nd
 have HLN:Hid (((putQ o (flatR M)).map (·.id)).length = N + 1):=Lib.hid (by rw [List.length_map,putQ_len,hNN])
 have hpI:(plN o (flatR M):Int)≤(N:Int):=by omega
 clear H S b0 hz0 gk1 sg1 cB1 cO1 om1 hO1 hid hVD hok hl b12 cQ2 cO2 hown hQok hQe hA hB hM hNl hI ev b13 cO3 cQ3 b34 b14 cO4 cQ4 hv4 own4 hvb g3
 go_wp2_with fail
 refine wp_region_held_drew (S:=fun W=>Cl 38 W (w.heap.size + 1) (OC o)∧Cl 124 W w1.heap.size #[.slice Aq N cc]) (by kernel_rfl) (by exact ⟨hd_drew C3.out.1,hd_drew C3.out.2⟩) (fun hHeld=>?_)
 refine tkH 0 ?_ ?_ (by assumption) ?_
 rotate_left
 ·(intro w hSw;(try dsimp only at hSw);go_simp;try with_reducible rfl)
 (try simp only [zz])
 refine tkH 1 ?_ ?_ (by assumption) ?_
 rotate_left
 ·(intro w hSw;(try dsimp only at hSw);go_simp;try with_reducible rfl)
 (try simp only [zz])
 refine tkH 2 ?_ ?_ (by assumption) ?_
 rotate_left
 ·(intro w hSw;obtain ⟨x0,x1,x2,x3,x4,x5⟩:=six_of hSw.1;(try dsimp only at hSw);go_simp;try with_reducible rfl)
 (try simp only [zz])
 refine tkH 3 ?_ ?_ (by assumption) ?_
 rotate_left
 ·(intro w hSw;have hs:w.cell? ⟨w1.heap.size,0,none⟩ = some (.slice Aq N cc):=(hSw.2.c 0).trans rfl;(try dsimp only at hSw);go_simp;try with_reducible rfl)
 (try simp only [zz])
 refine tkH 4 ?_ ?_ (by assumption) ?_
 rotate_left
 ·(intro w hSw;(try dsimp only at hSw);go_simp;try with_reducible rfl)
 (try simp only [zz])
 refine tkH 5 ?_ ?_ (by assumption) ?_
 rotate_left
 ·(intro w hSw;(try dsimp only at hSw);go_simp;try with_reducible rfl)
 (try simp only [zz])
 refine tkH 6 ?_ ?_ (by assumption) ?_
 rotate_left
 ·(intro w hSw;obtain ⟨x0,x1,x2,x3,x4,x5⟩:=six_of hSw.1;(try dsimp only at hSw);go_simp;try with_reducible rfl)
 (try simp only [zz])
 refine rdH 7 (fun K hK=>?_)
 go_simp
 refine hK.out _ _ (by exact ⟨C4.out.1,C4.out.2⟩) (fun hHeld=>?_)
 clear hK K
 (try simp only [zz])
 refine rdH 8 (fun K hK=>?_)
 go_simp
 ((with_reducible refine HI.out.mono ?_);rintro e w5 ⟨v',rfl,h5⟩)
 obtain ⟨Tw,hR,hN⟩:=HX.out _ _ h5
 have HPt:=Lib.hid (tPut_c g.tb g.sb o.side o.price Tw v' ((putQ o (flatR M)).map (·.id)) w5 hsd hR.sg.box hR.sg.cx hR.sg.tr hR.sg.srt (by have:=hR.blks;rw [this];exact HND.out) (by have:=h5.out.1;rw [HLN.out];exact this))
 have HK:=Lib.hid (And.intro hR hN)
 have C5:Hid (Cl 38 w5 (w.heap.size + 1) (OC o)∧Cl 124 w5 w1.heap.size #[.slice Aq N cc]):=HC5.out _ _ h5
 clear h5 hR hN HI
 refine hK.out _ _ (by exact ⟨C5.out.1,C5.out.2⟩) (fun hHeld=>?_)
 clear hK K
 (try simp only [zz])
 refine rdH 9 (fun K hK=>?_)
 go_simp
 ((with_reducible refine HPt.out.mono ?_);rintro e w6 ⟨rfl,T',h6⟩)
 have C6:Hid (Cl 38 w6 (w.heap.size + 1) (OC o)∧Cl 124 w6 w1.heap.size #[.slice Aq N cc]):=Lib.hid ⟨h6.out.fr.blk C5.out.1 (put_off HK.out.1.sg C5.out.1 (by decide) (by decide)),h6.out.fr.blk C5.out.2 (put_off HK.out.1.sg C5.out.2 (by decide) (by decide))⟩
 refine hK.out _ _ (by exact ⟨C6.out.1,C6.out.2⟩) (fun hHeld=>?_)
 clear hK K
 (try simp only [zz])
 refine wpAnyH_done (by kernel_rfl) ?_ _
 go_wp2_with fail
 go_end0
 obtain ⟨H,S,b0,hz0,gk1,sg1,cB1,cO1,om1,hO1,hid,hVD,hok,hl⟩:=HH.out
 obtain ⟨b12,cQ2,cO2,hown,hQok,hQe,hA,hB,hM,hNl,hI,ev⟩:=HH2.out
 exact ⟨rfl,Lib.hid (gput_fin S b0 HG1.out sg1 om1 hO1 hQe hA hB (by rcases hM with ⟨_,h⟩ | ⟨_,_,_,_,_,m',_,h,hm,_⟩;exact .inl h;exact .inr ⟨m',h,hm⟩) HK.out.1 HK.out.2 h6.out)⟩

structure Gd where
 g:Sg
 rs:List Rw
def gWhole (w:World) (p:Nat) (m:Nat × Nat) (s1 s2:Gd):Prop:=∃ D,GW w p m.1 m.2 D s1.g s2.g s1.rs s2.rs
def gft (p:Nat) (m:Nat × Nat) (s1 s2:Gd) (k:Nat):Prop:=gfoot p m.1 m.2 s1.g s2.g k
structure gTurnIs (w w':World) (p:Nat) (m:Nat × Nat) (s1 s2 s1' s2':Gd):Prop where
 wh:gWhole w' p m s1' s2'
 fr:Fr (gft p m s1 s2) w w'
 ft:∀ k,gft p m s1' s2' k → gft p m s1 s2 k ∨ w.heap.size≤k
structure gPutIs (w w':World) (p:Nat) (m:Nat × Nat) (s1 s2 s1' s2':Gd) (o:Od):Prop where
 tu:gTurnIs w w' p m s1 s2 s1' s2'
 perm:(bookL s1'.rs s2'.rs).Perm (o :: bookL s1.rs s2.rs)
 e2:o.side = 1 → s2' = s2
 e1:o.side = 2 → s1' = s1
theorem VD.sub {l m:List Value} (h:VD l) (hs:m.Sublist l):VD m:=List.Pairwise.sublist hs h
theorem vd_vals {A B C Y:List Value} {v':Value} {n:Nat} (h:VD (A ++ B ++ C ++ Y)) (hlt:∀ u ∈ A ++ B ++ C ++ Y,∀ k,u.ownBlock = some k → k < n) (hv:(∃ j,n≤j∧v'.ownBlock = some j) ∨ ∃ u,B = [u]∧v'.ownBlock = u.ownBlock):VD (A ++ v' :: C ++ Y):=by
 have hp:(A ++ v' :: C ++ Y).Perm (v' :: (A ++ C ++ Y)):=by
  simp only [List.append_assoc,List.cons_append]
  exact List.perm_middle
 have hsub:(A ++ C ++ Y).Sublist (A ++ B ++ C ++ Y):=by
  refine List.Sublist.append ?_ (List.Sublist.refl _)
  refine List.Sublist.append ?_ (List.Sublist.refl _)
  exact List.sublist_append_left A B
 refine VD.perm ?_ hp.symm
 refine List.pairwise_cons.2 ⟨fun u hu j hj hk=>?_,h.sub hsub⟩
 rcases hv with ⟨i,hi,hv⟩ | ⟨b,rfl,hv⟩
 ·have:=hlt u (hsub.subset hu) j hk
  rw [hv] at hj
  injection hj with hj
  omega
 ·have hq:(A ++ [b] ++ C ++ Y).Perm (b :: (A ++ C ++ Y)):=by
   simp only [List.append_assoc,List.cons_append,List.nil_append]
   exact List.perm_middle
  have:=(List.pairwise_cons.1 (h.perm hq)).1 u hu j (by rw [← hv];exact hj)
  exact this hk
theorem SgIn.cls {w:World} {s:Int} {g:Sg} (h:SgIn w s g) {k:Nat} (hk:sfoot g k):(k = g.sb∧∃ cs,Cl 3 w k cs) ∨ (k = g.tb∧∃ cs,Cl 156 w k cs) ∨ (k ∈ g.t.blks∧∃ cs,Cl 278 w k cs) ∨ ((∃ v ∈ g.t.vals,v.ownBlock = some k)∧∃ cs,Cl 35 w k cs):=by
 rcases hk with rfl | rfl | hk | ⟨v,hv,hk⟩
 ·exact .inl ⟨rfl,_,h.box⟩
 ·exact .inr (.inl ⟨rfl,_,h.cx⟩)
 ·exact .inr (.inr (.inl ⟨hk,h.tr.at_ k hk⟩))
 ·exact .inr (.inr (.inr ⟨⟨v,hv,hk⟩,h.tr.vcl v hv k hk⟩))
theorem GW.apart {w:World} {p m ms:Nat} {D:DataW Value} {g1 g2:Sg} {Q1 Q2:List Rw} (H:GW w p m ms D g1 g2 Q1 Q2):∀ k,sfoot g1 k → ¬ sfoot g2 k:=by
 intro k h1 h2
 have d:∀ {T T':TypeId} {cs cs':Array Value},Cl T w k cs → Cl T' w k cs' → T ≠ T' → False:=fun a b c=>cl_ne a b c rfl
 rcases (H.gk.s1 rfl).cls h1 with ⟨a,c,hc⟩ | ⟨a,c,hc⟩ | ⟨a,c,hc⟩ | ⟨⟨v,hv,hk⟩,c,hc⟩ <;> rcases (H.gk.s2 rfl).cls h2 with ⟨b,c',hc'⟩ | ⟨b,c',hc'⟩ | ⟨b,c',hc'⟩ | ⟨⟨v',hv',hk'⟩,c',hc'⟩
 ·exact H.sb (a.symm.trans b)
 ·exact d hc hc' (by decide)
 ·exact d hc hc' (by decide)
 ·exact d hc hc' (by decide)
 ·exact d hc hc' (by decide)
 ·exact H.tb (a.symm.trans b)
 ·exact d hc hc' (by decide)
 ·exact d hc hc' (by decide)
 ·exact d hc hc' (by decide)
 ·exact d hc hc' (by decide)
 ·exact H.bd k a b
 ·exact d hc hc' (by decide)
 ·exact d hc hc' (by decide)
 ·exact d hc hc' (by decide)
 ·exact d hc hc' (by decide)
 ·exact (List.pairwise_append.1 H.vd).2.2 v hv v' hv' k hk hk'
theorem sfoot_p {w:World} {p m ms:Nat} {D:DataW Value} {g1 g2:Sg} {Q1 Q2:List Rw} (H:GW w p m ms D g1 g2 Q1 Q2) {s:Int} {g:Sg} (h:SgIn w s g):¬ sfoot g p:=by
 intro hk
 have d:∀ {T T':TypeId} {cs cs':Array Value},Cl T w p cs → Cl T' w p cs' → T ≠ T' → False:=fun a b c=>cl_ne a b c rfl
 rcases h.cls hk with ⟨a,c,hc⟩ | ⟨a,c,hc⟩ | ⟨a,c,hc⟩ | ⟨_,c,hc⟩ <;> exact d hc H.bookp (by decide)
structure SideTo (w w':World) (m:Nat) (sd:Int) (g g':Sg):Prop where
 sg:SgIn w' sd g'
 tb:g'.tb = g.tb
 sb:g'.sb = g.sb
 bl:∀ b ∈ g'.t.blks,b ∈ g.t.blks ∨ w.heap.size≤b
 vl:∀ v ∈ g'.t.vals,∀ k,v.ownBlock = some k → sfoot g k ∨ w.heap.size≤k
 fr:Fr (fun k=>k = m ∨ sfoot g k) w w'
theorem SideTo.ft {w w':World} {m:Nat} {sd:Int} {g g':Sg} (h:SideTo w w' m sd g g'):∀ k,sfoot g' k → sfoot g k ∨ w.heap.size≤k:=by
 rintro k (rfl | rfl | hk | ⟨v,hv,hk⟩)
 ·exact .inl (.inl h.sb)
 ·exact .inl (.inr (.inl h.tb))
 ·exact (h.bl k hk).imp (fun h=>.inr (.inr (.inl h))) id
 ·exact h.vl v hv k hk
theorem turn1 {w w':World} {p:Nat} {m:Nat × Nat} {D D':DataW Value} {s1 s2:Gd} {g':Sg} {Q':List Rw} (H:GW w p m.1 m.2 D s1.g s2.g s1.rs s2.rs) (h:SideTo w w' m.1 1 s1.g g') (om:w'.ownsMap Tryz.prog 35 RV m.1 64 D') (hO:OmT D' (bookL Q' s2.rs))
  (er:g'.t.rows = Q'.map rqOf) (ok:SideOk 1 Q') (ids:Ids (bookL Q' s2.rs)) (hl:(bookL Q' s2.rs).length≤64) (hok:∀ x ∈ bookL Q' s2.rs,Od.ok w' x∧goodO x = true) (vd:VD (g'.t.vals ++ s2.g.t.vals)) :
  gTurnIs w w' p m s1 s2 ⟨g',Q'⟩ s2:=by
 have hS1:=H.gk.s1 rfl
 have hS2:=H.gk.s2 rfl
 have far2:∀ k,sfoot s2.g k → ¬ (k = m.1 ∨ sfoot s1.g k):=fun k hk h=>by
  rcases h with rfl | h
  ·exact hS2.no_map (H.gk.om _ _ rfl) _ hk rfl
  ·exact H.apart k h hk
 have farp:¬ (p = m.1 ∨ sfoot s1.g p):=fun h=>by
  rcases h with h | h
  ·exact cl_ne_map H.bookp (H.gk.om _ _ rfl) h
  ·exact sfoot_p H hS1 h
 have fars:¬ (m.2 = m.1 ∨ sfoot s1.g m.2):=fun h=>by
  rcases h with h | h
  ·exact H.mm h.symm
  ·exact hS1.no_map (H.gk.sm _ _ rfl) _ h rfl
 refine ⟨⟨D',⟨⟨.inr ⟨p,rfl,h.fr.blk H.bookp farp⟩,fun a b e=>?_,fun a b e=>?_,fun _=>h.sg,fun _=>hS2.keep h.fr far2⟩,hO,er,H.e2,ok,H.ok2,ids,hl,hok,vd,?_,?_,H.mm,?_⟩⟩,?_,?_⟩
 ·injection e with e;injection e with e1 e2
  subst e1;exact om
 ·have:=H.gk.sm a b e
  injection e with e;injection e with e1 e2
  subst e2
  have hD:sidD s1.g s2.g = sidD g' s2.g:=by unfold sidD;rw [h.tb]
  rw [← hD]
  exact ownsMap_fr this h.fr fars
 ·intro b hb hb2
  rcases h.bl b hb with h1 | h1
  ·exact H.bd b h1 hb2
  ·have:=hS2.tr.lt b hb2;omega
 ·rw [h.tb];exact H.tb
 ·rw [h.sb];exact H.sb
 ·exact h.fr.mono (fun k hk=>.inl (by
   rcases hk with rfl | hk
   ·exact .inr (.inl rfl)
   ·exact .inr (.inr (.inr (.inl hk)))))
 ·rintro k (rfl | rfl | rfl | hk | hk)
  ·exact .inl (.inl rfl)
  ·exact .inl (.inr (.inl rfl))
  ·exact .inl (.inr (.inr (.inl rfl)))
  ·exact (h.ft k hk).imp (fun h=>.inr (.inr (.inr (.inl h)))) id
  ·exact .inl (.inr (.inr (.inr (.inr hk))))
theorem turn2 {w w':World} {p:Nat} {m:Nat × Nat} {D D':DataW Value} {s1 s2:Gd} {g':Sg} {Q':List Rw} (H:GW w p m.1 m.2 D s1.g s2.g s1.rs s2.rs) (h:SideTo w w' m.1 2 s2.g g') (om:w'.ownsMap Tryz.prog 35 RV m.1 64 D') (hO:OmT D' (bookL s1.rs Q'))
  (er:g'.t.rows = Q'.map rqOf) (ok:SideOk 2 Q') (ids:Ids (bookL s1.rs Q')) (hl:(bookL s1.rs Q').length≤64) (hok:∀ x ∈ bookL s1.rs Q',Od.ok w' x∧goodO x = true) (vd:VD (s1.g.t.vals ++ g'.t.vals)) :
  gTurnIs w w' p m s1 s2 s1 ⟨g',Q'⟩:=by
 have hS1:=H.gk.s1 rfl
 have hS2:=H.gk.s2 rfl
 have far1:∀ k,sfoot s1.g k → ¬ (k = m.1 ∨ sfoot s2.g k):=fun k hk h=>by
  rcases h with rfl | h
  ·exact hS1.no_map (H.gk.om _ _ rfl) _ hk rfl
  ·exact H.apart k hk h
 have farp:¬ (p = m.1 ∨ sfoot s2.g p):=fun h=>by
  rcases h with h | h
  ·exact cl_ne_map H.bookp (H.gk.om _ _ rfl) h
  ·exact sfoot_p H hS2 h
 have fars:¬ (m.2 = m.1 ∨ sfoot s2.g m.2):=fun h=>by
  rcases h with h | h
  ·exact H.mm h.symm
  ·exact hS2.no_map (H.gk.sm _ _ rfl) _ h rfl
 refine ⟨⟨D',⟨⟨.inr ⟨p,rfl,h.fr.blk H.bookp farp⟩,fun a b e=>?_,fun a b e=>?_,fun _=>hS1.keep h.fr far1,fun _=>h.sg⟩,hO,H.e1,er,H.ok1,ok,ids,hl,hok,vd,?_,?_,H.mm,?_⟩⟩,?_,?_⟩
 ·injection e with e;injection e with e1 e2
  subst e1;exact om
 ·have:=H.gk.sm a b e
  injection e with e;injection e with e1 e2
  subst e2
  have hD:sidD s1.g s2.g = sidD s1.g g':=by unfold sidD;rw [h.tb]
  rw [← hD]
  exact ownsMap_fr this h.fr fars
 ·intro b hb hb2
  rcases h.bl b hb2 with h1 | h1
  ·exact H.bd b hb h1
  ·have:=hS1.tr.lt b hb;omega
 ·rw [h.tb];exact H.tb
 ·rw [h.sb];exact H.sb
 ·exact h.fr.mono (fun k hk=>.inl (by
   rcases hk with rfl | hk
   ·exact .inr (.inl rfl)
   ·exact .inr (.inr (.inr (.inr hk)))))
 ·rintro k (rfl | rfl | rfl | hk | hk)
  ·exact .inl (.inl rfl)
  ·exact .inl (.inr (.inl rfl))
  ·exact .inl (.inr (.inr (.inl rfl)))
  ·exact .inl (.inr (.inr (.inr (.inl hk))))
  ·exact (h.ft k hk).imp (fun h=>.inr (.inr (.inr (.inr h)))) id
theorem gput_w1 {w w':World} {p:Nat} {m:Nat × Nat} {D:DataW Value} {s1 s2:Gd} {o:Od} (H:GW w p m.1 m.2 D s1.g s2.g s1.rs s2.rs) (h:PutMem w w' m.1 1 s1.g s1.rs (bookL s1.rs s2.rs) o) (hs:o.side = 1) (hid:∀ x ∈ bookL s1.rs s2.rs,¬ x.id = o.id) (hok:Od.ok w o) (hg:goodO o = true) (hl:(bookL s1.rs s2.rs).length < 64) :
  ∃ s1',gPutIs w w' p m s1 s2 s1' s2 o:=by
 obtain ⟨D',T',Q',v',om,hO,sg,er,hP,hbl,⟨A,B,C,v1,v2,v3⟩,hf⟩:=h
 have hids1:∀ x ∈ flatR s1.rs,¬ x.id = o.id:=fun x hx=>hid x (List.mem_append_left _ hx)
 obtain ⟨ok',perm'⟩:=putR_ok (.inl rfl) hs H.ok1 hids1 hP
 have hperm:(bookL Q' s2.rs).Perm (o :: bookL s1.rs s2.rs):=perm'.append_right (flatR s2.rs)
 have hids:Ids (o :: bookL s1.rs s2.rs):=List.pairwise_cons.2 ⟨fun x hx e=>hid x hx e.symm,H.ids⟩
 have hS1:=H.gk.s1 rfl
 have hS2:=H.gk.s2 rfl
 have hlt:∀ u ∈ A ++ B ++ C ++ s2.g.t.vals,∀ k,u.ownBlock = some k → k < w.heap.size:=fun u hu k hk=>by
  rcases List.mem_append.1 hu with hu | hu
  ·rw [← v1] at hu;exact hS1.tr.vlt u hu k hk
  ·exact hS2.tr.vlt u hu k hk
 have hvd:VD (A ++ B ++ C ++ s2.g.t.vals):=by rw [← v1];exact H.vd
 have vd':=vd_vals hvd hlt v3
 refine ⟨⟨⟨s1.g.tb,s1.g.sb,T'⟩,Q'⟩,turn1 H ⟨sg,rfl,rfl,hbl,fun u hu k hk=>?_,hf⟩ om (hO.perm hids hperm.symm) er ok' (idsP hids hperm.symm) ?_ (fun x hx=>?_) ?_,hperm,fun _=>rfl,fun h=>by omega⟩
 ·dsimp only at hu
  rw [v2] at hu
  rcases List.mem_append.1 hu with hu | hu
  ·exact .inl (.inr (.inr (.inr ⟨u,by rw [v1];simp [hu],hk⟩)))
  ·rcases List.mem_cons.1 hu with rfl | hu
   ·rcases v3 with ⟨j,hj,hv⟩ | ⟨b,rfl,hv⟩
    ·rw [hv] at hk;injection hk with hk;subst hk;exact .inr hj
    ·exact .inl (.inr (.inr (.inr ⟨b,by rw [v1];simp,by rw [← hv];exact hk⟩)))
   ·exact .inl (.inr (.inr (.inr ⟨u,by rw [v1];simp [hu],hk⟩)))
 ·rw [hperm.length_eq];simp;omega
 ·rcases List.mem_cons.1 (hperm.mem_iff.1 hx) with rfl | hx
  ·exact ⟨hok,hg⟩
  ·exact H.ok x hx
 ·dsimp only;rw [v2];exact vd'
theorem gput_w2 {w w':World} {p:Nat} {m:Nat × Nat} {D:DataW Value} {s1 s2:Gd} {o:Od} (H:GW w p m.1 m.2 D s1.g s2.g s1.rs s2.rs) (h:PutMem w w' m.1 2 s2.g s2.rs (bookL s1.rs s2.rs) o) (hs:o.side = 2) (hid:∀ x ∈ bookL s1.rs s2.rs,¬ x.id = o.id) (hok:Od.ok w o) (hg:goodO o = true) (hl:(bookL s1.rs s2.rs).length < 64) :
  ∃ s2',gPutIs w w' p m s1 s2 s1 s2' o:=by
 obtain ⟨D',T',Q',v',om,hO,sg,er,hP,hbl,⟨A,B,C,v1,v2,v3⟩,hf⟩:=h
 have hids1:∀ x ∈ flatR s2.rs,¬ x.id = o.id:=fun x hx=>hid x (List.mem_append_right _ hx)
 obtain ⟨ok',perm'⟩:=putR_ok (.inr rfl) hs H.ok2 hids1 hP
 have hperm:(bookL s1.rs Q').Perm (o :: bookL s1.rs s2.rs):=(perm'.append_left (flatR s1.rs)).trans List.perm_middle
 have hids:Ids (o :: bookL s1.rs s2.rs):=List.pairwise_cons.2 ⟨fun x hx e=>hid x hx e.symm,H.ids⟩
 have hS1:=H.gk.s1 rfl
 have hS2:=H.gk.s2 rfl
 have hlt:∀ u ∈ A ++ B ++ C ++ s1.g.t.vals,∀ k,u.ownBlock = some k → k < w.heap.size:=fun u hu k hk=>by
  rcases List.mem_append.1 hu with hu | hu
  ·rw [← v1] at hu;exact hS2.tr.vlt u hu k hk
  ·exact hS1.tr.vlt u hu k hk
 have hvd:VD (A ++ B ++ C ++ s1.g.t.vals):=by rw [← v1];exact H.vd.perm List.perm_append_comm
 have vd':=vd_vals hvd hlt v3
 refine ⟨⟨⟨s2.g.tb,s2.g.sb,T'⟩,Q'⟩,turn2 H ⟨sg,rfl,rfl,hbl,fun u hu k hk=>?_,hf⟩ om (hO.perm hids hperm.symm) er ok' (idsP hids hperm.symm) ?_ (fun x hx=>?_) ?_,hperm,fun h=>by omega,fun _=>rfl⟩
 ·dsimp only at hu
  rw [v2] at hu
  rcases List.mem_append.1 hu with hu | hu
  ·exact .inl (.inr (.inr (.inr ⟨u,by rw [v1];simp [hu],hk⟩)))
  ·rcases List.mem_cons.1 hu with rfl | hu
   ·rcases v3 with ⟨j,hj,hv⟩ | ⟨b,rfl,hv⟩
    ·rw [hv] at hk;injection hk with hk;subst hk;exact .inr hj
    ·exact .inl (.inr (.inr (.inr ⟨b,by rw [v1];simp,by rw [← hv];exact hk⟩)))
   ·exact .inl (.inr (.inr (.inr ⟨u,by rw [v1];simp [hu],hk⟩)))
 ·rw [hperm.length_eq];simp;omega
 ·rcases List.mem_cons.1 (hperm.mem_iff.1 hx) with rfl | hx
  ·exact ⟨hok,hg⟩
  ·exact H.ok x hx
 ·dsimp only;rw [v2];exact vd'.perm List.perm_append_comm

theorem gPut_c (p:Nat) (m:Nat × Nat) (s1 s2:Gd) (o:Od) (w:World) (H:gWhole w p m s1 s2) (hid:∀ x ∈ bookL s1.rs s2.rs,¬ x.id = o.id) (hok:Od.ok w o) (hg:goodO o = true) (hl:(bookL s1.rs s2.rs).length < 64) :
  Calls Tryz.prog 209 #[.pointer (some ⟨p,0,none⟩),.agg #[.int .u64 o.id,.int .i64 o.acc,.int .i64 o.side,.int .i64 o.price,.int .i64 o.qty,.int .u64 o.seq]] w fun e w'=>e = .returned (.tuple #[])∧∃ s1' s2',Hid (gPutIs w w' p m s1 s2 s1' s2' o):=by
 obtain ⟨D,H⟩:=H
 rcases good_side hg with hs | hs
 ·refine (gPut_w p m.1 m.2 D s1.g s2.g s1.rs s2.rs 1 s1.g s1.rs o w H H.own1 (.inl ⟨rfl,rfl⟩) (List.pairwise_append.1 H.vd).1 hs hid hok hl).mono fun e w' h=>⟨h.1,?_⟩
  obtain ⟨s1',h'⟩:=gput_w1 H h.2.out hs hid hok hg hl
  exact ⟨s1',s2,Lib.hid h'⟩
 ·refine (gPut_w p m.1 m.2 D s1.g s2.g s1.rs s2.rs 2 s2.g s2.rs o w H H.own2 (.inr ⟨rfl,rfl⟩) (List.pairwise_append.1 H.vd).2.1 hs hid hok hl).mono fun e w' h=>⟨h.1,?_⟩
  obtain ⟨s2',h'⟩:=gput_w2 H h.2.out hs hid hok hg hl
  exact ⟨s1,s2',Lib.hid h'⟩

def gAddIs (w w':World) (p:Nat) (m:Nat × Nat) (s1 s2 s1' s2':Gd) (o:Od) (c:Int):Prop :=
 (c = 2∧goodO o = false∧s1' = s1∧s2' = s2∧Below w.heap.size w w') ∨
 (goodO o = true∧c = 52∧(∃ x ∈ bookL s1.rs s2.rs,x.id = o.id)∧s1' = s1∧s2' = s2∧Below w.heap.size w w') ∨
 (goodO o = true∧(∀ x ∈ bookL s1.rs s2.rs,¬ x.id = o.id)∧((c = 50∧(bookL s1.rs s2.rs).length = 64∧s1' = s1∧s2' = s2∧Below w.heap.size w w') ∨ (c = 0∧(bookL s1.rs s2.rs).length < 64∧gPutIs w w' p m s1 s2 s1' s2' o)))
theorem gPut_back {w W w':World} {p:Nat} {m:Nat × Nat} {s1 s2 s1' s2':Gd} {o:Od} (hb:Below w.heap.size w W) (h:gPutIs W w' p m s1 s2 s1' s2' o):gPutIs w w' p m s1 s2 s1' s2' o :=
 ⟨⟨h.tu.wh,(Fr.of_below hb:Fr (gft p m s1 s2) w W).trans h.tu.fr (fun _ h=>.inl h),fun k hk=>(h.tu.ft k hk).imp id (fun h'=>Nat.le_trans hb.size h')⟩,h.perm,h.e2,h.e1⟩
theorem gWhole.below {w w':World} {p:Nat} {m:Nat × Nat} {s1 s2:Gd} (h:gWhole w p m s1 s2) (hb:Below w.heap.size w w'):gWhole w' p m s1 s2:=by
 obtain ⟨D,h⟩:=h
 exact ⟨D,h.below hb⟩

theorem below_row {B c:Nat} {w X:World} {cs:Array Value} (h:Below B w X) (hc:B≤c):Below B w (X.setRow c cs) :=
 h.trans ⟨rfl,rfl,rfl,by simp [World.setRow],fun k hk=>setRow_other X c k cs (by omega)⟩
theorem gAdd_there (p:Nat) (m:Nat × Nat) (s1 s2:Gd) (o:Od) (w:World) (H:gWhole w p m s1 s2) (hok:Od.ok w o) (hg:goodO o = true) :
  Calls Tryz.prog 199 #[.pointer (some ⟨p,0,none⟩),.agg #[.int .u64 o.id,.int .i64 o.acc,.int .i64 o.side,.int .i64 o.price,.int .i64 o.qty,.int .u64 o.seq]] w fun e w'=>∃ c s1' s2',e = .returned (.int .i64 c)∧Hid (gAddIs w w' p m s1 s2 s1' s2' o c):=by
 obtain ⟨w0,hw0⟩:∃ w0,w.alloc (.cells (OC o) 38) = w0:=⟨_,rfl⟩
 have b0:Below w.heap.size w w0:=by rw [← hw0];exact (Below.refl _ _).alloc (Nat.le_refl _) _
 have cO:Cl 38 w0 w.heap.size (OC o):=by rw [← hw0];exact hd_last rfl
 have H0:=H.below b0
 have HM:Hid (Calls Tryz.prog 208 #[.pointer (some ⟨p,0,none⟩)] w0 fun e w'=>e = .returned (.bool true)∧w0 = w'):=Lib.hid (by obtain ⟨D,h⟩:=H0;exact gMade_c _ _ _ _ _ _ h.gk)
 have HGd:Hid (Calls Tryz.prog 65 #[.agg #[.int .u64 o.id,.int .i64 o.acc,.int .i64 o.side,.int .i64 o.price,.int .i64 o.qty,.int .u64 o.seq]] w0 fun e w'=>e = .returned (.bool (goodO o))∧Gw w0 w'):=Lib.hid (good_c o w0)
 rw [hg] at HGd
 obtain ⟨x0,x1,x2,x3,x4,x5⟩:=six_of cO
 have HH:=Lib.hid (And.intro H0 (And.intro b0 cO))
 clear b0 cO H0
 go_enter Tryz.func199,Tryz.ntmps199
 go_wp2_with fail
 ((with_reducible refine HM.out.mono ?_);rintro e w1 ⟨rfl,rfl⟩)
 go_wp2_with fail
 ((with_reducible refine HGd.out.mono ?_);rintro e w1 ⟨rfl,hb⟩)
 clear HGd HM x0 x1 x2 x3 x4 x5
 go_wp2_with fail
 obtain ⟨⟨D,G0⟩,b0,cO⟩:=HH.out
 have b1:=hb.b
 have G1:=G0.below b1
 have cO1:Cl 38 w1 w.heap.size (OC o):=(b1.block _ (blk_lt cO)).trans cO
 have hlt1:∀ k,gfoot p m.1 m.2 s1.g s2.g k → k < w1.heap.size:=G1.lt
 have HP:Hid (∀ W,Below w1.heap.size w1 W → W.cell? ⟨p,0,none⟩ = some (.map (some m.1))):=Lib.hid fun W hW=>((G1.below hW).bookp.c 0).trans rfl
 have HI:Hid (∀ W,Below w1.heap.size w1 W → W.cell? ⟨w.heap.size,0,none⟩ = some (.int .u64 o.id)):=Lib.hid fun W hW=>(hW.cell (p:=⟨w.heap.size,0,none⟩) (blk_lt cO1)).trans ((Cl.c cO1 0).trans rfl)
 have HL:Hid (∀ W,Below w1.heap.size w1 W → (Instr.lookup 133 (.map (some m.1)) (.int .u64 o.id) true).run Tryz.prog W = .ok (.tuple #[.agg (OC ((omL (bookL s1.rs s2.rs) o.id).getD zO)),.bool (omL (bookL s1.rs s2.rs) o.id).isSome]) W):=Lib.hid fun W hW=>look_ok ((G1.below hW).gk.om _ _ rfl) G1.om o.id (wf_u hok.1)
 have HH1:=Lib.hid (And.intro G1 (And.intro (b0.trans (b1.mono b0.size)) cO1))
 clear G0 b0 cO b1 G1 cO1 hlt1 hb HH
 obtain ⟨m1,m2⟩:=m
 dsimp only at HP HL HH1
 generalize hthere:(omL (bookL s1.rs s2.rs) o.id).isSome = there at HL
 generalize (omL (bookL s1.rs s2.rs) o.id).getD zO = z at HL
 have HT:=Lib.hid hthere
 clear hthere
 refine wp_region_held_drew (S:=fun W=>Below w1.heap.size w1 W) (by kernel_rfl) (by exact (Below.refl _ _).drew) (fun hHeld=>?_)
 refine tkH 0 ?_ ?_ (by assumption) ?_
 rotate_left
 ·(intro w hSw;(try dsimp only at hSw);go_simp;try with_reducible rfl)
 (try simp only [zz])
 refine tkH 1 ?_ ?_ (by assumption) ?_
 rotate_left
 ·(intro w hSw;(try dsimp only at hSw);go_simp;try with_reducible rfl)
 (try simp only [zz])
 refine tkH 2 ?_ ?_ (by assumption) ?_
 rotate_left
 ·(intro w hSw;(try dsimp only at hSw);go_simp;try with_reducible rfl)
 (try simp only [zz])
 refine tkH 3 ?_ ?_ (by assumption) ?_
 rotate_left
 ·(intro w hSw;have hs:=HP.out _ hSw;(try dsimp only at hSw);go_simp;try with_reducible rfl)
 (try simp only [zz])
 refine tkH 4 ?_ ?_ (by assumption) ?_
 rotate_left
 ·(intro w hSw;(try dsimp only at hSw);go_simp;try with_reducible rfl)
 (try simp only [zz])
 refine tkH 5 ?_ ?_ (by assumption) ?_
 rotate_left
 ·(intro w hSw;have hs:=HI.out _ hSw;(try dsimp only at hSw);go_simp;try with_reducible rfl)
 (try simp only [zz])
 refine tkH 6 ?_ ?_ (by assumption) ?_
 rotate_left
 ·(intro w hSw;have hs:=HL.out _ hSw;(try dsimp only at hSw);go_simp;try with_reducible rfl)
 (try simp only [zz])
 refine tkH 7 ?_ ?_ (by assumption) ?_
 rotate_left
 ·(intro w hSw;(try dsimp only at hSw);go_simp;try with_reducible rfl)
 (try simp only [zz])
 refine tkH 8 ?_ ?_ (by assumption) ?_
 rotate_left
 ·(intro w hSw;(try dsimp only at hSw);go_simp;try with_reducible rfl)
 (try simp only [zz])
 refine tkH 9 ?_ ?_ (by assumption) ?_
 rotate_left
 ·(intro w hSw;(try dsimp only at hSw);go_simp;try with_reducible rfl)
 (try simp only [zz])
 refine rdH 10 (fun K hK=>?_)
 go_simp
 refine hK.out _ _ (by exact (Below.refl _ _).drew.alloc (Nat.le_refl _) _) (fun hHeld=>?_)
 clear hK K
 (try simp only [zz])
 refine rdH 11 (fun K hK=>?_)
 ((with_reducible apply any_storeOd);rfl;rfl;rfl;rfl;exact (show Cl 38 _ w1.heap.size (OC ⟨0,0,0,0,0,0⟩) from hd_drew (hd_last rfl));skip)
 refine hK.out _ _ (by exact below_row ((Below.refl _ _).drew.alloc (Nat.le_refl _) _) (Nat.le_refl _)) (fun hHeld=>?_)
 clear hK K
 (try simp only [zz])
 refine tkH 12 ?_ ?_ (by assumption) ?_
 rotate_left
 ·(intro w hSw;(try dsimp only at hSw);go_simp;try with_reducible rfl)
 (try simp only [zz])
 refine wpAnyH_done (by kernel_rfl) ?_ _
 obtain ⟨G1,bw,cO1⟩:=HH1.out
 have kP:=HP.out _ hHeld
 have GW2:=G1.below hHeld
 have cO2:=(hHeld.block _ (blk_lt cO1)).trans cO1
 have bw2:=bw.trans (hHeld.mono bw.size)
 have hlen:=fun ty=>len_o (GW2.gk.om _ _ rfl) G1.om ty
 have HPt:=Lib.hid (fun h1 h2=>gPut_c p (m1,m2) s1 s2 o _ ⟨D,GW2⟩ h1 hok hg h2)
 obtain ⟨x0,x1,x2,x3,x4,x5⟩:=six_of cO2
 have HB2:=Lib.hid bw2
 have HL64:=Lib.hid G1.len
 have HID:=Lib.hid G1.ids
 clear HP HI HL HH1 G1 GW2 cO1 cO2 bw bw2 hHeld hok
 cases there with
 | true =>
  have hex:∃ x ∈ bookL s1.rs s2.rs,x.id = o.id:=by
   obtain ⟨x,hx⟩:=Option.isSome_iff_exists.1 HT.out
   exact ⟨x,(omL_some HID.out).1 hx⟩
  clear hlen HPt x0 x1 x2 x3 x4 x5
  go_wp2_with fail
  go_ret
  exact ⟨52,s1,s2,rfl,Lib.hid (.inr (.inl ⟨hg,rfl,hex,rfl,rfl,HB2.out⟩))⟩
 | false =>
  have hno:∀ x ∈ bookL s1.rs s2.rs,¬ x.id = o.id:=by
   refine omL_none.1 ?_
   have:=HT.out
   cases h:omL (bookL s1.rs s2.rs) o.id with
   | none=>rfl
   | some x=>rw [h] at this;cases this
  have HNO:=Lib.hid hno
  clear hno
  obtain ⟨N,hN⟩:∃ N,N = (bookL s1.rs s2.rs).length:=⟨_,rfl⟩
  rw [← hN] at hlen HL64
  have HN:=Lib.hid hN
  clear hN
  by_cases h64:N = 64
  ·have e64:((N:Int) == 64) = true:=by simp [h64]
   have HE:=Lib.hid h64
   clear HPt x0 x1 x2 x3 x4 x5 h64
   go_wp2_with fail
   go_ret
   exact ⟨50,s1,s2,rfl,Lib.hid (.inr (.inr ⟨hg,HNO.out,.inl ⟨rfl,by rw [← HN.out,HE.out],rfl,rfl,HB2.out⟩⟩))⟩
  ·have e64:((N:Int) == 64) = false:=by simp;omega
   have hlt:(bookL s1.rs s2.rs).length < 64:=by have:=HL64.out;rw [← HN.out];omega
   have HP2:=Lib.hid (HPt.out HNO.out hlt)
   have HLT:=Lib.hid hlt
   clear HPt h64 hlt
   go_wp2_with fail
   ((with_reducible refine HP2.out.mono ?_);rintro e w5 ⟨rfl,s1',s2',hp⟩)
   go_wp2_with fail
   go_ret
   exact ⟨0,s1',s2',rfl,Lib.hid (.inr (.inr ⟨hg,HNO.out,.inr ⟨rfl,HLT.out,gPut_back HB2.out hp.out⟩⟩))⟩
theorem gAdd_bad (p:Nat) (m:Nat × Nat) (s1 s2:Gd) (o:Od) (w:World) (H:gWhole w p m s1 s2) (hg:goodO o = false) :
  Calls Tryz.prog 199 #[.pointer (some ⟨p,0,none⟩),.agg #[.int .u64 o.id,.int .i64 o.acc,.int .i64 o.side,.int .i64 o.price,.int .i64 o.qty,.int .u64 o.seq]] w fun e w'=>∃ c s1' s2',e = .returned (.int .i64 c)∧Hid (gAddIs w w' p m s1 s2 s1' s2' o c):=by
 obtain ⟨w0,hw0⟩:∃ w0,w.alloc (.cells (OC o) 38) = w0:=⟨_,rfl⟩
 have b0:Below w.heap.size w w0:=by rw [← hw0];exact (Below.refl _ _).alloc (Nat.le_refl _) _
 have cO:Cl 38 w0 w.heap.size (OC o):=by rw [← hw0];exact hd_last rfl
 have H0:=H.below b0
 have HM:Hid (Calls Tryz.prog 208 #[.pointer (some ⟨p,0,none⟩)] w0 fun e w'=>e = .returned (.bool true)∧w0 = w'):=Lib.hid (by obtain ⟨D,h⟩:=H0;exact gMade_c _ _ _ _ _ _ h.gk)
 have HGd:Hid (Calls Tryz.prog 65 #[.agg #[.int .u64 o.id,.int .i64 o.acc,.int .i64 o.side,.int .i64 o.price,.int .i64 o.qty,.int .u64 o.seq]] w0 fun e w'=>e = .returned (.bool (goodO o))∧Gw w0 w'):=Lib.hid (good_c o w0)
 rw [hg] at HGd
 obtain ⟨x0,x1,x2,x3,x4,x5⟩:=six_of cO
 have HB:=Lib.hid b0
 clear b0 cO H0
 go_enter Tryz.func199,Tryz.ntmps199
 go_wp2_with fail
 ((with_reducible refine HM.out.mono ?_);rintro e w1 ⟨rfl,rfl⟩)
 go_wp2_with fail
 ((with_reducible refine HGd.out.mono ?_);rintro e w1 ⟨rfl,hb⟩)
 go_wp2_with fail
 go_ret
 exact ⟨2,s1,s2,rfl,Lib.hid (.inl ⟨rfl,hg,rfl,rfl,HB.out.trans (hb.b.mono HB.out.size)⟩)⟩
theorem gAdd_c (p:Nat) (m:Nat × Nat) (s1 s2:Gd) (o:Od) (w:World) (H:gWhole w p m s1 s2) (hok:Od.ok w o) :
  Calls Tryz.prog 199 #[.pointer (some ⟨p,0,none⟩),.agg #[.int .u64 o.id,.int .i64 o.acc,.int .i64 o.side,.int .i64 o.price,.int .i64 o.qty,.int .u64 o.seq]] w fun e w'=>∃ c s1' s2',e = .returned (.int .i64 c)∧Hid (gAddIs w w' p m s1 s2 s1' s2' o c):=by
 cases hg:goodO o with
 | false=>exact gAdd_bad p m s1 s2 o w H hg
 | true=>exact gAdd_there p m s1 s2 o w H hok hg

def outO (id:Int) (q:List Od):List Od:=q.filter (fun x=>!(x.id == id))
theorem outO_ids (id:Int) (q:List Od):outQ id (q.map (·.id)) = (outO id q).map (·.id):=by
 unfold outQ outO
 rw [List.filter_map]
 rfl
theorem outO_perm {o:Od}:∀ {q:List Od},Ids q → o ∈ q → q.Perm (o :: outO o.id q)
 | [],_,h=>(by cases h)
 | x :: q,hi,h=>by
  obtain ⟨h1,h2⟩:=List.pairwise_cons.1 hi
  rcases List.mem_cons.1 h with rfl | h
  ·unfold outO
   rw [List.filter_cons_of_neg (by simp),List.filter_eq_self.2 (fun y hy=>by have:=h1 y hy;simp;exact fun e=>this e.symm)]
  ·have hx:¬ x.id = o.id:=h1 o h
   unfold outO
   rw [List.filter_cons_of_pos (by simp [hx])]
   exact ((outO_perm h2 h).cons x).trans (List.Perm.swap o x _)
theorem ids_flat {A M B:List Rw} (h:Ids (flatR (A ++ M ++ B))):Ids (flatR M):=by
 unfold flatR at h ⊢
 rw [List.flatMap_append,List.flatMap_append] at h
 exact (List.pairwise_append.1 (List.pairwise_append.1 h).1).2.1
def TakeMem (w w':World) (m:Nat) (sd:Int) (g:Sg) (Q:List Rw) (L:List Od) (o:Od):Prop:=∃ D' T' Q',
 w'.ownsMap Tryz.prog 35 RV m 64 D'∧OmT D' (outO o.id L)∧SideTo w w' m sd g ⟨g.tb,g.sb,T'⟩∧T'.rows = Q'.map rqOf∧SideOk sd Q'∧(flatR Q).Perm (o :: flatR Q') ∧
 (∀ Y,VD (g.t.vals ++ Y) → (∀ u ∈ g.t.vals ++ Y,∀ k,u.ownBlock = some k → k < w.heap.size) → VD (T'.vals ++ Y))
theorem side_to {w w0 w3 w5 w6:World} {m:Nat} {sd pr:Int} {g:Sg} {A M B:List Rw} {Tw T':Tr} (b0:Below w.heap.size w w0) (hg:w0.grownBy w3 (some m)) (hR:Rew w5 sd pr g A M B Tw) (hf:Fr (sfoot g) w3 w5) (hfr:Fr (fun b=>b = g.tb ∨ b ∈ Tw.blks) w5 w6)
  (hcx:CxIn w6 g.tb g.sb .top T'.ptr) (htr:TrIn w6 T') (hsrt:Srt sd T'.rows) (hnd:T'.blks.Nodup) (hbl:∀ b ∈ T'.blks,b ∈ Tw.blks ∨ w5.heap.size≤b) (hvl:∀ v ∈ T'.vals,∀ k,v.ownBlock = some k → sfoot g k ∨ w.heap.size≤k):SideTo w w6 m sd g ⟨g.tb,g.sb,T'⟩:=by
 have hbx:Cl 3 w6 g.sb #[.int .i64 sd]:=hfr.blk hR.sg.box (put_off hR.sg hR.sg.box (by decide) (by decide))
 have hf56:Fr (sfoot g) w5 w6:=hfr.mono (fun k hk=>.inl (by
  rcases hk with rfl | hk
  ·exact .inr (.inl rfl)
  ·rw [hR.blks] at hk;exact .inr (.inr (.inl hk))))
 have f1:Fr (fun k=>k = m ∨ sfoot g k) w w3:=(Fr.of_below (S:=fun k=>k = m ∨ sfoot g k) b0).trans (fr_grown hg) (fun k h=>.inl (.inl h))
 refine ⟨⟨hbx,hcx,htr,hsrt,hnd⟩,rfl,rfl,fun b hb=>?_,hvl,(f1.trans hf (fun k h=>.inl (.inr h))).trans hf56 (fun k h=>.inl (.inr h))⟩
 rcases hbl b hb with h | h
 ·rw [hR.blks] at h;exact .inl h
 ·exact .inr (Nat.le_trans b0.size (Nat.le_trans hg.size (Nat.le_trans hf.size h)))
theorem take_put {w w0 w3 w5 w6:World} {m p ms:Nat} {D D':DataW Value} {g1 g2:Sg} {Q1 Q2:List Rw} {sd:Int} {g:Sg} {Q A B:List Rw} {mr:Rw} {o:Od} {Tw T':Tr} {v v':Value}
  (S:OwnS w p m ms D g1 g2 Q1 Q2 sd g Q) (hsd:sd = 1 ∨ sd = 2) (hI:Ids (bookL Q1 Q2)) (b0:Below w.heap.size w w0) (hg03:w0.grownBy w3 (some m)) (sg3:SgIn w3 sd g) (om3:w3.ownsMap Tryz.prog 35 RV m 64 D') (hO3:OmT D' (outO o.id (bookL Q1 Q2)))
  (hQe:Q = A ++ [mr] ++ B) (hA:∀ a ∈ A,betN sd a.pr mr.pr = true) (hB:∀ b ∈ B,betN sd mr.pr b.pr = true) (ho:o ∈ mr.q) (hne:outO o.id mr.q ≠ [])
  (hR:Rew w5 sd mr.pr g A [mr] B Tw) (hf:Fr (sfoot g) w3 w5) (hv:(mr.pr,v) ∈ g.t.items) (hvv:v'.ownBlock = v.ownBlock) (h6:TPut w5 w6 g.tb g.sb sd mr.pr Tw T' v' ((outO o.id mr.q).map (·.id))):TakeMem w w6 m sd g Q (bookL Q1 Q2) o:=by
 obtain ⟨M',e,hM'⟩:=hR.rows
 obtain ⟨P,R,Z,r1,r2,r3,hP1,hZ1⟩:=h6.rows
 rw [e] at r1
 obtain ⟨e1,e2,e3⟩:=part_rq rfl hA hM' hB r1 hP1 (fun a ha=>by rcases r3 with h3 | ⟨q0,h3⟩ <;> (rw [h3] at ha;simp at ha);rw [ha]) hZ1
 obtain ⟨A',B',C',k1,k2,k3⟩:=h6.vals
 rw [hR.vals] at k1
 obtain ⟨u,rfl,k4⟩:∃ u,B' = [u]∧(mr.pr,u) ∈ Tw.items:=by
  rcases k3 with ⟨_,k3⟩ | k3
  ·exact absurd (by rw [hR.items];exact hv) (k3 v)
  ·exact k3
 rw [hR.items] at k4
 have hu:=items_one sg3.srt hv k4
 subst hu
 have hQok:SideOk sd (A ++ [mr] ++ B):=by rw [← hQe];exact S.ok
 have hIdQ:Ids (flatR (A ++ [mr] ++ B)):=by
  rw [← hQe]
  have hsub:∀ x ∈ flatR Q,x ∈ bookL Q1 Q2:=S.mem
  exact S.ids hI
 have hIm:Ids mr.q:=by simpa [flatR] using ids_flat hIdQ
 have hpm:=outO_perm hIm ho
 have hf16:Fr (sfoot g) w3 w6:=hf.trans (h6.fr.mono (fun k hk=>.inl (by
  rcases hk with rfl | hk
  ·exact .inr (.inl rfl)
  ·rw [hR.blks] at hk;exact .inr (.inr (.inl hk))))) (fun _ h=>.inl h)
 have hvl:∀ x ∈ T'.vals,∀ k,x.ownBlock = some k → sfoot g k ∨ w.heap.size≤k:=fun x hx k hk=>by
  rw [k2] at hx
  rcases List.mem_append.1 hx with hx | hx
  ·exact .inl (.inr (.inr (.inr ⟨x,by rw [k1];simp [hx],hk⟩)))
  ·rcases List.mem_cons.1 hx with rfl | hx
   ·exact .inl (.inr (.inr (.inr ⟨v,by rw [k1];simp,by rw [← hvv];exact hk⟩)))
   ·exact .inl (.inr (.inr (.inr ⟨x,by rw [k1];simp [hx],hk⟩)))
 refine ⟨D',T',A ++ ⟨mr.pr,.slice none 0 0,outO o.id mr.q⟩ :: B,ownsMap_fr om3 hf16 (fun h=>sg3.no_map om3 m h rfl),hO3,side_to b0 hg03 hR hf h6.fr h6.cx h6.tr h6.srt h6.nd h6.bl hvl,?_,?_,?_,?_⟩
 ·rw [r2,← e1,← e3]
  simp [rqOf]
 ·exact side_set hA hB hQok rfl hne (fun x hx=>(hQok.mem mr (by simp) x (List.mem_filter.1 hx).1)) ((hQok.que mr (by simp)).filter _)
 ·rw [hQe]
  unfold flatR
  rw [List.flatMap_append,List.flatMap_append,List.flatMap_append,List.flatMap_cons]
  simp only [List.flatMap_cons,List.flatMap_nil,List.append_nil,List.append_assoc]
  exact ((hpm.append_right _).append_left _).trans List.perm_middle
 ·intro Y hY hlt
  rw [k2]
  exact vd_vals (A:=A') (B:=[v]) (C:=C') (Y:=Y) (by rw [← k1];exact hY) (n:=w.heap.size) (by rw [← k1];exact hlt) (.inr ⟨v,rfl,hvv⟩)
theorem take_drop {w w0 w3 w5 w6:World} {m p ms:Nat} {D D':DataW Value} {g1 g2:Sg} {Q1 Q2:List Rw} {sd:Int} {g:Sg} {Q A B:List Rw} {mr:Rw} {o:Od} {Tw T':Tr}
  (S:OwnS w p m ms D g1 g2 Q1 Q2 sd g Q) (hI:Ids (bookL Q1 Q2)) (b0:Below w.heap.size w w0) (hg03:w0.grownBy w3 (some m)) (sg3:SgIn w3 sd g) (om3:w3.ownsMap Tryz.prog 35 RV m 64 D') (hO3:OmT D' (outO o.id (bookL Q1 Q2)))
  (hQe:Q = A ++ [mr] ++ B) (hA:∀ a ∈ A,betN sd a.pr mr.pr = true) (hB:∀ b ∈ B,betN sd mr.pr b.pr = true) (ho:o ∈ mr.q) (hne:outO o.id mr.q = [])
  (hR:Rew w5 sd mr.pr g A [mr] B Tw) (hf:Fr (sfoot g) w3 w5) (h6:TDrop w5 w6 g.tb g.sb sd mr.pr Tw T'):TakeMem w w6 m sd g Q (bookL Q1 Q2) o:=by
 obtain ⟨M',e,hM'⟩:=hR.rows
 obtain ⟨P,R,Z,r1,r2,r3,hP1,hZ1⟩:=h6.rows
 rw [e] at r1
 obtain ⟨e1,e2,e3⟩:=part_rq rfl hA hM' hB r1 hP1 (fun a ha=>by rcases r3 with h3 | ⟨q0,h3⟩ <;> (rw [h3] at ha;simp at ha);rw [ha]) hZ1
 obtain ⟨A',B',C',k1,k2,k3⟩:=h6.vals
 rw [hR.vals] at k1
 have hQok:SideOk sd (A ++ [mr] ++ B):=by rw [← hQe];exact S.ok
 have hIm:Ids mr.q:=by
  have:=ids_flat (by rw [← hQe];exact S.ids hI:Ids (flatR (A ++ [mr] ++ B)))
  simpa [flatR] using this
 have hpm:=outO_perm hIm ho
 rw [hne] at hpm
 have hf16:Fr (sfoot g) w3 w6:=hf.trans (h6.fr.mono (fun k hk=>.inl (by
  rcases hk with rfl | hk
  ·exact .inr (.inl rfl)
  ·rw [hR.blks] at hk;exact .inr (.inr (.inl hk))))) (fun _ h=>.inl h)
 refine ⟨D',T',A ++ B,ownsMap_fr om3 hf16 (fun h=>sg3.no_map om3 m h rfl),hO3,side_to b0 hg03 hR hf h6.fr h6.cx h6.tr h6.srt h6.nd (fun b hb=>.inl (h6.bl b hb)) (fun x hx k hk=>.inl (.inr (.inr (.inr ⟨x,?_,hk⟩)))),?_,side_drop hQok,?_,?_⟩
 ·rw [k2] at hx
  rw [k1]
  rcases List.mem_append.1 hx with hx | hx <;> simp [hx]
 ·rw [r2,← e1,← e3,List.map_append]
 ·rw [hQe]
  unfold flatR
  rw [List.flatMap_append,List.flatMap_append,List.flatMap_append]
  simp only [List.flatMap_cons,List.flatMap_nil,List.append_nil,List.append_assoc]
  exact ((hpm.append_right _).append_left _).trans List.perm_middle
 ·intro Y hY _
  rw [k2]
  rw [k1] at hY
  refine hY.sub (List.Sublist.append (List.Sublist.append ?_ (List.Sublist.refl _)) (List.Sublist.refl _))
  exact List.sublist_append_left A' B'

section
variable {ops : Array Oper} {o : Oper} {a : Act} {w : World} {Q : Exit → Act → World → Prop}
theorem any_del {K:Act → World → Prop} {E:Prop} (hgd:Region.wanted o (yielded ops a.tmps) = true) (x y:Operand) (t k:TypeId) (ho:o.op = .call { callee:=.builtin .delete,args:=#[x,y],argTypes:=#[t,k] }) (mv kv:Value) (hx:a.eval x = mv) (hy:a.eval y = kv) {w':World}
  (hr:(Builtin.delete_ #[t,k] o.type #[mv,kv]).run Tryz.prog w = .ok (.tuple #[]) w') (h:K (a.put o.dst (.tuple #[])) w'):if Region.wanted o (yielded ops a.tmps) = true then Oper.wp Tryz.prog o a w K Q else E:=by
 rw [if_pos hgd]
 unfold Oper.wp
 simp [execOp,ho,resolve,invoke,builtin,hx,hy,hr,Result.andThen]
 exact h
end
theorem gtake_more {w w6 w7:World} {m rb:Nat} {sd:Int} {g:Sg} {Q:List Rw} {L:List Od} {o:Od} {cs:Array Value} (h:TakeMem w w6 m sd g Q L o) (hf:Fr (· = rb) w6 w7) (hc:Cl 38 w6 rb cs) (hr:w.heap.size≤rb):TakeMem w w7 m sd g Q L o:=by
 obtain ⟨D',T',Q',om,hO,sT,er,ok,pm,vd⟩:=h
 have hno:∀ k,sfoot ⟨g.tb,g.sb,T'⟩ k → ¬ k = rb:=fun k hk e=>by
  subst e
  have d:∀ {T T':TypeId} {cs cs':Array Value},Cl T w6 k cs → Cl T' w6 k cs' → T ≠ T' → False:=fun a b c=>cl_ne a b c rfl
  rcases sT.sg.cls hk with ⟨a,c,hc'⟩ | ⟨a,c,hc'⟩ | ⟨a,c,hc'⟩ | ⟨_,c,hc'⟩ <;> exact d hc' hc (by decide)
 exact ⟨D',T',Q',ownsMap_fr om hf (fun e=>cl_ne_map hc om e.symm),hO,⟨sT.sg.keep hf hno,sT.tb,sT.sb,sT.bl,sT.vl,sT.fr.trans hf (fun k hk=>by subst hk;exact .inr hr)⟩,er,ok,pm,vd⟩
theorem sum_out {o:Od} {L:List Od} (hi:Ids L) (ho:o ∈ L):(outO o.id L).length + (if (omL L o.id).isSome = true then 1 else 0) = L.length:=by
 rw [(omL_some hi).2 ⟨ho,rfl⟩,(outO_perm hi ho).length_eq]
 simp
theorem gTake_w (p m ms:Nat) (D:DataW Value) (g1 g2:Sg) (Q1 Q2:List Rw) (sd:Int) (g:Sg) (Q:List Rw) (o:Od) (w:World) (H:GW w p m ms D g1 g2 Q1 Q2) (S:OwnS w p m ms D g1 g2 Q1 Q2 sd g Q) (h12:(sd = 1∧g = g1) ∨ (sd = 2∧g = g2))
  (hVD:VD g.t.vals) (hs:o.side = sd) (ho:o ∈ flatR Q) :
  Calls Tryz.prog 207 #[.pointer (some ⟨p,0,none⟩),.int .u64 o.id] w fun e w'=>e = .returned (.tuple #[.agg (OC o),.bool true])∧Hid (TakeMem w w' m sd g Q (bookL Q1 Q2) o):=by
 subst hs
 have hsd:=S.s12
 have hoL:=S.mem o ho
 have hwf:=wf_u (H.ok o hoL).1.1
 obtain ⟨w0,hw0⟩:∃ w0,((w.alloc (.cells #[.int .u64 o.id] 35)).alloc (.cells (OC ⟨0,0,0,0,0,0⟩) 38)) = w0:=⟨_,rfl⟩
 have b0:Below w.heap.size w w0:=by rw [← hw0];exact ((Below.refl _ _).alloc (Nat.le_refl _) _).alloc (by simp) _
 have cI:Cl 35 w0 w.heap.size #[.int .u64 o.id]:=by rw [← hw0];exact hd_prev (by simp) (hd_last rfl)
 have cR:Cl 38 w0 (w.heap.size + 1) (OC ⟨0,0,0,0,0,0⟩):=by rw [← hw0];exact hd_last (by simp)
 have H0:=H.below b0
 have HGet:=Lib.hid (gGet_c p m ms D g1 g2 Q1 Q2 o.id hwf w0 H0)
 rw [(omL_some H.ids).2 ⟨hoL,rfl⟩] at HGet
 have kI:w0.cell? ⟨w.heap.size,0,none⟩ = some (.int .u64 o.id):=(Cl.c cI 0).trans rfl
 have HH:=Lib.hid (And.intro H (And.intro S (And.intro b0 (And.intro cI (And.intro cR (And.intro hVD (And.intro ho hoL)))))))
 clear H0 cI cR H S b0 hVD ho hoL
 go_enter Tryz.func207,Tryz.ntmps207
 go_wp2_with fail
 ((with_reducible refine HGet.out.mono ?_);rintro e w1 ⟨rfl,hb1⟩)
 clear HGet kI
 dsimp only [Option.getD,Option.isSome]
 obtain ⟨w2,hw2⟩:∃ w2,w1.alloc (.cells (OC o) 38) = w2:=⟨_,rfl⟩
 obtain ⟨H,S,b0,cI,cR,hVD,ho,hoL⟩:=HH.out
 have b02:Below w0.heap.size w0 w2:=by rw [← hw2];exact hb1.out.alloc hb1.out.size _
 have hz0:w0.heap.size = w.heap.size + 2:=by rw [← hw0];simp
 have b2:Below w.heap.size w w2:=b0.trans (b02.mono b0.size)
 have hz1:w.heap.size + 2≤w1.heap.size:=by rw [← hz0];exact hb1.out.size
 have cO2:Cl 38 w2 w1.heap.size (OC o):=by rw [← hw2];exact hd_last rfl
 have cI2:Cl 35 w2 w.heap.size #[.int .u64 o.id]:=(b02.block _ (blk_lt cI)).trans cI
 have cR2:Cl 38 w2 (w.heap.size + 1) (OC ⟨0,0,0,0,0,0⟩):=(b02.block _ (blk_lt cR)).trans cR
 have G2:=H.below b2
 have om2:=G2.gk.om _ _ rfl
 obtain ⟨w3,hr,D',om3,hO3,hg3⟩:=del_o (M:=outO o.id (bookL Q1 Q2)) (om2.drew) H.om o.id hwf (fun id=>omL_drop _ _ _) (sum_out H.ids hoL) (by have:=List.length_filter_le (fun x:Od=>!(x.id == o.id)) (bookL Q1 Q2);have:=H.len;unfold outO;omega) 0
 have hg23:w2.grownBy w3 (some m):=⟨hg3.os,hg3.tape,hg3.output,hg3.size,hg3.block⟩
 have HR:=Lib.hid hr
 have nI:=cl_ne_map cI2 om2
 have nO:=cl_ne_map cO2 om2
 have nR:=cl_ne_map cR2 om2
 have nP:=cl_ne_map G2.bookp om2
 have HP:Hid (∀ W,w2.grownBy W (some m) → W.cell? ⟨p,0,none⟩ = some (.map (some m))):=Lib.hid fun W h=>(Cl.c ((fr_grown h).blk G2.bookp nP) 0).trans rfl
 have HI:Hid (∀ W,w2.grownBy W (some m) → W.cell? ⟨w.heap.size,0,none⟩ = some (.int .u64 o.id)):=Lib.hid fun W h=>(Cl.c ((fr_grown h).blk cI2 nI) 0).trans rfl
 have HG3:=Lib.hid hg23
 have gk3:=G2.gk.setom hg23 om3 H.mm
 have sg3:SgIn w3 o.side g:=by
  rcases h12 with ⟨h,rfl⟩ | ⟨h,rfl⟩
  ·rw [h];exact gk3.s1 rfl
  ·rw [h];exact gk3.s2 rfl
 have cI3:=(fr_grown hg23).blk cI2 nI
 have cO3:=(fr_grown hg23).blk cO2 nO
 have cR3:=(fr_grown hg23).blk cR2 nR
 have HS1:=Lib.hid (gSideO_c h12 w3 gk3)
 have HGt:=Lib.hid (tGet_c g.tb g.sb o.side o.price g.t w3 (fun _=>hsd) sg3.box sg3.cx sg3.tr sg3.srt)
 obtain ⟨x0,x1,x2,x3,x4,x5⟩:=six_of cO3
 have HH3:=Lib.hid (And.intro b2 (And.intro hg23 (And.intro gk3 (And.intro sg3 (And.intro cI3 (And.intro cO3 (And.intro cR3 (And.intro om3 (And.intro hO3 hz1)))))))))
 clear H S b0 cI cR hVD ho hoL b02 hz0 b2 cO2 cI2 cR2 G2 om2 om3 hO3 hg3 hg23 hr nI nO nR nP gk3 sg3 cI3 cO3 cR3 hb1
 go_wp2_with fail
 refine wp_region_held_drew (S:=fun W=>w2.grownBy W (some m)) (by kernel_rfl) (by exact ⟨rfl,rfl,rfl,Nat.le_refl _,fun _ _ _=>rfl⟩) (fun hHeld=>?_)
 refine tkH 0 ?_ ?_ (by assumption) ?_
 rotate_left
 ·(intro w hSw;(try dsimp only at hSw);go_simp;try with_reducible rfl)
 (try simp only [zz])
 refine tkH 1 ?_ ?_ (by assumption) ?_
 rotate_left
 ·(intro w hSw;(try dsimp only at hSw);go_simp;try with_reducible rfl)
 (try simp only [zz])
 refine tkH 2 ?_ ?_ (by assumption) ?_
 rotate_left
 ·(intro w hSw;(try dsimp only at hSw);go_simp;try with_reducible rfl)
 (try simp only [zz])
 refine tkH 3 ?_ ?_ (by assumption) ?_
 rotate_left
 ·(intro w hSw;have hs:=HP.out _ hSw;(try dsimp only at hSw);go_simp;try with_reducible rfl)
 (try simp only [zz])
 refine tkH 4 ?_ ?_ (by assumption) ?_
 rotate_left
 ·(intro w hSw;have hs:=HI.out _ hSw;(try dsimp only at hSw);go_simp;try with_reducible rfl)
 (try simp only [zz])
 refine rdH 5 (fun K hK=>?_)
 ((with_reducible apply any_del);rfl;rfl;rfl;rfl;exact HR.out;skip)
 refine hK.out _ _ (by exact HG3.out) (fun hHeld=>?_)
 clear hK K
 (try simp only [zz])
 refine wpAnyH_done (by kernel_rfl) ?_ _
 clear HP HI HR
 go_wp2_with fail
 ((with_reducible refine HS1.out.mono ?_);rintro e wS ⟨rfl,rfl⟩)
 clear HS1
 go_wp2_with fail
 ((with_reducible refine HGt.out.mono ?_);rintro e wG ⟨c,t,rfl,hh,n,rfl⟩)
 clear HGt
 obtain ⟨H,S,b0,cI,cR,hVD,ho,hoL⟩:=HH.out
 obtain ⟨b2,hg23,gk3,sg3,cI3,cO3,cR3,om3,hO3,hz1⟩:=HH3.out
 obtain ⟨A,M,B,hQe,hA,hB,hM⟩:=spot_row hh.out.1 hh.out.2 S.eq S.ok
 have hQok:SideOk o.side (A ++ M ++ B):=by rw [← hQe];exact S.ok
 obtain ⟨a,v,q,l,r,mr,rfl,rfl,hmp,hqe,hAr,hBr⟩:∃ a v q l r mr,t = .node a o.price v q l r∧M = [mr]∧mr.pr = o.price∧q = mr.q.map (·.id)∧A.map rqOf = c.pre ++ l.rows∧B.map rqOf = r.rows ++ c.post:=by
  rcases hM with ⟨_,rfl⟩ | h
  ·rw [hQe,List.append_nil] at ho
   rw [List.append_nil] at hQok
   obtain ⟨x,hx,hox⟩:=List.mem_flatMap.1 ho
   have hp:=(hQok.mem x hx o hox).2
   rcases List.mem_append.1 hx with hx | hx
   ·have:=hA x hx;rw [← hp,irr_b] at this;cases this
   ·have:=hB x hx;rw [← hp,irr_b] at this;cases this
  ·exact h
 have hom:o ∈ mr.q:=by
  rw [hQe] at ho
  obtain ⟨x,hx,hox⟩:=List.mem_flatMap.1 ho
  have hp:=(hQok.mem x hx o hox).2
  rcases List.mem_append.1 hx with hx | hx
  ·rcases List.mem_append.1 hx with hx | hx
   ·have:=hA x hx;rw [← hp,irr_b] at this;cases this
   ·rw [List.mem_singleton.1 hx] at hox;exact hox
  ·have:=hB x hx;rw [← hp,irr_b] at this;cases this
 have hown:=hh.out.1.tr.2.1
 subst hqe
 have hlq:mr.q.length≤64:=by
  have h1:(flatR Q).length = (flatR A).length + mr.q.length + (flatR B).length:=by rw [hQe];simp [flatR];omega
  have:=S.len
  omega
 obtain ⟨b1,cc,hv⟩:∃ b1 cc,v = .slice (some ⟨b1,0,none⟩) (mr.q.map (·.id)).length cc:=by
  rcases hown.2 with ⟨_,h0⟩ | ⟨gg,cap,cur,hv,_⟩
  ·rw [List.length_map] at h0
   have:=List.length_pos_of_mem hom
   omega
  ·exact ⟨gg,cap,hv⟩
 subst hv
 dsimp only [Tr.val]
 have hbl:b1 < w.heap.size:=H.lt b1 (S.ft b1 (.inr (.inr (.inr ⟨_,by
  obtain ⟨A3,C3,hpv⟩:=plug_vals c
  rw [← hh.out.1.eq,hpv]
  simp only [Tr.vals]
  exact List.mem_append_left _ (List.mem_append_right _ (List.mem_append_right _ List.mem_cons_self)),rfl⟩))))
 have own4:(w3.drewN n).ownsRow 0 35 1 (.slice (some ⟨b1,0,none⟩) (mr.q.map (·.id)).length cc) (mr.q.map (·.id)).length (idV (mr.q.map (·.id))):=own_fr hown (Fr.drewN (Fr.refl (fun _=>False) _) n) (fun _ _ h=>h)
 have HDel:=Lib.hid (del_U (w3.drewN n) 0 b1 cc w.heap.size o.id (mr.q.map (·.id)) own4 (by rw [List.length_map];omega) cI3 (by omega))
 rw [outO_ids] at HDel
 have hlen1:((outO o.id mr.q).map (·.id)).length = (outO o.id mr.q).length:=List.length_map _
 have hlen2:(mr.q.map (·.id)).length = mr.q.length:=List.length_map _
 have HLe:=Lib.hid (And.intro hlen1 hlen2)
 obtain ⟨N,hN⟩:∃ N,N = ((outO o.id mr.q).map (·.id)).length:=⟨_,rfl⟩
 rw [← hN] at HDel
 obtain ⟨N0,hN0⟩:∃ N0,N0 = (mr.q.map (·.id)).length:=⟨_,rfl⟩
 rw [← hN0] at HDel ⊢
 have HN:=Lib.hid (And.intro hN hN0)
 have HH4:=Lib.hid (And.intro hQe (And.intro hA (And.intro hB (And.intro hmp (And.intro hAr (And.intro hBr (And.intro hom (And.intro hlq hbl))))))))
 have hN64:N≤64:=by
  have:=List.length_filter_le (fun x:Od=>!(x.id == o.id)) mr.q
  rw [hN,hlen1];unfold outO;omega
 clear H S b0 cI cR hVD ho hoL b2 hg23 gk3 sg3 cI3 cO3 cR3 om3 hO3 hz1 hQe hA hB hQok hAr hBr hom hown hlq hbl own4 hlen1 hlen2 hN hN0 x0 x1 x2 x3 x4 x5
 have hmf:=hmf_any
 go_wp2_with fail
 ((with_reducible refine HDel.out.mono ?_);rintro e w5 ⟨rfl,h5⟩)
 clear HDel
 obtain ⟨H,S,b0,cI,cR,hVD,ho,hoL⟩:=HH.out
 obtain ⟨b2,hg23,gk3,sg3,cI3,cO3,cR3,om3,hO3,hz1⟩:=HH3.out
 obtain ⟨hQe,hA,hB,hmp',hAr,hBr,hom,hlq,hbl⟩:=HH4.out
 have f35:Fr (· = b1) w3 w5:=((Fr.drewN (Fr.refl (fun _=>False) w3) n).mono (fun _ h=>h.elim)).trans (fr_grown h5.out.2.2) (fun _ h=>.inl h)
 have hb1v:(Value.slice (some ⟨b1,0,none⟩) (mr.q.map (·.id)).length cc) ∈ g.t.vals∧(o.price,Value.slice (some ⟨b1,0,none⟩) (mr.q.map (·.id)).length cc) ∈ g.t.items:=by
  obtain ⟨A3,C3,hpv⟩:=plug_vals c
  obtain ⟨A2,C2,hpi⟩:=plug_items c
  rw [← hh.out.1.eq,hpv,hpi]
  simp only [Tr.vals,Tr.items]
  exact ⟨List.mem_append_left _ (List.mem_append_right _ (List.mem_append_right _ List.mem_cons_self)),List.mem_append_left _ (List.mem_append_right _ (List.mem_append_right _ List.mem_cons_self))⟩
 have hRw:Rew w5 o.side o.price g A [mr] B (c.plug (.node a o.price (.slice (some ⟨b1,0,none⟩) (mr.q.map (·.id)).length cc) (oldQ o.id (mr.q.map (·.id))) l r)) :=
  rew_place sg3 hh.out.1 rfl hVD f35 (by rw [oldQ_len];have:=h5.out.2.1;rw [HN.out.2] at this;exact this) hAr hBr
 generalize hTw:c.plug (.node a o.price (.slice (some ⟨b1,0,none⟩) (mr.q.map (·.id)).length cc) (oldQ o.id (mr.q.map (·.id))) l r) = Tw at hRw
 have f35s:Fr (sfoot g) w3 w5:=f35.mono (fun k hk=>.inl (by subst hk;exact .inr (.inr (.inr ⟨_,hb1v.1,rfl⟩))))
 obtain ⟨cu,hcu⟩:=sg3.tr.vcl _ hb1v.1 b1 rfl
 have cO5:Cl 38 w5 w1.heap.size (OC o):=f35.blk cO3 (cl_ne cO3 hcu (by decide))
 have cR5:Cl 38 w5 (w.heap.size + 1) (OC ⟨0,0,0,0,0,0⟩):=f35.blk cR3 (cl_ne cR3 hcu (by decide))
 obtain ⟨x0,x1,x2,x3,x4,x5⟩:=six_of cO5
 have hN0I:(0:Int)≤(N:Int):=by omega
 by_cases hz:N = 0
 ·have ez:((N:Int) == 0) = true:=by simp [hz]
  have hnil:outO o.id mr.q = []:=by
   have h1:=HN.out.1
   rw [HLe.out.1,hz] at h1
   exact List.eq_nil_of_length_eq_zero h1.symm
  have HDr:=Lib.hid (tDrop_c g.tb g.sb o.side o.price Tw w5 hsd hRw.sg.box hRw.sg.cx hRw.sg.tr hRw.sg.srt hRw.sg.nd)
  have HT6:=Lib.hid (fun w6 T' (h6:TDrop w5 w6 g.tb g.sb o.side o.price Tw T')=>take_drop S H.ids b2 hg23 sg3 om3 hO3 hQe (by rw [hmp'];exact hA) (by rw [hmp'];exact hB) hom hnil (by rw [hmp'];exact hRw) f35s (by rw [hmp'];exact h6))
  have CH5:=Lib.hid (fun w6 T' (h6:TDrop w5 w6 g.tb g.sb o.side o.price Tw T')=>And.intro (h6.fr.blk cO5 (put_off hRw.sg cO5 (by decide) (by decide))) (h6.fr.blk cR5 (put_off hRw.sg cR5 (by decide) (by decide))))
  clear H S b0 cI cR hVD ho hoL b2 hg23 gk3 sg3 cI3 cO3 cR3 om3 hO3 hQe hA hB hAr hBr hom hlq hbl f35 hb1v hRw f35s hcu cO5 cR5 h5 hnil hh hz
  go_wp2_with fail
  ((with_reducible refine HDr.out.mono ?_);rintro e w6 ⟨rfl,T',h6⟩)
  have HT6:=Lib.hid (HT6.out w6 T' h6.out)
  obtain ⟨cO6,cR6⟩:=CH5.out w6 T' h6.out
  clear HDr h6 x0 x1 x2 x3 x4 x5
  obtain ⟨x0,x1,x2,x3,x4,x5⟩:=six_of cO6
  obtain ⟨z0,z1,z2,z3,z4,z5⟩:=six_of cR6
  have f0:=Cl.f cR6 (k:=0);have f1:=Cl.f cR6 (k:=1);have f2:=Cl.f cR6 (k:=2);have f3:=Cl.f cR6 (k:=3);have f4:=Cl.f cR6 (k:=4);have f5:=Cl.f cR6 (k:=5)
  have HR6:=Lib.hid cR6
  clear cO6 cR6 CH5
  go_wp2_with fail
  have hf7:Fr (· = w.heap.size + 1) w6 (put6 w6 (w.heap.size + 1) o):=put6_frg o (Fr.refl _ _)
  have hX:=put6_cl o HR6.out
  refine bodyPost_ret (retOt rfl _ _ _ rfl o _ hX _ rfl) rfl ?_
  exact ⟨rfl,Lib.hid (gtake_more HT6.out hf7 HR6.out (by omega))⟩
 ·have ez:((N:Int) == 0) = false:=by simp;omega
  have hnn:outO o.id mr.q ≠ []:=fun e=>hz (by rw [HN.out.1,HLe.out.1,e];rfl)
  have HPt:=Lib.hid (tPut_c g.tb g.sb o.side o.price Tw (.slice (some ⟨b1,0,none⟩) N cc) ((outO o.id mr.q).map (·.id)) w5 hsd hRw.sg.box hRw.sg.cx hRw.sg.tr hRw.sg.srt hRw.sg.nd (by have:=h5.out.1;rw [← HN.out.1];exact this))
  have HT6:=Lib.hid (fun w6 T' (h6:TPut w5 w6 g.tb g.sb o.side o.price Tw T' (.slice (some ⟨b1,0,none⟩) N cc) ((outO o.id mr.q).map (·.id)))=>take_put (v:=.slice (some ⟨b1,0,none⟩) (mr.q.map (·.id)).length cc) (v':=.slice (some ⟨b1,0,none⟩) N cc) S hsd H.ids b2 hg23 sg3 om3 hO3 hQe (by rw [hmp'];exact hA) (by rw [hmp'];exact hB) hom hnn (by rw [hmp'];exact hRw) f35s (by rw [hmp'];exact hb1v.2) rfl (by rw [hmp'];exact h6))
  have CH5:=Lib.hid (fun w6 T' (h6:TPut w5 w6 g.tb g.sb o.side o.price Tw T' (.slice (some ⟨b1,0,none⟩) N cc) ((outO o.id mr.q).map (·.id)))=>And.intro (h6.fr.blk cO5 (put_off hRw.sg cO5 (by decide) (by decide))) (h6.fr.blk cR5 (put_off hRw.sg cR5 (by decide) (by decide))))
  clear H S b0 cI cR hVD ho hoL b2 hg23 gk3 sg3 cI3 cO3 cR3 om3 hO3 hQe hA hB hAr hBr hom hlq hbl f35 hb1v hRw f35s hcu cO5 cR5 h5 hnn hh hz
  go_wp2_with fail
  ((with_reducible refine HPt.out.mono ?_);rintro e w6 ⟨rfl,T',h6⟩)
  have HT6:=Lib.hid (HT6.out w6 T' h6.out)
  obtain ⟨cO6,cR6⟩:=CH5.out w6 T' h6.out
  clear HPt h6 x0 x1 x2 x3 x4 x5
  obtain ⟨x0,x1,x2,x3,x4,x5⟩:=six_of cO6
  obtain ⟨z0,z1,z2,z3,z4,z5⟩:=six_of cR6
  have f0:=Cl.f cR6 (k:=0);have f1:=Cl.f cR6 (k:=1);have f2:=Cl.f cR6 (k:=2);have f3:=Cl.f cR6 (k:=3);have f4:=Cl.f cR6 (k:=4);have f5:=Cl.f cR6 (k:=5)
  have HR6:=Lib.hid cR6
  clear cO6 cR6 CH5
  go_wp2_with fail
  have hf7:Fr (· = w.heap.size + 1) w6 (put6 w6 (w.heap.size + 1) o):=put6_frg o (Fr.refl _ _)
  have hX:=put6_cl o HR6.out
  refine bodyPost_ret (retOt rfl _ _ _ rfl o _ hX _ rfl) rfl ?_
  exact ⟨rfl,Lib.hid (gtake_more HT6.out hf7 HR6.out (by omega))⟩

structure gTakeIs (w w':World) (p:Nat) (m:Nat × Nat) (s1 s2 s1' s2':Gd) (o:Od):Prop where
 tu:gTurnIs w w' p m s1 s2 s1' s2'
 perm:(bookL s1.rs s2.rs).Perm (o :: bookL s1'.rs s2'.rs)
 e2:o.side = 1 → s2' = s2
 e1:o.side = 2 → s1' = s1
theorem out_same {L M:List Od} {o:Od} (hi:Ids L) (ho:o ∈ L) (h:L.Perm (o :: M)):(outO o.id L).Perm M:=((outO_perm hi ho).symm.trans h).cons_inv
theorem take_all {L M:List Od} {o:Od} {w w':World} (hi:Ids L) (h:L.Perm (o :: M)) (hl:L.length≤64) (hok:∀ x ∈ L,Od.ok w x∧goodO x = true):Ids M∧M.length≤64∧∀ x ∈ M,Od.ok w' x∧goodO x = true:=by
 have hi':=idsP hi h
 refine ⟨(List.pairwise_cons.1 hi').2,?_,fun x hx=>hok x (h.mem_iff.2 (List.mem_cons_of_mem _ hx))⟩
 have:=h.length_eq
 simp at this
 omega
theorem gtake_w1 {w w':World} {p:Nat} {m:Nat × Nat} {D:DataW Value} {s1 s2:Gd} {o:Od} (H:GW w p m.1 m.2 D s1.g s2.g s1.rs s2.rs) (h:TakeMem w w' m.1 1 s1.g s1.rs (bookL s1.rs s2.rs) o) (hs:o.side = 1) (ho:o ∈ bookL s1.rs s2.rs) :
  ∃ s1',gTakeIs w w' p m s1 s2 s1' s2 o:=by
 obtain ⟨D',T',Q',om,hO,sT,er,ok,pm,vd⟩:=h
 have hperm:(bookL s1.rs s2.rs).Perm (o :: bookL Q' s2.rs):=pm.append_right (flatR s2.rs)
 obtain ⟨i',l',k'⟩:=take_all (w':=w') H.ids hperm H.len H.ok
 have hio:Ids (outO o.id (bookL s1.rs s2.rs)):=H.ids.filter _
 have hlt:∀ u ∈ s1.g.t.vals ++ s2.g.t.vals,∀ k,u.ownBlock = some k → k < w.heap.size:=fun u hu k hk=>by
  rcases List.mem_append.1 hu with hu | hu
  ·exact (H.gk.s1 rfl).tr.vlt u hu k hk
  ·exact (H.gk.s2 rfl).tr.vlt u hu k hk
 exact ⟨⟨⟨s1.g.tb,s1.g.sb,T'⟩,Q'⟩,turn1 H sT om (hO.perm hio (out_same H.ids ho hperm)) er ok i' l' k' (vd _ H.vd hlt),hperm,fun _=>rfl,fun h=>by omega⟩
theorem gtake_w2 {w w':World} {p:Nat} {m:Nat × Nat} {D:DataW Value} {s1 s2:Gd} {o:Od} (H:GW w p m.1 m.2 D s1.g s2.g s1.rs s2.rs) (h:TakeMem w w' m.1 2 s2.g s2.rs (bookL s1.rs s2.rs) o) (hs:o.side = 2) (ho:o ∈ bookL s1.rs s2.rs) :
  ∃ s2',gTakeIs w w' p m s1 s2 s1 s2' o:=by
 obtain ⟨D',T',Q',om,hO,sT,er,ok,pm,vd⟩:=h
 have hperm:(bookL s1.rs s2.rs).Perm (o :: bookL s1.rs Q'):=(pm.append_left (flatR s1.rs)).trans List.perm_middle
 obtain ⟨i',l',k'⟩:=take_all (w':=w') H.ids hperm H.len H.ok
 have hio:Ids (outO o.id (bookL s1.rs s2.rs)):=H.ids.filter _
 have hlt:∀ u ∈ s2.g.t.vals ++ s1.g.t.vals,∀ k,u.ownBlock = some k → k < w.heap.size:=fun u hu k hk=>by
  rcases List.mem_append.1 hu with hu | hu
  ·exact (H.gk.s2 rfl).tr.vlt u hu k hk
  ·exact (H.gk.s1 rfl).tr.vlt u hu k hk
 exact ⟨⟨⟨s2.g.tb,s2.g.sb,T'⟩,Q'⟩,turn2 H sT om (hO.perm hio (out_same H.ids ho hperm)) er ok i' l' k' ((vd _ (H.vd.perm List.perm_append_comm) hlt).perm List.perm_append_comm),hperm,fun h=>by omega,fun _=>rfl⟩
theorem gTake_c (p:Nat) (m:Nat × Nat) (s1 s2:Gd) (o:Od) (id:Int) (w:World) (H:gWhole w p m s1 s2) (ho:o ∈ bookL s1.rs s2.rs) (hid:o.id = id) :
  Calls Tryz.prog 207 #[.pointer (some ⟨p,0,none⟩),.int .u64 id] w fun e w'=>e = .returned (.tuple #[optV (some o),.bool true])∧∃ s1' s2',Hid (gTakeIs w w' p m s1 s2 s1' s2' o):=by
 subst hid
 obtain ⟨D,H⟩:=H
 rcases List.mem_append.1 ho with ho1 | ho1
 ·have hs:=flat_side H.ok1 o ho1
  refine (gTake_w p m.1 m.2 D s1.g s2.g s1.rs s2.rs 1 s1.g s1.rs o w H H.own1 (.inl ⟨rfl,rfl⟩) (List.pairwise_append.1 H.vd).1 hs ho1).mono fun e w' h=>⟨h.1,?_⟩
  obtain ⟨s1',h'⟩:=gtake_w1 H h.2.out hs ho
  exact ⟨s1',s2,Lib.hid h'⟩
 ·have hs:=flat_side H.ok2 o ho1
  refine (gTake_w p m.1 m.2 D s1.g s2.g s1.rs s2.rs 2 s2.g s2.rs o w H H.own2 (.inr ⟨rfl,rfl⟩) (List.pairwise_append.1 H.vd).2.1 hs ho1).mono fun e w' h=>⟨h.1,?_⟩
  obtain ⟨s2',h'⟩:=gtake_w2 H h.2.out hs ho
  exact ⟨s1,s2',Lib.hid h'⟩
section
variable {ops : Array Oper} {rest : List Oper} {o : Oper} {a : Act} {w : World} {Q : Exit → Act → World → Prop}
theorem storeOd (hgd:o.guard = none) (x y:Operand) (ho:o.op = .store 38 x y) (g:Nat) (z:Od) (hx:a.eval x = .pointer (some ⟨g,0,none⟩)) (hy:a.eval y = .agg (OC z)) (z':Od) (t:TypeId)
  (hg:Cl t w g (OC z')) (h:wpList Tryz.prog ops Q rest (a.put o.dst undef) (w.setRow g (OC z))):wpList Tryz.prog ops Q (o :: rest) a w :=
 wpList_plain hgd fun K hK=>wp_store_row _ x y ho g _ hx hy _ _ hg (size_oc z) rfl (all_oneCell_toArray (cs:=encO z) (enc_one z)) (hK _ _ h)
end
theorem cl_row {T:TypeId} {w:World} {k g:Nat} {cs cs':Array Value} (h:Cl T w k cs) (hne:k ≠ g):Cl T (w.setRow g cs') k cs:=(setRow_other w g k cs' hne).trans h
theorem gTake_none (p:Nat) (m:Nat × Nat) (s1 s2:Gd) (id:Int) (hwf:(Lit.int .u64 id).wf = true) (w:World) (H:gWhole w p m s1 s2) (hno:∀ x ∈ bookL s1.rs s2.rs,¬ x.id = id) :
  Calls Tryz.prog 207 #[.pointer (some ⟨p,0,none⟩),.int .u64 id] w fun e w'=>e = .returned (.tuple #[optV none,.bool false])∧Hid (Below w.heap.size w w'):=by
 obtain ⟨D,H⟩:=H
 obtain ⟨w0,hw0⟩:∃ w0,((w.alloc (.cells #[.int .u64 id] 35)).alloc (.cells (OC ⟨0,0,0,0,0,0⟩) 38)) = w0:=⟨_,rfl⟩
 have b0:Below w.heap.size w w0:=by rw [← hw0];exact ((Below.refl _ _).alloc (Nat.le_refl _) _).alloc (by simp) _
 have cI:Cl 35 w0 w.heap.size #[.int .u64 id]:=by rw [← hw0];exact hd_prev (by simp) (hd_last rfl)
 have cR:Cl 38 w0 (w.heap.size + 1) (OC ⟨0,0,0,0,0,0⟩):=by rw [← hw0];exact hd_last (by simp)
 have hz0:w0.heap.size = w.heap.size + 2:=by rw [← hw0];simp
 have HGet:=Lib.hid (gGet_c p m.1 m.2 D s1.g s2.g s1.rs s2.rs id hwf w0 (H.below b0))
 rw [omL_none.2 hno] at HGet
 have kI:w0.cell? ⟨w.heap.size,0,none⟩ = some (.int .u64 id):=(Cl.c cI 0).trans rfl
 have HH:=Lib.hid (And.intro b0 (And.intro cR hz0))
 clear H b0 cI cR hz0
 go_enter Tryz.func207,Tryz.ntmps207
 go_wp2_with fail
 ((with_reducible refine HGet.out.mono ?_);rintro e w1 ⟨rfl,hb1⟩)
 clear HGet kI
 dsimp only [Option.getD,Option.isSome,zO]
 obtain ⟨b0,cR,hz0⟩:=HH.out
 have b1:Below w.heap.size w w1:=b0.trans (hb1.out.mono b0.size)
 have cR1:Cl 38 w1 (w.heap.size + 1) (OC ⟨0,0,0,0,0,0⟩):=(hb1.out.block _ (blk_lt cR)).trans cR
 have hne:w.heap.size + 1 < w1.heap.size:=blk_lt cR1
 obtain ⟨w2,hw2⟩:∃ w2,w1.alloc (.cells (OC ⟨0,0,0,0,0,0⟩) 38) = w2:=⟨_,rfl⟩
 have b12:Below w1.heap.size w1 w2:=by rw [← hw2];exact (Below.refl _ _).alloc (Nat.le_refl _) _
 have cR2:Cl 38 w2 (w.heap.size + 1) (OC ⟨0,0,0,0,0,0⟩):=(b12.block _ hne).trans cR1
 have cN2:Cl 38 w2 w1.heap.size (OC ⟨0,0,0,0,0,0⟩):=by rw [← hw2];exact hd_last rfl
 have HR:=Lib.hid (And.intro cR2 (And.intro (b1.trans (b12.mono b1.size)) (And.intro cN2 hne)))
 have HNE:Hid (w.heap.size + 1 ≠ w1.heap.size):=Lib.hid (by omega)
 clear b0 cR hz0 b1 cR1 b12 cR2 hb1 cN2 hne
 go_wp2_with (first | ((with_reducible apply storeOd);rfl;rfl;rfl;rfl;exact HR.out.2.2.1;skip) | (refine storeOd rfl _ _ rfl (w.heap.size + 1) ⟨0,0,0,0,0,0⟩ rfl rfl _ _ (cl_row HR.out.1 HNE.out) ?_))
 have hX:Cl 38 ((w2.setRow w1.heap.size (OC ⟨0,0,0,0,0,0⟩)).setRow (w.heap.size + 1) (OC ⟨0,0,0,0,0,0⟩)) (w.heap.size + 1) (OC ⟨0,0,0,0,0,0⟩):=setRow_heap _ _ _ _ _ _ (cl_row HR.out.1 HNE.out)
 have hb:=below_row (cs:=OC ⟨0,0,0,0,0,0⟩) (below_row (cs:=OC ⟨0,0,0,0,0,0⟩) HR.out.2.1 (show w.heap.size≤w1.heap.size by have:=HR.out.2.2.2;omega)) (show w.heap.size≤w.heap.size + 1 by omega)
 refine bodyPost_ret (retOt rfl _ _ _ rfl ⟨0,0,0,0,0,0⟩ _ hX _ rfl) rfl ?_
 exact ⟨rfl,Lib.hid hb⟩

structure gLessIs (w w':World) (p:Nat) (m:Nat × Nat) (s1 s2 s1' s2':Gd) (o:Od) (qty:Int):Prop where
 tu:gTurnIs w w' p m s1 s2 s1' s2'
 now:bookL s1'.rs s2'.rs = (bookL s1.rs s2.rs).map (lessF o.id qty)
 e2:o.side = 1 → s2' = s2
 e1:o.side = 2 → s1' = s1
def gCutIs (w w':World) (p:Nat) (m:Nat × Nat) (s1 s2 s1' s2':Gd) (id qty c:Int):Prop :=
 (c = 51∧(∀ x ∈ bookL s1.rs s2.rs,¬ x.id = id)∧s1' = s1∧s2' = s2∧Below w.heap.size w w') ∨
 ∃ o ∈ bookL s1.rs s2.rs,o.id = id∧((c = 2∧(qty < 1 ∨ o.qty < qty)∧s1' = s1∧s2' = s2∧Below w.heap.size w w') ∨ (c = 0∧¬ qty < 1∧qty = o.qty∧gTakeIs w w' p m s1 s2 s1' s2' o) ∨ (c = 0∧¬ qty < 1∧qty < o.qty∧gLessIs w w' p m s1 s2 s1' s2' o qty))
def lessR (id qty:Int) (r:Rw):Rw:=⟨r.pr,r.v,r.q.map (lessF id qty)⟩
theorem lessR_rq (id qty:Int) (Q:List Rw):(Q.map (lessR id qty)).map rqOf = Q.map rqOf:=by
 rw [List.map_map]
 apply List.map_congr_left
 intro r _
 simp only [Function.comp,rqOf,lessR,List.map_map]
 congr 1
 apply List.map_congr_left
 intro x _
 exact (less_id id qty x).1
theorem lessR_flat (id qty:Int) (Q:List Rw):flatR (Q.map (lessR id qty)) = (flatR Q).map (lessF id qty):=by
 unfold flatR
 rw [List.flatMap_map,List.map_flatMap]
 rfl
theorem lessR_ok {s id qty:Int} {Q:List Rw} (h:SideOk s Q):SideOk s (Q.map (lessR id qty)):=by
 refine ⟨List.pairwise_map.2 h.rows,fun r hr=>?_,fun r hr x hx=>?_,fun r hr=>?_⟩
 ·obtain ⟨r0,h0,rfl⟩:=List.mem_map.1 hr
  have:=h.some r0 h0
  simpa [lessR] using this
 ·obtain ⟨r0,h0,rfl⟩:=List.mem_map.1 hr
  obtain ⟨y,hy,rfl⟩:=List.mem_map.1 hx
  have:=h.mem r0 h0 y hy
  rw [(less_id id qty y).2.1,(less_id id qty y).2.2]
  exact this
 ·obtain ⟨r0,h0,rfl⟩:=List.mem_map.1 hr
  refine List.pairwise_map.2 ((h.que r0 h0).imp fun {x y} hxy=>?_)
  rw [less_ahd];exact hxy
theorem lessR_none {id qty:Int} {Q:List Rw} (h:∀ x ∈ flatR Q,¬ x.id = id):Q.map (lessR id qty) = Q:=by
 rw [List.map_congr_left (g:=fun r=>r)]
 ·exact List.map_id' Q
 ·intro r hr
  obtain ⟨p,v,q⟩:=r
  have:q.map (lessF id qty) = q.map (fun x=>x):=List.map_congr_left fun x hx=>if_neg (h x (List.mem_flatMap.2 ⟨_,hr,hx⟩))
  simp only [lessR]
  rw [this,List.map_id']
theorem omL_less {L:List Od} {o:Od} {qty:Int} (hi:Ids L) (ho:o ∈ L) (id:Int):omL (L.map (lessF o.id qty)) id = if id = (lessO o qty).id then some (lessO o qty) else omL L id:=by
 have hi':Ids (L.map (lessF o.id qty)):=List.pairwise_map.2 (hi.imp fun {x y} h=>by rw [(less_id _ _ x).1,(less_id _ _ y).1];exact h)
 apply Option.ext
 intro x
 rw [omL_some hi']
 by_cases e:id = o.id
 ·rw [if_pos (by exact e)]
  constructor
  ·rintro ⟨hx,hxi⟩
   obtain ⟨y,hy,rfl⟩:=List.mem_map.1 hx
   have hyo:y = o:=ids_eq hi hy ho (by rw [(less_id _ _ y).1] at hxi;rw [hxi,e])
   subst hyo
   unfold lessF
   rw [if_pos rfl]
  ·intro h
   injection h with h
   subst h
   refine ⟨List.mem_map.2 ⟨o,ho,by unfold lessF;rw [if_pos rfl]⟩,e.symm⟩
 ·rw [if_neg (by exact e),omL_some hi]
  constructor
  ·rintro ⟨hx,hxi⟩
   obtain ⟨y,hy,rfl⟩:=List.mem_map.1 hx
   have hyo:¬ y.id = o.id:=fun h=>e (by rw [← hxi,(less_id _ _ y).1,h])
   have e1:lessF o.id qty y = y:=if_neg hyo
   rw [e1] at hxi ⊢
   exact ⟨hy,hxi⟩
  ·rintro ⟨hx,hxi⟩
   exact ⟨List.mem_map.2 ⟨x,hx,if_neg (fun h=>e (by rw [← hxi,h]))⟩,hxi⟩
theorem less_turn {w w0 w':World} {p m1 m2:Nat} {D D':DataW Value} {s1 s2:Gd} {o:Od} {qty:Int} (H:GW w0 p m1 m2 D s1.g s2.g s1.rs s2.rs) (b0:Below w.heap.size w w0) (hg:w0.grownBy w' (some m1)) (om:w'.ownsMap Tryz.prog 35 RV m1 64 D') (hO:OmT D' ((bookL s1.rs s2.rs).map (lessF o.id qty)))
  (ho:o ∈ bookL s1.rs s2.rs) (h1:¬ qty < 1) (h2:qty < o.qty):∃ s1' s2',gLessIs w w' p (m1,m2) s1 s2 s1' s2' o qty:=by
 have hbk:bookL (s1.rs.map (lessR o.id qty)) (s2.rs.map (lessR o.id qty)) = (bookL s1.rs s2.rs).map (lessF o.id qty):=by
  unfold bookL
  rw [lessR_flat,lessR_flat,List.map_append]
 have hft:∀ k,gft p (m1,m2) ⟨s1.g,s1.rs.map (lessR o.id qty)⟩ ⟨s2.g,s2.rs.map (lessR o.id qty)⟩ k → gft p (m1,m2) s1 s2 k:=fun k h=>h
 refine ⟨⟨s1.g,s1.rs.map (lessR o.id qty)⟩,⟨s2.g,s2.rs.map (lessR o.id qty)⟩,⟨⟨D',H.gk.setom hg om H.mm,by rw [hbk];exact hO,?_,?_,lessR_ok H.ok1,lessR_ok H.ok2,?_,?_,?_,H.vd,H.bd,H.tb,H.mm,H.sb⟩,?_,fun k hk=>.inl (hft k hk)⟩,hbk,fun hs=>?_,fun hs=>?_⟩
 ·dsimp only;rw [lessR_rq];exact H.e1
 ·dsimp only;rw [lessR_rq];exact H.e2
 ·dsimp only;rw [hbk]
  exact List.pairwise_map.2 (H.ids.imp fun {x y} h=>by rw [(less_id _ _ x).1,(less_id _ _ y).1];exact h)
 ·dsimp only;rw [hbk,List.length_map];exact H.len
 ·dsimp only;rw [hbk]
  intro x hx
  obtain ⟨y,hy,rfl⟩:=List.mem_map.1 hx
  unfold lessF
  split
  ·rename_i hyo
   have:y = o:=ids_eq H.ids hy ho hyo
   subst this
   exact less_good (H.ok y hy) h1 h2
  ·exact H.ok y hy
 ·exact ((Fr.of_below (S:=gft p (m1,m2) s1 s2) b0).trans (fr_grown hg) (fun k h=>.inl (by subst h;exact .inr (.inl rfl))))
 ·have hn:∀ x ∈ flatR s2.rs,¬ x.id = o.id:=fun x hx e=>by
   have:=ids_eq H.ids (List.mem_append_right _ hx) ho e
   subst this
   have:=flat_side H.ok2 x hx
   omega
  obtain ⟨gg,rr⟩:=s2
  dsimp only at hn ⊢
  rw [lessR_none hn]
 ·have hn:∀ x ∈ flatR s1.rs,¬ x.id = o.id:=fun x hx e=>by
   have:=ids_eq H.ids (List.mem_append_left _ hx) ho e
   subst this
   have:=flat_side H.ok1 x hx
   omega
  obtain ⟨gg,rr⟩:=s1
  dsimp only at hn ⊢
  rw [lessR_none hn]
theorem gTake_back {w W w':World} {p:Nat} {m:Nat × Nat} {s1 s2 s1' s2':Gd} {o:Od} (hb:Below w.heap.size w W) (h:gTakeIs W w' p m s1 s2 s1' s2' o):gTakeIs w w' p m s1 s2 s1' s2' o :=
 ⟨⟨h.tu.wh,(Fr.of_below hb:Fr (gft p m s1 s2) w W).trans h.tu.fr (fun _ h=>.inl h),fun k hk=>(h.tu.ft k hk).imp id (fun h'=>Nat.le_trans hb.size h')⟩,h.perm,h.e2,h.e1⟩

theorem gCut_none (p:Nat) (m:Nat × Nat) (s1 s2:Gd) (id qty:Int) (hwf:(Lit.int .u64 id).wf = true) (w:World) (H:gWhole w p m s1 s2) (hno:∀ x ∈ bookL s1.rs s2.rs,¬ x.id = id) :
  Calls Tryz.prog 202 #[.pointer (some ⟨p,0,none⟩),.int .u64 id,.int .i64 qty] w fun e w'=>e = .returned (.int .i64 51)∧Hid (Below w.heap.size w w'):=by
 obtain ⟨D,H⟩:=H
 have HM:=Lib.hid (gMade_c (some ⟨p,0,none⟩) (some (m.1,m.2)) D s1.g s2.g w H.gk)
 have k0:w.cell? ⟨p,0,none⟩ = some (.map (some m.1)):=(H.bookp.c 0).trans rfl
 have hl:=look_ok (H.gk.om _ _ rfl) H.om id hwf
 rw [omL_none.2 hno] at hl
 have hl':(Instr.lookup 133 (.map (some m.1)) (.int .u64 id) true).run Tryz.prog w = .ok (.tuple #[.agg (OC ⟨0,0,0,0,0,0⟩),.bool false]) w:=hl
 clear H hl
 obtain ⟨m1,m2⟩:=m
 dsimp only at HM k0 hl'
 go_enter Tryz.func202,Tryz.ntmps202
 go_wp2_with ((with_reducible refine HM.out.mono ?_);rintro e w1 ⟨rfl,rfl⟩;clear HM)
 go_ret
 exact ⟨rfl,Lib.hid ((Below.refl _ _).alloc (Nat.le_refl _) _)⟩

theorem gCut_bad (p:Nat) (m:Nat × Nat) (s1 s2:Gd) (o:Od) (id qty:Int) (w:World) (H:gWhole w p m s1 s2) (ho:o ∈ bookL s1.rs s2.rs) (hid:o.id = id) (hq:qty < 1 ∨ o.qty < qty) :
  Calls Tryz.prog 202 #[.pointer (some ⟨p,0,none⟩),.int .u64 id,.int .i64 qty] w fun e w'=>e = .returned (.int .i64 2)∧Hid (Below w.heap.size w w'):=by
 obtain ⟨D,H⟩:=H
 obtain ⟨m1,m2⟩:=m
 subst hid
 have hwf:=wf_u (H.ok o ho).1.1
 have HM:=Lib.hid (gMade_c (some ⟨p,0,none⟩) (some (m1,m2)) D s1.g s2.g w H.gk)
 have k0:w.cell? ⟨p,0,none⟩ = some (.map (some m1)):=(H.bookp.c 0).trans rfl
 have hl:=look_ok (H.gk.om _ _ rfl) H.om o.id hwf
 rw [(omL_some H.ids).2 ⟨ho,rfl⟩] at hl
 have hl':(Instr.lookup 133 (.map (some m1)) (.int .u64 o.id) true).run Tryz.prog w = .ok (.tuple #[.agg (OC o),.bool true]) w:=hl
 clear H hl ho
 have hB:Below w.heap.size w (w.alloc (.cells (OC o) 38)):=(Below.refl _ _).alloc (Nat.le_refl _) _
 by_cases q1:qty < 1
 ·have g1:decide (qty < 1) = true:=decide_eq_true q1
  clear hq
  go_enter Tryz.func202,Tryz.ntmps202
  go_wp2_with ((with_reducible refine HM.out.mono ?_);rintro e w1 ⟨rfl,rfl⟩;clear HM)
  go_ret
  exact ⟨rfl,Lib.hid hB⟩
 ·have g1:decide (qty < 1) = false:=decide_eq_false q1
  have q2:o.qty < qty:=by omega
  have g2:decide (o.qty < qty) = true:=decide_eq_true q2
  clear hq
  go_enter Tryz.func202,Tryz.ntmps202
  go_wp2_with ((with_reducible refine HM.out.mono ?_);rintro e w1 ⟨rfl,rfl⟩;clear HM)
  go_ret
  exact ⟨rfl,Lib.hid hB⟩

theorem gCut_all (p:Nat) (m:Nat × Nat) (s1 s2:Gd) (o:Od) (id qty:Int) (w:World) (H:gWhole w p m s1 s2) (ho:o ∈ bookL s1.rs s2.rs) (hid:o.id = id) (q1:¬ qty < 1) (hq:qty = o.qty) :
  Calls Tryz.prog 202 #[.pointer (some ⟨p,0,none⟩),.int .u64 id,.int .i64 qty] w fun e w'=>e = .returned (.int .i64 0)∧∃ s1' s2',Hid (gTakeIs w w' p m s1 s2 s1' s2' o):=by
 obtain ⟨D,H⟩:=H
 obtain ⟨m1,m2⟩:=m
 subst hid
 have hwf:=wf_u (H.ok o ho).1.1
 have HM:=Lib.hid (gMade_c (some ⟨p,0,none⟩) (some (m1,m2)) D s1.g s2.g w H.gk)
 have k0:w.cell? ⟨p,0,none⟩ = some (.map (some m1)):=(H.bookp.c 0).trans rfl
 have hl:=look_ok (H.gk.om _ _ rfl) H.om o.id hwf
 rw [(omL_some H.ids).2 ⟨ho,rfl⟩] at hl
 have hl':(Instr.lookup 133 (.map (some m1)) (.int .u64 o.id) true).run Tryz.prog w = .ok (.tuple #[.agg (OC o),.bool true]) w:=hl
 have hB:Below w.heap.size w (w.alloc (.cells (OC o) 38)):=(Below.refl _ _).alloc (Nat.le_refl _) _
 have HT:=Lib.hid (gTake_c p (m1,m2) s1 s2 o o.id _ ⟨D,H.below hB⟩ ho rfl)
 have g1:decide (o.qty < 1) = false:=decide_eq_false (by omega)
 have g2:decide (o.qty < o.qty) = false:=decide_eq_false (by omega)
 have g3:¬ o.qty < 1:=by omega
 have g4:¬ o.qty < o.qty:=by omega
 have g5:(o.qty == o.qty) = true:=by simp
 have HB:=Lib.hid hB
 subst hq
 clear H hl ho q1 hB
 go_enter Tryz.func202,Tryz.ntmps202
 go_wp2_with (first | ((with_reducible refine HM.out.mono ?_);rintro e w1 ⟨rfl,rfl⟩;clear HM) | ((with_reducible refine HT.out.mono ?_);rintro e w5 ⟨rfl,s1',s2',h5⟩;clear HT))
 go_ret
 exact ⟨rfl,s1',s2',Lib.hid (gTake_back HB.out h5.out)⟩

theorem gCut_less (p:Nat) (m:Nat × Nat) (s1 s2:Gd) (o:Od) (id qty:Int) (w:World) (H:gWhole w p m s1 s2) (ho:o ∈ bookL s1.rs s2.rs) (hid:o.id = id) (q1:¬ qty < 1) (hq:qty < o.qty) :
  Calls Tryz.prog 202 #[.pointer (some ⟨p,0,none⟩),.int .u64 id,.int .i64 qty] w fun e w'=>e = .returned (.int .i64 0)∧∃ s1' s2',Hid (gLessIs w w' p m s1 s2 s1' s2' o qty):=by
 obtain ⟨D,H⟩:=H
 obtain ⟨m1,m2⟩:=m
 subst hid
 have hwf:=wf_u (H.ok o ho).1.1
 have HM:=Lib.hid (gMade_c (some ⟨p,0,none⟩) (some (m1,m2)) D s1.g s2.g w H.gk)
 have k0:w.cell? ⟨p,0,none⟩ = some (.map (some m1)):=(H.bookp.c 0).trans rfl
 have hl:=look_ok (H.gk.om _ _ rfl) H.om o.id hwf
 rw [(omL_some H.ids).2 ⟨ho,rfl⟩] at hl
 have hl':(Instr.lookup 133 (.map (some m1)) (.int .u64 o.id) true).run Tryz.prog w = .ok (.tuple #[.agg (OC o),.bool true]) w:=hl
 have hB:Below w.heap.size w (w.alloc (.cells (OC o) 38)):=(Below.refl _ _).alloc (Nat.le_refl _) _
 obtain ⟨w3,hw3⟩:∃ w3,w.alloc (.cells (OC (lessO o qty)) 38) = w3:=⟨_,rfl⟩
 have b3:Below w.heap.size w w3:=by rw [← hw3];exact (Below.refl _ _).alloc (Nat.le_refl _) _
 have cO:Cl 38 w3 w.heap.size (OC (lessO o qty)):=by rw [← hw3];exact hd_last rfl
 have G3:=H.below b3
 have om3:=G3.gk.om _ _ rfl
 have hoq:=(H.ok o ho).1
 obtain ⟨w',hr,D',om',hO',hg'⟩:=put_o (M:=(bookL s1.rs s2.rs).map (lessF o.id qty)) (om3.drew) (by omega) H.om (lessO o qty) hwf (omL_less H.ids ho) (by rw [List.length_map];rw [if_pos (by show (omL _ o.id).isSome = true;rw [(omL_some H.ids).2 ⟨ho,rfl⟩];rfl)]) (by rw [List.length_map];exact H.len)
 have hg3:w3.grownBy w' (some m1):=⟨hg'.os,hg'.tape,hg'.output,hg'.size,hg'.block⟩
 have HR:Hid ((Instr.mapUpdate 133 (.map (some m1)) (.int .u64 o.id) (.agg (OC (lessO o qty)))).run Tryz.prog w3.drew = .ok () w'):=Lib.hid hr
 have HG3:=Lib.hid hg3
 have nO:=cl_ne_map cO om3
 have nP:=cl_ne_map G3.bookp om3
 have HP:Hid (∀ W,w3.grownBy W (some m1) → W.cell? ⟨p,0,none⟩ = some (.map (some m1))):=Lib.hid fun W h=>(Cl.c ((fr_grown h).blk G3.bookp nP) 0).trans rfl
 have HO:Hid (∀ W,w3.grownBy W (some m1) → Cl 38 W w.heap.size (OC (lessO o qty))):=Lib.hid fun W h=>(fr_grown h).blk cO nO
 have HF:=Lib.hid (less_turn (qty:=qty) G3 b3 hg3 om' hO' ho q1 hq)
 have hqr:-9223372036854775808≤o.qty∧o.qty≤9223372036854775807:=hoq.2.2.2.2.1
 have g1:decide (qty < 1) = false:=decide_eq_false q1
 have g2:decide (o.qty < qty) = false:=decide_eq_false (by omega)
 have g4:¬ o.qty < qty:=by omega
 have g5:(qty == o.qty) = false:=by simp;omega
 have ew:IntKind.i64.wrap (o.qty - qty) = o.qty - qty:=by rw [IntKind.wrap_i64];omega
 have ew2:wrap64 (o.qty - qty) = o.qty - qty:=by unfold wrap64;omega
 clear H hl ho hB b3 cO G3 om3 hoq hr om' hO' hg' hg3 nO nP hqr hq
 go_enter Tryz.func202,Tryz.ntmps202
 go_wp2_with ((with_reducible refine HM.out.mono ?_);rintro e w1 ⟨rfl,rfl⟩;clear HM)
 rw [show w.alloc (.cells #[.int .u64 o.id,.int .i64 o.acc,.int .i64 o.side,.int .i64 o.price,.int .i64 (o.qty - qty),.int .u64 o.seq] 38) = w3 from hw3]
 refine wp_region_held_drew (S:=fun W=>w3.grownBy W (some m1)) (by kernel_rfl) (by exact ⟨rfl,rfl,rfl,Nat.le_refl _,fun _ _ _=>rfl⟩) (fun hHeld=>?_)
 refine tkH 0 ?_ ?_ (by assumption) ?_
 rotate_left
 ·(intro w hSw;(try dsimp only at hSw);go_simp;try with_reducible rfl)
 (try simp only [zz])
 refine tkH 1 ?_ ?_ (by assumption) ?_
 rotate_left
 ·(intro w hSw;(try dsimp only at hSw);go_simp;try with_reducible rfl)
 (try simp only [zz])
 refine tkH 2 ?_ ?_ (by assumption) ?_
 rotate_left
 ·(intro w hSw;(try dsimp only at hSw);go_simp;try with_reducible rfl)
 (try simp only [zz])
 refine tkH 3 ?_ ?_ (by assumption) ?_
 rotate_left
 ·(intro w hSw;have hs:=HP.out _ hSw;(try dsimp only at hSw);go_simp;try with_reducible rfl)
 (try simp only [zz])
 refine tkH 4 ?_ ?_ (by assumption) ?_
 rotate_left
 ·(intro w hSw;(try dsimp only at hSw);go_simp;try with_reducible rfl)
 (try simp only [zz])
 refine tkH 5 ?_ ?_ (by assumption) ?_
 rotate_left
 ·(intro w hSw;obtain ⟨x0,x1,x2,x3,x4,x5⟩:=six_of (HO.out _ hSw);(try dsimp only at hSw);go_simp;try with_reducible rfl)
 (try simp only [zz])
 refine rdH 6 (fun K hK=>?_)
 ((with_reducible apply any_upd);rfl;rfl;rfl;rfl;rfl;exact HR.out;skip)
 refine hK.out _ _ (by exact HG3.out) (fun hHeld=>?_)
 clear hK K
 (try simp only [zz])
 refine wpAnyH_done (by kernel_rfl) ?_ _
 clear HP HO HR
 go_wp2_with fail
 go_ret
 obtain ⟨s1',s2',h⟩:=HF.out
 exact ⟨rfl,s1',s2',Lib.hid h⟩
theorem gCut_c (p:Nat) (m:Nat × Nat) (s1 s2:Gd) (id qty:Int) (hwf:(Lit.int .u64 id).wf = true) (w:World) (H:gWhole w p m s1 s2) :
  Calls Tryz.prog 202 #[.pointer (some ⟨p,0,none⟩),.int .u64 id,.int .i64 qty] w fun e w'=>∃ c s1' s2',e = .returned (.int .i64 c)∧Hid (gCutIs w w' p m s1 s2 s1' s2' id qty c):=by
 by_cases hx:∃ x ∈ bookL s1.rs s2.rs,x.id = id
 ·obtain ⟨o,ho,hid⟩:=hx
  by_cases h1:qty < 1
  ·exact (gCut_bad p m s1 s2 o id qty w H ho hid (.inl h1)).mono fun e w' h=>⟨2,s1,s2,h.1,Lib.hid (.inr ⟨o,ho,hid,.inl ⟨rfl,.inl h1,rfl,rfl,h.2.out⟩⟩)⟩
  by_cases h2:o.qty < qty
  ·exact (gCut_bad p m s1 s2 o id qty w H ho hid (.inr h2)).mono fun e w' h=>⟨2,s1,s2,h.1,Lib.hid (.inr ⟨o,ho,hid,.inl ⟨rfl,.inr h2,rfl,rfl,h.2.out⟩⟩)⟩
  by_cases h3:qty = o.qty
  ·exact (gCut_all p m s1 s2 o id qty w H ho hid h1 h3).mono fun e w' ⟨h,s1',s2',k⟩=>⟨0,s1',s2',h,Lib.hid (.inr ⟨o,ho,hid,.inr (.inl ⟨rfl,h1,h3,k.out⟩)⟩)⟩
  ·exact (gCut_less p m s1 s2 o id qty w H ho hid h1 (by omega)).mono fun e w' ⟨h,s1',s2',k⟩=>⟨0,s1',s2',h,Lib.hid (.inr ⟨o,ho,hid,.inr (.inr ⟨rfl,h1,by omega,k.out⟩)⟩)⟩
 ·have hno:∀ x ∈ bookL s1.rs s2.rs,¬ x.id = id:=fun x hxm e=>hx ⟨x,hxm,e⟩
  exact (gCut_none p m s1 s2 id qty hwf w H hno).mono fun e w' h=>⟨51,s1,s2,h.1,Lib.hid (.inl ⟨rfl,hno,rfl,rfl,h.2.out⟩)⟩

theorem sid_put (a b:Nat) (t1 t2:Sg) (h1:t1.tb = a) (h2:t2.tb = b):((DataW.map ([]:List (Lit × DataW Value))).put (.int .i64 1) (.held (.pointer (some ⟨a,0,none⟩)))).put (.int .i64 2) (.held (.pointer (some ⟨b,0,none⟩))) = sidD t1 t2:=by
 subst h1 h2
 simp [sidD,DataW.put,DataW.insert,Lit.sameKey,Lit.before]
theorem gNew_c (w:World):Calls Tryz.prog 51 #[] w fun e w'=>∃ p m s1 s2,e = .returned (.pointer (some ⟨p,0,none⟩))∧Hid (gWhole w' p m s1 s2∧bookL s1.rs s2.rs = []∧Below w.heap.size w w'∧∀ k,gft p m s1 s2 k → w.heap.size≤k):=by
 have hmm:=@run_makeMap Tryz.prog
 obtain ⟨W1,hW1⟩:∃ W1,(w.alloc (.map #[] 0)).alloc (.map #[] 0) = W1:=⟨_,rfl⟩
 have b1:Below w.heap.size w W1:=by rw [← hW1];exact ((Below.refl _ _).alloc (Nat.le_refl _) _).alloc (by simp) _
 have z1:W1.heap.size = w.heap.size + 2:=by rw [← hW1];simp
 have om1:W1.ownsMap Tryz.prog 35 RV w.heap.size 0 (.map []):=by
  rw [← hW1]
  exact (World.ownsMap_made w Tryz.prog 35 RV).alloc _
 have sm1:W1.ownsMap Tryz.prog 3 RV (w.heap.size + 1) 0 (.map []):=by
  rw [← hW1]
  have:=World.ownsMap_made (w.alloc (.map #[] 0)) Tryz.prog 3 RV
  rw [World.size_alloc] at this
  exact this
 have HH:=Lib.hid (And.intro b1 (And.intro z1 (And.intro om1 sm1)))
 have HP1:=Lib.hid (planted_c 1 W1)
 clear b1 z1 om1 sm1
 go_enter Tryz.func51,Tryz.ntmps51
 go_wp2_with fail
 ((with_reducible refine HP1.out.mono ?_);rintro e w2 ⟨rfl,h2⟩)
 obtain ⟨b1,z1,om1,sm1⟩:=HH.out
 have sm2:=ownsMap_fr sm1 (Fr.of_below (S:=fun _=>False) h2.out.2.1) (fun h=>h)
 obtain ⟨w3,hr3,sm3,t3⟩:=sm2.store keyI Tryz.underlying136 (by unfold maxLen;omega) (keyOf_int_mk Tryz.underlying3 (by decide:(Lit.int .i64 1).wf = true)) (show RV (.pointer (some ⟨W1.heap.size + 1,0,none⟩)) = some (.held (.pointer (some ⟨W1.heap.size + 1,0,none⟩)),[]) from rfl)
 have HP2:=Lib.hid (planted_c 2 w3)
 have HH2:=Lib.hid (And.intro h2.out (And.intro sm3 t3.grown))
 clear b1 z1 om1 sm1 h2 sm2 sm3 t3 HP1
 go_wp2_with fail
 ((with_reducible refine HP2.out.mono ?_);rintro e w4 ⟨rfl,h4⟩)
 obtain ⟨⟨sg2,b2,z2⟩,sm3,g3⟩:=HH2.out
 have sm4:=ownsMap_fr sm3 (Fr.of_below (S:=fun _=>False) h4.out.2.1) (fun h=>h)
 obtain ⟨w5,hr5,sm5,t5⟩:=sm4.store keyI Tryz.underlying136 (by unfold maxLen;omega) (keyOf_int_mk Tryz.underlying3 (by decide:(Lit.int .i64 2).wf = true)) (show RV (.pointer (some ⟨w3.heap.size + 1,0,none⟩)) = some (.held (.pointer (some ⟨w3.heap.size + 1,0,none⟩)),[]) from rfl)
 have HH4:=Lib.hid (And.intro h4.out (And.intro sm5 t5.grown))
 clear sg2 b2 z2 sm3 g3 sm4 sm5 t5 h4 HP2
 go_wp2_with fail
 go_ret
 obtain ⟨b1,z1,om1,sm1⟩:=HH.out
 obtain ⟨⟨sg2,b2,z2⟩,_,g3⟩:=HH2.out
 obtain ⟨⟨sg4,b4,z4⟩,sm5,g5⟩:=HH4.out
 rw [sid_put (W1.heap.size + 1) (w3.heap.size + 1) ⟨W1.heap.size + 1,W1.heap.size,.nil⟩ ⟨w3.heap.size + 1,w3.heap.size,.nil⟩ rfl rfl] at sm5
 have hz3:=g3.size
 have hz5:=g5.size
 have f23:=fr_grown g3
 have f45:=fr_grown g5
 -- side 1
 have k1:SgIn w3 1 ⟨W1.heap.size + 1,W1.heap.size,.nil⟩:=sg2.keep f23 (fun k hk=>sg2.no_map (ownsMap_fr sm1 (Fr.of_below (S:=fun _=>False) b2) (fun h=>h)) k hk)
 have k2:=k1.below b4
 have sm4:=ownsMap_fr (HH2.out.2.1) (Fr.of_below (S:=fun _=>False) b4) (fun h=>h)
 have k3:SgIn w5 1 ⟨W1.heap.size + 1,W1.heap.size,.nil⟩:=k2.keep f45 (fun k hk=>k2.no_map sm4 k hk)
 have k4:SgIn w5 2 ⟨w3.heap.size + 1,w3.heap.size,.nil⟩:=sg4.keep f45 (fun k hk=>sg4.no_map sm4 k hk)
 have om2:=ownsMap_fr om1 (Fr.of_below (S:=fun _=>False) b2) (fun h=>h)
 have om3:=ownsMap_fr om2 f23 (by omega)
 have om4:=ownsMap_fr om3 (Fr.of_below (S:=fun _=>False) b4) (fun h=>h)
 have om5:=ownsMap_fr om4 f45 (by omega)
 have bw3:Below w.heap.size w w3:=(b1.trans (b2.mono b1.size)).trans ((f23.below (B:=w.heap.size) (fun k hk=>by rw [hk];omega) (by have:=b2.size;omega)))
 have bw5:Below w.heap.size w w5:=(bw3.trans (b4.mono bw3.size)).trans ((f45.below (B:=w.heap.size) (fun k hk=>by rw [hk];omega) (by have:=b4.size;omega)))
 have b6:Below w5.heap.size w5 (w5.alloc (.cells #[.map (some w.heap.size),.map (some (w.heap.size + 1))] 138)):=(Below.refl _ _).alloc (Nat.le_refl _) _
 refine ⟨w5.heap.size,(w.heap.size,w.heap.size + 1),⟨⟨W1.heap.size + 1,W1.heap.size,.nil⟩,[]⟩,⟨⟨w3.heap.size + 1,w3.heap.size,.nil⟩,[]⟩,rfl,Lib.hid ⟨⟨.map [],⟨⟨.inr ⟨_,rfl,hd_last rfl⟩,fun a b e=>?_,fun a b e=>?_,fun _=>k3.below b6,fun _=>k4.below b6⟩,omT_empty,rfl,rfl,⟨List.Pairwise.nil,fun _ h=>(by cases h),fun _ h=>(by cases h),fun _ h=>(by cases h)⟩,⟨List.Pairwise.nil,fun _ h=>(by cases h),fun _ h=>(by cases h),fun _ h=>(by cases h)⟩,List.Pairwise.nil,by simp [bookL,flatR],fun _ h=>(by cases h),List.Pairwise.nil,fun _ h=>(by cases h),?_,?_,?_⟩⟩,rfl,bw5.trans (b6.mono bw5.size),?_⟩⟩
 ·injection e with e;injection e with e1 e2
  subst e1
  exact (ownsMap_fr om5 (Fr.of_below (S:=fun _=>False) b6) (fun h=>h)).mono (by omega)
 ·injection e with e;injection e with e1 e2
  subst e2
  exact ownsMap_fr sm5 (Fr.of_below (S:=fun _=>False) b6) (fun h=>h)
 ·show W1.heap.size + 1 ≠ w3.heap.size + 1
  omega
 ·show w.heap.size ≠ w.heap.size + 1
  omega
 ·show W1.heap.size ≠ w3.heap.size
  omega
 ·have hb2:=b2.size
  have hb4:=b4.size
  rintro k (rfl | rfl | rfl | hk | hk)
  ·omega
  ·exact Nat.le_refl _
  ·exact Nat.le_succ _
  ·rcases hk with rfl | rfl | hk | ⟨v,hv,_⟩
   ·show w.heap.size≤W1.heap.size;omega
   ·show w.heap.size≤W1.heap.size + 1;omega
   ·cases hk
   ·cases hv
  ·rcases hk with rfl | rfl | hk | ⟨v,hv,_⟩
   ·show w.heap.size≤w3.heap.size;omega
   ·show w.heap.size≤w3.heap.size + 1;omega
   ·cases hk
   ·cases hv
attribute [local go_sem] Oper.semAt_some

theorem each_c (tb:Nat) (w:World) :
  Calls Tryz.prog 211 #[.pointer (some ⟨tb,0,none⟩)] w fun e w'=>e = .returned (.func (.func 221) #[] #[.pointer (some ⟨w.heap.size,0,none⟩)])∧w' = w.alloc (.cells #[.pointer (some ⟨tb,0,none⟩)] 134):=by
 have hmf:=hmf_any
 go_enter Tryz.func211,Tryz.ntmps211
 go_wp2_with fail
 go_ret
 exact ⟨rfl,rfl⟩
abbrev kv (x:Int × Value):Array Value:=#[.int .i64 x.1,x.2]

theorem items_len (t:Tr):t.items.length = t.rows.length:=by
 have h:=congrArg List.length (items_fst t)
 simpa using h
theorem flat_len:∀ {Q:List Rw},(∀ r ∈ Q,r.q ≠ []) → Q.length≤(flatR Q).length
 | [],_=>Nat.zero_le _
 | r :: Q,h=>by
  have h1:=flat_len (Q:=Q) (fun x hx=>h x (List.mem_cons_of_mem _ hx))
  have h2:0 < r.q.length:=List.length_pos_iff.2 (h r (List.mem_cons_self ..))
  have e:flatR (r :: Q) = r.q ++ flatR Q:=rfl
  rw [e,List.length_append,List.length_cons]
  omega
end Go.Proofs.YtikapeaodobkjaaGreat
namespace Go.Proofs.YtikapeaodobkjaaGreat
open Go.RowKit Go.Sort Go.Lib Go.Maps

theorem told_k (p m ms:Nat) (D:DataW Value) (g1 g2:Sg) (Q1 Q2:List Rw) (w:World) (H:GW w p m ms D g1 g2 Q1 Q2) (B:Nat) (hB:∀ k,gfoot p m ms g1 g2 k → k < B) (hBw:B≤w.heap.size)
  (v:Value) (n:Nat) (X:List Od) (hown:w.ownsRow B 38 6 v n (ol X)) (hn:n≤10000) (A:Option Addr) (c:Nat) (Y:List Od) (hY:∀ x ∈ Y,x ∈ bookL Q1 Q2) (hQ:QIn w B A Y) (hm:Y.length≤1000) :
  Calls Tryz.prog 212 #[.pointer (some ⟨p,0,none⟩),v,.slice A Y.length c] w fun e w'=>∃ v',e = .returned v'∧Hid (w'.ownsRow B 38 6 v' (n + Y.length) (ol (X ++ Y))∧Below B w w'∧Fr (fun j=>v.ownBlock = some j) w w'):=by
 obtain ⟨i0,hi0,hz0,hz1,hz2⟩:=info_parts info_or
 have HH:=Lib.hid H
 have HB:=Lib.hid hB
 have HQ:=Lib.hid hQ
 have HY:=Lib.hid hY
 clear H hB hQ hY
 have hmI:(Y.length:Int)≤1000:=by omega
 go_enter Tryz.func212,Tryz.ntmps212
 go_wp2_with fail
 obtain ⟨N,hN⟩:∃ N,N = Y.length:=⟨_,rfl⟩
 rw [← hN] at hm hmI ⊢
 have HN:=Lib.hid hN
 clear hN
 go_loopg [1,11] N (fun kx s1 s11 wr=>∃ k:Nat,s11 = .int .i64 (k:Int)∧k≤N∧N - k≤kx∧wr.ownsRow B 38 6 s1 (n + k) (ol (X ++ Y.take k))∧Hid (Below B w wr∧Fr (fun j=>v.ownBlock = some j) w wr∧∀ j,s1.ownBlock = some j → v.ownBlock = some j ∨ w.heap.size≤j))
 case atStart=>exact ⟨0,rfl,by omega,by omega,by simpa using hown,Below.refl _ _,Fr.refl _ _,fun _ h=>.inl h⟩
 case round =>
  obtain ⟨k,rfl,hk,hkx,hown',hd⟩:=hrel
  by_cases hlt:k < N
  ·have hltI:(k:Int) < (N:Int):=by omega
   have hk0:(0:Int)≤(k:Int):=by omega
   have hkY:k < Y.length:=by rw [← HN.out];exact hlt
   obtain ⟨g,rfl,hgB,hc⟩:=(HQ.out.below hd.out.1) k hkY
   obtain ⟨x,ex⟩:∃ x,Y[k]! = x:=⟨_,rfl⟩
   rw [ex] at hc
   have hxY:x ∈ Y:=by rw [← ex,getElem!_pos Y k hkY];exact List.getElem_mem _
   have hxL:=HY.out x hxY
   have G:=HH.out.fr (fr_below hd.out.1) (fun j hj hbad=>by have:=HB.out j hj;omega)
   have hsome:omL (bookL Q1 Q2) x.id = some x:=(omL_some G.ids).2 ⟨hxL,rfl⟩
   have hl:=look_o (G.gk.om _ _ rfl) G.om x.id (wf_u (G.ok x hxL).1.1)
   rw [hsome] at hl
   have hl':(Instr.lookup 133 (.map (some m)) (.int .u64 x.id) false).run Tryz.prog wr = .ok (.agg (OC x)) wr:=hl
   have k0:wr.cell? ⟨p,0,none⟩ = some (.map (some m)):=(G.bookp.c 0).trans rfl
   have HS:Hid (ol (X ++ Y.take (k + 1)) = ol (X ++ Y.take k) ++ encO x):=Lib.hid (by
    rw [List.take_succ_eq_append_getElem hkY,← List.append_assoc,ol_app,← getElem!_pos Y k hkY,ex])
   have hsz:=hd.out.1.size
   have hnk:n + k≤11000:=by omega
   clear ex hxY hxL G hsome hl
   generalize x.id = xi at *
   go_wp2_with (at_builtin;refine wpList_append_own_at _ rfl _ _ 22 rfl B 38 i0 (.agg (OC ⟨0,0,0,0,0,0⟩)) 6 48 Tryz.underlying22 hi0 hz0 hz1 hz2 rfl (by decide) _ _ _ rfl (hown'.alloc _) ⟨wr.heap.size,0,none⟩ 1 1 (encO x) rfl rfl ?c1 ?c2 ?c3 ?c4 ?c5 ?_)
   case c1=>exact six_o wr x _
   case c2=>exact enc_one x
   case c3=>unfold maxLen;omega
   case c4=>omega
   case c5=>simp;omega
   intro v1 w1 hown1 hg1 _ hloc
   have hB1:Hid (Below B w w1∧Fr (fun j=>v.ownBlock = some j) w w1∧∀ j,v1.ownBlock = some j → v.ownBlock = some j ∨ w.heap.size≤j):=Lib.hid ⟨Below.grown (hd.out.1.alloc (Nat.le_trans hBw hsz) _) hg1 (by simp;omega) (fun k hk=>(hown'.lt k hk).1),(hd.out.2.1.alloc _).grown hg1 hd.out.2.2,fun j e=>by
    rcases hloc with h | h
    ·exact hd.out.2.2 j (by rw [← h];exact e)
    ·rw [h] at e;injection e with e;right;rw [← e];omega⟩
   rw [← HS.out] at hown1
   clear hg1 hloc hown' hd
   go_wp2_with fail
   go_roundg (N - (k + 1))
   case measure=>omega
   case rel=>exact ⟨k + 1,by go_num,by omega,by omega,hown1,hB1⟩
  ·have hltI:¬ (k:Int) < (N:Int):=by omega
   obtain rfl:k = N:=by omega
   rw [List.take_of_length_le (by rw [← HN.out];exact Nat.le_refl _)] at hown'
   have HF:=Lib.hid (And.intro hown' (And.intro hd.out.1 hd.out.2.1))
   clear hown' hd
   go_wp2_with fail
   go_ret
   have eN:=HN.out
   subst eN
   refine ⟨?v,?e,?h⟩
   case h=>exact HF
   case e=>rfl

end Go.Proofs.YtikapeaodobkjaaGreat
namespace Go.Proofs.YtikapeaodobkjaaGreat
open Go.RowKit Go.Sort Go.Lib Go.Maps Go.Shelf

abbrev Ix (T:Tr):={ x:Int × Value // x ∈ T.items }
def ivals {T:Tr} (l:List (Ix T)):List (Int × Value):=l.map Subtype.val
theorem ivals_snoc {T:Tr} (l:List (Ix T)) (x:Ix T):ivals (l ++ [x]) = ivals l ++ [x.1]:=by unfold ivals;simp
theorem each_stops_at (n:Nat) (S:Nat → Prop) (Bt tb sb:Nat) (s:Int) (T:Tr) (w:World) (hBt:Cl 134 w Bt #[.pointer (some ⟨tb,0,none⟩)]) (hS:SgIn w s ⟨tb,sb,T⟩) (hb:∀ b ∈ T.blks,¬ S b) (hv:∀ v ∈ T.vals,∀ k,v.ownBlock = some k → ¬ S k) :
  SeqStopsK Fence.wide n Tryz.prog 221 #[.pointer (some ⟨Bt,0,none⟩)] (fun x:Ix T=>kv x.1) (Fr S) (fun ys=>ivals ys = T.items) (fun pre=>ivals pre <+: T.items) T.items.length w:=fun ll J Jx W hW hJ _ hY h0=>by
 have sW:=hS.below hW
 have cW:=(hW.block _ (blk_lt hBt)).trans hBt
 refine (each1_in n ll Bt tb sb S T (fun x=>x ∈ T.items) (fun l W=>∃ pre:List (Ix T),ivals pre = l∧J pre W) (fun l W=>∃ pre:List (Ix T),ivals pre = l∧Jx pre W) (fun l W h=>by
   obtain ⟨pre,e,h⟩:=h
   exact ⟨pre,e,hJ pre W W.drew none h ⟨rfl,rfl,rfl,Nat.le_refl _,fun _ _ _=>rfl⟩ (fun r e=>by cases e)⟩)
  (fun m l x W1 hp hl hx=>by
   obtain ⟨pre,rfl,hp⟩:=hp
   refine yield_any rfl m ((hY pre ⟨x,hx⟩ W1 hp (by unfold ivals at hl;simpa using hl)).mono ?_)
   rintro e W' (⟨h1,h2,h3⟩ | ⟨h1,h2⟩)
   ·exact .inl ⟨h1,⟨_,ivals_snoc pre ⟨x,hx⟩,h2⟩,h3⟩
   ·exact .inr ⟨h1,⟨_,ivals_snoc pre ⟨x,hx⟩,h2⟩⟩) W ((Cl.c cW 0).trans rfl) sW.cx sW.tr hb hv (fun _ h=>h) ⟨[],rfl,h0⟩).mono ?_
 rintro e w' ⟨he,(⟨ys,e1,pre,e2,h⟩ | ⟨l,h1,pre,e2,h⟩)⟩
 ·exact ⟨he,.inl ⟨pre,e2.trans e1,h⟩⟩
 ·exact ⟨he,.inr ⟨pre,(by show ivals pre <+: T.items;rw [e2];exact h1),h⟩⟩
theorem item_own {W:World}:∀ {t:Tr},TrIn W t → ∀ x ∈ t.items,∃ q,(x.1,q) ∈ t.rows∧W.ownsRow 0 35 1 x.2 q.length (idV q)∧x.2 ∈ t.vals
 | .nil,_,x,h=>(by cases h)
 | .node a k v q l r,ht,x,h=>by
  obtain ⟨_,h1,h2,h3⟩:=ht
  unfold Tr.items at h
  rcases List.mem_append.1 h with h | h
  ·obtain ⟨q',e1,e2,e3⟩:=item_own h2 x h
   exact ⟨q',by simp [Tr.rows,e1],e2,by simp [Tr.vals,e3]⟩
  ·rcases List.mem_cons.1 h with rfl | h
   ·exact ⟨q,by simp [Tr.rows],h1,by simp [Tr.vals]⟩
   ·obtain ⟨q',e1,e2,e3⟩:=item_own h3 x h
    exact ⟨q',by simp [Tr.rows,e1],e2,by simp [Tr.vals,e3]⟩
theorem atP_mem {s:Int} {Q:List Rw} (h:SideOk s Q) {r:Rw} (hr:r ∈ Q):atP r.pr Q = r.q:=by
 obtain ⟨A,B,rfl⟩:=List.append_of_mem hr
 have e:A ++ r :: B = A ++ [r] ++ B:=by simp
 have hp:=h.rows
 rw [e] at h hp ⊢
 have h1:=(List.pairwise_append.1 hp).1
 have h2:=(List.pairwise_append.1 hp).2.2
 have h3:=(List.pairwise_append.1 h1).2.2
 rw [atP_split h (fun a ha=>h3 a ha r (by simp)) (fun b hb=>h2 r (by simp) b hb) (fun x hx=>by rw [List.mem_singleton.1 hx])]
 simp [flatR]
def toldL (Q:List Rw) (l:List (Int × Value)):List Od:=l.flatMap (fun x=>atP x.1 Q)
theorem toldL_snoc (Q:List Rw) (l:List (Int × Value)) (x:Int × Value):toldL Q (l ++ [x]) = toldL Q l ++ atP x.1 Q:=by unfold toldL;simp
theorem toldL_all {s:Int} {Q:List Rw} {t:Tr} (h:SideOk s Q) (e:t.rows = Q.map rqOf):toldL Q t.items = flatR Q:=by
 have h1:toldL Q t.items = (t.items.map Prod.fst).flatMap (fun p=>atP p Q):=by unfold toldL;rw [List.flatMap_map]
 rw [h1,items_fst,e,List.map_map,List.flatMap_map]
 unfold flatR
 have:∀ {l:List Rw},(∀ r ∈ l,r ∈ Q) → l.flatMap (fun a=>atP ((Prod.fst ∘ rqOf) a) Q) = l.flatMap (·.q):=by
  intro l
  induction l with
  | nil=>intro _;rfl
  | cons r l ih =>
   intro hl
   rw [List.flatMap_cons,List.flatMap_cons,ih (fun x hx=>hl x (List.mem_cons_of_mem _ hx))]
   rw [show atP ((Prod.fst ∘ rqOf) r) Q = r.q from atP_mem h (hl r (List.mem_cons_self ..))]
 exact this (fun r hr=>hr)
theorem toldL_len (Q:List Rw) (l:List (Int × Value)) (h:(flatR Q).length≤64):(toldL Q l).length≤l.length * 64:=by
 induction l with
 | nil=>simp [toldL]
 | cons x l ih =>
  have e:toldL Q (x :: l) = atP x.1 Q ++ toldL Q l:=rfl
  have h1:(atP x.1 Q).length≤(flatR Q).length:=List.length_filter_le _ _
  rw [e,List.length_append,List.length_cons]
  omega
theorem item_q {W:World} {g:Sg} {s:Int} {Q:List Rw} (hS:SgIn W s g) (e:g.t.rows = Q.map rqOf) (hQ:SideOk s Q) {B:Nat} (hB:∀ k,sfoot g k → k < B) {x:Int × Value} (hx:x ∈ g.t.items) :
  ∃ A cc,x.2 = .slice A (atP x.1 Q).length cc∧QIn W B A (atP x.1 Q):=by
 obtain ⟨q,h1,ho,h3⟩:=item_own hS.tr x hx
 rw [e] at h1
 obtain ⟨r,hr,er⟩:=List.mem_map.1 h1
 have e1:r.pr = x.1:=congrArg Prod.fst er
 have e2:r.q.map (·.id) = q:=congrArg Prod.snd er
 rw [← e1,atP_mem hQ hr]
 subst e2
 rw [List.length_map] at ho
 rcases ho.2 with ⟨hv,h0⟩ | ⟨gg,cap,cur,hv,_⟩
 ·rw [hv,h0] at ho
  have:=row_q (Y:=r.q) (B:=B) ho (fun k hk=>by cases hk)
  exact ⟨none,0,by rw [hv,h0],this.2⟩
 ·rw [hv] at ho ⊢
  have:=row_q (Y:=r.q) (B:=B) ho (fun k hk=>hB k (.inr (.inr (.inr ⟨_,h3,by rw [hv];exact hk⟩))))
  exact ⟨_,_,rfl,this.2⟩
attribute [local go_sem] Oper.semAt_some

structure SideT (b:Option Addr) (w:World) (sd:Int) (T:Tr) (Q:List Rw):Prop where
 len:T.items.length≤64
 flat:(flatR Q).length≤64
 blks:∀ k ∈ T.blks,k < w.heap.size
 vals:∀ v ∈ T.vals,∀ k,v.ownBlock = some k → k < w.heap.size
 side:∀ W,Below w.heap.size w W → w.heap.size < W.heap.size → Calls Tryz.prog 210 #[.pointer b,.int .i64 sd] W fun e w'=>∃ g',e = .returned (.pointer (some ⟨g'.tb,0,none⟩))∧Hid (g'.t = T∧SgIn w' sd g'∧Below W.heap.size W w')
 told:∀ x ∈ T.items,∃ A c,x.2 = .slice A (atP x.1 Q).length c∧∀ W v n X,Below w.heap.size w W → w.heap.size + 3≤W.heap.size → W.ownsRow (w.heap.size + 3) 38 6 v n (ol X) → n≤10000 → Calls Tryz.prog 212 #[.pointer b,v,.slice A (atP x.1 Q).length c] W fun e w'=>∃ v',e = .returned v'∧Hid (w'.ownsRow (w.heap.size + 3) 38 6 v' (n + (atP x.1 Q).length) (ol (X ++ atP x.1 Q))∧Below (w.heap.size + 3) W w'∧Fr (fun j=>v.ownBlock = some j) W w')
theorem keeps_fr {T:TypeId} {W w1:World} (B:Nat) {base n size:Nat} {v:Value} {xs:List Value} (ho:W.ownsRow base T size v n xs) (hf:Fr (fun j=>v.ownBlock = some j) W w1):KeepsFrom B W w1:=by
 refine ⟨hf.size,fun i o _ hi hc=>?_⟩
 refine hf.blk hi (fun e=>?_)
 rcases ho.2 with ⟨hv,_⟩ | ⟨k,cap,cur,hv,_,hk,_⟩
 ·rw [hv] at e;cases e
 ·rw [hv] at e
  injection e with e
  subst e
  rw [hk] at hi;cases hi;cases hc
def AxA (tm:Array Value) {T:Tr} (x:Ix T) (a':Act) (_:World):Prop:=a' = { tmps:=((tm.setIfInBounds 18 (.int .i64 x.1.1)).setIfInBounds 19 x.1.2).setIfInBounds 7 x.1.2,defers:=[] }
theorem gAll_w (b:Option Addr) (w:World) (T1 T2:Tr) (Q1 Q2:List Rw) (H1:SideT b w 1 T1 Q1) (H2:SideT b w 2 T2 Q2) :
  Calls Tryz.prog 200 #[.pointer b] w fun e w'=>∃ v,e = .returned v∧Hid (w'.ownsRow w.heap.size 38 6 v (toldL Q1 T1.items ++ toldL Q2 T2.items).length (ol (toldL Q1 T1.items ++ toldL Q2 T2.items))∧Below w.heap.size w w'):=by
 have G1:=Lib.hid H1
 have G2:=Lib.hid H2
 clear H1 H2
 refine (callsIn_wide (n:=5)).1 ?_
 refine callsIn_of_wp_marks Tryz.func200 rfl trivial ?_ rfl
 simp only [Tryz.ntmps200,List.size_toArray,List.length_cons,List.length_nil,Nat.reduceAdd,Nat.reduceSub,Array.replicate_succ,Array.replicate_zero,List.push_toArray,List.append_toArray,List.nil_append,List.cons_append]
 gi_wp2_with fail
 obtain ⟨W0,hW0⟩:∃ W0,((w.alloc (.cells #[.pointer b] 104)).alloc (.cells #[.slice none 0 0] 22)).alloc (.cells #[.int .i64 1,.int .i64 2] 3) = W0:=⟨_,rfl⟩
 have hz0:W0.heap.size = w.heap.size + 3:=by rw [← hW0];simp
 have hB00:Below w.heap.size w W0:=by rw [← hW0];exact (((Below.refl _ _).alloc (Nat.le_refl _) _).alloc (by simp) _).alloc (by simp;omega) _
 have cb0:Cl 104 W0 w.heap.size #[.pointer b]:=by rw [← hW0];exact hd_prev (by simp;omega) (hd_prev (by simp) (hd_last rfl))
 have cl0:Cl 22 W0 (w.heap.size + 1) #[.slice none 0 0]:=by rw [← hW0];exact hd_prev (by simp) (hd_last (by simp))
 have cs0:Cl 3 W0 (w.heap.size + 2) #[.int .i64 1,.int .i64 2]:=by rw [← hW0];exact hd_last (by simp)
 rw [hW0,show w.heap.size + 1 + 1 = w.heap.size + 2 from rfl]
 clear hW0
 refine wpIn_loop_rounds 3 ?_
 rw [roundsIn_succ]
 have HS1:=Lib.hid (G1.out.side W0 hB00 (by omega))
 have k0:W0.cell? ⟨w.heap.size,0,none⟩ = some (.pointer b):=(cb0.c 0).trans rfl
 have k1:W0.cell? ⟨w.heap.size + 2,0,none⟩ = some (.int .i64 1):=(cs0.c 0).trans rfl
 gi_wp2_with (first | (refine ⟨trivial,?_⟩;refine ((callsIn_wide (n:=5 - 1)).2 HS1.out).mono ?_;rintro e w1 ⟨g1,rfl,h1⟩) | (refine ⟨trivial,?_⟩;refine ((callsIn_wide (n:=5 - 1)).2 (each_c _ _)).mono ?_;rintro e w1' ⟨rfl,rfl⟩))
 have HB1:=hB00
 have HI1:(∃ v,Cl 22 W0 (w.heap.size + 1) #[v]∧W0.ownsRow (w.heap.size + 3) 38 6 v ([]:List Od).length (ol [])∧Cl 104 W0 w.heap.size #[.pointer b]∧Cl 3 W0 (w.heap.size + 2) #[.int .i64 1,.int .i64 2]∧w.heap.size + 3≤W0.heap.size):=⟨_,cl0,World.ownsRow_nil _ _ _ _,cb0,cs0,by omega⟩
 obtain ⟨X1,hX1⟩:∃ X:List Od,X = []:=⟨_,rfl⟩
 rw [← hX1] at HI1
 have hXl1:X1.length≤5000:=by rw [hX1];exact Nat.zero_le _
 have HX1:=Lib.hid hX1
 clear hX1
 clear k0 k1 cl0 cb0 cs0 hB00
 obtain ⟨Y1,hY1⟩:∃ W,w1.alloc (.cells #[.pointer (some ⟨g1.tb,0,none⟩)] 134) = W:=⟨_,rfl⟩
 rw [hY1]
 obtain ⟨hgt1,hsg1,hbw1⟩:=h1.out
 have hyz1:Y1.heap.size = w1.heap.size + 1:=by rw [← hY1];simp
 have hws1:=hbw1.size
 have hBy1:Below W0.heap.size W0 Y1:=by rw [← hY1];exact hbw1.alloc hbw1.size _
 have hB11:Below w.heap.size w Y1:=HB1.trans (hBy1.mono HB1.size)
 have hcB1:Cl 134 Y1 w1.heap.size #[.pointer (some ⟨g1.tb,0,none⟩)]:=by rw [← hY1];exact hd_last rfl
 have hsg01:SgIn Y1 1 ⟨g1.tb,g1.sb,T1⟩:=by
  have:=hsg1.below (w':=Y1) (by rw [← hY1];exact (Below.refl _ _).alloc (Nat.le_refl _) _)
  rw [← hgt1];exact this
 have hbl1:∀ j ∈ T1.blks,¬ (j = w.heap.size + 1 ∨ w.heap.size + 3≤j):=fun j hj h=>by have:=G1.out.blks j hj;omega
 have hvl1:∀ v ∈ T1.vals,∀ j,v.ownBlock = some j → ¬ (j = w.heap.size + 1 ∨ w.heap.size + 3≤j):=fun v hv j e h=>by have:=G1.out.vals v hv j e;omega
 have hi1:(∃ v,Cl 22 Y1 (w.heap.size + 1) #[v]∧Y1.ownsRow (w.heap.size + 3) 38 6 v (X1).length (ol (X1))∧Cl 104 Y1 w.heap.size #[.pointer b]∧Cl 3 Y1 (w.heap.size + 2) #[.int .i64 1,.int .i64 2]∧w.heap.size + 3≤Y1.heap.size):=by
  obtain ⟨v,a1,a2,a3,a4,a5⟩:=HI1
  exact ⟨v,(hBy1.block _ (blk_lt a1)).trans a1,own_fr (S:=fun _=>False) a2 (Fr.of_below hBy1) (fun _ _ h=>h),(hBy1.block _ (blk_lt a3)).trans a3,(hBy1.block _ (blk_lt a4)).trans a4,Nat.le_trans a5 hBy1.size⟩
 have hd1:True:=trivial
 clear hsg1 hbw1 hY1 h1 hgt1 HS1 HI1 hBy1
 refine wpIn_rangeFunc_ownH rfl (by omega) (gf:=221) (lb:=#[.pointer (some ⟨w1.heap.size,0,none⟩)]) rfl trivial (enters_of Tryz.func221 (by kernel_rfl) rfl)
  (each_stops_at (5 - 1) (fun j=>j = w.heap.size + 1 ∨ w.heap.size + 3≤j) w1.heap.size g1.tb g1.sb 1 T1 Y1 hcB1 hsg01 hbl1 hvl1) Fr.t (fun W l o o' hl ho _ _=>fr_b W l o o' (.inr (by have:=HB1.size;omega)) ho) (Below.refl _ _) (fun _=>rfl)
  (fun pre W=>(∃ v,Cl 22 W (w.heap.size + 1) #[v]∧W.ownsRow (w.heap.size + 3) 38 6 v (X1 ++ toldL Q1 (ivals pre)).length (ol (X1 ++ toldL Q1 (ivals pre)))∧Cl 104 W w.heap.size #[.pointer b]∧Cl 3 W (w.heap.size + 2) #[.int .i64 1,.int .i64 2]∧w.heap.size + 3≤W.heap.size)∧True∧Below w.heap.size w W)
  (fun _ _ _=>False)
  (OwnFrom.and (Own.from (fun s A B row hs hg hr=>by obtain ⟨v,a1,a2,a3,a4,a5⟩:=hs;exact ⟨v,a1.own hg hr,own_kept a2 hg hr,a3.own hg hr,a4.own hg hr,Nat.le_trans a5 hg.size⟩) _) (OwnFrom.and (fun _ _ _ _ _ _ _=>trivial) (ownFrom_below (Nat.le_refl _) hB11.size)))
  (fun _ _ _ _ _ hs _ _=>hs)
  ⟨by rw [show toldL Q1 (ivals ([]:List (Ix T1))) = [] from rfl,List.append_nil];exact hi1,hd1,hB11⟩
  (AxA #[.pointer b,.pointer (some ⟨w.heap.size,0,none⟩),.slice none 0 0,.pointer (some ⟨w.heap.size + 1,0,none⟩),undef,.int .i64 1,undef,undef,.slice (some ⟨w.heap.size + 2,0,none⟩) 2 2,.int .i64 2,.int .i64 0,.bool true,.pointer (some ⟨w.heap.size + 2,0,none⟩),.int .i64 1,.pointer b,.int .i64 1,.pointer (some ⟨g1.tb,0,none⟩),.func (.func 221) #[] #[.pointer (some ⟨w1.heap.size,0,none⟩)],undef,undef,undef,undef,undef,undef,undef,undef])
  (fun x a' _ X Y row hs hg hr=>hs)
  ?assign1 ?body1 ?done1 ?stop1
 case assign1 =>
  rintro l0 pre x W K hI hK
  unfold AxA at hK
  gi_wp2
  exact hK _ _ ((KeepsOthers.refl _).from _) (Fr.refl _ W) hI rfl
 case body1 =>
  rintro l0 pre x a' W hl ⟨r,hr⟩ ⟨⟨v,a1,a2,a3,a4,a5⟩,hd,hB⟩ rfl hlt
  obtain ⟨A,c,ex,HT⟩:=G1.out.told x.1 x.2
  have hbd:(X1 ++ toldL Q1 (ivals pre)).length≤10000:=by
   have b1:=toldL_len Q1 (ivals pre) G1.out.flat
   have b2:(ivals pre).length = pre.length:=by unfold ivals;simp
   have b3:=G1.out.len
   rw [List.length_append]
   have b4:=hXl1
   omega
  obtain ⟨N,hN⟩:∃ N,N = (X1 ++ toldL Q1 (ivals pre)).length:=⟨_,rfl⟩
  rw [← hN] at a2 hbd
  have HN:=Lib.hid hN
  clear hN
  have HT2:=Lib.hid (HT W v _ _ hB a5 a2 hbd)
  have p0:W.cell? ⟨w.heap.size,0,none⟩ = some (.pointer b):=(a3.c 0).trans rfl
  have p1:W.cell? ⟨w.heap.size + 1,0,none⟩ = some v:=(a1.c 0).trans rfl
  have HW:=Lib.hid (And.intro a1 (And.intro a2 (And.intro a3 (And.intro a4 (And.intro a5 (And.intro hd hB))))))
  clear HT a1 a2 a3 a4 a5 hd hB hbd
  simp only [ex]
  gi_wp2_with (refine ⟨trivial,?_⟩;refine ((callsIn_wide).2 HT2.out).mono ?_;rintro e w3 ⟨v',rfl,h3⟩;obtain ⟨A3,cc3,rfl,_⟩:=own_que2 h3.out.1;have c3:Cl 22 w3 (w.heap.size + 1) #[v]:=h3.out.2.2.blk HW.out.1 (fun e=>by have:=(own_lt HW.out.2.1 _ e).1;omega);have p3:w3.cell? ⟨w.heap.size + 1,0,none⟩ = some v:=(c3.c 0).trans rfl;have f3:=c3.f (k:=0);clear p0 p1)
  obtain ⟨a1,a2,a3,a4,a5,hd,hB⟩:=HW.out
  obtain ⟨h5,h6,h7⟩:=h3.out
  have hsz:=h7.size
  have hfr:Fr (fun j=>j = w.heap.size + 1 ∨ w.heap.size + 3≤j) W (w3.setCell ⟨w.heap.size + 1,0,none⟩ (.slice A3 (N + (atP x.1.1 Q1).length) cc3)):=(h7.mono (fun j hj=>.inl (.inr (own_lt a2 j hj).1))).set (.inl (.inl rfl)) _
  refine ⟨(keeps_fr _ a2 h7).trans ((KeepsOthers.setCell _ _ _).from _),hfr,⟨_,(heap_set c3).trans rfl,?_,hfr.blk a3 (by omega),hfr.blk a4 (by omega),Nat.le_trans a5 hfr.size⟩,trivial,(hB.trans (h6.mono (by omega))).setCell (p:=⟨w.heap.size + 1,0,none⟩) (Nat.le_succ _) _⟩
  rw [ivals_snoc,toldL_snoc,← List.append_assoc,List.length_append,← HN.out]
  refine own_fr (S:=fun j=>j = w.heap.size + 1) h5 ((Fr.refl (fun j=>j = w.heap.size + 1) w3).set (p:=⟨w.heap.size + 1,0,none⟩) (.inl rfl) _) (fun j hj e=>?_)
  have:=(own_lt h5 j hj).1
  omega
 case stop1 =>
  rintro D c pre W _ _ h _
  exact h.elim
 case done1 =>
  rintro D1 ys W1 hD1 hys1 ⟨HI,hdd,HB⟩ hK1
  rw [hys1] at HI
  obtain ⟨X2,hX2⟩:∃ X,X = X1 ++ toldL Q1 T1.items:=⟨_,rfl⟩
  rw [← hX2] at HI
  have hXl2:X2.length≤5000:=by
   have b1:=toldL_len Q1 T1.items G1.out.flat
   have b2:=G1.out.len
   have b3:X1.length = 0:=by rw [HX1.out];rfl
   rw [hX2,List.length_append]
   omega
  have HX:=Lib.hid hX2
  have HS2:=Lib.hid (G2.out.side W1 HB (by have:=HB.size;have:=hD1;omega))
  have HI2:=HI
  obtain ⟨v,a1,a2,a3,a4,a5⟩:=HI
  have k0:W1.cell? ⟨w.heap.size,0,none⟩ = some (.pointer b):=(a3.c 0).trans rfl
  have k1:W1.cell? ⟨w.heap.size + 2,1,none⟩ = some (.int .i64 2):=(a4.c 1).trans rfl
  clear a1 a2 a3 a4 a5 hys1 hdd hcB1 hsg01 hbl1 hvl1 hi1 hd1 hXl1 hX2
  gi_wp2_with fail
  rw [roundsIn_succ]
  gi_wp2_with (first | (refine ⟨trivial,?_⟩;refine ((callsIn_wide (n:=5 - 1)).2 HS2.out).mono ?_;rintro e w2 ⟨g2,rfl,h2⟩) | (refine ⟨trivial,?_⟩;refine ((callsIn_wide (n:=5 - 1)).2 (each_c _ _)).mono ?_;rintro e w2' ⟨rfl,rfl⟩))
  clear k0 k1
  have HB2:=HB
  obtain ⟨Y2,hY2⟩:∃ W,w2.alloc (.cells #[.pointer (some ⟨g2.tb,0,none⟩)] 134) = W:=⟨_,rfl⟩
  rw [hY2]
  obtain ⟨hgt2,hsg2,hbw2⟩:=h2.out
  have hyz2:Y2.heap.size = w2.heap.size + 1:=by rw [← hY2];simp
  have hws2:=hbw2.size
  have hBy2:Below W1.heap.size W1 Y2:=by rw [← hY2];exact hbw2.alloc hbw2.size _
  have hB12:Below w.heap.size w Y2:=HB2.trans (hBy2.mono HB2.size)
  have hcB2:Cl 134 Y2 w2.heap.size #[.pointer (some ⟨g2.tb,0,none⟩)]:=by rw [← hY2];exact hd_last rfl
  have hsg02:SgIn Y2 2 ⟨g2.tb,g2.sb,T2⟩:=by
   have:=hsg2.below (w':=Y2) (by rw [← hY2];exact (Below.refl _ _).alloc (Nat.le_refl _) _)
   rw [← hgt2];exact this
  have hbl2:∀ j ∈ T2.blks,¬ (j = w.heap.size + 1 ∨ w.heap.size + 3≤j):=fun j hj h=>by have:=G2.out.blks j hj;omega
  have hvl2:∀ v ∈ T2.vals,∀ j,v.ownBlock = some j → ¬ (j = w.heap.size + 1 ∨ w.heap.size + 3≤j):=fun v hv j e h=>by have:=G2.out.vals v hv j e;omega
  have hi2:(∃ v,Cl 22 Y2 (w.heap.size + 1) #[v]∧Y2.ownsRow (w.heap.size + 3) 38 6 v (X2).length (ol (X2))∧Cl 104 Y2 w.heap.size #[.pointer b]∧Cl 3 Y2 (w.heap.size + 2) #[.int .i64 1,.int .i64 2]∧w.heap.size + 3≤Y2.heap.size):=by
   obtain ⟨v,a1,a2,a3,a4,a5⟩:=HI2
   exact ⟨v,(hBy2.block _ (blk_lt a1)).trans a1,own_fr (S:=fun _=>False) a2 (Fr.of_below hBy2) (fun _ _ h=>h),(hBy2.block _ (blk_lt a3)).trans a3,(hBy2.block _ (blk_lt a4)).trans a4,Nat.le_trans a5 hBy2.size⟩
  have hd2:Y2.heap[D1]? = some (.deferred (some [])):=(hBy2.block _ (blk_lt hK1)).trans hK1
  clear hsg2 hbw2 hY2 h2 hgt2 HS2 HI2 hBy2
  refine wpIn_rangeFunc_ownH rfl (by omega) (gf:=221) (lb:=#[.pointer (some ⟨w2.heap.size,0,none⟩)]) rfl trivial (enters_of Tryz.func221 (by kernel_rfl) rfl)
   (each_stops_at (5 - 1) (fun j=>j = w.heap.size + 1 ∨ w.heap.size + 3≤j) w2.heap.size g2.tb g2.sb 2 T2 Y2 hcB2 hsg02 hbl2 hvl2) Fr.t (fun W l o o' hl ho _ _=>fr_b W l o o' (.inr (by have:=HB2.size;omega)) ho) (Below.refl _ _) (fun _=>rfl)
   (fun pre W=>(∃ v,Cl 22 W (w.heap.size + 1) #[v]∧W.ownsRow (w.heap.size + 3) 38 6 v (X2 ++ toldL Q2 (ivals pre)).length (ol (X2 ++ toldL Q2 (ivals pre)))∧Cl 104 W w.heap.size #[.pointer b]∧Cl 3 W (w.heap.size + 2) #[.int .i64 1,.int .i64 2]∧w.heap.size + 3≤W.heap.size)∧W.heap[D1]? = some (.deferred (some []))∧Below w.heap.size w W)
   (fun _ _ _=>False)
   (OwnFrom.and (Own.from (fun s A B row hs hg hr=>by obtain ⟨v,a1,a2,a3,a4,a5⟩:=hs;exact ⟨v,a1.own hg hr,own_kept a2 hg hr,a3.own hg hr,a4.own hg hr,Nat.le_trans a5 hg.size⟩) _) (OwnFrom.and (fun s A B row hs hg hr=>(hg.block _ (blk_lt hs) (fun e=>by have:=(hr D1 e.symm).1;have:=blk_lt hd2;omega)).trans hs) (ownFrom_below (Nat.le_refl _) hB12.size)))
   (fun _ _ _ _ _ hs _ _=>hs)
   ⟨by rw [show toldL Q2 (ivals ([]:List (Ix T2))) = [] from rfl,List.append_nil];exact hi2,hd2,hB12⟩
   (AxA #[.pointer b,.pointer (some ⟨w.heap.size,0,none⟩),.slice none 0 0,.pointer (some ⟨w.heap.size + 1,0,none⟩),undef,.int .i64 2,undef,undef,.slice (some ⟨w.heap.size + 2,0,none⟩) 2 2,.int .i64 2,.int .i64 1,.bool true,.pointer (some ⟨w.heap.size + 2,1,none⟩),.int .i64 2,.pointer b,.int .i64 2,.pointer (some ⟨g2.tb,0,none⟩),.func (.func 221) #[] #[.pointer (some ⟨w2.heap.size,0,none⟩)],undef,undef,undef,undef,undef,undef,.int .i64 1,undef])
   (fun x a' _ X Y row hs hg hr=>hs)
   ?assign2 ?body2 ?done2 ?stop2
  case assign2 =>
   rintro l0 pre x W K hI hK
   unfold AxA at hK
   gi_wp2
   exact hK _ _ ((KeepsOthers.refl _).from _) (Fr.refl _ W) hI rfl
  case body2 =>
   rintro l0 pre x a' W hl ⟨r,hr⟩ ⟨⟨v,a1,a2,a3,a4,a5⟩,hd,hB⟩ rfl hlt
   obtain ⟨A,c,ex,HT⟩:=G2.out.told x.1 x.2
   have hbd:(X2 ++ toldL Q2 (ivals pre)).length≤10000:=by
    have b1:=toldL_len Q2 (ivals pre) G2.out.flat
    have b2:(ivals pre).length = pre.length:=by unfold ivals;simp
    have b3:=G2.out.len
    rw [List.length_append]
    have b4:=hXl2
    omega
   obtain ⟨N,hN⟩:∃ N,N = (X2 ++ toldL Q2 (ivals pre)).length:=⟨_,rfl⟩
   rw [← hN] at a2 hbd
   have HN:=Lib.hid hN
   clear hN
   have HT2:=Lib.hid (HT W v _ _ hB a5 a2 hbd)
   have p0:W.cell? ⟨w.heap.size,0,none⟩ = some (.pointer b):=(a3.c 0).trans rfl
   have p1:W.cell? ⟨w.heap.size + 1,0,none⟩ = some v:=(a1.c 0).trans rfl
   have HW:=Lib.hid (And.intro a1 (And.intro a2 (And.intro a3 (And.intro a4 (And.intro a5 (And.intro hd hB))))))
   clear HT a1 a2 a3 a4 a5 hd hB hbd
   simp only [ex]
   gi_wp2_with (refine ⟨trivial,?_⟩;refine ((callsIn_wide).2 HT2.out).mono ?_;rintro e w3 ⟨v',rfl,h3⟩;obtain ⟨A3,cc3,rfl,_⟩:=own_que2 h3.out.1;have c3:Cl 22 w3 (w.heap.size + 1) #[v]:=h3.out.2.2.blk HW.out.1 (fun e=>by have:=(own_lt HW.out.2.1 _ e).1;omega);have p3:w3.cell? ⟨w.heap.size + 1,0,none⟩ = some v:=(c3.c 0).trans rfl;have f3:=c3.f (k:=0);clear p0 p1)
   obtain ⟨a1,a2,a3,a4,a5,hd,hB⟩:=HW.out
   obtain ⟨h5,h6,h7⟩:=h3.out
   have hsz:=h7.size
   have hfr:Fr (fun j=>j = w.heap.size + 1 ∨ w.heap.size + 3≤j) W (w3.setCell ⟨w.heap.size + 1,0,none⟩ (.slice A3 (N + (atP x.1.1 Q2).length) cc3)):=(h7.mono (fun j hj=>.inl (.inr (own_lt a2 j hj).1))).set (.inl (.inl rfl)) _
   refine ⟨(keeps_fr _ a2 h7).trans ((KeepsOthers.setCell _ _ _).from _),hfr,⟨_,(heap_set c3).trans rfl,?_,hfr.blk a3 (by omega),hfr.blk a4 (by omega),Nat.le_trans a5 hfr.size⟩,((keeps_fr 0 a2 h7).trans ((KeepsOthers.setCell _ _ _).from _)).same D1 _ (Nat.zero_le _) hd rfl,(hB.trans (h6.mono (by omega))).setCell (p:=⟨w.heap.size + 1,0,none⟩) (Nat.le_succ _) _⟩
   rw [ivals_snoc,toldL_snoc,← List.append_assoc,List.length_append,← HN.out]
   refine own_fr (S:=fun j=>j = w.heap.size + 1) h5 ((Fr.refl (fun j=>j = w.heap.size + 1) w3).set (p:=⟨w.heap.size + 1,0,none⟩) (.inl rfl) _) (fun j hj e=>?_)
   have:=(own_lt h5 j hj).1
   omega
  case stop2 =>
   rintro D c pre W _ _ h _
   exact h.elim
  case done2 =>
   rintro D2 ys W2 hD2 hys2 ⟨HI,hdd,HB⟩ hK2
   rw [hys2] at HI
   rw [show X2 ++ toldL Q2 T2.items = toldL Q1 T1.items ++ toldL Q2 T2.items by rw [HX.out,HX1.out,List.nil_append]] at HI
   obtain ⟨N,hN⟩:∃ N,N = (toldL Q1 T1.items ++ toldL Q2 T2.items).length:=⟨_,rfl⟩
   rw [← hN] at HI
   have HN:=Lib.hid hN
   obtain ⟨v,a1,a2,a3,a4,a5⟩:=HI
   obtain ⟨A9,c9,rfl,_⟩:=own_que2 a2
   have p1:W2.cell? ⟨w.heap.size + 1,0,none⟩ = some (.slice A9 N c9):=(a1.c 0).trans rfl
   clear hys2 hcB2 hsg02 hbl2 hvl2 hi2 hd2 hXl2 a1 a3 a4 hN
   gi_wp2_with fail
   rw [roundsIn_succ]
   gi_wp2_with fail
   have hDD:D1 < Y2.heap.size:=by have:=blk_lt hK1;omega
   have hL1:w.heap.size + 3≤D1:=by have:=HB1.size;omega
   have hL2:w.heap.size + 3≤D2:=by omega
   have hK1':(W2.putObj D2 (.deferred none)).heap[D1]? = some (.deferred (some [])):=((grownBy_putObj' W2 D2 (.deferred none)).block D1 (blk_lt hdd) (by intro e;injection e;omega)).trans hdd
   refine ⟨by simp,.inl ⟨_,_,rfl,run_takeDeferred hK2,?_⟩⟩
   refine ⟨by simp,.inl ⟨_,_,rfl,run_takeDeferred hK1',?_⟩⟩
   refine ⟨_,results_tmp rfl _ _ _,_,rfl,Lib.hid ⟨?_,(HB.trans (belowK_b (w:=w) (Nat.le_refl _) W2 D2 _ _ (by omega) hK2 rfl rfl)).trans (belowK_b (w:=w) (Nat.le_refl _) _ D1 _ _ (by omega) hK1' rfl rfl)⟩⟩
   rw [← HN.out]
   exact own_base (own_put (own_put a2 D2 hK2 rfl) D1 hK1' rfl) (by omega)

theorem sideT {p m ms:Nat} {D:DataW Value} {g1 g2:Sg} {Q1 Q2:List Rw} {sd:Int} {g:Sg} {Q:List Rw} {w:World} (H:GW w p m ms D g1 g2 Q1 Q2) (S:OwnS w p m ms D g1 g2 Q1 Q2 sd g Q):SideT (some ⟨p,0,none⟩) w sd g.t Q:=by
 have hl:g.t.items.length = Q.length:=by rw [items_len,S.eq,List.length_map]
 refine ⟨by have:=flat_len S.ok.some;have:=S.len;omega,S.len,fun k hk=>S.sg.lt k (.inr (.inr (.inl hk))),fun v hv k hk=>S.sg.lt k (.inr (.inr (.inr ⟨v,hv,hk⟩))),fun W hB _=>(S.call W (H.below hB)).mono ?_,fun x hx=>?_⟩
 ·rintro e w' ⟨rfl,rfl⟩
  exact ⟨g,rfl,Lib.hid ⟨rfl,S.sg.below hB,Below.refl _ _⟩⟩
 ·obtain ⟨A,c,ex,hq⟩:=item_q S.sg S.eq S.ok (B:=w.heap.size) (fun k hk=>S.sg.lt k hk) hx
  refine ⟨A,c,ex,fun W v n X hB hz ho hn=>?_⟩
  refine told_k p m ms D g1 g2 Q1 Q2 W (H.below hB) (w.heap.size + 3) (fun k hk=>by have:=H.lt k hk;omega) hz v n X ho hn A c (atP x.1 Q) (fun y hy=>S.mem y (List.mem_filter.1 hy).1) (fun k hk=>?_) (by
   have h1:(atP x.1 Q).length≤(flatR Q).length:=List.length_filter_le _ _
   have h2:=S.len
   omega)
  obtain ⟨gg,h1,h2,h3⟩:=hq.below hB k hk
  exact ⟨gg,h1,by omega,h3⟩
theorem gAll_c (p m ms:Nat) (D:DataW Value) (g1 g2:Sg) (Q1 Q2:List Rw) (w:World) (H:GW w p m ms D g1 g2 Q1 Q2) :
  Calls Tryz.prog 200 #[.pointer (some ⟨p,0,none⟩)] w fun e w'=>∃ v,e = .returned v∧Hid (w'.ownsRow w.heap.size 38 6 v (bookL Q1 Q2).length (ol (bookL Q1 Q2))∧Below w.heap.size w w'):=by
 have h:=gAll_w _ w g1.t g2.t Q1 Q2 (sideT H H.own1) (sideT H H.own2)
 rw [toldL_all H.ok1 H.e1,toldL_all H.ok2 H.e2] at h
 exact h

theorem gWhole.pw {w:World} {p:Nat} {m:Nat × Nat} {s1 s2:Gd} (H:gWhole w p m s1 s2):(bookL s1.rs s2.rs).Pairwise (fun x y=>ltO x y = true):=by
 obtain ⟨D,h⟩:=H
 exact book_pw h.ok1 h.ok2
theorem sideQ {Q1 Q2:List Rw} (o1:SideOk 1 Q1) (o2:SideOk 2 Q2) (sd:Int):sideL sd (bookL Q1 Q2) = flatR (rsq Q1 Q2 sd):=by
 have h1:=flat_side o1
 have h2:=flat_side o2
 unfold bookL
 rw [show sideL sd (flatR Q1 ++ flatR Q2) = sideL sd (flatR Q1) ++ sideL sd (flatR Q2) from List.filter_append _ _]
 unfold rsq
 by_cases e1:sd = 1
 ·subst e1
  rw [if_pos rfl,sideL_all h1,sideL_none h2 (by decide),List.append_nil]
 ·rw [if_neg e1]
  by_cases e2:sd = 2
  ·subst e2
   rw [if_pos rfl,sideL_all h2,sideL_none h1 (by decide),List.nil_append]
  ·rw [if_neg e2,sideL_none h1 (fun e=>e1 e.symm),sideL_none h2 (fun e=>e2 e.symm)]
   rfl
theorem bestQ {Q1 Q2:List Rw} (o1:SideOk 1 Q1) (o2:SideOk 2 Q2) (sd:Int):bstQ Q1 Q2 sd = bestL sd (bookL Q1 Q2):=by
 unfold bstQ fstO bestL
 rw [sideQ o1 o2]
theorem hBest (p:Nat) (m:Nat × Nat) (s1 s2:Gd) (sd:Int) (hs:(Lit.int .i64 sd).wf = true) (w:World) (H:gWhole w p m s1 s2) :
  Calls Tryz.prog 201 #[.pointer (some ⟨p,0,none⟩),.int .i64 sd] w fun e w'=>e = .returned (.tuple #[optV (bestL sd (bookL s1.rs s2.rs)),.bool (bestL sd (bookL s1.rs s2.rs)).isSome])∧Hid (Below w.heap.size w w'):=by
 obtain ⟨D,h⟩:=H
 rw [← bestQ h.ok1 h.ok2]
 exact gBest_c p m.1 m.2 D s1.g s2.g s1.rs s2.rs sd hs w h
theorem hLen (p:Nat) (m:Nat × Nat) (s1 s2:Gd) (w:World) (H:gWhole w p m s1 s2) :
  Calls Tryz.prog 204 #[.pointer (some ⟨p,0,none⟩)] w fun e w'=>e = .returned (.int .i64 (bookL s1.rs s2.rs).length)∧w = w':=by
 obtain ⟨D,h⟩:=H
 exact gLen_c p m.1 m.2 D s1.g s2.g s1.rs s2.rs w h
theorem hAll (p:Nat) (m:Nat × Nat) (s1 s2:Gd) (w:World) (H:gWhole w p m s1 s2) :
  Calls Tryz.prog 200 #[.pointer (some ⟨p,0,none⟩)] w fun e w'=>∃ v,e = .returned v∧Hid (w'.ownsRow w.heap.size 38 6 v (bookL s1.rs s2.rs).length (ol (bookL s1.rs s2.rs))∧Below w.heap.size w w'):=by
 obtain ⟨D,h⟩:=H
 exact gAll_c p m.1 m.2 D s1.g s2.g s1.rs s2.rs w h
theorem gft.lt {w:World} {p:Nat} {m:Nat × Nat} {s1 s2:Gd} (H:gWhole w p m s1 s2):∀ k,gft p m s1 s2 k → k < w.heap.size:=by
 obtain ⟨D,h⟩:=H
 exact h.lt
end Go.Proofs.YtikapeaodobkjaaGreat
