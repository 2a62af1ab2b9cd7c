/- What the laws lean on, in a few texts (by shake.py): number 15 of 16. -/
import Derived.Test.YtikapeaodobkjaaGreatZk1
import Derived.Test.YtikapeaodobkjaaGreatZk2
import Derived.Test.YtikapeaodobkjaaGreatZk4
import Derived.Test.YtikapeaodobkjaaGreatZk6
import Derived.Test.YtikapeaodobkjaaGreatZk5
import Derived.Test.YtikapeaodobkjaaGreatZk7
import Derived.Test.YtikapeaodobkjaaGreatZk8
import Derived.Test.YtikapeaodobkjaaGreatZk12
import Derived.Test.YtikapeaodobkjaaGreatZk10
import Derived.Test.YtikapeaodobkjaaGreatZk9
import Derived.Test.YtikapeaodobkjaaGreatZk11
import Derived.Test.YtikapeaodobkjaaGreatZk13
import Derived.Test.YtikapeaodobkjaaGreatZk14
import Derived.Test.YtikapeaodobkjaaGreatZk3
import Derived.Shelf.SlSortCmp.QuietGrown
import Derived.Laws.OwnMore
import Derived.Laws.AppendOwnNone
import Derived.Deep.DeepCutAuto
import Derived.Deep.CutBlock
import Derived.Maps.AppendAt
import Derived.Maps.RangeWalk
import Derived.Deep.AppendLies
import Derived.Deep.RegionLaw
import Derived.OpenShut
import Derived.Deep.Slices
import Derived.Deep.Fields
import Derived.ChangeSame

set_option maxHeartbeats 16000000
set_option maxRecDepth 1000000
set_option linter.unusedVariables false
namespace Go.Proofs.YtikapeaodobkjaaGreat
open Go.RowKit Go.Shelf Go.Sort Go.Maps Go.Lib

structure Rl where
 acc:Int
 side:Int
 price:Int
 lot:Int
 mode:Int
 self:Int
structure Mt where
 L:List Od
 left:Int
 cash:Int
 F:List (Od × Int)
 D:List Od
def prM (R:Rl) (L:List Od):Option Int :=
 match bestL (3 - R.side) L with
 | none=>none
 | some b=>if ¬ R.price = 0∧croN R.side R.price b.price = false then none else some b.price
def payM (R:Rl) (m:Mt):Bool:=(R.side == 1) && decide (0≤m.cash)
def mostM (R:Rl) (m:Mt) (p:Int):Int:=if payM R m = true then min m.left (trimN R.lot (m.cash / p)) else m.left
def lvM (R:Rl) (m:Mt) (p:Int):List Od:=levL (3 - R.side) p m.L
def nM (R:Rl) (m:Mt) (p:Int):Nat:=runN R.self R.acc (lvM R m p)
def QM (R:Rl) (m:Mt) (p:Int):List Int:=qs ((lvM R m p).take (nM R m p))
def fM (R:Rl) (m:Mt) (p:Int):Nat → Int:=gtN R.mode R.lot (mostM R m p) (QM R m p)
def NoM (R:Rl) (m:Mt) (p:Int):Prop:=NoSh R.mode (QM R m p) (mostM R m p) R.lot
def fil1 (pay:Bool) (m:Mt) (x:Od) (q:Int):Mt:=if 0 < q then ⟨(cutR x.id q m.L).2,m.left - q,if pay = true then m.cash - x.price * q else m.cash,m.F ++ [(x,q)],m.D⟩ else m
def filN (pay:Bool) (l:List Od) (f:Nat → Int) (m:Mt):Nat → Mt
 | 0=>m
 | k + 1=>fil1 pay (filN pay l f m k) l[k]! (f k)
open Classical in
noncomputable def aftM (R:Rl) (m:Mt) (p:Int):Mt:=if NoM R m p then m else filN (payM R m) (lvM R m p) (fM R m p) m (nM R m p)
def EmpM (R:Rl) (m:Mt) (p:Int):Prop:=nM R m p = 0 ∨ (¬ NoM R m p∧∀ i,i < nM R m p → fM R m p i = ((lvM R m p)[i]!).qty)
def goneM (id:Int) (m:Mt):Mt:=⟨m.L.eraseIdx (idxN id m.L),m.left,m.cash,m.F,m.D ++ [oZ (getO id m.L)]⟩
def drpM (R:Rl) (id:Int) (m:Mt):Mt:=if drN R.self = true then goneM id m else m
open Classical in
noncomputable def crM (R:Rl):Nat → Mt → Mt × Bool
 | 0,m=>(m,false)
 | k + 1,m =>
  match prM R m.L with
  | none=>(m,false)
  | some p =>
   if ¬ EmpM R m p ∨ (aftM R m p).left = 0 then (aftM R m p,false)
   else if nM R m p = (lvM R m p).length then crM R k (aftM R m p)
   else if stN R.self = true then (drpM R ((lvM R m p)[nM R m p]!).id (aftM R m p),true)
   else crM R k (drpM R ((lvM R m p)[nM R m p]!).id (aftM R m p))

theorem cut_is {M:List Od} {x:Od} {q:Int} (hi:Ids M) (hx:x ∈ M) (h1:1≤q) (h2:q≤x.qty) :
  (cutR x.id q M).2 = if q = x.qty then M.eraseIdx (idxN x.id M) else M.set (idxN x.id M) (lessO x q):=by
 obtain ⟨hlt,he⟩:=idx_of hi hx rfl
 rw [cutR_some rfl hlt,he,if_neg (by omega)]
 split <;> rfl
theorem bang_mem {L:List Od} {i:Nat} (h:i < L.length):L[i]! ∈ L:=by rw [getElem!_pos L i h];exact List.getElem_mem _
theorem ids_map {M:List Od}:Ids M ↔ (M.map Od.id).Nodup:=by
 unfold Ids List.Nodup
 rw [List.pairwise_map]
theorem ids_erase {M:List Od} (h:Ids M) (i:Nat):Ids (M.eraseIdx i):=List.Pairwise.sublist (List.eraseIdx_sublist _ _) h
theorem ids_set {M:List Od} (h:Ids M) {i:Nat} (hi:i < M.length) {y:Od} (he:y.id = (M[i]!).id):Ids (M.set i y):=by
 rw [ids_map,List.map_set,he]
 have:(M.map Od.id).set i (M[i]!).id = M.map Od.id:=by
  refine List.ext_getElem (by simp) fun j h1 h2=>?_
  rw [List.getElem_set]
  split
  ·rename_i e;subst e;rw [getElem!_pos M i hi,List.getElem_map]
  ·rfl
 rw [this]
 exact ids_map.1 h
theorem mem_other {M:List Od} (hi:Ids M) {x y:Od} (hx:x ∈ M) (hy:y ∈ M) (hn:¬ y.id = x.id):y ∈ M.eraseIdx (idxN x.id M)∧∀ z,y ∈ M.set (idxN x.id M) z:=by
 obtain ⟨hlt,he⟩:=idx_of hi hx rfl
 obtain ⟨j,hj,rfl⟩:=List.getElem_of_mem hy
 have hne:j ≠ idxN x.id M:=fun e=>hn (by rw [getElem!_pos M _ hlt] at he;rw [← he];congr 2)
 refine ⟨List.mem_eraseIdx_iff_getElem.2 ⟨j,hj,hne,rfl⟩,fun z=>?_⟩
 have:(M.set (idxN x.id M) z)[j]'(by rw [List.length_set];exact hj) = M[j]:=List.getElem_set_ne (fun e=>hne e.symm) _
 rw [← this]
 exact List.getElem_mem _
theorem cut_ids {M:List Od} {x:Od} {q:Int} (hi:Ids M) (hx:x ∈ M) (h1:1≤q) (h2:q≤x.qty):Ids (cutR x.id q M).2:=by
 obtain ⟨hlt,he⟩:=idx_of hi hx rfl
 rw [cut_is hi hx h1 h2]
 split
 ·exact ids_erase hi _
 ·exact ids_set hi hlt (by rw [he];rfl)
theorem cut_mem {M:List Od} {x y:Od} {q:Int} (hi:Ids M) (hx:x ∈ M) (h1:1≤q) (h2:q≤x.qty) (hy:y ∈ M) (hn:¬ y.id = x.id):y ∈ (cutR x.id q M).2:=by
 rw [cut_is hi hx h1 h2]
 split
 ·exact (mem_other hi hx hy hn).1
 ·exact (mem_other hi hx hy hn).2 _
theorem cut_len {M:List Od} {x:Od} {q:Int} (hi:Ids M) (hx:x ∈ M) (h1:1≤q) (h2:q≤x.qty):(cutR x.id q M).2.length≤M.length∧(q = x.qty → (cutR x.id q M).2.length + 1 = M.length):=by
 obtain ⟨hlt,he⟩:=idx_of hi hx rfl
 rw [cut_is hi hx h1 h2]
 split
 ·rw [List.length_eraseIdx_of_lt hlt];omega
 ·rw [List.length_set];exact ⟨Nat.le_refl _,fun h=>absurd h (by assumption)⟩

structure FilIs (pay:Bool) (l:List Od) (f:Nat → Int) (m:Mt) (p:Int) (k:Nat):Prop where
 ids:Ids (filN pay l f m k).L
 there:∀ i,k≤i → i < l.length → l[i]! ∈ (filN pay l f m k).L
 len:(filN pay l f m k).L.length≤m.L.length
 less:(∀ i,i < k → f i = (l[i]!).qty) → (filN pay l f m k).L.length + k = m.L.length
 D:(filN pay l f m k).D = m.D
theorem filN_is {pay:Bool} {l:List Od} {f:Nat → Int} {m:Mt} {p:Int} (hi:Ids m.L) (hl:∀ x ∈ l,x ∈ m.L∧1≤x.qty) (hp:l.Pairwise (fun x y=>¬ x.id = y.id)) (n:Nat) (hn:n≤l.length) (hf:∀ i,i < n → 0≤f i∧f i≤(l[i]!).qty) :
  ∀ k,k≤n → FilIs pay l f m p k
 | 0,_=>⟨hi,fun i _ h=>(hl _ (bang_mem h)).1,Nat.le_refl _,fun _=>rfl,rfl⟩
 | k + 1,h=>by
  have ih:=filN_is (pay:=pay) (p:=p) hi hl hp n hn hf k (by omega)
  have hq:=hf k (by omega)
  have hx:=ih.there k (Nat.le_refl _) (by omega)
  have hq1:=(hl _ (bang_mem (show k < l.length by omega))).2
  by_cases h0:0 < f k
  ·have e:filN pay l f m (k + 1) = ⟨(cutR (l[k]!).id (f k) (filN pay l f m k).L).2,(filN pay l f m k).left - f k,if pay = true then (filN pay l f m k).cash - (l[k]!).price * f k else (filN pay l f m k).cash,(filN pay l f m k).F ++ [(l[k]!,f k)],(filN pay l f m k).D⟩:=if_pos h0
   have hc:=cut_len ih.ids hx (by omega) hq.2
   refine ⟨?_,fun i h1 h2=>?_,?_,fun h1=>?_,?_⟩ <;> rw [e]
   ·exact cut_ids ih.ids hx (by omega) hq.2
   ·refine cut_mem ih.ids hx (by omega) hq.2 (ih.there i (by omega) h2) ?_
    rw [getElem!_pos l i h2,getElem!_pos l k (by omega)]
    exact fun e=>(List.pairwise_iff_getElem.1 hp k i (by omega) h2 (by omega)) e.symm
   ·exact Nat.le_trans hc.1 ih.len
   ·have:=ih.less (fun i hi=>h1 i (by omega))
    have:=hc.2 (h1 k (by omega))
    simp only
    omega
   ·exact ih.D
  ·have e:filN pay l f m (k + 1) = filN pay l f m k:=if_neg h0
   refine ⟨?_,fun i h1 h2=>?_,?_,fun h1=>?_,?_⟩ <;> rw [e]
   ·exact ih.ids
   ·exact ih.there i (by omega) h2
   ·exact ih.len
   ·have:=h1 k (by omega);omega
   ·exact ih.D

theorem good_is {x:Od} (h:goodO x = true):0≤x.acc∧x.acc < 8∧(x.side = 1 ∨ x.side = 2)∧1≤x.price∧x.price≤1099511627776∧1≤x.qty∧x.qty≤1099511627776:=by
 unfold goodO rkN at h
 simp only [Bool.and_eq_true,decide_eq_true_eq,bne_iff_ne,ne_eq] at h
 obtain ⟨h1,h2,h3,h4,h5,h6,h7⟩:=h
 refine ⟨h1,h2,?_,h4,h5,h6,h7⟩
 by_cases e1:x.side = 1
 ·exact .inl e1
 ·by_cases e2:x.side = 2
  ·exact .inr e2
  ·rw [if_neg e1,if_neg e2] at h3;exact absurd rfl h3
theorem good_less {x:Od} {q:Int} (h:goodO x = true) (h0:0≤q) (h1:q < x.qty):goodO (lessO x q) = true:=by
 have g:=good_is h
 unfold goodO at h ⊢
 simp only [Bool.and_eq_true,decide_eq_true_eq] at h ⊢
 obtain ⟨h1',h2,h3,h4,h5,h6,h7⟩:=h
 refine ⟨h1',h2,h3,h4,h5,?_,?_⟩ <;> simp only [lessO] <;> omega
theorem cut_good {M:List Od} {x:Od} {q:Int} (hi:Ids M) (hg:∀ y ∈ M,goodO y = true) (hx:x ∈ M) (h1:1≤q) (h2:q≤x.qty):∀ y ∈ (cutR x.id q M).2,goodO y = true:=by
 rw [cut_is hi hx h1 h2]
 split
 ·exact fun y hy=>hg y (List.mem_of_mem_eraseIdx hy)
 ·intro y hy
  rcases List.mem_or_eq_of_mem_set hy with h | rfl
  ·exact hg y h
  ·exact good_less (hg x hx) (by omega) (by omega)
theorem filN_good {pay:Bool} {l:List Od} {f:Nat → Int} {m:Mt} (hi:Ids m.L) (hg:∀ y ∈ m.L,goodO y = true) (hl:∀ x ∈ l,x ∈ m.L) (hp:l.Pairwise (fun x y=>¬ x.id = y.id)) (n:Nat) (hn:n≤l.length) (hf:∀ i,i < n → 0≤f i∧f i≤(l[i]!).qty) :
  ∀ k,k≤n → ∀ y ∈ (filN pay l f m k).L,goodO y = true
 | 0,_=>hg
 | k + 1,h=>by
  have ih:=filN_good (pay:=pay) hi hg hl hp n hn hf k (by omega)
  have I:=filN_is (pay:=pay) (p:=0) hi (fun x hx=>⟨hl x hx,(good_is (hg x (hl x hx))).2.2.2.2.2.1⟩) hp n hn hf k (by omega)
  have hq:=hf k (by omega)
  by_cases h0:0 < f k
  ·rw [show (filN pay l f m (k + 1)) = _ from if_pos h0]
   exact cut_good I.ids ih (I.there k (Nat.le_refl _) (by omega)) (by omega) hq.2
  ·rw [show (filN pay l f m (k + 1)) = _ from if_neg h0]
   exact ih
def sF (f:Nat → Int):Nat → Int
 | 0=>0
 | k + 1=>sF f k + f k
theorem sF_gt (mode lot v:Int) (Q:List Int):∀ k,sF (gtN mode lot v Q) k = gtS mode lot v Q k
 | 0=>rfl
 | k + 1=>by rw [sF,sF_gt mode lot v Q k];rfl
theorem filN_left {pay:Bool} {l:List Od} {f:Nat → Int} {m:Mt}:∀ k,(∀ i,i < k → 0≤f i) → (filN pay l f m k).left = m.left - sF f k
 | 0,_=>by simp [filN,sF]
 | k + 1,h=>by
  have ih:=filN_left (pay:=pay) (l:=l) (m:=m) k (fun i hi=>h i (by omega))
  have:=h k (by omega)
  simp only [filN,sF]
  unfold fil1
  split
  ·simp only [ih];omega
  ·rw [ih];omega
theorem filN_cash {l:List Od} {f:Nat → Int} {m:Mt} {p:Int}:∀ k,k≤l.length → (∀ i,i < k → 0≤f i) → (∀ x ∈ l,x.price = p) → (filN true l f m k).cash = m.cash - p * sF f k
 | 0,_,_,_=>by simp [filN,sF]
 | k + 1,hk,h,hp=>by
  have ih:=filN_cash (m:=m) k (by omega) (fun i hi=>h i (by omega)) hp
  have h0:=h k (by omega)
  simp only [filN,sF]
  unfold fil1
  split
  ·simp only [ih,if_true,hp _ (bang_mem (show k < l.length by omega)),Int.mul_add];omega
  ·rw [ih,show f k = 0 by omega,Int.add_zero]
theorem filN_cash0 {l:List Od} {f:Nat → Int} {m:Mt}:∀ k,(filN false l f m k).cash = m.cash
 | 0=>rfl
 | k + 1=>by
  simp only [filN]
  unfold fil1
  split
  ·exact filN_cash0 k
  ·exact filN_cash0 k

structure GM (m:Mt):Prop where
 ids:Ids m.L
 gd:∀ x ∈ m.L,goodO x = true
theorem lv_mem {R:Rl} {m:Mt} {p:Int} {x:Od} (h:x ∈ lvM R m p):x ∈ m.L∧x.side = 3 - R.side∧x.price = p:=by
 unfold lvM levL at h
 rw [List.mem_filter] at h
 simp only [Bool.and_eq_true,beq_iff_eq] at h
 exact h
theorem lv_pw {R:Rl} {m:Mt} {p:Int} (h:GM m):(lvM R m p).Pairwise (fun x y=>¬ x.id = y.id):=List.Pairwise.sublist List.filter_sublist h.ids
theorem nM_le {R:Rl} {m:Mt} {p:Int}:nM R m p≤(lvM R m p).length:=runN_le _ _ _
theorem QM_len {R:Rl} {m:Mt} {p:Int}:(QM R m p).length = nM R m p:=by
 unfold QM qs
 rw [List.length_map,List.length_take]
 exact Nat.min_eq_left nM_le
theorem QM_at {R:Rl} {m:Mt} {p:Int} {i:Nat} (hi:i < nM R m p):(QM R m p).getD i 0 = ((lvM R m p)[i]!).qty:=by
 have hl:i < (lvM R m p).length:=Nat.lt_of_lt_of_le hi nM_le
 unfold QM qs
 rw [List.getD_eq_getElem?_getD,List.getElem?_map,List.getElem?_take,if_pos hi,List.getElem?_eq_getElem hl,getElem!_pos _ i hl]
 rfl
theorem fM_rng {R:Rl} {m:Mt} {p:Int} (h:¬ NoM R m p) {i:Nat} (hi:i < nM R m p):0≤fM R m p i∧fM R m p i≤((lvM R m p)[i]!).qty:=by
 have:=gt_rng (mode:=R.mode) (shOk h).2 (k:=i) (by rw [QM_len];exact hi)
 rw [QM_at hi] at this
 exact this
theorem fM_sum {R:Rl} {m:Mt} {p:Int} (h:¬ NoM R m p) {k:Nat} (hk:k≤nM R m p):0≤sF (fM R m p) k∧sF (fM R m p) k≤mostM R m p:=by
 have h1:=gtS_rng (mode:=R.mode) (shOk h).2 (k:=k) (by rw [QM_len];exact hk)
 have h2:=all_rng (mode:=R.mode) (shOk h).2
 unfold fM
 rw [sF_gt]
 exact ⟨h1.1,Int.le_trans h1.2 h2.2.1⟩
theorem most_le {R:Rl} {m:Mt} {p:Int}:mostM R m p≤m.left:=by
 unfold mostM;split <;> omega
theorem most_cash {R:Rl} {m:Mt} {p:Int} (hp:1≤p) (hl:1≤R.lot) (h:payM R m = true) {s:Int} (hs:s≤mostM R m p):p * s≤m.cash:=by
 have hc:0≤m.cash:=by unfold payM at h;simp only [Bool.and_eq_true,decide_eq_true_eq] at h;exact h.2
 have h1:s≤m.cash / p:=by
  unfold mostM at hs
  rw [if_pos h] at hs
  have:=(trim_rng (lot:=R.lot) (q:=m.cash / p) hl (Int.ediv_nonneg hc (by omega))).2
  omega
 have h2:p * s≤p * (m.cash / p):=Int.mul_le_mul_of_nonneg_left h1 (by omega)
 have h3:p * (m.cash / p)≤m.cash:=Int.mul_ediv_self_le (by omega)
 omega
structure AftK (R:Rl) (m:Mt) (p:Int) (k:Nat) (m1:Mt):Prop where
 gm:GM m1
 there:∀ i,k≤i → i < (lvM R m p).length → (lvM R m p)[i]! ∈ m1.L
 len:m1.L.length≤m.L.length
 less:(∀ i,i < k → fM R m p i = ((lvM R m p)[i]!).qty) → m1.L.length + k = m.L.length
 D:m1.D = m.D
 l0:0≤m1.left
 l1:m1.left = m.left - sF (fM R m p) k
 c0:payM R m = true → 0≤m1.cash∧m1.cash = m.cash - p * sF (fM R m p) k
 c1:payM R m = false → m1.cash = m.cash
theorem fil_is {R:Rl} {m:Mt} {p:Int} (hg:GM m) (hp:1≤p) (hl:1≤R.lot) (h:¬ NoM R m p) {k:Nat} (hk:k≤nM R m p) :
  AftK R m p k (filN (payM R m) (lvM R m p) (fM R m p) m k):=by
 have hf:=fun i (hi:i < nM R m p)=>fM_rng h hi
 have I:=filN_is (pay:=payM R m) (p:=p) hg.ids (fun x hx=>⟨(lv_mem hx).1,(good_is (hg.gd x (lv_mem hx).1)).2.2.2.2.2.1⟩) (lv_pw hg) (nM R m p) nM_le hf k hk
 have G:=filN_good (pay:=payM R m) hg.ids hg.gd (fun x hx=>(lv_mem hx).1) (lv_pw hg) (nM R m p) nM_le hf k hk
 have S:=fM_sum h hk
 have Lf:=filN_left (pay:=payM R m) (l:=lvM R m p) (m:=m) k (fun i hi=>(hf i (by omega)).1)
 have ml:=most_le (R:=R) (m:=m) (p:=p)
 refine ⟨⟨I.ids,G⟩,I.there,I.len,I.less,I.D,by omega,Lf,fun hpay=>?_,fun hpay=>?_⟩
 ·have C:=filN_cash (m:=m) (p:=p) k (Nat.le_trans hk nM_le) (fun i hi=>(hf i (by omega)).1) (fun x hx=>(lv_mem hx).2.2)
  rw [hpay,C]
  have:=most_cash hp hl hpay S.2
  exact ⟨by omega,rfl⟩
 ·rw [hpay];exact filN_cash0 k

theorem pr_some {R:Rl} {L:List Od} {p:Int} (h:prM R L = some p):∃ b,bestL (3 - R.side) L = some b∧b ∈ L∧b.side = 3 - R.side∧b.price = p∧(R.price = 0 ∨ croN R.side R.price p = true):=by
 unfold prM at h
 split at h
 ·cases h
 ·rename_i b hb
  split at h
  ·cases h
  ·rename_i hc
   injection h with h
   have hm:b ∈ sideL (3 - R.side) L:=by
    unfold bestL at hb
    exact List.mem_of_mem_head? hb
   unfold sideL at hm
   rw [List.mem_filter] at hm
   simp only [beq_iff_eq] at hm
   refine ⟨b,hb,hm.1,hm.2,h,?_⟩
   rw [← h]
   by_cases h0:R.price = 0
   ·exact .inl h0
   ·right
    cases e:croN R.side R.price b.price with
    | true=>rfl
    | false=>exact absurd ⟨h0,e⟩ hc
theorem lv_pos {R:Rl} {m:Mt} {p:Int} (h:prM R m.L = some p):0 < (lvM R m p).length:=by
 obtain ⟨b,_,hb,hs,hp,_⟩:=pr_some h
 refine List.length_pos_of_mem (a:=b) ?_
 unfold lvM levL
 rw [List.mem_filter]
 simp only [Bool.and_eq_true,beq_iff_eq]
 exact ⟨hb,hs,hp⟩
theorem pr_rng {R:Rl} {m:Mt} {p:Int} (hg:GM m) (h:prM R m.L = some p):1≤p∧p≤1099511627776:=by
 obtain ⟨b,_,hb,_,hp,_⟩:=pr_some h
 have:=good_is (hg.gd b hb)
 omega
theorem aft_is {R:Rl} {m:Mt} {p:Int} (hg:GM m) (hp:1≤p) (hl:1≤R.lot):(NoM R m p∧aftM R m p = m) ∨ (¬ NoM R m p∧AftK R m p (nM R m p) (aftM R m p)):=by
 by_cases h:NoM R m p
 ·exact .inl ⟨h,if_pos h⟩
 ·refine .inr ⟨h,?_⟩
  unfold aftM
  rw [if_neg h]
  exact fil_is hg hp hl h (Nat.le_refl _)
structure AftF (R:Rl) (m:Mt) (p:Int) (m1:Mt):Prop where
 gm:GM m1
 there:∀ i,nM R m p≤i → i < (lvM R m p).length → (lvM R m p)[i]! ∈ m1.L
 len:m1.L.length≤m.L.length
 emp:EmpM R m p → m1.L.length + nM R m p = m.L.length
 D:m1.D = m.D
 l0:0≤m1.left
 l1:m1.left≤m.left
 c0:payM R m = true → 0≤m1.cash∧m1.cash≤m.cash
 c1:payM R m = false → m1.cash = m.cash
theorem aft_f {R:Rl} {m:Mt} {p:Int} (hg:GM m) (hp:1≤p) (hl:1≤R.lot) (h0:0≤m.left):AftF R m p (aftM R m p):=by
 rcases aft_is hg hp hl with ⟨h,e⟩ | ⟨h,k⟩
 ·rw [e]
  refine ⟨hg,fun i _ h2=>(lv_mem (bang_mem h2)).1,Nat.le_refl _,fun he=>?_,rfl,h0,Int.le_refl _,fun hp=>⟨?_,Int.le_refl _⟩,fun _=>rfl⟩
  ·rcases he with he | ⟨he,_⟩
   ·rw [he];rfl
   ·exact absurd h he
  ·unfold payM at hp;simp only [Bool.and_eq_true,decide_eq_true_eq] at hp;exact hp.2
 ·have S:=fM_sum h (Nat.le_refl (nM R m p))
  refine ⟨k.gm,k.there,k.len,fun he=>?_,k.D,k.l0,by rw [k.l1];omega,fun hpay=>⟨(k.c0 hpay).1,?_⟩,k.c1⟩
  ·rcases he with he | ⟨_,he⟩
   ·exact k.less (fun i hi=>by omega)
   ·exact k.less he
  ·rw [(k.c0 hpay).2]
   have:=Int.mul_nonneg (show 0≤p by omega) S.1
   omega
theorem pol_drop {p a:Int} {L:List Od} (hp:isPol p = true) (hs:stN p = false) (h:runN p a L < L.length):drN p = true:=by
 unfold isPol at hp
 unfold stN at hs
 simp only [Bool.or_eq_true,beq_iff_eq] at hp
 simp only [Bool.or_eq_false_iff,beq_eq_false_iff_ne,ne_eq] at hs
 have e:p = 1 ∨ p = 3:=by omega
 rcases e with rfl | rfl
 ·exfalso
  have:runN 1 a L = L.length:=by
   unfold runN
   rw [if_pos (by decide)]
   exact frO_none fun j _=>rfl
  omega
 ·rfl
structure DrpF (id:Int) (x:Od) (m m1:Mt):Prop where
 gm:GM m1
 len:m1.L.length + 1 = m.L.length
 get:getO id m.L = some x
 left:m1.left = m.left
 cash:m1.cash = m.cash
theorem gone_f {m:Mt} {x:Od} (hg:GM m) (hx:x ∈ m.L):DrpF x.id x m (goneM x.id m):=by
 obtain ⟨hlt,he⟩:=idx_of hg.ids hx rfl
 refine ⟨⟨ids_erase hg.ids _,fun y hy=>hg.gd y (List.mem_of_mem_eraseIdx hy)⟩,?_,get_some hg.ids hx rfl,rfl,rfl⟩
 show (m.L.eraseIdx (idxN x.id m.L)).length + 1 = m.L.length
 rw [List.length_eraseIdx_of_lt hlt]
 omega
theorem crM_go (R:Rl) (hp:isPol R.self = true) (hl:1≤R.lot):∀ (n:Nat) (m:Mt),m.L.length≤n → GM m → 0≤m.left → ∀ k k',m.L.length < k → m.L.length < k' → crM R k m = crM R k' m
 | n,m,hn,hg,h0,0,_,hk,_=>absurd hk (Nat.not_lt_zero _)
 | n,m,hn,hg,h0,_,0,_,hk=>absurd hk (Nat.not_lt_zero _)
 | n,m,hn,hg,h0,k + 1,k' + 1,hk,hk'=>by
  rw [crM,crM]
  cases hpr:prM R m.L with
  | none=>rfl
  | some p =>
   have A:=aft_f hg (pr_rng hg hpr).1 hl h0
   have hpos:=lv_pos hpr
   simp only
   by_cases h1:¬ EmpM R m p ∨ (aftM R m p).left = 0
   ·rw [if_pos h1,if_pos h1]
   ·rw [if_neg h1,if_neg h1]
    have he:EmpM R m p:=Classical.byContradiction fun h=>h1 (.inl h)
    have hlen:=A.emp he
    by_cases h2:nM R m p = (lvM R m p).length
    ·rw [if_pos h2,if_pos h2]
     match n,hn with
     | 0,hn=>omega
     | n + 1,hn=>exact crM_go R hp hl n _ (by omega) A.gm A.l0 k k' (by omega) (by omega)
    ·rw [if_neg h2,if_neg h2]
     by_cases h3:stN R.self = true
     ·rw [if_pos h3,if_pos h3]
     ·rw [if_neg h3,if_neg h3]
      have hlt:nM R m p < (lvM R m p).length:=by have:=nM_le (R:=R) (m:=m) (p:=p);omega
      have hd:=pol_drop hp (by simpa using h3) hlt
      have D:=gone_f A.gm (A.there _ (Nat.le_refl _) hlt)
      have e:drpM R ((lvM R m p)[nM R m p]!).id (aftM R m p) = goneM ((lvM R m p)[nM R m p]!).id (aftM R m p):=if_pos hd
      rw [e]
      have:=D.len
      match n,hn with
      | 0,hn=>omega
      | n + 1,hn=>exact crM_go R hp hl n _ (by omega) D.gm (by rw [D.left];exact A.l0) k k' (by omega) (by omega)
noncomputable def crF (R:Rl) (m:Mt):Mt × Bool:=crM R (m.L.length + 1) m
section
variable {R : Rl} {m : Mt} {p : Int} (hp : isPol R.self = true) (hl : 1 ≤ R.lot) (hg : GM m) (h0 : 0 ≤ m.left)
theorem crF_none (h:prM R m.L = none):crF R m = (m,false):=by unfold crF;rw [crM,h]
theorem crF_end (h:prM R m.L = some p) (h1:¬ EmpM R m p ∨ (aftM R m p).left = 0):crF R m = (aftM R m p,false):=by
 unfold crF;rw [crM,h];simp only;rw [if_pos h1]
theorem crF_stop (h:prM R m.L = some p) (h1:EmpM R m p) (h2:¬ (aftM R m p).left = 0) (h3:nM R m p < (lvM R m p).length) (h4:stN R.self = true) :
  crF R m = (drpM R ((lvM R m p)[nM R m p]!).id (aftM R m p),true):=by
 unfold crF;rw [crM,h];simp only
 rw [if_neg (fun h=>h.elim (fun h=>h h1) h2),if_neg (by omega),if_pos h4]
include hp hl hg h0
theorem crF_all (h:prM R m.L = some p) (h1:EmpM R m p) (h2:¬ (aftM R m p).left = 0) (h3:nM R m p = (lvM R m p).length) :
  crF R m = crF R (aftM R m p)∧(aftM R m p).L.length < m.L.length:=by
 have A:=aft_f hg (pr_rng hg h).1 hl h0
 have hlen:=A.emp h1
 have hpos:=lv_pos h
 refine ⟨?_,by omega⟩
 unfold crF
 rw [crM,h];simp only
 rw [if_neg (fun h=>h.elim (fun h=>h h1) h2),if_pos h3]
 exact crM_go R hp hl _ _ (Nat.le_refl _) A.gm A.l0 _ _ (by omega) (by omega)
theorem crF_drop (h:prM R m.L = some p) (h1:EmpM R m p) (h2:¬ (aftM R m p).left = 0) (h3:nM R m p < (lvM R m p).length) (h4:stN R.self = false) :
  drN R.self = true∧crF R m = crF R (goneM ((lvM R m p)[nM R m p]!).id (aftM R m p))∧(goneM ((lvM R m p)[nM R m p]!).id (aftM R m p)).L.length < m.L.length:=by
 have A:=aft_f hg (pr_rng hg h).1 hl h0
 have hlen:=A.emp h1
 have hd:=pol_drop hp h4 h3
 have D:=gone_f A.gm (A.there _ (Nat.le_refl _) h3)
 have hdl:=D.len
 refine ⟨hd,?_,by omega⟩
 have e:drpM R ((lvM R m p)[nM R m p]!).id (aftM R m p) = goneM ((lvM R m p)[nM R m p]!).id (aftM R m p):=if_pos hd
 unfold crF
 rw [crM,h];simp only
 rw [if_neg (fun h=>h.elim (fun h=>h h1) h2),if_neg (by omega),if_neg (by rw [h4];decide),e]
 exact crM_go R hp hl _ _ (Nat.le_refl _) D.gm (by rw [D.left];exact A.l0) _ _ (by omega) (by omega)
end
end Go.Proofs.YtikapeaodobkjaaGreat
namespace Go.Proofs.YtikapeaodobkjaaGreat
open Go.RowKit Go.Lib Go.Maps Go.Deep

def othN (s:Int):Int:=if s = 1 then 2 else if s = 2 then 1 else 0
theorem other_c (s:Int) (w:World):Calls Tryz.prog 63 #[.int .i64 s] w fun e w'=>e = .returned (.int .i64 (othN s))∧w = w':=by
 by_cases h1:s = 1
 ·subst h1
  go_enter Tryz.func63,Tryz.ntmps63
  go_wp2_with fail
  go_ret
  exact ⟨rfl,rfl⟩
 ·have g1:(s == 1) = false:=by simp [h1]
  by_cases h2:s = 2
  ·subst h2
   go_enter Tryz.func63,Tryz.ntmps63
   go_wp2_with fail
   go_ret
   exact ⟨rfl,rfl⟩
  ·have g2:(s == 2) = false:=by simp [h2]
   have e:othN s = 0:=by unfold othN;rw [if_neg h1,if_neg h2]
   rw [e]
   clear h1 h2 e
   go_enter Tryz.func63,Tryz.ntmps63
   go_wp2_with fail
   go_ret
   exact ⟨rfl,rfl⟩
structure Ruls where
 ver:Value
 ticks:Value
 band:Value
 fees:Value
 round:Value
 lay:Value
abbrev mC (bk:Nat) (X:Ruls) (R:Rl) (left cash:Int) (fv dv:Value) (lf:Int) (st:Bool):Array Value :=
 #[ptA bk,X.ver,X.ticks,.int .i64 R.lot,X.band,X.fees,X.round,.int .i64 R.mode,.int .i64 R.self,X.lay,.int .i64 R.acc,.int .i64 R.side,.int .i64 R.price,.int .i64 left,.int .i64 cash,fv,dv,.int .i64 lf,.bool st]
def MB (w:World) (g bk:Nat) (X:Ruls) (R:Rl) (left cash:Int) (fv dv:Value) (lf:Int) (st:Bool):Prop:=Cl 109 w g (mC bk X R left cash fv dv lf st)
def payB (side cash:Int):Bool:=(side == 1) && decide (0≤cash)
theorem pays_c (g bk:Nat) (X:Ruls) (R:Rl) (left cash:Int) (fv dv:Value) (lf:Int) (st:Bool) (w:World) (H:MB w g bk X R left cash fv dv lf st) :
  Calls Tryz.prog 91 #[ptA g] w fun e w'=>e = .returned (.bool (payB R.side cash))∧w = w':=by
 have h11:w.cell? ⟨g,11,none⟩ = some (.int .i64 R.side):=(H.c 11).trans rfl
 have h14:w.cell? ⟨g,14,none⟩ = some (.int .i64 cash):=(H.c 14).trans rfl
 clear H
 unfold payB
 generalize R.side = s at h11
 by_cases h1:s = 1
 ·subst h1
  obtain ⟨b,hb⟩:∃ b,decide (0≤cash) = b:=⟨_,rfl⟩
  rw [hb]
  go_enter Tryz.func91,Tryz.ntmps91
  go_wp2_with fail
  go_ret
  exact ⟨rfl,rfl⟩
 ·have g1:(s == 1) = false:=by simp [h1]
  rw [g1]
  clear h1
  go_enter Tryz.func91,Tryz.ntmps91
  go_wp2_with fail
  go_ret
  exact ⟨rfl,rfl⟩

theorem dv_one {a p:Int} (h1:0≤a) (h2:a≤9223372036854775807) (h3:1≤p):dv a 1 p 1 = a / p∧0≤a / p∧a / p≤a:=by
 have hq:a / p≤a:=Int.ediv_le_self _ h1
 have hq0:0≤a / p:=Int.ediv_nonneg h1 (by omega)
 have e:divR a 1 p 1 = a / p:=by
  rw [divR_eq a 1 p 1 false _ (by rw [decide_eq_false (by omega),decide_eq_false (by omega)];rfl) rfl]
  have e1:(a * 1).natAbs = a.toNat:=by omega
  have e2:p.natAbs = p.toNat:=by omega
  rw [if_neg (show ¬ (false = true) by decide),e1,e2]
  unfold awayB
  have e3:∀ (x:Nat) (b:Bool),(if (if x = 0 then false else if (1:Int) = 2 then !false else if (1:Int) = 1 then false else b) = true then 1 else 0) = (0:Nat):=by intro x b;simp
  rw [e3,Nat.add_zero,Int.natCast_ediv,Int.toNat_of_nonneg h1,Int.toNat_of_nonneg (by omega)]
 have hi:InR (divR a 1 p 1):=by rw [e];unfold InR;omega
 rw [dv,if_neg (not_not_intro (.inl rfl)),if_neg (by omega),tv_in hi,e]
 exact ⟨rfl,hq0,hq⟩
theorem Cl.bel {T:TypeId} {w X:World} {c:Nat} {cs:Array Value} (h:Cl T w c cs) (hX:Below w.heap.size w X):Cl T X c cs:=(hX.block _ (blk_lt h)).trans h
def payN (R:Rl) (cash p qty:Int):Int:=if payB R.side cash = true then min qty (trimN R.lot (cash / p)) else qty
theorem payable_c (c3 c4 g bk:Nat) (X:Ruls) (R:Rl) (left cash:Int) (fv dv:Value) (lf:Int) (st:Bool) (p qty:Int) (w:World) (H:MB w g bk X R left cash fv dv lf st)
  (K3:Cl 139 w c3 #[ptA g]) (K4:Cl 2 w c4 #[.int .i64 p]) (hc:InR cash) (hl:InR R.lot) (hp:1≤p) (hp2:p≤1099511627776) :
  Calls Tryz.prog 90 #[.int .i64 qty,ptA c3,ptA c4] w fun e w'=>e = .returned (.int .i64 (payN R cash p qty))∧Below w.heap.size w w':=by
 have HP:=Lib.hid (pays_c g bk X R left cash fv dv lf st w H)
 have N3:Hid (∀ X',Below w.heap.size w X' → X'.cell? ⟨c3,0,none⟩ = some (ptA g)):=Lib.hid (fun X' hX=>((Cl.bel K3 hX).c 0).trans rfl)
 have N4:Hid (∀ X',Below w.heap.size w X' → X'.cell? ⟨c4,0,none⟩ = some (.int .i64 p)):=Lib.hid (fun X' hX=>((Cl.bel K4 hX).c 0).trans rfl)
 have N14:Hid (∀ X',Below w.heap.size w X' → X'.cell? ⟨g,14,none⟩ = some (.int .i64 cash)):=Lib.hid (fun X' hX=>((Cl.bel H hX).c 14).trans rfl)
 have N3':Hid (∀ X',Below w.heap.size w X' → X'.cell? ⟨g,3,none⟩ = some (.int .i64 R.lot)):=Lib.hid (fun X' hX=>((Cl.bel H hX).c 3).trans rfl)
 have k3:=N3.out w (Below.refl _ _)
 unfold payN
 generalize R.lot = lot at hl N3'
 generalize R.side = s at HP
 clear H K3 K4
 cases hb:payB s cash with
 | false =>
  rw [hb] at HP
  rw [if_neg (by decide)]
  clear hb
  go_enter Tryz.func90,Tryz.ntmps90
  go_wp2_with ((with_reducible refine HP.out.mono ?_);rintro e w' ⟨rfl,rfl⟩)
  go_ret
  exact ⟨rfl,Below.refl _ _⟩
 | true =>
  have h0:0≤cash:=by unfold payB at hb;simp only [Bool.and_eq_true,decide_eq_true_eq] at hb;exact hb.2
  rw [hb] at HP
  rw [if_pos rfl]
  obtain ⟨d1,d2,d3⟩:=dv_one h0 hc.2 hp
  have HDv:Hid (∀ w,Calls Tryz.prog 92 #[.int .i64 cash,.int .i64 1,.int .i64 p,.int .i64 1] w fun e w'=>e = .returned (.tuple #[.int .i64 (cash / p),.int .i64 (de cash 1 p 1)])∧Below w.heap.size w w'):=Lib.hid (fun w=>by
   have h:=Div_dn cash 1 p hc ⟨by omega,by omega⟩ ⟨by omega,by omega⟩ (by omega) hp (by have:=hc.2;rw [Int.mul_one];omega) w
   rw [d1] at h;exact h)
  have hcp:InR (cash / p):=⟨by omega,by have:=hc.2;omega⟩
  generalize de cash 1 p 1 = er at HDv
  generalize cash / p = q at *
  have HT:=Lib.hid (fun W=>trim_c lot q hcp hl W)
  generalize trimN lot q = tq at HT
  obtain ⟨res,hres⟩:∃ r,min qty tq = r:=⟨_,rfl⟩
  rw [hres]
  clear hb h0 d1 d2 d3 hc hl hp hp2 hcp
  go_enter Tryz.func90,Tryz.ntmps90
  go_upto_region 3 with ((with_reducible refine HP.out.mono ?_);rintro e w' ⟨rfl,rfl⟩)
  refine wp_region_held_drew (S:=fun X=>Below w.heap.size w X) (by kernel_rfl) (by exact (Below.refl _ _).drew) (fun hHeld=>?_)
  refine tkH 0 ?_ ?_ (by assumption) ?_
  rotate_left
  ·(intro w hSw;have hs:=N3.out _ hSw;(try dsimp only at hSw);go_simp;try with_reducible rfl)
  (try simp only [zz])
  refine tkH 1 ?_ ?_ (by assumption) ?_
  rotate_left
  ·(intro w hSw;(try dsimp only at hSw);go_simp;try with_reducible rfl)
  (try simp only [zz])
  refine tkH 2 ?_ ?_ (by assumption) ?_
  rotate_left
  ·(intro w hSw;(try dsimp only at hSw);go_simp;try with_reducible rfl)
  (try simp only [zz])
  refine tkH 3 ?_ ?_ (by assumption) ?_
  rotate_left
  ·(intro w hSw;(try dsimp only at hSw);go_simp;try with_reducible rfl)
  (try simp only [zz])
  refine tkH 4 ?_ ?_ (by assumption) ?_
  rotate_left
  ·(intro w hSw;have hs:=N14.out _ hSw;(try dsimp only at hSw);go_simp;try with_reducible rfl)
  (try simp only [zz])
  refine tkH 5 ?_ ?_ (by assumption) ?_
  rotate_left
  ·(intro w hSw;have hs:=N4.out _ hSw;(try dsimp only at hSw);go_simp;try with_reducible rfl)
  (try simp only [zz])
  refine rdH 6 (fun K hK=>?_)
  go_simp
  ((with_reducible refine (HDv.out _).mono ?_);rintro e y1 ⟨rfl,hb⟩;have hb:=Lib.hid hb)
  refine hK.out _ _ (by exact hHeld.trans (hb.out.mono hHeld.size)) (fun hHeld=>?_)
  clear hK K
  (try simp only [zz])
  refine tkH 7 ?_ ?_ (by assumption) ?_
  rotate_left
  ·(intro w hSw;(try dsimp only at hSw);go_simp;try with_reducible rfl)
  (try simp only [zz])
  refine tkH 8 ?_ ?_ (by assumption) ?_
  rotate_left
  ·(intro w hSw;(try dsimp only at hSw);go_simp;try with_reducible rfl)
  (try simp only [zz])
  refine tkH 9 ?_ ?_ (by assumption) ?_
  rotate_left
  ·(intro w hSw;(try dsimp only at hSw);go_simp;try with_reducible rfl)
  (try simp only [zz])
  refine tkH 10 ?_ ?_ (by assumption) ?_
  rotate_left
  ·(intro w hSw;(try dsimp only at hSw);go_simp;try with_reducible rfl)
  (try simp only [zz])
  refine tkH 11 ?_ ?_ (by assumption) ?_
  rotate_left
  ·(intro w hSw;(try dsimp only at hSw);go_simp;try with_reducible rfl)
  (try simp only [zz])
  refine wpAnyH_done (by kernel_rfl) ?_ _
  rename_i X1
  have E1:=Lib.hid hHeld
  have m3:=N3.out _ hHeld
  have m4:=N3'.out _ hHeld
  clear hHeld
  go_wp2_with ((with_reducible refine (HT.out _).mono ?_);rintro e w5 ⟨rfl,rfl⟩)
  go_ret
  exact ⟨rfl,E1.out⟩

theorem oth_is {s:Int} (h:s = 1 ∨ s = 2):othN s = 3 - s:=by rcases h with rfl | rfl <;> rfl
theorem price18_c (g bk:Nat) (v:Value) (k:Int) (L:List Od) (S:Nat → Prop) (X:Ruls) (R:Rl) (left cash:Int) (fv dv:Value) (lf:Int) (st:Bool) (w:World) (H:MB w g bk X R left cash fv dv lf st) (HB:LyB w bk v k L S) (hs:R.side = 1 ∨ R.side = 2) :
  Calls Tryz.prog 54 #[ptA g] w fun e w'=>e = .returned (.tuple #[.int .i64 ((prM R L).getD 0),.bool (prM R L).isSome])∧Below w.heap.size w w':=by
 obtain ⟨w0,hw0⟩:∃ w0,w.alloc (.cells #[.int .i64 R.acc,.int .i64 R.side,.int .i64 R.price,.int .i64 left,.int .i64 cash] 64) = w0:=⟨_,rfl⟩
 have b0:Below w.heap.size w w0:=by rw [← hw0];exact (Below.refl _ _).alloc (Nat.le_refl _) _
 have c0:Cl 64 w0 w.heap.size #[.int .i64 R.acc,.int .i64 R.side,.int .i64 R.price,.int .i64 left,.int .i64 cash]:=by rw [← hw0];exact hd_last rfl
 have h10:w.cell? ⟨g,10,none⟩ = some (.int .i64 R.acc):=(H.c 10).trans rfl
 have h11:w.cell? ⟨g,11,none⟩ = some (.int .i64 R.side):=(H.c 11).trans rfl
 have h12:w.cell? ⟨g,12,none⟩ = some (.int .i64 R.price):=(H.c 12).trans rfl
 have h13:w.cell? ⟨g,13,none⟩ = some (.int .i64 left):=(H.c 13).trans rfl
 have h14:w.cell? ⟨g,14,none⟩ = some (.int .i64 cash):=(H.c 14).trans rfl
 have H0:Cl _ w0 g _:=Cl.bel H b0
 have N0:Hid (∀ X',Below w0.heap.size w0 X' → X'.cell? ⟨g,0,none⟩ = some (ptA bk)):=Lib.hid (fun X' hX=>((Cl.bel H0 hX).c 0).trans rfl)
 have N1:Hid (∀ X',Below w0.heap.size w0 X' → X'.cell? ⟨w.heap.size,1,none⟩ = some (.int .i64 R.side)):=Lib.hid (fun X' hX=>((Cl.bel c0 hX).c 1).trans rfl)
 have N2:Hid (∀ X',Below w0.heap.size w0 X' → X'.cell? ⟨w.heap.size,2,none⟩ = some (.int .i64 R.price)):=Lib.hid (fun X' hX=>((Cl.bel c0 hX).c 2).trans rfl)
 have HO:=Lib.hid (fun W=>other_c R.side W)
 rw [oth_is hs] at HO
 have HBe:=Lib.hid (fun W (hW:Below w0.heap.size w0 W)=>yBest_c bk v k L S (3 - R.side) (by rcases hs with h | h <;> rw [h] <;> rfl) W ((HB.below b0).below hW))
 have HCr:=Lib.hid (fun a b W=>crosses_c R.side a b W)
 have B0:=Lib.hid b0
 have hpr:prM R L = match bestL (3 - R.side) L with | none=>none | some b=>if ¬ R.price = 0∧croN R.side R.price b.price = false then none else some b.price:=rfl
 have HPr:=Lib.hid hpr
 clear H0 c0 b0 HB hs hpr H
 generalize hbs:bestL (3 - R.side) L = bs at HBe HPr
 generalize R.side = s at *
 generalize R.price = pr at *
 generalize R.acc = ac at *
 clear hbs
 generalize prM R L = pm at HPr ⊢
 obtain ⟨z,hz⟩:∃ z,oZ bs = z:=⟨_,rfl⟩
 obtain ⟨there,hth⟩:∃ t,bs.isSome = t:=⟨_,rfl⟩
 unfold YGetEnd at HBe
 rw [hz,hth] at HBe
 have HZ:=Lib.hid (And.intro hz hth)
 clear hz hth
 go_enter Tryz.func54,Tryz.ntmps54
 go_upto_region 2 with fail
 go_cut [5,6] (fun s5 s6 wx=>∃ c:Nat,s5 = .pointer (some ⟨c,0,none⟩)∧s6 = .bool there∧Hid (Below w0.heap.size w0 wx)∧Hid (Cl 38 wx c (OC z)))
 case first =>
  refine wp_region_held_drew (S:=fun W=>Below w0.heap.size w0 W) (by kernel_rfl) (by exact (Below.refl _ _).drew) (fun hHeld=>?_)
  refine tkH 0 ?_ ?_ (by assumption) ?_
  rotate_left
  ·(intro w hSw;(try dsimp only at hSw);go_simp;try with_reducible rfl)
  (try simp only [zz])
  refine tkH 1 ?_ ?_ (by assumption) ?_
  rotate_left
  ·(intro w hSw;(try dsimp only at hSw);go_simp;try with_reducible rfl)
  (try simp only [zz])
  refine tkH 2 ?_ ?_ (by assumption) ?_
  rotate_left
  ·(intro w hSw;(try dsimp only at hSw);go_simp;try with_reducible rfl)
  (try simp only [zz])
  refine tkH 3 ?_ ?_ (by assumption) ?_
  rotate_left
  ·(intro w hSw;have hs:=N0.out _ hSw;(try dsimp only at hSw);go_simp;try with_reducible rfl)
  (try simp only [zz])
  refine tkH 4 ?_ ?_ (by assumption) ?_
  rotate_left
  ·(intro w hSw;(try dsimp only at hSw);go_simp;try with_reducible rfl)
  (try simp only [zz])
  refine tkH 5 ?_ ?_ (by assumption) ?_
  rotate_left
  ·(intro w hSw;have hs:=N1.out _ hSw;(try dsimp only at hSw);go_simp;try with_reducible rfl)
  (try simp only [zz])
  refine wpAnyH_ready (rs:=[6,11]) (by kernel_rfl) (by simp) ?_
  refine (AllReadyH.cons (o:=⟨some 18,_,_,_,_,_⟩) rfl (fun K hK=>?_) (AllReadyH.cons (o:=⟨some 5,_,_,_,_,_⟩) rfl (fun K hK=>?_) AllReadyH.nil))
  ·go_simp
   ((with_reducible refine (HO.out _).mono ?_);rintro e y0 ⟨rfl,rfl⟩)
   refine hK.out _ _ (by exact hHeld) (fun hHeld=>?_)
   clear hK K
   (try simp only [zz])
   refine wpAnyH_ready (rs:=[7,11]) (by kernel_rfl) (by simp) ?_
   refine (AllReadyH.cons (o:=⟨some 19,_,_,_,_,_⟩) rfl (fun K hK=>?_) (AllReadyH.cons (o:=⟨some 5,_,_,_,_,_⟩) rfl (fun K hK=>?_) AllReadyH.nil))
   ·go_simp
    ((with_reducible refine (HBe.out _ hHeld).mono ?_);rintro e y1 ⟨rfl,hb⟩)
    have HS:Hid (w0.heap.size≤y1.heap.size):=Lib.hid (by have h1:=hHeld.size;have h2:=hb.out.size;omega)
    refine hK.out _ _ (by exact hHeld.trans (hb.out.mono hHeld.size)) (fun hHeld=>?_)
    clear hK K
    (try simp only [zz])
    refine tkH 8 ?_ ?_ (by assumption) ?_
    rotate_left
    ·(intro w hSw;(try dsimp only at hSw);go_simp;try with_reducible rfl)
    (try simp only [zz])
    refine tkH 9 ?_ ?_ (by assumption) ?_
    rotate_left
    ·(intro w hSw;(try dsimp only at hSw);go_simp;try with_reducible rfl)
    (try simp only [zz])
    refine tkH 10 ?_ ?_ (by assumption) ?_
    rotate_left
    ·(intro w hSw;(try dsimp only at hSw);go_simp;try with_reducible rfl)
    (try simp only [zz])
    refine wpAnyH_ready (rs:=[11]) (by kernel_rfl) (by simp) ?_
    refine (AllReadyH.cons (o:=⟨some 5,_,_,_,_,_⟩) rfl (fun K hK=>?_) AllReadyH.nil)
    go_simp
    refine hK.out _ _ (by exact hHeld.alloc hHeld.size _) (fun hHeld=>?_)
    clear hK K
    (try simp only [zz])
    refine wpAnyH_ready (rs:=[12]) (by kernel_rfl) (by simp) ?_
    refine (AllReadyH.cons (o:=⟨none,_,_,_,_,_⟩) rfl (fun K hK=>?_) AllReadyH.nil)
    have hz9:=setRow_heap _ _ _ (OC z) _ _ ((show Cl 38 _ y1.heap.size (OC ⟨0,0,0,0,0,0⟩) from hd_drew (hd_last rfl)))
    ((with_reducible apply any_storeOd);rfl;rfl;rfl;rfl;exact (show Cl 38 _ y1.heap.size (OC ⟨0,0,0,0,0,0⟩) from hd_drew (hd_last rfl));skip)
    have HZ9:=Lib.hid hz9
    clear hz9
    refine hK.out _ _ (by exact below_row hHeld (HS.out)) (fun hHeld=>?_)
    clear hK K
    (try simp only [zz])
    refine tkH 13 ?_ ?_ (by assumption) ?_
    rotate_left
    ·(intro w hSw;(try dsimp only at hSw);go_simp;try with_reducible rfl)
    (try simp only [zz])
    refine wpAnyH_done (by kernel_rfl) ?_ _
    go_wp2_with fail
    go_meet
    exact ⟨y1.heap.size,rfl,rfl,Lib.hid hHeld,Lib.hid (hd_drew HZ9.out)⟩
   ·go_simp
    refine hK.out _ _ (by exact hHeld.alloc hHeld.size _) (fun hHeld=>?_)
    clear hK K
    (try simp only [zz])
    refine wpAnyH_ready (rs:=[7]) (by kernel_rfl) (by simp) ?_
    refine (AllReadyH.cons (o:=⟨some 19,_,_,_,_,_⟩) rfl (fun K hK=>?_) AllReadyH.nil)
    go_simp
    ((with_reducible refine (HBe.out _ hHeld).mono ?_);rintro e y1 ⟨rfl,hb⟩)
    have hA:Hid (Cl 38 y1 w0.heap.size (OC ⟨0,0,0,0,0,0⟩)):=Lib.hid (Cl.bel (show Cl 38 _ w0.heap.size (OC ⟨0,0,0,0,0,0⟩) from hd_drew (hd_last rfl)) hb.out)
    refine hK.out _ _ (by exact hHeld.trans (hb.out.mono hHeld.size)) (fun hHeld=>?_)
    clear hK K
    (try simp only [zz])
    refine tkH 8 ?_ ?_ (by assumption) ?_
    rotate_left
    ·(intro w hSw;(try dsimp only at hSw);go_simp;try with_reducible rfl)
    (try simp only [zz])
    refine tkH 9 ?_ ?_ (by assumption) ?_
    rotate_left
    ·(intro w hSw;(try dsimp only at hSw);go_simp;try with_reducible rfl)
    (try simp only [zz])
    refine tkH 10 ?_ ?_ (by assumption) ?_
    rotate_left
    ·(intro w hSw;(try dsimp only at hSw);go_simp;try with_reducible rfl)
    (try simp only [zz])
    refine wpAnyH_ready (rs:=[12]) (by kernel_rfl) (by simp) ?_
    refine (AllReadyH.cons (o:=⟨none,_,_,_,_,_⟩) rfl (fun K hK=>?_) AllReadyH.nil)
    have hz9:=setRow_heap _ _ _ (OC z) _ _ (hd_drew hA.out)
    ((with_reducible apply any_storeOd);rfl;rfl;rfl;rfl;exact hd_drew hA.out;skip)
    have HZ9:=Lib.hid hz9
    clear hz9
    refine hK.out _ _ (by exact below_row hHeld (Nat.le_refl _)) (fun hHeld=>?_)
    clear hK K
    (try simp only [zz])
    refine tkH 13 ?_ ?_ (by assumption) ?_
    rotate_left
    ·(intro w hSw;(try dsimp only at hSw);go_simp;try with_reducible rfl)
    (try simp only [zz])
    refine wpAnyH_done (by kernel_rfl) ?_ _
    go_wp2_with fail
    go_meet
    exact ⟨w0.heap.size,rfl,rfl,Lib.hid hHeld,Lib.hid (hd_drew HZ9.out)⟩
  ·go_simp
   refine hK.out _ _ (by exact hHeld.alloc hHeld.size _) (fun hHeld=>?_)
   clear hK K
   (try simp only [zz])
   refine wpAnyH_ready (rs:=[6]) (by kernel_rfl) (by simp) ?_
   refine (AllReadyH.cons (o:=⟨some 18,_,_,_,_,_⟩) rfl (fun K hK=>?_) AllReadyH.nil)
   go_simp
   ((with_reducible refine (HO.out _).mono ?_);rintro e y0 ⟨rfl,rfl⟩)
   refine hK.out _ _ (by exact hHeld) (fun hHeld=>?_)
   clear hK K
   (try simp only [zz])
   refine wpAnyH_ready (rs:=[7]) (by kernel_rfl) (by simp) ?_
   refine (AllReadyH.cons (o:=⟨some 19,_,_,_,_,_⟩) rfl (fun K hK=>?_) AllReadyH.nil)
   go_simp
   ((with_reducible refine (HBe.out _ hHeld).mono ?_);rintro e y1 ⟨rfl,hb⟩)
   have hA:Hid (Cl 38 y1 w0.heap.size (OC ⟨0,0,0,0,0,0⟩)):=Lib.hid (Cl.bel (show Cl 38 _ w0.heap.size (OC ⟨0,0,0,0,0,0⟩) from hd_drew (hd_last rfl)) hb.out)
   refine hK.out _ _ (by exact hHeld.trans (hb.out.mono hHeld.size)) (fun hHeld=>?_)
   clear hK K
   (try simp only [zz])
   refine tkH 8 ?_ ?_ (by assumption) ?_
   rotate_left
   ·(intro w hSw;(try dsimp only at hSw);go_simp;try with_reducible rfl)
   (try simp only [zz])
   refine tkH 9 ?_ ?_ (by assumption) ?_
   rotate_left
   ·(intro w hSw;(try dsimp only at hSw);go_simp;try with_reducible rfl)
   (try simp only [zz])
   refine tkH 10 ?_ ?_ (by assumption) ?_
   rotate_left
   ·(intro w hSw;(try dsimp only at hSw);go_simp;try with_reducible rfl)
   (try simp only [zz])
   refine wpAnyH_ready (rs:=[12]) (by kernel_rfl) (by simp) ?_
   refine (AllReadyH.cons (o:=⟨none,_,_,_,_,_⟩) rfl (fun K hK=>?_) AllReadyH.nil)
   have hz9:=setRow_heap _ _ _ (OC z) _ _ (hd_drew hA.out)
   ((with_reducible apply any_storeOd);rfl;rfl;rfl;rfl;exact hd_drew hA.out;skip)
   have HZ9:=Lib.hid hz9
   clear hz9
   refine hK.out _ _ (by exact below_row hHeld (Nat.le_refl _)) (fun hHeld=>?_)
   clear hK K
   (try simp only [zz])
   refine tkH 13 ?_ ?_ (by assumption) ?_
   rotate_left
   ·(intro w hSw;(try dsimp only at hSw);go_simp;try with_reducible rfl)
   (try simp only [zz])
   refine wpAnyH_done (by kernel_rfl) ?_ _
   go_wp2_with fail
   go_meet
   exact ⟨w0.heap.size,rfl,rfl,Lib.hid hHeld,Lib.hid (hd_drew HZ9.out)⟩
 case rest =>
  obtain ⟨c,rfl,rfl,hB,hC⟩:=hcut
  have q1:=N1.out _ hB.out
  have q2:=N2.out _ hB.out
  have q3:wc.cell? ⟨c,3,none⟩ = some (.int .i64 z.price):=(hC.out.c 3).trans rfl
  have BW:=Lib.hid (B0.out.trans (hB.out.mono B0.out.size))
  have hZ:=HZ.out
  clear N0 N1 N2 HO HBe hB hC hw0 h10 h11 h12 h13 h14 HZ B0
  cases bs with
  | none =>
   obtain ⟨-,h2⟩:=hZ
   subst h2
   have e9:pm = none:=HPr.out
   subst e9
   clear HPr HCr
   go_wp2_with fail
   go_ret2
   exact ⟨rfl,BW.out⟩
  | some b =>
   obtain ⟨h1,h2⟩:=hZ
   have h1:b = z:=h1
   subst h1 h2
   dsimp only at HPr
   by_cases p0:pr = 0
   ·have g1:(pr != 0) = false:=by simp [p0]
    have e9:=HPr.out
    rw [if_neg (fun h=>h.1 p0)] at e9
    subst e9
    clear HPr HCr p0
    go_wp2_with fail
    go_ret2
    exact ⟨rfl,BW.out⟩
   ·have g1:(pr != 0) = true:=by simp [p0]
    have HC:=Lib.hid (HCr.out pr b.price wc)
    cases hc:croN s pr b.price with
    | true =>
     rw [hc] at HC HPr
     have e9:=HPr.out
     rw [if_neg (fun h=>by cases h.2)] at e9
     subst e9
     clear HPr HCr p0 hc
     go_wp2_with ((with_reducible refine HC.out.mono ?_);rintro e w' ⟨rfl,rfl⟩)
     go_ret2
     exact ⟨rfl,BW.out⟩
    | false =>
     rw [hc] at HC HPr
     have e9:=HPr.out
     rw [if_pos ⟨p0,rfl⟩] at e9
     subst e9
     clear HPr HCr p0 hc
     go_wp2_with ((with_reducible refine HC.out.mono ?_);rintro e w' ⟨rfl,rfl⟩)
     go_ret2
     exact ⟨rfl,BW.out⟩

structure FitP (R:Rl) (q:Int):Prop where
 side:R.side = 1 ∨ R.side = 2
 pr0:0≤R.price
 pr1:R.price≤1099511627776
 q0:1≤q
 q1:q≤1099511627776
 l0:1≤R.lot
 l1:R.lot≤1099511627776
 m0:1≤R.mode
 m1:R.mode≤2
 s0:1≤R.self
 s1:R.self≤4
theorem fit_pol {R:Rl} {q:Int} (h:FitP R q):isPol R.self = true:=by
 have h1:=h.s0
 have h2:=h.s1
 have e:R.self = 1 ∨ R.self = 2 ∨ R.self = 3 ∨ R.self = 4:=by omega
 rcases e with e | e | e | e <;> rw [e] <;> rfl
theorem oth_no {s:Int} (h:¬ (s = 1 ∨ s = 2)):othN s = 0:=by
 unfold othN
 rw [if_neg (fun e=>h (.inl e)),if_neg (fun e=>h (.inr e))]
theorem fits_c (X:Ruls) (R:Rl) (q cash:Int) (w:World) (b:Bool) (hb:b = true ↔ FitP R q) :
  Calls Tryz.prog 53 #[.agg #[.int .i64 R.acc,.int .i64 R.side,.int .i64 R.price,.int .i64 q,.int .i64 cash],.agg #[X.ver,X.ticks,.int .i64 R.lot,X.band,X.fees,X.round,.int .i64 R.mode,.int .i64 R.self,X.lay]] w fun e w'=>e = .returned (.bool b)∧Below w.heap.size w w':=by
 have HB:Hid (Below w.heap.size w ((w.alloc (.cells #[.int .i64 R.acc,.int .i64 R.side,.int .i64 R.price,.int .i64 q,.int .i64 cash] 64)).alloc (.cells #[X.ver,X.ticks,.int .i64 R.lot,X.band,X.fees,X.round,.int .i64 R.mode,.int .i64 R.self,X.lay] 68))):=Lib.hid (((Below.refl _ _).alloc (Nat.le_refl _) _).alloc (by simp) _)
 have HO:=Lib.hid (fun W=>other_c R.side W)
 by_cases h0:R.side = 1 ∨ R.side = 2
 ·have go:(othN R.side != 0) = true:=by rcases h0 with h | h <;> rw [h] <;> rfl
  by_cases h1:0≤R.price
  ·have g1:decide (0≤R.price) = true:=decide_eq_true h1
   by_cases h2:R.price≤1099511627776
   ·have g2:decide (R.price≤1099511627776) = true:=decide_eq_true h2
    by_cases h3:1≤q
    ·have g3:decide (1≤q) = true:=decide_eq_true h3
     by_cases h4:q≤1099511627776
     ·have g4:decide (q≤1099511627776) = true:=decide_eq_true h4
      by_cases h5:1≤R.lot
      ·have g5:decide (1≤R.lot) = true:=decide_eq_true h5
       by_cases h6:R.lot≤1099511627776
       ·have g6:decide (R.lot≤1099511627776) = true:=decide_eq_true h6
        by_cases h7:1≤R.mode
        ·have g7:decide (1≤R.mode) = true:=decide_eq_true h7
         by_cases h8:R.mode≤2
         ·have g8:decide (R.mode≤2) = true:=decide_eq_true h8
          by_cases h9:1≤R.self
          ·have g9:decide (1≤R.self) = true:=decide_eq_true h9
           by_cases h10:R.self≤4
           ·have g10:decide (R.self≤4) = true:=decide_eq_true h10
            have e:b = true:=hb.2 ⟨h0,h1,h2,h3,h4,h5,h6,h7,h8,h9,h10⟩
            subst e
            clear hb h1 h2 h3 h4 h5 h6 h7 h8 h9 h10
            clear h0
            go_enter Tryz.func53,Tryz.ntmps53
            go_wp2_with ((with_reducible refine (HO.out _).mono ?_);rintro e w' ⟨rfl,rfl⟩)
            go_ret
            exact ⟨rfl,HB.out⟩
           ·have e:b = false:=by
             cases b with
             | false=>rfl
             | true=>exact absurd (hb.1 rfl).s1 h10
            subst e
            have g10:decide (R.self≤4) = false:=decide_eq_false h10
            clear hb h10
            clear h1 h2 h3 h4 h5 h6 h7 h8 h9
            clear h0
            go_enter Tryz.func53,Tryz.ntmps53
            go_wp2_with ((with_reducible refine (HO.out _).mono ?_);rintro e w' ⟨rfl,rfl⟩)
            go_ret
            exact ⟨rfl,HB.out⟩
          ·have e:b = false:=by
            cases b with
            | false=>rfl
            | true=>exact absurd (hb.1 rfl).s0 h9
           subst e
           have g9:decide (1≤R.self) = false:=decide_eq_false h9
           clear hb h9
           clear h1 h2 h3 h4 h5 h6 h7 h8
           clear h0
           go_enter Tryz.func53,Tryz.ntmps53
           go_wp2_with ((with_reducible refine (HO.out _).mono ?_);rintro e w' ⟨rfl,rfl⟩)
           go_ret
           exact ⟨rfl,HB.out⟩
         ·have e:b = false:=by
           cases b with
           | false=>rfl
           | true=>exact absurd (hb.1 rfl).m1 h8
          subst e
          have g8:decide (R.mode≤2) = false:=decide_eq_false h8
          clear hb h8
          clear h1 h2 h3 h4 h5 h6 h7
          clear h0
          go_enter Tryz.func53,Tryz.ntmps53
          go_wp2_with ((with_reducible refine (HO.out _).mono ?_);rintro e w' ⟨rfl,rfl⟩)
          go_ret
          exact ⟨rfl,HB.out⟩
        ·have e:b = false:=by
          cases b with
          | false=>rfl
          | true=>exact absurd (hb.1 rfl).m0 h7
         subst e
         have g7:decide (1≤R.mode) = false:=decide_eq_false h7
         clear hb h7
         clear h1 h2 h3 h4 h5 h6
         clear h0
         go_enter Tryz.func53,Tryz.ntmps53
         go_wp2_with ((with_reducible refine (HO.out _).mono ?_);rintro e w' ⟨rfl,rfl⟩)
         go_ret
         exact ⟨rfl,HB.out⟩
       ·have e:b = false:=by
         cases b with
         | false=>rfl
         | true=>exact absurd (hb.1 rfl).l1 h6
        subst e
        have g6:decide (R.lot≤1099511627776) = false:=decide_eq_false h6
        clear hb h6
        clear h1 h2 h3 h4 h5
        clear h0
        go_enter Tryz.func53,Tryz.ntmps53
        go_wp2_with ((with_reducible refine (HO.out _).mono ?_);rintro e w' ⟨rfl,rfl⟩)
        go_ret
        exact ⟨rfl,HB.out⟩
      ·have e:b = false:=by
        cases b with
        | false=>rfl
        | true=>exact absurd (hb.1 rfl).l0 h5
       subst e
       have g5:decide (1≤R.lot) = false:=decide_eq_false h5
       clear hb h5
       clear h1 h2 h3 h4
       clear h0
       go_enter Tryz.func53,Tryz.ntmps53
       go_wp2_with ((with_reducible refine (HO.out _).mono ?_);rintro e w' ⟨rfl,rfl⟩)
       go_ret
       exact ⟨rfl,HB.out⟩
     ·have e:b = false:=by
       cases b with
       | false=>rfl
       | true=>exact absurd (hb.1 rfl).q1 h4
      subst e
      have g4:decide (q≤1099511627776) = false:=decide_eq_false h4
      clear hb h4
      clear h1 h2 h3
      clear h0
      go_enter Tryz.func53,Tryz.ntmps53
      go_wp2_with ((with_reducible refine (HO.out _).mono ?_);rintro e w' ⟨rfl,rfl⟩)
      go_ret
      exact ⟨rfl,HB.out⟩
    ·have e:b = false:=by
      cases b with
      | false=>rfl
      | true=>exact absurd (hb.1 rfl).q0 h3
     subst e
     have g3:decide (1≤q) = false:=decide_eq_false h3
     clear hb h3
     clear h1 h2
     clear h0
     go_enter Tryz.func53,Tryz.ntmps53
     go_wp2_with ((with_reducible refine (HO.out _).mono ?_);rintro e w' ⟨rfl,rfl⟩)
     go_ret
     exact ⟨rfl,HB.out⟩
   ·have e:b = false:=by
     cases b with
     | false=>rfl
     | true=>exact absurd (hb.1 rfl).pr1 h2
    subst e
    have g2:decide (R.price≤1099511627776) = false:=decide_eq_false h2
    clear hb h2
    clear h1
    clear h0
    go_enter Tryz.func53,Tryz.ntmps53
    go_wp2_with ((with_reducible refine (HO.out _).mono ?_);rintro e w' ⟨rfl,rfl⟩)
    go_ret
    exact ⟨rfl,HB.out⟩
  ·have e:b = false:=by
    cases b with
    | false=>rfl
    | true=>exact absurd (hb.1 rfl).pr0 h1
   subst e
   have g1:decide (0≤R.price) = false:=decide_eq_false h1
   clear hb h1
   clear h0
   go_enter Tryz.func53,Tryz.ntmps53
   go_wp2_with ((with_reducible refine (HO.out _).mono ?_);rintro e w' ⟨rfl,rfl⟩)
   go_ret
   exact ⟨rfl,HB.out⟩
 ·have e:b = false:=by
   cases b with
   | false=>rfl
   | true=>exact absurd (hb.1 rfl).side h0
  subst e
  have go:(othN R.side != 0) = false:=by rw [oth_no h0];rfl
  clear hb h0
  go_enter Tryz.func53,Tryz.ntmps53
  go_wp2_with ((with_reducible refine (HO.out _).mono ?_);rintro e w' ⟨rfl,rfl⟩)
  go_ret
  exact ⟨rfl,HB.out⟩

theorem nf_match {w:World} {v:Value} {k:Int} {L:List Od} {S:Nat → Prop} {g:Nat} {cs:Array Value} (h:Held w v k L S) (hg:Cl 109 w g cs):¬ S g:=fun hs=>by
 rcases h.kind hs hg with e | e | e | e | e | e | e | e <;> exact absurd e (by decide)
def encF (x:Od × Int):List Value:=encO x.1 ++ [.int .i64 x.2]
def flF (F:List (Od × Int)):List Value:=F.flatMap encF
theorem nf_fills {w:World} {v:Value} {k:Int} {L:List Od} {S:Nat → Prop} {base n size:Nat} {fv:Value} {xs:List Value} (h:Held w v k L S) (hf:w.ownsRow base 90 size fv n xs):∀ j,fv.ownBlock = some j → ¬ S j:=fun j hj hs=>by
 rcases hf.2 with ⟨rfl,_⟩ | ⟨g,cap,cur,rfl,_,hk,_⟩
 ·simp [Value.ownBlock] at hj
 ·simp only [Value.ownBlock,Option.some.injEq] at hj
  subst hj
  rcases h.kind hs hk with e | e | e | e | e | e | e | e <;> exact absurd e (by decide)
structure MW (w:World) (base g bk:Nat) (X:Ruls) (R:Rl) (v:Value) (k:Int) (S:Nat → Prop) (m:Mt) (fv dv:Value) (lf:Int) (st:Bool):Prop where
 mb:MB w g bk X R m.left m.cash fv dv lf st
 ly:LyB w bk v k m.L S
 fo:w.ownsRow base 90 7 fv m.F.length (flF m.F)
 dr:w.ownsRow base 38 6 dv m.D.length (ol m.D)
 ds:∀ j,dv.ownBlock = some j → ¬ S j
 lo:base≤w.heap.size
 fn:m.F.length≤100000
theorem info_F:(Tryz.prog.info? 90).map (fun i=>(i.zero,i.size,i.bytes)) = some (some (.agg (encF (⟨0,0,0,0,0,0⟩,0)).toArray),7,56):=by kernel_rfl
theorem encF_one (x:Od × Int):∀ u ∈ encF x,u.oneCell' = true:=by
 intro u hu
 unfold encF encO at hu
 simp only [List.cons_append,List.nil_append,List.mem_cons,List.not_mem_nil,or_false] at hu
 rcases hu with rfl | rfl | rfl | rfl | rfl | rfl | rfl <;> rfl
theorem fill_news (T:TypeId) (w:World) (x:Od × Int):∀ (j:Nat) (u:Value),(encF x)[j]? = some u → (w.alloc (Obj.cells (encF x).toArray T)).cell? ((⟨w.heap.size,0,none⟩:Addr).add j) = some u:=by
 intro j u hu
 rw [addr_add,Nat.zero_add,cell_of_row _ _ _ _ _ _ (heap_alloc_new w _)]
 simpa using hu
theorem own_allocD {w:World} {base n size:Nat} {e:TypeId} {v:Value} {xs:List Value} (h:w.ownsRow base e size v n xs) (o:Obj):(w.drew.alloc o).ownsRow base e size v n xs:=World.ownsRow.alloc (show w.drew.ownsRow base e size v n xs from h) o
theorem MW.cell {w:World} {base g bk:Nat} {X:Ruls} {R:Rl} {v:Value} {k:Int} {S:Nat → Prop} {m m':Mt} {fv dv:Value} {lf:Int} {st:Bool} (H:MW w base g bk X R v k S m fv dv lf st) {j:Nat} {u:Value}
  (hm:Cl 109 (w.setCell ⟨g,j,none⟩ u) g (mC bk X R m'.left m'.cash fv dv lf st)) (hL:m'.L = m.L) (hF:m'.F = m.F) (hD:m'.D = m.D):MW (w.setCell ⟨g,j,none⟩ u) base g bk X R v k S m' fv dv lf st:=by
 have f:Fr (fun i=>i = g) w (w.setCell ⟨g,j,none⟩ u):=(Fr.refl (fun i=>i = g) w).set (p:=⟨g,j,none⟩) (.inl rfl) _
 have hmb:Cl 109 w g _:=H.mb
 refine ⟨hm,?_,?_,?_,H.ds,Nat.le_trans H.lo f.size,by rw [hF];exact H.fn⟩
 ·rw [hL]
  refine H.ly.fr f (fun h=>?_) (fun i hi h=>?_)
  ·subst h;exact absurd (H.ly.cl.symm.trans hmb) (by simp)
  ·subst h;exact nf_match H.ly.hd hmb hi
 ·rw [hF];exact own_fr H.fo f (fun i hi h=>by subst h;exact own_ne H.fo hmb (by decide) hi)
 ·rw [hD];exact own_fr H.dr f (fun i hi h=>by subst h;exact own_ne H.dr hmb (by decide) hi)
theorem MW.drew {w:World} {base g bk:Nat} {X:Ruls} {R:Rl} {v:Value} {k:Int} {S:Nat → Prop} {m:Mt} {fv dv:Value} {lf:Int} {st:Bool} (H:MW w base g bk X R v k S m fv dv lf st):MW w.drew base g bk X R v k S m fv dv lf st :=
 ⟨hd_drew H.mb,H.ly.below ((Below.refl _ w).drew),H.fo,H.dr,H.ds,H.lo,H.fn⟩
theorem own_apart {w:World} {b b' n n' s s':Nat} {e e':TypeId} {v v':Value} {xs xs':List Value} (h:w.ownsRow b e s v n xs) (h':w.ownsRow b' e' s' v' n' xs') (hne:e ≠ e'):∀ j,v.ownBlock = some j → ¬ v'.ownBlock = some j:=fun j hj hj'=>by
 rcases h'.2 with ⟨rfl,_⟩ | ⟨g,cap,cur,rfl,_,hk,_⟩
 ·simp [Value.ownBlock] at hj'
 ·simp only [Value.ownBlock,Option.some.injEq] at hj'
  subst hj'
  exact own_ne h hk hne hj
theorem own_lowW {w:World} {b n s:Nat} {e:TypeId} {v:Value} {xs:List Value} (h:w.ownsRow b e s v n xs):∀ j,v.ownBlock = some j → j < w.heap.size:=fun j hj=>by
 rcases h.2 with ⟨rfl,_⟩ | ⟨g,cap,cur,rfl,_,hk,_⟩
 ·simp [Value.ownBlock] at hj
 ·simp only [Value.ownBlock,Option.some.injEq] at hj
  subst hj
  exact blk_lt hk
theorem fill_rel {w y1 w3:World} {base g bk gg cp:Nat} {X:Ruls} {R:Rl} {v:Value} {k:Int} {S S':Nat → Prop} {L L':List Od} {left cash:Int} {F:List (Od × Int)} {D:List Od} {fv dv:Value} {lf:Int} {st:Bool} {x:Od} {q:Int} {o:Obj}
  (hly:LyB w bk v k L S) (hfo:w.ownsRow base 90 7 fv F.length (flF F)) (hdr:w.ownsRow base 38 6 dv D.length (ol D)) (hds:∀ j,dv.ownBlock = some j → ¬ S j) (hlo:base≤w.heap.size) (hfn:F.length < 100000)
  (h3:HTurn w y1 v k S L' S') (hg:Cl 109 y1 g (mC bk X R left cash fv dv lf st)) (hx:Cl 38 y1 w.heap.size (OC x)) (hfo1:y1.ownsRow base 90 7 fv F.length (flF F))
  (hown:w3.ownsRow base 90 7 (.slice (some ⟨gg,0,none⟩) (F.length + 1) cp) (F.length + 1) (flF F ++ encF (x,q))) (hgr:(y1.drew.alloc o).grownBy w3 fv.ownBlock) (hat:fv.ownBlock = some gg ∨ gg = y1.heap.size + 1) (hg3:Cl 109 w3 g (mC bk X R left cash fv dv lf st)) (hgw:g < w.heap.size) :
  MW (w3.setCell ⟨g,15,none⟩ (.slice (some ⟨gg,0,none⟩) (F.length + 1) cp)) base g bk X R v k S' ⟨L',left,cash,F ++ [(x,q)],D⟩ (.slice (some ⟨gg,0,none⟩) (F.length + 1) cp) dv lf st ∧
  Fr (fun j=>S j ∨ j = g ∨ fv.ownBlock = some j) w (w3.setCell ⟨g,15,none⟩ (.slice (some ⟨gg,0,none⟩) (F.length + 1) cp))∧(∀ j,S' j → S j ∨ w.heap.size≤j)∧(fv.ownBlock = some gg ∨ w.heap.size≤gg) ∧
  Cl 38 (w3.setCell ⟨g,15,none⟩ (.slice (some ⟨gg,0,none⟩) (F.length + 1) cp)) w.heap.size (OC x):=by
 have f3:Fr (fun j=>j = g ∨ fv.ownBlock = some j) y1 (w3.setCell ⟨g,15,none⟩ (.slice (some ⟨gg,0,none⟩) (F.length + 1) cp)) :=
  ((((Fr.refl _ y1).drew).alloc o).grown hgr (fun j hj=>.inl (.inr hj))).set (p:=⟨g,15,none⟩) (.inl (.inl rfl)) _
 have hly1:=hly.turn h3
 have hdr1:=own_fr hdr h3.fr hds
 have lw:=own_lowW hdr
 have nfg:fv.ownBlock ≠ some g:=own_ne hfo1 hg (by decide)
 refine ⟨⟨?_,?_,?_,?_,fun j hj hs=>?_,Nat.le_trans hlo (Nat.le_trans h3.fr.size f3.size),?_⟩,?_,h3.ft,?_,?_⟩
 ·exact heap_set hg3
 ·refine hly1.fr f3 (fun h=>?_) (fun j hj h=>?_)
  ·rcases h with h | h
   ·subst h;exact absurd (hly1.cl.symm.trans hg) (by simp)
   ·exact own_ne hfo1 hly1.cl (by decide) h
  ·rcases h with h | h
   ·subst h;exact nf_match hly1.hd hg hj
   ·exact nf_fills hly1.hd hfo1 j h hj
 ·have:(w3.setCell ⟨g,15,none⟩ (.slice (some ⟨gg,0,none⟩) (F.length + 1) cp)).ownsRow base 90 7 (.slice (some ⟨gg,0,none⟩) (F.length + 1) cp) (F.length + 1) (flF F ++ encF (x,q)):=own_fr hown ((Fr.refl (fun j=>j = g) w3).set (p:=⟨g,15,none⟩) (.inl rfl) _) (fun j hj h=>by subst h;exact own_ne hown hg3 (by decide) hj)
  simpa [flF] using this
 ·refine own_fr hdr1 f3 (fun j hj h=>?_)
  rcases h with h | h
  ·subst h;exact own_ne hdr1 hg (by decide) hj
  ·exact own_apart hdr1 hfo1 (by decide) j hj h
 ·rcases h3.ft j hs with h | h
  ·exact hds j hj h
  ·have:=lw j hj;omega
 ·show (F ++ [(x,q)]).length≤100000
  rw [List.length_append];simp;omega
 ·exact (h3.fr.mono (fun j hj=>.inl (.inl hj))).trans f3 (fun j hj=>.inl (.inr hj))
 ·rcases hat with h | h
  ·exact .inl h
  ·right;have:=h3.fr.size;omega
 ·refine f3.blk hx (fun h=>?_)
  rcases h with h | h
  ·omega
  ·have:=own_lowW hfo _ h;omega
theorem fill_w (base g bk:Nat) (X:Ruls) (R:Rl) (v:Value) (k:Int) (S:Nat → Prop) (m:Mt) (fv dv:Value) (lf:Int) (st:Bool) (x:Od) (q:Int) (w:World) (H:MW w base g bk X R v k S m fv dv lf st) (hx:Od.ok w x) (hfl:m.F.length < 100000) (hq0:1≤q) (hq1:q≤m.left) (hq2:m.left≤1099511627776) (hp0:1≤x.price) (hpc:payB R.side m.cash = true → x.price * q≤m.cash) (hcr:InR m.cash) :
  Calls Tryz.prog 95 #[ptA g,.agg (OC x),.int .i64 q] w fun e w'=>e = .returned (.tuple #[])∧∃ (gg cp:Nat) (S':Nat → Prop),Hid (MW w' base g bk X R v k S' (fil1 (payB R.side m.cash) m x q) (.slice (some ⟨gg,0,none⟩) (m.F.length + 1) cp) dv lf st)∧Hid (Fr (fun j=>S j ∨ j = g ∨ fv.ownBlock = some j) w w')∧Hid (∀ j,S' j → S j ∨ w.heap.size≤j)∧Hid (fv.ownBlock = some gg ∨ w.heap.size≤gg):=by
 obtain ⟨hmb,hly,hfo,hdr,hds,hlo,-⟩:=H
 obtain ⟨L,left,cash,F,D⟩:=m
 dsimp only at hmb hly hfo hdr hfl hq1 hq2 hpc hcr
 rw [show fil1 (payB R.side cash) ⟨L,left,cash,F,D⟩ x q = ⟨(cutR x.id q L).2,left - q,if payB R.side cash = true then cash - x.price * q else cash,F ++ [(x,q)],D⟩ from if_pos (by omega)]
 obtain ⟨pb,hpb⟩:∃ b,payB R.side cash = b:=⟨_,rfl⟩
 rw [hpb] at hpc ⊢
 have HPB:=Lib.hid hpb
 clear hpb
 have HPC:=Lib.hid hpc
 have HCR:=Lib.hid hcr
 have HQ:=Lib.hid (And.intro hq0 (And.intro hq1 (And.intro hq2 hp0)))
 clear hpc hcr hq0 hq1 hq2 hp0
 have HGw:=Lib.hid (blk_lt hmb)
 obtain ⟨w0,hw0⟩:∃ w0,w.alloc (.cells (OC x) 38) = w0:=⟨_,rfl⟩
 have b0:Below w.heap.size w w0:=by rw [← hw0];exact b1_of _ _
 have c0:Cl 38 w0 w.heap.size (OC x):=by rw [← hw0];exact hd_last rfl
 have HC0:Hid (Cl 109 w0.drew g (mC bk X R left cash fv dv lf st)∧Cl 38 w0.drew w.heap.size (OC x)):=Lib.hid ⟨hd_drew (Cl.bel hmb b0),hd_drew c0⟩
 have NF:Hid (¬ S w.heap.size):=Lib.hid (fun h=>Nat.lt_irrefl _ (hly.hd.lt _ h))
 have NG:Hid (¬ S g):=Lib.hid (nf_match hly.hd hmb)
 have HCt:=Lib.hid (fun W (hW:Below w0.heap.size w0 W)=>yCut_c bk v k L S x.id q (wf_u hx.1) W ((hly.below b0).below hW))
 have HB0:=Lib.hid b0
 have HLY:=Lib.hid hly
 have HFO:=Lib.hid hfo
 have HDR:=Lib.hid hdr
 have HDS:=Lib.hid hds
 have HLO:=Lib.hid hlo
 clear hmb hly hfo hdr hds hlo b0 c0
 go_enter Tryz.func95,Tryz.ntmps95
 go_upto_region 1 with fail
 refine wp_region_held_drew (S:=fun W=>Cl 109 W g (mC bk X R left cash fv dv lf st)∧Cl 38 W w.heap.size (OC x)) (by kernel_rfl) (by exact HC0.out) (fun hHeld=>?_)
 refine tkH 0 ?_ ?_ (by assumption) ?_
 rotate_left
 ·(intro w hSw;(try dsimp only at hSw);go_simp;try with_reducible rfl)
 (try simp only [zz])
 refine tkH 1 ?_ ?_ (by assumption) ?_
 rotate_left
 ·(intro w hSw;(try dsimp only at hSw);go_simp;try with_reducible rfl)
 (try simp only [zz])
 refine tkH 2 ?_ ?_ (by assumption) ?_
 rotate_left
 ·(intro w hSw;(try dsimp only at hSw);go_simp;try with_reducible rfl)
 (try simp only [zz])
 refine tkH 3 ?_ ?_ (by assumption) ?_
 rotate_left
 ·(intro w hSw;have hs:=(hSw.1.c 0).trans rfl;(try dsimp only at hSw);go_simp;try with_reducible rfl)
 (try simp only [zz])
 refine tkH 4 ?_ ?_ (by assumption) ?_
 rotate_left
 ·(intro w hSw;(try dsimp only at hSw);go_simp;try with_reducible rfl)
 (try simp only [zz])
 refine tkH 5 ?_ ?_ (by assumption) ?_
 rotate_left
 ·(intro w hSw;have hs:=(hSw.2.c 0).trans rfl;(try dsimp only at hSw);go_simp;try with_reducible rfl)
 (try simp only [zz])
 refine tkH 6 ?_ ?_ (by assumption) ?_
 rotate_left
 ·(intro w hSw;(try dsimp only at hSw);go_simp;try with_reducible rfl)
 (try simp only [zz])
 refine rdH 7 (fun K hK=>?_)
 go_simp
 ((with_reducible refine (HCt.out _ ((Below.refl _ _).drew)).mono ?_);rintro e y1 ⟨S',rfl,h2⟩)
 have h3:=Lib.hid (HTurn.after (HB0.out.trans ((Below.refl _ w0).drew.mono HB0.out.size)) h2.out)
 refine hK.out _ _ (by exact ⟨h2.out.fr.blk hHeld.1 NG.out,h2.out.fr.blk hHeld.2 NF.out⟩) (fun hHeld=>?_)
 clear hK K
 (try simp only [zz])
 refine wpAnyH_done (by kernel_rfl) ?_ _
 obtain ⟨i0,hi0,hz0,hz1,hz2⟩:=info_parts info_F
 have g15:y1.cell? ⟨g,15,none⟩ = some fv:=(hHeld.1.c 15).trans rfl
 obtain ⟨x0,x1,x2,x3,x4,x5⟩:=six_of hHeld.2
 have HG1:=Lib.hid hHeld.1
 have hx1:=hHeld.2
 have lg:=blk_lt hHeld.1
 have HFO1:=Lib.hid (own_fr HFO.out h3.out.fr (nf_fills HLY.out.hd HFO.out))
 have Hsz:Hid (base≤y1.heap.size):=Lib.hid (Nat.le_trans HLO.out h3.out.fr.size)
 have Hng:Hid (fv.ownBlock ≠ some g):=Lib.hid (own_ne HFO1.out HG1.out (by decide))
 have HFn:=Lib.hid hfl
 clear hHeld hfl
 have HX1:=Lib.hid hx1
 clear hx1
 go_upto_region 2 with fail
 go_cut [] (fun wx=>∃ (gg cp:Nat) (S':Nat → Prop),Hid (MW wx base g bk X R v k S' ⟨(cutR x.id q L).2,left,cash,F ++ [(x,q)],D⟩ (.slice (some ⟨gg,0,none⟩) (F.length + 1) cp) dv lf st)∧Hid (Fr (fun j=>S j ∨ j = g ∨ fv.ownBlock = some j) w wx)∧Hid (∀ j,S' j → S j ∨ w.heap.size≤j)∧Hid (fv.ownBlock = some gg ∨ w.heap.size≤gg)∧Hid (Cl 38 wx w.heap.size (OC x)))
 case first =>
  go_region_law
   ((refine step_append_lies _ (by rfl) _ _ 69 (by rfl) base 90 i0 (.agg (encF (⟨0,0,0,0,0,0⟩,0)).toArray) 7 56 Tryz.underlying69 hi0 hz0 hz1 hz2 rfl (by decide) fv F.length (flF F) (by rfl) (own_allocD HFO1.out _) ⟨y1.heap.size,0,none⟩ 1 1 (encF (x,q)) (by rfl) (by rfl) (fill_news _ _ (x,q)) (encF_one (x,q)) (by decide) (by unfold maxLen;have:=HFn.out;omega) (by have:=HFn.out;omega) (by have:=Hsz.out;simp;omega) (y1.heap.size + 1) (by simp) ?_;intro gg cp w3 hown3 hgrow hat hlt;have hg3:Cl 109 w3 g (mC bk X R left cash fv dv lf st):=(hgrow.block g (Nat.lt_of_lt_of_le lg (by simp)) (Ne.symm Hng.out)).trans ((Below.heap_alloc y1.drew _ g lg).trans HG1.out);have HG3:=Lib.hid hg3;have HW3:=Lib.hid hown3;have HGR:=Lib.hid hgrow;have HAT:=Lib.hid hat;have cg15:w3.frozen? ⟨g,15,none⟩ = false:=frozen_of_row _ _ _ _ _ hg3;have cv15:w3.cell? ⟨g,15,none⟩ = some fv:=(hg3.c 15).trans rfl))
  all_goals
   go_wp2_with fail
   go_meet
   obtain ⟨r1,r2,r3,r4,r5⟩:=fill_rel HLY.out HFO.out HDR.out HDS.out HLO.out HFn.out h3.out HG1.out HX1.out HFO1.out HW3.out HGR.out HAT.out HG3.out HGw.out
   exact ⟨_,_,_,Lib.hid r1,Lib.hid r2,Lib.hid r3,Lib.hid r4,Lib.hid r5⟩
 case rest =>
  obtain ⟨gg,cp,S2,hM,hF2,hS2,hg2,hO2⟩:=hcut
  have gm:Cl 109 wc g (mC bk X R left cash (.slice (some ⟨gg,0,none⟩) (F.length + 1) cp) dv lf st):=hM.out.mb
  have g13:wc.cell? ⟨g,13,none⟩ = some (.int .i64 left):=(gm.c 13).trans rfl
  have f13:wc.frozen? ⟨g,13,none⟩ = false:=frozen_of_row _ _ _ _ _ gm
  obtain ⟨hq0,hq1,hq2,hp0⟩:=HQ.out
  have hsub:IntKind.i64.wrap (left - q) = left - q:=by rw [IntKind.wrap_i64];omega
  have gm1:Cl 109 (wc.setCell ⟨g,13,none⟩ (.int .i64 (left - q))) g (mC bk X R (left - q) cash (.slice (some ⟨gg,0,none⟩) (F.length + 1) cp) dv lf st):=heap_set gm
  have HP:=Lib.hid (pays_c g bk X R (left - q) cash _ dv lf st _ gm1)
  rw [HPB.out] at HP
  have f1:Fr (fun j=>S j ∨ j = g ∨ fv.ownBlock = some j) w (wc.setCell ⟨g,13,none⟩ (.int .i64 (left - q))):=hF2.out.set (p:=⟨g,13,none⟩) (.inl (.inr (.inl rfl))) _
  have M1:=Lib.hid (MW.cell (m':=⟨(cutR x.id q L).2,left - q,cash,F ++ [(x,q)],D⟩) hM.out gm1 rfl rfl rfl)
  have HG4:=Lib.hid gm1
  have F1:=Lib.hid f1
  have hne:w.heap.size ≠ g:=by have:=HGw.out;omega
  have hb3:(wc.setCell ⟨g,13,none⟩ (.int .i64 (left - q))).cell? ⟨w.heap.size,3,none⟩ = some (.int .i64 x.price):=(Cl.c (show Cl 38 _ w.heap.size (OC x) from (heap_far (by simpa using hne)).trans hO2.out) 3).trans rfl
  have HB3:=Lib.hid hb3
  clear gm gm1 f1 hne hb3 h2 h3 HLY HFO HDR HDS HLO HFO1 HG1 HX1 HC0 HCt
  cases pb with
  | false =>
   clear HPC HPB
   go_wp2_with ((with_reducible refine HP.out.mono ?_);rintro e w' ⟨rfl,rfl⟩)
   go_end0
   exact ⟨rfl,gg,cp,S2,M1,F1,hS2,hg2⟩
  | true =>
   have hpc:=HPC.out rfl
   have hpn:0≤x.price * q:=Int.mul_nonneg (by omega) (by omega)
   have hcr:=HCR.out.2
   have hc0:0≤cash:=by omega
   have hmul:IntKind.i64.wrap (x.price * q) = x.price * q:=by rw [IntKind.wrap_i64];omega
   have hsb:IntKind.i64.wrap (cash - x.price * q) = cash - x.price * q:=by rw [IntKind.wrap_i64];omega
   have b3:=HB3.out
   have g14:(wc.setCell ⟨g,13,none⟩ (.int .i64 (left - q))).cell? ⟨g,14,none⟩ = some (.int .i64 cash):=(HG4.out.c 14).trans rfl
   have e14:(wc.setCell ⟨g,13,none⟩ (.int .i64 (left - q))).frozen? ⟨g,14,none⟩ = false:=frozen_of_row _ _ _ _ _ HG4.out
   have gm2:Cl 109 ((wc.setCell ⟨g,13,none⟩ (.int .i64 (left - q))).setCell ⟨g,14,none⟩ (.int .i64 (cash - x.price * q))) g (mC bk X R (left - q) (cash - x.price * q) (.slice (some ⟨gg,0,none⟩) (F.length + 1) cp) dv lf st):=heap_set HG4.out
   have M2:=Lib.hid (MW.cell (m':=⟨(cutR x.id q L).2,left - q,cash - x.price * q,F ++ [(x,q)],D⟩) M1.out gm2 rfl rfl rfl)
   have F2:=Lib.hid (F1.out.set (p:=⟨g,14,none⟩) (.inl (.inr (.inl rfl))) (.int .i64 (cash - x.price * q)))
   clear gm2 HG4 HB3 M1 F1 HPC HPB hpc hpn hcr hc0 hq0 hq1 hq2 hp0
   go_upto_region 5 with ((with_reducible refine HP.out.mono ?_);rintro e w' ⟨rfl,rfl⟩)
   go_region
   all_goals
    go_wp2_with fail
    go_end0
    exact ⟨rfl,gg,cp,S2,Lib.hid M2.out.drew,Lib.hid F2.out.drew,hS2,hg2⟩

theorem MW.below {w w':World} {base g bk:Nat} {X:Ruls} {R:Rl} {v:Value} {k:Int} {S:Nat → Prop} {m:Mt} {fv dv:Value} {lf:Int} {st:Bool} (H:MW w base g bk X R v k S m fv dv lf st) (hb:Below w.heap.size w w'):MW w' base g bk X R v k S m fv dv lf st:=by
 have f:Fr (fun _=>False) w w':=Fr.of_below hb
 exact ⟨Cl.bel H.mb hb,H.ly.below hb,own_fr H.fo f (fun _ _ h=>h),own_fr H.dr f (fun _ _ h=>h),H.ds,Nat.le_trans H.lo hb.size,H.fn⟩
theorem payN_most (R:Rl) (m:Mt) (p:Int):payN R m.cash p m.left = mostM R m p:=rfl

def Ft (S:Nat → Prop) (g:Nat) (fv dv:Value) (j:Nat):Prop:=S j ∨ j = g ∨ fv.ownBlock = some j ∨ dv.ownBlock = some j
structure MTurn (w w':World) (base g bk:Nat) (X:Ruls) (R:Rl) (v:Value) (k:Int) (S S1:Nat → Prop) (m1:Mt) (fv dv fv1 dv1:Value) (lf:Int) (st:Bool):Prop where
 mw:MW w' base g bk X R v k S1 m1 fv1 dv1 lf st
 fr:Fr (Ft S g fv dv) w w'
 ft:∀ j,S1 j → S j ∨ w.heap.size≤j
 ff:∀ j,fv1.ownBlock = some j → fv.ownBlock = some j ∨ w.heap.size≤j
 fd:∀ j,dv1.ownBlock = some j → dv.ownBlock = some j ∨ w.heap.size≤j
section
variable {w w' w'' : World} {base g bk : Nat} {X : Ruls} {R : Rl} {v : Value} {k : Int} {S S1 S2 : Nat → Prop} {m m1 m2 : Mt} {fv dv fv1 dv1 fv2 dv2 : Value} {lf : Int} {st : Bool}
theorem MTurn.same (H:MW w base g bk X R v k S m fv dv lf st):MTurn w w base g bk X R v k S S m fv dv fv dv lf st:=⟨H,Fr.refl _ _,fun _ h=>.inl h,fun _ h=>.inl h,fun _ h=>.inl h⟩
theorem MTurn.bel (H:MW w base g bk X R v k S m fv dv lf st) (hb:Below w.heap.size w w'):MTurn w w' base g bk X R v k S S m fv dv fv dv lf st:=⟨H.below hb,Fr.of_below hb,fun _ h=>.inl h,fun _ h=>.inl h,fun _ h=>.inl h⟩
theorem MTurn.trans {lf0:Int} {st0:Bool} (h:MTurn w w' base g bk X R v k S S1 m1 fv dv fv1 dv1 lf0 st0) (h2:MTurn w' w'' base g bk X R v k S1 S2 m2 fv1 dv1 fv2 dv2 lf st):MTurn w w'' base g bk X R v k S S2 m2 fv dv fv2 dv2 lf st:=by
 have hs:=h.fr.size
 refine ⟨h2.mw,h.fr.trans h2.fr (fun j hj=>?_),fun j hj=>?_,fun j hj=>?_,fun j hj=>?_⟩
 ·rcases hj with hj | hj | hj | hj
  ·exact (h.ft j hj).imp .inl id
  ·exact .inl (.inr (.inl hj))
  ·exact (h.ff j hj).imp (fun h=>.inr (.inr (.inl h))) id
  ·exact (h.fd j hj).imp (fun h=>.inr (.inr (.inr h))) id
 ·rcases h2.ft j hj with hj | hj
  ·exact h.ft j hj
  ·right;omega
 ·rcases h2.ff j hj with hj | hj
  ·exact h.ff j hj
  ·right;omega
 ·rcases h2.fd j hj with hj | hj
  ·exact h.fd j hj
  ·right;omega
theorem MTurn.grow (h:MTurn w w' base g bk X R v k S S1 m1 fv dv fv1 dv1 lf st) (hb:Below w'.heap.size w' w''):MTurn w w'' base g bk X R v k S S1 m1 fv dv fv1 dv1 lf st:=h.trans (MTurn.bel h.mw hb)
theorem MTurn.after (hb:Below w.heap.size w w') (h:MTurn w' w'' base g bk X R v k S S1 m1 fv dv fv1 dv1 lf st):MTurn w w'' base g bk X R v k S S1 m1 fv dv fv1 dv1 lf st:=by
 have hs:=hb.size
 exact ⟨h.mw,(Fr.of_below hb:Fr (Ft S g fv dv) w w').trans h.fr (fun _ h=>.inl h),fun j hj=>(h.ft j hj).imp id (fun h=>by omega),fun j hj=>(h.ff j hj).imp id (fun h=>by omega),fun j hj=>(h.fd j hj).imp id (fun h=>by omega)⟩
theorem MW.lt (H:MW w base g bk X R v k S m fv dv lf st):∀ j,Ft S g fv dv j → j < w.heap.size:=fun j hj=>by
 rcases hj with hj | hj | hj | hj
 ·exact H.ly.hd.lt j hj
 ·subst hj;exact blk_lt H.mb
 ·exact own_lowW H.fo j hj
 ·exact own_lowW H.dr j hj
theorem MW.far (H:MW w base g bk X R v k S m fv dv lf st) {j:Nat} (hj:w.heap.size≤j):¬ Ft S g fv dv j:=fun h=>by have:=H.lt j h;omega
theorem MTurn.fill {gg nf cp:Nat} (hM:MW w' base g bk X R v k S1 m1 (.slice (some ⟨gg,0,none⟩) nf cp) dv lf st) (hF:Fr (fun j=>S j ∨ j = g ∨ fv.ownBlock = some j) w w') (hS:∀ j,S1 j → S j ∨ w.heap.size≤j) (hg:fv.ownBlock = some gg ∨ w.heap.size≤gg) :
  MTurn w w' base g bk X R v k S S1 m1 fv dv (.slice (some ⟨gg,0,none⟩) nf cp) dv lf st:=by
 refine ⟨hM,hF.mono (fun j hj=>.inl ?_),hS,fun j hj=>?_,fun j hj=>.inl hj⟩
 ·rcases hj with hj | hj | hj
  ·exact .inl hj
  ·exact .inr (.inl hj)
  ·exact .inr (.inr (.inl hj))
 ·simp only [Value.ownBlock,Option.some.injEq] at hj
  subst hj;exact hg
end
theorem filN_flen {pay:Bool} {l:List Od} {f:Nat → Int} {m:Mt}:∀ k,(filN pay l f m k).F.length≤m.F.length + k
 | 0=>Nat.le_refl _
 | k + 1=>by
  have ih:=filN_flen (pay:=pay) (l:=l) (f:=f) (m:=m) k
  simp only [filN]
  unfold fil1
  split
  ·simp only [List.length_append,List.length_singleton];omega
  ·omega
structure FillOk (R:Rl) (m:Mt) (p:Int) (i:Nat) (mi:Mt):Prop where
 q1:fM R m p i≤mi.left
 q2:mi.left≤1099511627776
 p0:1≤((lvM R m p)[i]!).price
 pay:payB R.side mi.cash = payM R m
 pc:payB R.side mi.cash = true → ((lvM R m p)[i]!).price * fM R m p i≤mi.cash
 cr:InR mi.cash
 fl:mi.F.length≤m.F.length + i
theorem fill_ok {R:Rl} {m:Mt} {p:Int} (hg:GM m) (hp:1≤p) (hl:1≤R.lot) (hno:¬ NoM R m p) (h0:m.left≤1099511627776) (hc:InR m.cash) {i:Nat} (hi:i < nM R m p) (hq:0 < fM R m p i) :
  FillOk R m p i (filN (payM R m) (lvM R m p) (fM R m p) m i):=by
 have A:=fil_is hg hp hl hno (Nat.le_of_lt hi)
 have B:=fil_is hg hp hl hno (show i + 1≤nM R m p from hi)
 have S:=fM_sum hno (Nat.le_of_lt hi)
 have e:sF (fM R m p) (i + 1) = sF (fM R m p) i + fM R m p i:=rfl
 have hx:=lv_mem (bang_mem (Nat.lt_of_lt_of_le hi nM_le))
 have hpr:=(good_is (hg.gd _ hx.1)).2.2.2.1
 have b1:=B.l1
 have b0:=B.l0
 have a1:=A.l1
 rw [e] at b1
 have hpay:payB R.side (filN (payM R m) (lvM R m p) (fM R m p) m i).cash = payM R m:=by
  cases hpm:payM R m with
  | true =>
   have c:=A.c0 hpm
   have h1:(R.side == 1) = true:=by unfold payM at hpm;simp only [Bool.and_eq_true] at hpm;exact hpm.1
   rw [hpm] at c
   unfold payB
   rw [h1,decide_eq_true c.1];rfl
  | false =>
   have c:=A.c1 hpm
   rw [hpm] at c
   unfold payB
   rw [c];exact hpm
 refine ⟨by omega,by omega,hpr,hpay,fun hp2=>?_,?_,filN_flen i⟩
 ·rw [hpay] at hp2
  have ca:=A.c0 hp2
  have cb:=B.c0 hp2
  rw [e,Int.mul_add] at cb
  rw [hx.2.2];omega
 ·cases hpm:payM R m with
  | true =>
   have c:=A.c0 hpm
   rw [hpm] at c
   have:=Int.mul_nonneg (show 0≤p by omega) S.1
   unfold InR at hc ⊢;omega
  | false =>
   have c:=A.c1 hpm
   rw [hpm] at c
   rw [c];exact hc
def eB (f:Nat → Int) (l:List Od) (b:Bool):Nat → Bool
 | 0=>b
 | i + 1=>eB f l b i && (f i == (l[i]!).qty)
theorem eB_iff {f:Nat → Int} {l:List Od} {b:Bool}:∀ i,eB f l b i = true ↔ b = true∧∀ j,j < i → f j = (l[j]!).qty
 | 0=>⟨fun h=>⟨h,fun j hj=>absurd hj (Nat.not_lt_zero _)⟩,fun h=>h.1⟩
 | i + 1=>by
  rw [eB,Bool.and_eq_true,eB_iff i,beq_iff_eq]
  constructor
  ·rintro ⟨⟨h1,h2⟩,h3⟩
   refine ⟨h1,fun j hj=>?_⟩
   by_cases e:j = i
   ·subst e;exact h3
   ·exact h2 j (by omega)
  ·rintro ⟨h1,h2⟩
   exact ⟨⟨h1,fun j hj=>h2 j (by omega)⟩,h2 i (by omega)⟩
theorem emp_is {R:Rl} {m:Mt} {p:Int} {mm:Nat} (h:(mm = 0∧NoM R m p) ∨ (mm = nM R m p∧¬ NoM R m p)) :
  eB (fM R m p) (lvM R m p) ((mm:Int) == (nM R m p:Int)) mm = true ↔ EmpM R m p:=by
 rw [eB_iff]
 unfold EmpM
 rcases h with ⟨rfl,hn⟩ | ⟨rfl,hn⟩
 ·constructor
  ·rintro ⟨h1,_⟩;left;simp at h1;omega
  ·rintro (h | h)
   ·exact ⟨by rw [h];rfl,fun j hj=>absurd hj (Nat.not_lt_zero _)⟩
   ·exact absurd hn h.1
 ·constructor
  ·rintro ⟨_,h2⟩;exact .inr ⟨hn,h2⟩
  ·rintro (h | h)
   ·exact ⟨by simp,fun j hj=>by omega⟩
   ·exact ⟨by simp,h.2⟩
theorem aft_fil {R:Rl} {m:Mt} {p:Int} {mm:Nat} (h:(mm = 0∧NoM R m p) ∨ (mm = nM R m p∧¬ NoM R m p)):filN (payM R m) (lvM R m p) (fM R m p) m mm = aftM R m p:=by
 unfold aftM
 rcases h with ⟨rfl,hn⟩ | ⟨rfl,hn⟩
 ·rw [if_pos hn];rfl
 ·rw [if_neg hn]

def TrdEnd (w:World) (base g bk:Nat) (X:Ruls) (R:Rl) (v:Value) (k:Int) (S:Nat → Prop) (m:Mt) (fv dv:Value) (lf:Int) (st:Bool) (p:Int) (e:Ending) (w':World):Prop :=
 ∃ (em:Bool) (fv':Value) (S':Nat → Prop),e = .returned (.bool em)∧Hid ((em = true ↔ EmpM R m p)∧MTurn w w' base g bk X R v k S S' (aftM R m p) fv dv fv' dv lf st)
theorem fr_cell {S:Nat → Prop} {w w':World} {b j:Nat} {u:Value} (h:Fr S w w') (hb:b < w.heap.size) (hn:¬ S b) (hc:w.cell? ⟨b,j,none⟩ = some u):w'.cell? ⟨b,j,none⟩ = some u :=
 (World.cell?_of_block (w:=w) (a:=⟨b,j,none⟩) (h.block b hb hn)).trans hc
theorem fr_at {S:Nat → Prop} {w w':World} {b o:Nat} {x:Od} (h:Fr S w w') (hb:b < w.heap.size) (hn:¬ S b) (hc:x.at w b o):x.at w' b o:=by
 unfold Od.at at hc ⊢
 obtain ⟨h0,h1,h2,h3,h4,h5⟩:=hc
 exact ⟨fr_cell h hb hn h0,fr_cell h hb hn h1,fr_cell h hb hn h2,fr_cell h hb hn h3,fr_cell h hb hn h4,fr_cell h hb hn h5⟩
theorem fr_rowI {S:Nat → Prop} {w w':World} {b n:Nat} {T:TypeId} {f:Nat → Value} (h:Fr S w w') (hn:¬ S b) (hr:w.rowIs b T n f):w'.rowIs b T n f :=
 hr.of_block (h.block b hr.lt hn)
structure TdIn (w w3 wr:World) (base g bk:Nat) (X:Ruls) (R:Rl) (v:Value) (k:Int) (S S1:Nat → Prop) (m m1:Mt) (fv dv fv1:Value) (lf:Int) (st:Bool) (p:Int) (A PA:Option Addr) (n mm:Nat):Prop where
 tu:MTurn w3 wr base g bk X R v k S S1 m1 fv dv fv1 dv lf st
 c3:wr.cell? ⟨w.heap.size,0,none⟩ = some (ptA g)
 run:Ods wr A n ((lvM R m p).take n)
 par:mm = 0 ∨ ∃ b,PA = some ⟨b,0,none⟩∧wr.rowIs b 2 mm (fun i=>.int .i64 (fM R m p i))∧¬ Ft S1 g fv1 dv b
theorem TdIn.next {w w3 wr w5:World} {base g bk:Nat} {X:Ruls} {R:Rl} {v:Value} {k:Int} {S S1 S2:Nat → Prop} {m m1 m2:Mt} {fv dv fv1 fv2:Value} {lf:Int} {st:Bool} {p:Int} {A PA:Option Addr} {n mm:Nat}
  (h:TdIn w w3 wr base g bk X R v k S S1 m m1 fv dv fv1 lf st p A PA n mm) (t:MTurn wr w5 base g bk X R v k S1 S2 m2 fv1 dv fv2 dv lf st) (hc:w.heap.size < wr.heap.size) (hc3:¬ Ft S1 g fv1 dv w.heap.size) (hA:∀ b off,A = some ⟨b,off,none⟩ → ¬ Ft S1 g fv1 dv b) :
  TdIn w w3 w5 base g bk X R v k S S2 m m2 fv dv fv2 lf st p A PA n mm:=by
 refine ⟨h.tu.trans t,fr_cell t.fr hc hc3 h.c3,ods_fr h.run t.fr hA,?_⟩
 rcases h.par with h0 | ⟨b,e,hr,hn⟩
 ·exact .inl h0
 ·refine .inr ⟨b,e,fr_rowI t.fr hn hr,fun hf=>?_⟩
  have hb:=hr.lt
  rcases hf with hf | hf | hf | hf
  ·rcases t.ft b hf with h1 | h1
   ·exact hn (.inl h1)
   ·omega
  ·exact hn (.inr (.inl hf))
  ·rcases t.ff b hf with h1 | h1
   ·exact hn (.inr (.inr (.inl h1)))
   ·omega
  ·exact hn (.inr (.inr (.inr hf)))
theorem TdIn.far {w w3 wr:World} {base g bk:Nat} {X:Ruls} {R:Rl} {v:Value} {k:Int} {S S1:Nat → Prop} {m m1:Mt} {fv dv fv1:Value} {lf:Int} {st:Bool} {p:Int} {A PA:Option Addr} {n mm:Nat}
  (h:TdIn w w3 wr base g bk X R v k S S1 m m1 fv dv fv1 lf st p A PA n mm) {b:Nat} (hb:b < w3.heap.size) (hn:¬ Ft S g fv dv b):¬ Ft S1 g fv1 dv b:=fun hf=>by
 rcases hf with hf | hf | hf | hf
 ·rcases h.tu.ft b hf with h1 | h1
  ·exact hn (.inl h1)
  ·omega
 ·exact hn (.inr (.inl hf))
 ·rcases h.tu.ff b hf with h1 | h1
  ·exact hn (.inr (.inr (.inl h1)))
  ·omega
 ·exact hn (.inr (.inr (.inr hf)))
theorem qs_run {R:Rl} {m:Mt} {p:Int} {n:Nat} (hn:n = nM R m p):qs ((lvM R m p).take n) = QM R m p:=by subst hn;rfl
theorem td_in {w w2 w3:World} {base g bk:Nat} {X:Ruls} {R:Rl} {v:Value} {k:Int} {S:Nat → Prop} {m:Mt} {fv dv:Value} {lf:Int} {st:Bool} {p:Int} {A PA:Option Addr} {n mm:Nat} {Qv:Int}
  (H:MW w base g bk X R v k S m fv dv lf st) (HO:Ods w A n ((lvM R m p).take n)) (b2:Below w.heap.size w w2) (b3:Below w2.heap.size w2 w3) (h3:w2.cell? ⟨w.heap.size,0,none⟩ = some (ptA g)) (hlt:w.heap.size < w2.heap.size)
  (hp:mm = 0 ∨ ∃ b,PA = some ⟨b,0,none⟩∧w2.heap.size≤b∧w3.rowIs b 2 mm (fun i=>.int .i64 (fM R m p i))) :
  TdIn w w3 w3 base g bk X R v k S S m m fv dv fv lf st p A PA n mm:=by
 have bw:=b2.trans (b3.mono b2.size)
 refine ⟨MTurn.same (H.below bw),(b3.cell (p:=⟨w.heap.size,0,none⟩) hlt).trans h3,HO.below bw,?_⟩
 rcases hp with h0 | ⟨b,e,hb,hr⟩
 ·exact .inl h0
 ·exact .inr ⟨b,e,hr,H.far (by have:=b2.size;omega)⟩
theorem trade_c (base g bk:Nat) (X:Ruls) (R:Rl) (v:Value) (k:Int) (S:Nat → Prop) (m:Mt) (fv dv:Value) (lf:Int) (st:Bool) (p:Int) (A:Option Addr) (n c:Nat) (w:World) (H:MW w base g bk X R v k S m fv dv lf st) (HO:Ods w A n ((lvM R m p).take n))
  (hn:n = nM R m p) (hA:∀ b off,A = some ⟨b,off,none⟩ → ¬ Ft S g fv dv b) (hg:GM m) (hp:1≤p∧p≤1099511627776) (hl:1≤R.lot∧R.lot≤1099511627776) (h0:m.left≤1099511627776) (hc:InR m.cash) (hF:m.F.length + 64 < 100000) (h64:m.L.length≤64) :
  Calls Tryz.prog 74 #[ptA g,.int .i64 p,.slice A n c] w (TrdEnd w base g bk X R v k S m fv dv lf st p):=by
 have hn64:n≤64:=by rw [hn];exact Nat.le_trans nM_le (Nat.le_trans (by unfold lvM;exact levL_len _ _ _) h64)
 obtain ⟨w1,hw1⟩:∃ w1,w.alloc (.cells #[ptA g] 139) = w1:=⟨_,rfl⟩
 have b1:Below w.heap.size w w1:=by rw [← hw1];exact b1_of _ _
 have s1:w1.heap.size = w.heap.size + 1:=by rw [← hw1];simp
 have c1:Cl 139 w1 w.heap.size #[ptA g]:=by rw [← hw1];exact hd_last rfl
 obtain ⟨w2,hw2⟩:∃ w2,w1.alloc (.cells #[.int .i64 p] 2) = w2:=⟨_,rfl⟩
 have b12:Below w1.heap.size w1 w2:=by rw [← hw2];exact b1_of _ _
 have b2:Below w.heap.size w w2:=b1.trans (b12.mono b1.size)
 have c4:Cl 2 w2 w1.heap.size #[.int .i64 p]:=by rw [← hw2];exact hd_last rfl
 have c3:Cl 139 w2 w.heap.size #[ptA g]:=(b12.block _ (by omega)).trans c1
 have hlt2:w.heap.size < w2.heap.size:=by have:=b12.size;omega
 have M2:=H.below b2
 have N3:Hid (∀ W,Below w2.heap.size w2 W → W.cell? ⟨w.heap.size,0,none⟩ = some (ptA g)):=Lib.hid (fun W hW=>((Cl.bel c3 hW).c 0).trans rfl)
 have NMo:Hid (∀ W,Below w2.heap.size w2 W → W.cell? ⟨g,7,none⟩ = some (.int .i64 R.mode)):=Lib.hid (fun W hW=>((Cl.bel M2.mb hW).c 7).trans rfl)
 have NLe:Hid (∀ W,Below w2.heap.size w2 W → W.cell? ⟨g,13,none⟩ = some (.int .i64 m.left)):=Lib.hid (fun W hW=>((Cl.bel M2.mb hW).c 13).trans rfl)
 have NLo:Hid (∀ W,Below w2.heap.size w2 W → W.cell? ⟨g,3,none⟩ = some (.int .i64 R.lot)):=Lib.hid (fun W hW=>((Cl.bel M2.mb hW).c 3).trans rfl)
 have HPy:Hid (∀ W,Below w2.heap.size w2 W → Calls Tryz.prog 90 #[.int .i64 m.left,ptA w.heap.size,ptA w1.heap.size] W fun e w'=>e = .returned (.int .i64 (mostM R m p))∧Below W.heap.size W w'):=Lib.hid (fun W hW=>by
  rw [← payN_most]
  exact payable_c w.heap.size w1.heap.size g bk X R m.left m.cash fv dv lf st p m.left W (Cl.bel M2.mb hW) (Cl.bel c3 hW) (Cl.bel c4 hW) hc ⟨by omega,by omega⟩ hp.1 hp.2)
 have HSh:Hid (∀ W,Below w2.heap.size w2 W → Calls Tryz.prog 94 #[.int .i64 R.mode,.slice A n c,.int .i64 (mostM R m p),.int .i64 R.lot] W (ShNew W R.mode n (QM R m p) (mostM R m p) R.lot)):=Lib.hid (fun W hW=>by
  have h:=share_new R.mode A n c ((lvM R m p).take n) (mostM R m p) R.lot ⟨by omega,by omega⟩ W ((HO.below b2).below hW) (by omega)
  rw [qs_run hn] at h;exact h)
 have Hin:Hid (∀ w3 PA mm,Below w2.heap.size w2 w3 → (mm = 0 ∨ ∃ b,PA = some ⟨b,0,none⟩∧w2.heap.size≤b∧w3.rowIs b 2 mm (fun i=>.int .i64 (fM R m p i))) → TdIn w w3 w3 base g bk X R v k S S m m fv dv fv lf st p A PA n mm):=Lib.hid (fun w3 PA mm b3 h=>td_in (Qv:=0) H HO b2 b3 ((c3.c 0).trans rfl) hlt2 h)
 have HFk:=Lib.hid (fun i (hno:¬ NoM R m p) (hi:i < nM R m p) (hq:0 < fM R m p i)=>fill_ok hg hp.1 hl.1 hno h0 hc hi hq)
 have HRg:=Lib.hid (fun i (hno:¬ NoM R m p) (hi:i < nM R m p)=>fM_rng (R:=R) (m:=m) (p:=p) hno hi)
 have HFl:=Lib.hid hF
 have HN:=Lib.hid (And.intro hn (And.intro hn64 hlt2))
 have HA:=Lib.hid hA
 have HFar:=Lib.hid (H.far (Nat.le_refl _))
 have HB2:=Lib.hid b2
 clear H HO hA hg hp hl h0 hc hF h64 b1 s1 c1 b12 b2 c4 c3 hlt2 M2 hn hn64
 go_enter Tryz.func74,Tryz.ntmps74
 go_upto_region 2 with fail
 refine wp_region_held_drew (S:=fun W=>Below w2.heap.size w2 W) (by kernel_rfl) (by exact (Below.refl _ _).drew) (fun hHeld=>?_)
 refine tkH 0 ?_ ?_ (by assumption) ?_
 rotate_left
 ·(intro w hSw;have hs:=N3.out _ hSw;(try dsimp only at hSw);go_simp;try with_reducible rfl)
 (try simp only [zz])
 refine tkH 1 ?_ ?_ (by assumption) ?_
 rotate_left
 ·(intro w hSw;(try dsimp only at hSw);go_simp;try with_reducible rfl)
 (try simp only [zz])
 refine tkH 2 ?_ ?_ (by assumption) ?_
 rotate_left
 ·(intro w hSw;(try dsimp only at hSw);go_simp;try with_reducible rfl)
 (try simp only [zz])
 refine tkH 3 ?_ ?_ (by assumption) ?_
 rotate_left
 ·(intro w hSw;(try dsimp only at hSw);go_simp;try with_reducible rfl)
 (try simp only [zz])
 refine tkH 4 ?_ ?_ (by assumption) ?_
 rotate_left
 ·(intro w hSw;have hs:=NMo.out _ hSw;(try dsimp only at hSw);go_simp;try with_reducible rfl)
 (try simp only [zz])
 refine tkH 5 ?_ ?_ (by assumption) ?_
 rotate_left
 ·(intro w hSw;(try dsimp only at hSw);go_simp;try with_reducible rfl)
 (try simp only [zz])
 refine tkH 6 ?_ ?_ (by assumption) ?_
 rotate_left
 ·(intro w hSw;(try dsimp only at hSw);go_simp;try with_reducible rfl)
 (try simp only [zz])
 refine tkH 7 ?_ ?_ (by assumption) ?_
 rotate_left
 ·(intro w hSw;have hs:=N3.out _ hSw;(try dsimp only at hSw);go_simp;try with_reducible rfl)
 (try simp only [zz])
 refine tkH 8 ?_ ?_ (by assumption) ?_
 rotate_left
 ·(intro w hSw;(try dsimp only at hSw);go_simp;try with_reducible rfl)
 (try simp only [zz])
 refine tkH 9 ?_ ?_ (by assumption) ?_
 rotate_left
 ·(intro w hSw;(try dsimp only at hSw);go_simp;try with_reducible rfl)
 (try simp only [zz])
 refine tkH 10 ?_ ?_ (by assumption) ?_
 rotate_left
 ·(intro w hSw;(try dsimp only at hSw);go_simp;try with_reducible rfl)
 (try simp only [zz])
 refine tkH 11 ?_ ?_ (by assumption) ?_
 rotate_left
 ·(intro w hSw;have hs:=NLe.out _ hSw;(try dsimp only at hSw);go_simp;try with_reducible rfl)
 (try simp only [zz])
 refine tkH 13 ?_ ?_ (by assumption) ?_
 rotate_left
 ·(intro w hSw;have hs:=N3.out _ hSw;(try dsimp only at hSw);go_simp;try with_reducible rfl)
 (try simp only [zz])
 refine tkH 14 ?_ ?_ (by assumption) ?_
 rotate_left
 ·(intro w hSw;(try dsimp only at hSw);go_simp;try with_reducible rfl)
 (try simp only [zz])
 refine tkH 15 ?_ ?_ (by assumption) ?_
 rotate_left
 ·(intro w hSw;(try dsimp only at hSw);go_simp;try with_reducible rfl)
 (try simp only [zz])
 refine tkH 16 ?_ ?_ (by assumption) ?_
 rotate_left
 ·(intro w hSw;(try dsimp only at hSw);go_simp;try with_reducible rfl)
 (try simp only [zz])
 refine tkH 17 ?_ ?_ (by assumption) ?_
 rotate_left
 ·(intro w hSw;have hs:=NLo.out _ hSw;(try dsimp only at hSw);go_simp;try with_reducible rfl)
 (try simp only [zz])
 refine rdH 12 (fun K hK=>?_)
 go_simp
 ((with_reducible refine (HPy.out _ hHeld).mono ?_);rintro e y1 ⟨rfl,hb⟩;have hb:=Lib.hid hb)
 refine hK.out _ _ (by exact hHeld.trans (hb.out.mono hHeld.size)) (fun hHeld=>?_)
 clear hK K
 (try simp only [zz])
 refine rdH 18 (fun K hK=>?_)
 go_simp
 have hS1:=Lib.hid hHeld.size
 ((with_reducible refine (HSh.out _ hHeld).mono ?_);rintro e y2 ⟨PA,mm,PC,rfl,hmn,hsh⟩)
 refine hK.out _ _ (by exact hHeld.trans (hsh.out.1.mono hHeld.size)) (fun hHeld=>?_)
 clear hK K
 (try simp only [zz])
 refine tkH 19 ?_ ?_ (by assumption) ?_
 rotate_left
 ·(intro w hSw;(try dsimp only at hSw);go_simp;try with_reducible rfl)
 (try simp only [zz])
 refine wpAnyH_done (by kernel_rfl) ?_ _
 obtain ⟨B3,hrow,hor⟩:=hsh.out
 have HM:Hid ((mm = 0∧NoM R m p) ∨ (mm = nM R m p∧¬ NoM R m p)):=Lib.hid (by
  rcases hor with h | ⟨h1,h2,h3⟩
  ·exact .inl h
  ·refine .inr ⟨h1.trans HN.out.1,?_⟩
   rintro (h | h | h | h)
   ·exact h h2
   ·have:=h3.t;have:=h3.t1;omega
   ·have:=h3.y1;omega
   ·have:=h3.y2;omega)
 have hmm64:mm≤64:=Nat.le_trans hmn HN.out.2.1
 have HI0:Hid (TdIn w y2 y2 base g bk X R v k S S m m fv dv fv lf st p A PA n mm):=Lib.hid (Hin.out y2 PA mm hHeld (by
  rcases hrow with h | ⟨b,e,h1,h2⟩
  ·exact .inl h
  ·exact .inr ⟨b,e,Nat.le_trans hS1.out h1,h2⟩))
 have HW3:=Lib.hid (HB2.out.trans (hHeld.mono HB2.out.size))
 have HSz:=Lib.hid (Nat.lt_of_lt_of_le HN.out.2.2 hHeld.size)
 have HRun:=Lib.hid (Hin.out y2 PA 0 hHeld (.inl rfl)).run
 have HL:Hid (n≤(lvM R m p).length):=Lib.hid (by rw [HN.out.1];exact nM_le)
 obtain ⟨b0,hb0⟩:∃ b,((mm:Int) == (n:Int)) = b:=⟨_,rfl⟩
 have HB0:=Lib.hid hb0
 clear hHeld hrow hor B3 hsh hS1 N3 NMo NLe NLo HPy HSh Hin
 go_wp2_with fail
 go_loopg [39,9] mm (fun kx s39 s9 wr=>∃ (i:Nat) (fv1:Value) (S1:Nat → Prop) (b1:Bool),s39 = .int .i64 (i:Int)∧s9 = .bool b1∧i≤mm∧mm - i≤kx∧Hid (b1 = eB (fM R m p) (lvM R m p) b0 i∧TdIn w y2 wr base g bk X R v k S S1 m (filN (payM R m) (lvM R m p) (fM R m p) m i) fv dv fv1 lf st p A PA n mm))
 case atStart=>exact ⟨0,fv,S,b0,rfl,rfl,by omega,by omega,Lib.hid ⟨rfl,HI0.out⟩⟩
 case round =>
  obtain ⟨i,fv1,S1,b1,rfl,rfl,hi,hkx,hBI⟩:=hrel
  have HB:=Lib.hid hBI.out.1
  have HI:=Lib.hid hBI.out.2
  clear hBI HI0 hb0
  by_cases hlt:i < mm
  ·have hltI:(i:Int) < (mm:Int):=by omega
   have hi0:(0:Int)≤(i:Int):=by omega
   have hin:i < n:=by omega
   have HNo:Hid (¬ NoM R m p∧i < nM R m p):=Lib.hid (by
    rcases HM.out with h | h
    ·omega
    ·exact ⟨h.2,by omega⟩)
   obtain ⟨bp,rfl,hrp,hfp⟩:∃ b,PA = some ⟨b,0,none⟩∧wr.rowIs b 2 mm (fun i=>.int .i64 (fM R m p i))∧¬ Ft S1 g fv1 dv b:=by
    rcases HI.out.par with h | h
    ·omega
    ·exact h
   obtain ⟨b,off,rfl,hb,hcx⟩:∃ b off,A = some ⟨b,off,none⟩∧b < wr.heap.size∧∀ j,j < n → (((lvM R m p).take n)[j]!).at wr b (off + j * 6):=by
    rcases HI.out.run.2.2.2 with h | h
    ·omega
    ·exact h
   have hx:=hcx i hin
   rw [take_get hin] at hx
   have cp0:=hrp.cell hlt
   obtain ⟨x,ex⟩:∃ x,(lvM R m p)[i]! = x:=⟨_,rfl⟩
   obtain ⟨q,eq⟩:∃ q,fM R m p i = q:=⟨_,rfl⟩
   have HE:=Lib.hid (And.intro ex eq)
   have hok:Od.ok wr x:=by
    rw [← ex]
    refine HI.out.run.2.2.1 _ ?_
    rw [← take_get hin]
    exact bang_mem (by rw [HI.out.run.1];exact hin)
   have hrg:=HRg.out i HNo.out.1 HNo.out.2
   have hfk:=HFk.out i HNo.out.1 HNo.out.2
   rw [ex] at hx hrg
   rw [eq] at hrg hfk
   have cp:wr.cell? ⟨bp,i,none⟩ = some (.int .i64 q):=by rw [← eq];exact cp0
   clear cp0
   have HC:=Lib.hid hx
   have HBb:=Lib.hid hb
   obtain ⟨x0,x1,x2,x3,x4,x5⟩:=hx
   have hAf:¬ Ft S1 g fv1 dv b:=HI.out.far (Nat.lt_of_lt_of_le (show b < y2.heap.size by
    obtain ⟨b',off',e',hb',_⟩:∃ b' off',(some (⟨b,off,none⟩:Addr)) = some ⟨b',off',none⟩∧b' < y2.heap.size∧∀ j,j < n → (((lvM R m p).take n)[j]!).at y2 b' (off' + j * 6):=by
     rcases HRun.out.2.2.2 with h | h
     ·omega
     ·exact h
    injection e' with e';injection e' with e1 e2;subst e1;exact hb') (Nat.le_refl _)) (HA.out b off rfl)
   have hcf:¬ Ft S1 g fv1 dv w.heap.size:=HI.out.far HSz.out HFar.out
   have HAf:=Lib.hid (And.intro hAf (And.intro hcf hfp))
   have K3:=HI.out.c3
   by_cases h0q:0 < q
   ·have hqd:decide (0 < q) = true:=decide_eq_true h0q
    have FK:=hfk h0q
    have HFi:Hid (Calls Tryz.prog 95 #[ptA g,.agg (OC x),.int .i64 q] wr.drew fun e w'=>e = .returned (.tuple #[])∧∃ (gg cp:Nat) (S':Nat → Prop),Hid (MW w' base g bk X R v k S' (filN (payM R m) (lvM R m p) (fM R m p) m (i + 1)) (.slice (some ⟨gg,0,none⟩) ((filN (payM R m) (lvM R m p) (fM R m p) m i).F.length + 1) cp) dv lf st)∧Hid (Fr (fun j=>S1 j ∨ j = g ∨ fv1.ownBlock = some j) wr.drew w')∧Hid (∀ j,S' j → S1 j ∨ wr.drew.heap.size≤j)∧Hid (fv1.ownBlock = some gg ∨ wr.drew.heap.size≤gg)):=Lib.hid (by
     have h:=fill_w base g bk X R v k S1 (filN (payM R m) (lvM R m p) (fM R m p) m i) fv1 dv lf st x q wr.drew HI.out.tu.mw.drew hok (by have:=FK.fl;have:=HFl.out;omega) (by omega) (by have:=FK.q1;rw [eq] at this;exact this) FK.q2 (by have:=FK.p0;rw [ex] at this;exact this) (by have:=FK.pc;rw [ex,eq] at this;exact this) FK.cr
     rw [FK.pay] at h
     have e9:filN (payM R m) (lvM R m p) (fM R m p) m (i + 1) = fil1 (payM R m) (filN (payM R m) (lvM R m p) (fM R m p) m i) x q:=by rw [← ex,← eq];rfl
     rw [e9];exact h)
    have HKp:Hid (∀ W,Fr (Ft S1 g fv1 dv) wr.drew W → W.cell? ⟨w.heap.size,0,none⟩ = some (ptA g)∧x.at W b (off + i * 6)):=Lib.hid (fun W hW=>⟨fr_cell hW (Nat.lt_of_lt_of_le HSz.out HI.out.tu.fr.size) hcf K3,fr_at hW HBb.out hAf HC.out⟩)
    have hx:=HC.out
    clear hcx hrp hb hok hrg hfk FK hAf hcf hfp ex eq
    go_upto_region 8 with fail
    refine wp_region_held_drew (S:=fun W=>W.cell? ⟨w.heap.size,0,none⟩ = some (ptA g)∧x.at W b (off + i * 6)) (by kernel_rfl) (by exact ⟨K3,hx⟩) (fun hHeld=>?_)
    refine tkH 0 ?_ ?_ (by assumption) ?_
    rotate_left
    ·(intro w hSw;have hs:=hSw.1;(try dsimp only at hSw);go_simp;try with_reducible rfl)
    (try simp only [zz])
    refine tkH 1 ?_ ?_ (by assumption) ?_
    rotate_left
    ·(intro w hSw;(try dsimp only at hSw);go_simp;try with_reducible rfl)
    (try simp only [zz])
    refine tkH 2 ?_ ?_ (by assumption) ?_
    rotate_left
    ·(intro w hSw;(try dsimp only at hSw);go_simp;try with_reducible rfl)
    (try simp only [zz])
    refine tkH 3 ?_ ?_ (by assumption) ?_
    rotate_left
    ·(intro w hSw;(try dsimp only at hSw);go_simp;try with_reducible rfl)
    (try simp only [zz])
    refine tkH 4 ?_ ?_ (by assumption) ?_
    rotate_left
    ·(intro w hSw;obtain ⟨_,q0,q1,q2,q3,q4,q5⟩:=hSw;(try dsimp only at hSw);go_simp;try with_reducible rfl)
    (try simp only [zz])
    refine tkH 5 ?_ ?_ (by assumption) ?_
    rotate_left
    ·(intro w hSw;(try dsimp only at hSw);go_simp;try with_reducible rfl)
    (try simp only [zz])
    refine rdH 6 (fun K hK=>?_)
    go_simp
    ((with_reducible refine HFi.out.mono ?_);rintro e y1 ⟨rfl,gg,cp,S2,hM,hF,hS,hg⟩)
    have hT:=Lib.hid (MTurn.fill hM.out hF.out hS.out hg.out)
    clear hM hF hS hg
    refine hK.out _ _ (by exact HKp.out _ hT.out.fr) (fun hHeld=>?_)
    clear hK K
    (try simp only [zz])
    refine wpAnyH_done (by kernel_rfl) ?_ _
    have HT1:Hid (TdIn w y2 y1 base g bk X R v k S S2 m (filN (payM R m) (lvM R m p) (fM R m p) m (i + 1)) fv dv (.slice (some ⟨gg,0,none⟩) ((filN (payM R m) (lvM R m p) (fM R m p) m i).F.length + 1) cp) lf st p (some ⟨b,off,none⟩) (some ⟨bp,0,none⟩) n mm):=Lib.hid (HI.out.next (MTurn.after ((Below.refl _ wr).drew) hT.out) (Nat.lt_of_lt_of_le HSz.out HI.out.tu.fr.size) HAf.out.2.1 (fun b' off' e=>by injection e with e;injection e with e1 _;subst e1;exact HAf.out.1))
    clear HI hT hHeld HKp HFi HC K3 x0 x1 x2 x3 x4 x5 hx
    obtain ⟨bq,offq,eq1,-,hcq⟩:∃ b' off',(some ⟨b,off,none⟩:Option Addr) = some ⟨b',off',none⟩∧b' < y1.heap.size∧∀ j,j < n → (((lvM R m p).take n)[j]!).at y1 b' (off' + j * 6):=by
     rcases HT1.out.run.2.2.2 with h | h
     ·omega
     ·exact h
    injection eq1 with eq1
    injection eq1 with e1 e2
    subst e1 e2
    have hx9:=hcq i hin
    rw [take_get hin,HE.out.1] at hx9
    obtain ⟨x0,x1,x2,x3,x4,x5⟩:=hx9
    clear hcq
    have hi0:(0:Int)≤(i:Int):=by omega
    have hinI:(i:Int) < (n:Int):=by omega
    cases b1 with
    | false =>
     have HB2:Hid (false = eB (fM R m p) (lvM R m p) b0 (i + 1)):=Lib.hid (by rw [eB,← HB.out];rfl)
     clear HB
     go_wp2_with fail
     go_roundg (mm - (i + 1))
     case measure=>omega
     case rel=>exact ⟨i + 1,_,_,false,by go_num,rfl,by omega,by omega,Lib.hid ⟨HB2.out,HT1.out⟩⟩
    | true =>
     obtain ⟨b9,hb9⟩:∃ b,(q == x.qty) = b:=⟨_,rfl⟩
     have HB2:Hid (b9 = eB (fM R m p) (lvM R m p) b0 (i + 1)):=Lib.hid (by rw [eB,← HB.out,HE.out.1,HE.out.2,← hb9];rfl)
     clear HB
     go_wp2_with fail
     go_roundg (mm - (i + 1))
     case measure=>omega
     case rel=>exact ⟨i + 1,_,_,b9,by go_num,rfl,by omega,by omega,Lib.hid ⟨HB2.out,HT1.out⟩⟩
   ·have hqd:decide (0 < q) = false:=decide_eq_false h0q
    have e0:filN (payM R m) (lvM R m p) (fM R m p) m (i + 1) = filN (payM R m) (lvM R m p) (fM R m p) m i:=if_neg (by rw [eq];exact h0q)
    have HT1:Hid (TdIn w y2 wr base g bk X R v k S S1 m (filN (payM R m) (lvM R m p) (fM R m p) m (i + 1)) fv dv fv1 lf st p (some ⟨b,off,none⟩) (some ⟨bp,0,none⟩) n mm):=Lib.hid (by rw [e0];exact HI.out)
    clear hcx hrp hb hok hrg hfk hAf hcf hfp ex eq e0 HI HC K3 x0 x1 x2 x3 x4 x5
    obtain ⟨bq,offq,eq1,-,hcq⟩:∃ b' off',(some ⟨b,off,none⟩:Option Addr) = some ⟨b',off',none⟩∧b' < wr.heap.size∧∀ j,j < n → (((lvM R m p).take n)[j]!).at wr b' (off' + j * 6):=by
     rcases HT1.out.run.2.2.2 with h | h
     ·omega
     ·exact h
    injection eq1 with eq1
    injection eq1 with e1 e2
    subst e1 e2
    have hx9:=hcq i hin
    rw [take_get hin,HE.out.1] at hx9
    obtain ⟨x0,x1,x2,x3,x4,x5⟩:=hx9
    clear hcq
    have hi0:(0:Int)≤(i:Int):=by omega
    have hinI:(i:Int) < (n:Int):=by omega
    cases b1 with
    | false =>
     have HB2:Hid (false = eB (fM R m p) (lvM R m p) b0 (i + 1)):=Lib.hid (by rw [eB,← HB.out];rfl)
     clear HB
     go_wp2_with fail
     go_roundg (mm - (i + 1))
     case measure=>omega
     case rel=>exact ⟨i + 1,_,_,false,by go_num,rfl,by omega,by omega,Lib.hid ⟨HB2.out,HT1.out⟩⟩
    | true =>
     obtain ⟨b9,hb9⟩:∃ b,(q == x.qty) = b:=⟨_,rfl⟩
     have HB2:Hid (b9 = eB (fM R m p) (lvM R m p) b0 (i + 1)):=Lib.hid (by rw [eB,← HB.out,HE.out.1,HE.out.2,← hb9];rfl)
     clear HB
     go_wp2_with fail
     go_roundg (mm - (i + 1))
     case measure=>omega
     case rel=>exact ⟨i + 1,_,_,b9,by go_num,rfl,by omega,by omega,Lib.hid ⟨HB2.out,HT1.out⟩⟩
  ·have hltI:¬ (i:Int) < (mm:Int):=by omega
   obtain rfl:i = mm:=by omega
   have HR:Hid ((b1 = true ↔ EmpM R m p)∧MTurn w wr base g bk X R v k S S1 (aftM R m p) fv dv fv1 dv lf st):=Lib.hid (by
    refine ⟨?_,?_⟩
    ·rw [HB.out,← HB0.out,HN.out.1];exact emp_is HM.out
    ·rw [← aft_fil HM.out];exact MTurn.after HW3.out HI.out.tu)
   clear HI HB
   go_wp2_with fail
   go_ret
   exact ⟨b1,fv1,S1,rfl,HR⟩

def dropK (id:Int) (m:Mt):Nat → Mt
 | 0=>m
 | _ + 1=>goneM id m
structure MOk (m:Mt):Prop where
 gm:GM m
 l0:0≤m.left
 l1:m.left≤1099511627776
 cr:InR m.cash
 fn:m.F.length + m.L.length≤64
 dn:m.D.length + m.L.length≤64
structure ROk (R:Rl):Prop where
 s:R.side = 1 ∨ R.side = 2
 p:isPol R.self = true
 m:R.mode = 1 ∨ R.mode = 2
 l1:1≤R.lot
 l2:R.lot≤1099511627776
theorem aft_flen {R:Rl} {m:Mt} {p:Int}:(aftM R m p).F.length≤m.F.length + nM R m p:=by
 unfold aftM
 split
 ·omega
 ·exact filN_flen _
theorem aft_cr {R:Rl} {m:Mt} {p:Int} (hg:GM m) (hp:1≤p) (hl:1≤R.lot) (h0:0≤m.left) (hc:InR m.cash):InR (aftM R m p).cash:=by
 have A:=aft_f hg hp hl h0
 cases hpm:payM R m with
 | true=>have:=A.c0 hpm;unfold InR at hc ⊢;omega
 | false=>rw [A.c1 hpm];exact hc
theorem MOk.aft {R:Rl} {m:Mt} {p:Int} (h:MOk m) (hr:ROk R) (hpr:prM R m.L = some p) (he:EmpM R m p):MOk (aftM R m p):=by
 have hp:=(pr_rng h.gm hpr).1
 have A:=aft_f h.gm hp hr.l1 h.l0
 have hn:=A.emp he
 have hf:=aft_flen (R:=R) (m:=m) (p:=p)
 refine ⟨A.gm,A.l0,Int.le_trans A.l1 h.l1,aft_cr h.gm hp hr.l1 h.l0 h.cr,?_,?_⟩
 ·have:=h.fn;omega
 ·rw [A.D];have:=h.dn;have:=A.len;omega
theorem MOk.gone {m:Mt} {x:Od} (h:MOk m) (hx:x ∈ m.L):MOk (goneM x.id m):=by
 have D:=gone_f h.gm hx
 have hd:=D.len
 refine ⟨D.gm,by rw [D.left];exact h.l0,by rw [D.left];exact h.l1,by rw [D.cash];exact h.cr,?_,?_⟩
 ·have:=h.fn
  show m.F.length + _≤64
  omega
 ·have:=h.dn
  show (m.D ++ [oZ (getO x.id m.L)]).length + _≤64
  rw [List.length_append,List.length_singleton];omega
structure MeetP (R:Rl) (m:Mt) (go:Bool) (m1:Mt) (st1:Bool):Prop where
 no:go = false → crF R m = (m1,st1)
 yes:go = true → st1 = false∧crF R m = crF R m1∧m1.L.length < m.L.length∧MOk m1
theorem meet_end {R:Rl} {m:Mt} {p:Int} (hpr:prM R m.L = some p) (h:¬ EmpM R m p ∨ (aftM R m p).left = 0):MeetP R m false (aftM R m p) false :=
 ⟨fun _=>crF_end hpr h,fun h=>by cases h⟩
def dId (R:Rl) (m:Mt) (p:Int):Int:=((lvM R m p)[frO R.self R.acc (lvM R m p)]!).id
def dNum (R:Rl) (m:Mt) (p:Int):Nat:=mtM R.self R.acc (lvM R m p)
def dStp (R:Rl) (m:Mt) (p:Int):Bool:=mtS R.self R.acc (lvM R m p)
theorem meet_p {R:Rl} {m:Mt} {p:Int} (h:MOk m) (hr:ROk R) (hpr:prM R m.L = some p) (he:EmpM R m p) (hl:¬ (aftM R m p).left = 0) :
  dNum R m p≤1∧MeetP R m (!dStp R m p) (dropK (dId R m p) (aftM R m p) (dNum R m p)) (dStp R m p)∧(dNum R m p = 1 → ∃ x ∈ (aftM R m p).L,x.id = dId R m p):=by
 have A:=aft_f h.gm (pr_rng h.gm hpr).1 hr.l1 h.l0
 have hM:=h.aft hr hpr he
 have en:nM R m p = frO R.self R.acc (lvM R m p):=by unfold nM runN;rw [if_pos hr.p]
 by_cases h1:nM R m p = (lvM R m p).length
 ·have e1:dNum R m p = 0:=by unfold dNum mtM;rw [if_neg (by rw [← en];omega)]
  have e2:dStp R m p = false:=by unfold dStp mtS;rw [hr.p,if_pos rfl,if_neg (by rw [← en];omega)]
  rw [e1,e2]
  obtain ⟨c1,c2⟩:=crF_all hr.p hr.l1 h.gm h.l0 hpr he hl h1
  exact ⟨by omega,⟨fun h=>(by cases h),fun _=>⟨rfl,c1,c2,hM⟩⟩,fun h=>by cases h⟩
 ·have hlt:nM R m p < (lvM R m p).length:=by have:=nM_le (R:=R) (m:=m) (p:=p);omega
  have hx:=A.there _ (Nat.le_refl _) hlt
  have e2:dStp R m p = stN R.self:=by unfold dStp mtS;rw [hr.p,if_pos rfl,if_pos (by rw [← en];exact hlt)]
  have ei:dId R m p = ((lvM R m p)[nM R m p]!).id:=by unfold dId;rw [en]
  have ed:dropK (dId R m p) (aftM R m p) (dNum R m p) = drpM R ((lvM R m p)[nM R m p]!).id (aftM R m p):=by
   rw [ei]
   unfold dNum mtM drpM
   by_cases hd:drN R.self = true
   ·rw [if_pos ⟨hr.p,by rw [← en];exact hlt,hd⟩,if_pos hd];rfl
   ·rw [if_neg (fun h=>hd h.2.2),if_neg hd];rfl
  have e1:dNum R m p≤1:=by unfold dNum mtM;split <;> omega
  refine ⟨e1,?_,fun _=>⟨_,hx,ei.symm⟩⟩
  rw [ed,e2]
  cases hs:stN R.self with
  | true=>exact ⟨fun _=>crF_stop hpr he hl hlt hs,fun h=>by cases h⟩
  | false =>
   obtain ⟨c1,c2,c3⟩:=crF_drop hr.p hr.l1 h.gm h.l0 hpr he hl hlt hs
   have e:drpM R ((lvM R m p)[nM R m p]!).id (aftM R m p) = goneM ((lvM R m p)[nM R m p]!).id (aftM R m p):=if_pos c1
   rw [e]
   exact ⟨fun h=>(by cases h),fun _=>⟨rfl,c2,c3,hM.gone hx⟩⟩

theorem ord_news (T:TypeId) (w:World) (x:Od):∀ (j:Nat) (u:Value),(encO x)[j]? = some u → (w.alloc (Obj.cells (encO x).toArray T)).cell? ((⟨w.heap.size,0,none⟩:Addr).add j) = some u:=by
 intro j u hu
 rw [addr_add,Nat.zero_add,cell_of_row _ _ _ _ _ _ (heap_alloc_new w _)]
 simpa using hu
theorem MW.cellG {w:World} {base g bk:Nat} {X:Ruls} {R:Rl} {v:Value} {k:Int} {S:Nat → Prop} {m:Mt} {fv dv:Value} {lf lf':Int} {st st':Bool} (H:MW w base g bk X R v k S m fv dv lf st) {j:Nat} {u:Value}
  (hm:Cl 109 (w.setCell ⟨g,j,none⟩ u) g (mC bk X R m.left m.cash fv dv lf' st')):MW (w.setCell ⟨g,j,none⟩ u) base g bk X R v k S m fv dv lf' st':=by
 have f:Fr (fun i=>i = g) w (w.setCell ⟨g,j,none⟩ u):=(Fr.refl (fun i=>i = g) w).set (p:=⟨g,j,none⟩) (.inl rfl) _
 have hmb:Cl 109 w g _:=H.mb
 refine ⟨hm,?_,?_,?_,H.ds,Nat.le_trans H.lo f.size,H.fn⟩
 ·refine H.ly.fr f (fun h=>?_) (fun i hi h=>?_)
  ·subst h;exact absurd (H.ly.cl.symm.trans hmb) (by simp)
  ·subst h;exact nf_match H.ly.hd hmb hi
 ·exact own_fr H.fo f (fun i hi h=>by subst h;exact own_ne H.fo hmb (by decide) hi)
 ·exact own_fr H.dr f (fun i hi h=>by subst h;exact own_ne H.dr hmb (by decide) hi)
theorem MTurn.setG {w w':World} {base g bk:Nat} {X:Ruls} {R:Rl} {v:Value} {k:Int} {S S1:Nat → Prop} {m1:Mt} {fv dv fv1 dv1:Value} {lf lf':Int} {st st':Bool} (h:MTurn w w' base g bk X R v k S S1 m1 fv dv fv1 dv1 lf st) {j:Nat} {u:Value}
  (hm:Cl 109 (w'.setCell ⟨g,j,none⟩ u) g (mC bk X R m1.left m1.cash fv1 dv1 lf' st')):MTurn w (w'.setCell ⟨g,j,none⟩ u) base g bk X R v k S S1 m1 fv dv fv1 dv1 lf' st' :=
 ⟨h.mw.cellG hm,h.fr.set (p:=⟨g,j,none⟩) (.inl (.inr (.inl rfl))) _,h.ft,h.ff,h.fd⟩
theorem drop_rel {w y1 y2 w3:World} {base g bk gg cp:Nat} {X:Ruls} {R:Rl} {v:Value} {k:Int} {S S':Nat → Prop} {m:Mt} {L':List Od} {fv dv:Value} {lf:Int} {st:Bool} {z:Od} {o:Obj}
  (H:MW w base g bk X R v k S m fv dv lf st) (h3:HTurn w y1 v k S L' S') (hb:Below y1.heap.size y1 y2)
  (hown:w3.ownsRow base 38 6 (.slice (some ⟨gg,0,none⟩) (m.D.length + 1) cp) (m.D.length + 1) (ol m.D ++ encO z)) (hgr:(y2.drew.alloc o).grownBy w3 dv.ownBlock) (hat:dv.ownBlock = some gg ∨ gg = y2.heap.size + 1) :
  MTurn w (w3.setCell ⟨g,16,none⟩ (.slice (some ⟨gg,0,none⟩) (m.D.length + 1) cp)) base g bk X R v k S S' ⟨L',m.left,m.cash,m.F,m.D ++ [z]⟩ fv dv fv (.slice (some ⟨gg,0,none⟩) (m.D.length + 1) cp) lf st:=by
 have hmb:Cl 109 w g _:=H.mb
 have hg1:Cl 109 y1 g _:=h3.fr.blk hmb (nf_match H.ly.hd hmb)
 have hg2:Cl 109 y2 g _:=Cl.bel hg1 hb
 have hdr1:=own_fr H.dr h3.fr H.ds
 have hdr2:=own_fr hdr1 (Fr.of_below hb:Fr (fun _=>False) y1 y2) (fun _ _ h=>h)
 have hfo1:=own_fr H.fo h3.fr (nf_fills H.ly.hd H.fo)
 have ndg:dv.ownBlock ≠ some g:=own_ne hdr2 hg2 (by decide)
 have hg3:Cl 109 w3 g _:=(World.grownBy.block hgr g (Nat.lt_of_lt_of_le (blk_lt hg2) (by simp)) (Ne.symm ndg)).trans ((Below.heap_alloc y2.drew _ g (blk_lt hg2)).trans hg2)
 have lw:=own_lowW H.dr
 have s1:=h3.fr.size
 have s2:=hb.size
 have f3:Fr (fun j=>j = g ∨ dv.ownBlock = some j) y1 (w3.setCell ⟨g,16,none⟩ (.slice (some ⟨gg,0,none⟩) (m.D.length + 1) cp)) :=
  ((((Fr.of_below hb:Fr (fun j=>j = g ∨ dv.ownBlock = some j) y1 y2).drew).alloc o).grown hgr (fun j hj=>.inl (.inr hj))).set (p:=⟨g,16,none⟩) (.inl (.inl rfl)) _
 have hly1:=H.ly.turn h3
 have nS:∀ j,dv.ownBlock = some j → ¬ S' j:=fun j hj hs=>by
  rcases h3.ft j hs with h | h
  ·exact H.ds j hj h
  ·have:=lw j hj;omega
 refine ⟨⟨heap_set hg3,?_,?_,?_,fun j hj hs=>?_,Nat.le_trans H.lo (Nat.le_trans s1 f3.size),H.fn⟩,?_,h3.ft,fun j hj=>.inl hj,fun j hj=>?_⟩
 ·refine hly1.fr f3 (fun h=>?_) (fun j hj h=>?_)
  ·rcases h with h | h
   ·subst h;exact absurd (hly1.cl.symm.trans hg1) (by simp)
   ·exact own_ne hdr1 hly1.cl (by decide) h
  ·rcases h with h | h
   ·subst h;exact nf_match hly1.hd hg1 hj
   ·exact nS j h hj
 ·refine own_fr hfo1 f3 (fun j hj h=>?_)
  rcases h with h | h
  ·subst h;exact own_ne hfo1 hg1 (by decide) hj
  ·exact own_apart hfo1 hdr1 (by decide) j hj h
 ·have:(w3.setCell ⟨g,16,none⟩ (.slice (some ⟨gg,0,none⟩) (m.D.length + 1) cp)).ownsRow base 38 6 (.slice (some ⟨gg,0,none⟩) (m.D.length + 1) cp) (m.D.length + 1) (ol m.D ++ encO z):=own_fr hown ((Fr.refl (fun j=>j = g) w3).set (p:=⟨g,16,none⟩) (.inl rfl) _) (fun j hj h=>by subst h;exact own_ne hown hg3 (by decide) hj)
  simpa [ol] using this
 ·simp only [Value.ownBlock,Option.some.injEq] at hj
  subst hj
  rcases hat with h | h
  ·exact nS _ h hs
  ·have:=h3.hd.lt _ hs;omega
 ·refine (h3.fr.mono (fun j hj=>.inl (.inl hj))).trans f3 (fun j hj=>.inl ?_)
  rcases hj with h | h
  ·exact .inr (.inl h)
  ·exact .inr (.inr (.inr h))
 ·simp only [Value.ownBlock,Option.some.injEq] at hj
  subst hj
  rcases hat with h | h
  ·exact .inl h
  ·right;omega

def MeetEnd (w:World) (base g bk:Nat) (X:Ruls) (R:Rl) (v:Value) (k:Int) (S:Nat → Prop) (m:Mt) (fv dv:Value) (lf:Int) (e:Ending) (w':World):Prop :=
 ∃ (go:Bool) (m1:Mt) (fv' dv':Value) (S':Nat → Prop) (st1:Bool),e = .returned (.bool go)∧Hid (MTurn w w' base g bk X R v k S S' m1 fv dv fv' dv' lf st1∧MeetP R m go m1 st1)
theorem meet_off {w w':World} {base g bk:Nat} {X:Ruls} {R:Rl} {v:Value} {k:Int} {S S1:Nat → Prop} {m mA:Mt} {p:Int} {fv dv fv1:Value} {lf:Int} (hm:aftM R m p = mA) (hpr:prM R m.L = some p) (h:¬ EmpM R m p ∨ mA.left = 0) (t:MTurn w w' base g bk X R v k S S1 mA fv dv fv1 dv lf false) :
  MeetEnd w base g bk X R v k S m fv dv lf (.returned (.bool false)) w' :=
 ⟨false,mA,fv1,dv,S1,false,rfl,Lib.hid ⟨t,by rw [← hm] at h ⊢;exact meet_end hpr h⟩⟩
theorem meet18_c (base g bk:Nat) (X:Ruls) (R:Rl) (v:Value) (k:Int) (S:Nat → Prop) (m:Mt) (fv dv:Value) (lf:Int) (p:Int) (w:World) (H:MW w base g bk X R v k S m fv dv lf false) (hm:MOk m) (hr:ROk R) (hpr:prM R m.L = some p) :
  Calls Tryz.prog 55 #[ptA g,.int .i64 p] w (MeetEnd w base g bk X R v k S m fv dv lf):=by
 have hp:=pr_rng hm.gm hpr
 have hw:(Lit.int .i64 (3 - R.side)).wf = true:=by rcases hr.s with h | h <;> rw [h] <;> rfl
 have HO:=Lib.hid (fun W=>other_c R.side W)
 rw [oth_is hr.s] at HO
 have HLv:Hid (∀ W,Below w.heap.size w W → Calls Tryz.prog 28 #[ptA bk,.int .i64 (3 - R.side),.int .i64 p] W (RowEnd W (lvM R m p))):=Lib.hid (fun W hW=>yLevel_c bk v k m.L S (3 - R.side) p hw W (H.ly.below hW))
 have hl64:(lvM R m p).length≤64:=Nat.le_trans (by unfold lvM;exact levL_len _ _ _) H.ly.hd.len
 have HLl:Hid ((lvM R m p).length≤1000):=Lib.hid (by omega)
 have HOk:Hid (∀ (W:World),∀ x ∈ lvM R m p,Od.ok W x):=Lib.hid (fun W x hx=>(H.ly.hd.ok x (lv_mem hx).1).1)
 have HMt:Hid (∀ W A n c,Ods W A n (lvM R m p) → Calls Tryz.prog 73 #[.int .i64 R.self,.int .i64 R.acc,.slice A n c] W (MeetIs R.self R.acc (lvM R m p) W)):=Lib.hid (fun W A n c hO=>meet_c R.self R.acc A n c (lvM R m p) W hO (by rw [← hO.1];omega))
 have N0:Hid (∀ W,Below w.heap.size w W → W.cell? ⟨g,0,none⟩ = some (ptA bk)):=Lib.hid (fun W hW=>((Cl.bel H.mb hW).c 0).trans rfl)
 have N8:Hid (∀ W,Below w.heap.size w W → W.cell? ⟨g,8,none⟩ = some (.int .i64 R.self)):=Lib.hid (fun W hW=>((Cl.bel H.mb hW).c 8).trans rfl)
 have N10:Hid (∀ W,Below w.heap.size w W → W.cell? ⟨g,10,none⟩ = some (.int .i64 R.acc)):=Lib.hid (fun W hW=>((Cl.bel H.mb hW).c 10).trans rfl)
 have N11:Hid (∀ W,Below w.heap.size w W → W.cell? ⟨g,11,none⟩ = some (.int .i64 R.side)):=Lib.hid (fun W hW=>((Cl.bel H.mb hW).c 11).trans rfl)
 have HW:=Lib.hid H
 have HP:=Lib.hid (And.intro hm (And.intro hr (And.intro hpr hp)))
 have HR9:Hid (nM R m p = runN R.self R.acc (lvM R m p)):=Lib.hid rfl
 unfold RowEnd at HLv
 unfold MeetIs at HMt
 rw [← HR9.out] at HMt
 clear H hm hr hpr hp hw hl64
 go_enter Tryz.func55,Tryz.ntmps55
 go_upto_region 1 with fail
 refine wp_region_held_drew (S:=fun W=>Below w.heap.size w W) (by kernel_rfl) (by exact (Below.refl _ _).drew) (fun hHeld=>?_)
 refine tkH 0 ?_ ?_ (by assumption) ?_
 rotate_left
 ·(intro w hSw;(try dsimp only at hSw);go_simp;try with_reducible rfl)
 (try simp only [zz])
 refine tkH 1 ?_ ?_ (by assumption) ?_
 rotate_left
 ·(intro w hSw;(try dsimp only at hSw);go_simp;try with_reducible rfl)
 (try simp only [zz])
 refine tkH 2 ?_ ?_ (by assumption) ?_
 rotate_left
 ·(intro w hSw;(try dsimp only at hSw);go_simp;try with_reducible rfl)
 (try simp only [zz])
 refine tkH 3 ?_ ?_ (by assumption) ?_
 rotate_left
 ·(intro w hSw;(try dsimp only at hSw);go_simp;try with_reducible rfl)
 (try simp only [zz])
 refine tkH 4 ?_ ?_ (by assumption) ?_
 rotate_left
 ·(intro w hSw;have hs:=N8.out _ hSw;(try dsimp only at hSw);go_simp;try with_reducible rfl)
 (try simp only [zz])
 refine tkH 5 ?_ ?_ (by assumption) ?_
 rotate_left
 ·(intro w hSw;(try dsimp only at hSw);go_simp;try with_reducible rfl)
 (try simp only [zz])
 refine tkH 6 ?_ ?_ (by assumption) ?_
 rotate_left
 ·(intro w hSw;(try dsimp only at hSw);go_simp;try with_reducible rfl)
 (try simp only [zz])
 refine tkH 7 ?_ ?_ (by assumption) ?_
 rotate_left
 ·(intro w hSw;(try dsimp only at hSw);go_simp;try with_reducible rfl)
 (try simp only [zz])
 refine tkH 8 ?_ ?_ (by assumption) ?_
 rotate_left
 ·(intro w hSw;(try dsimp only at hSw);go_simp;try with_reducible rfl)
 (try simp only [zz])
 refine tkH 9 ?_ ?_ (by assumption) ?_
 rotate_left
 ·(intro w hSw;have hs:=N10.out _ hSw;(try dsimp only at hSw);go_simp;try with_reducible rfl)
 (try simp only [zz])
 refine tkH 10 ?_ ?_ (by assumption) ?_
 rotate_left
 ·(intro w hSw;(try dsimp only at hSw);go_simp;try with_reducible rfl)
 (try simp only [zz])
 refine tkH 11 ?_ ?_ (by assumption) ?_
 rotate_left
 ·(intro w hSw;(try dsimp only at hSw);go_simp;try with_reducible rfl)
 (try simp only [zz])
 refine tkH 12 ?_ ?_ (by assumption) ?_
 rotate_left
 ·(intro w hSw;(try dsimp only at hSw);go_simp;try with_reducible rfl)
 (try simp only [zz])
 refine tkH 13 ?_ ?_ (by assumption) ?_
 rotate_left
 ·(intro w hSw;have hs:=N0.out _ hSw;(try dsimp only at hSw);go_simp;try with_reducible rfl)
 (try simp only [zz])
 refine tkH 14 ?_ ?_ (by assumption) ?_
 rotate_left
 ·(intro w hSw;(try dsimp only at hSw);go_simp;try with_reducible rfl)
 (try simp only [zz])
 refine tkH 15 ?_ ?_ (by assumption) ?_
 rotate_left
 ·(intro w hSw;(try dsimp only at hSw);go_simp;try with_reducible rfl)
 (try simp only [zz])
 refine tkH 16 ?_ ?_ (by assumption) ?_
 rotate_left
 ·(intro w hSw;(try dsimp only at hSw);go_simp;try with_reducible rfl)
 (try simp only [zz])
 refine tkH 17 ?_ ?_ (by assumption) ?_
 rotate_left
 ·(intro w hSw;(try dsimp only at hSw);go_simp;try with_reducible rfl)
 (try simp only [zz])
 refine tkH 18 ?_ ?_ (by assumption) ?_
 rotate_left
 ·(intro w hSw;have hs:=N11.out _ hSw;(try dsimp only at hSw);go_simp;try with_reducible rfl)
 (try simp only [zz])
 refine tkH 20 ?_ ?_ (by assumption) ?_
 rotate_left
 ·(intro w hSw;(try dsimp only at hSw);go_simp;try with_reducible rfl)
 (try simp only [zz])
 refine rdH 19 (fun K hK=>?_)
 go_simp
 ((with_reducible refine (HO.out _).mono ?_);rintro e y0 ⟨rfl,rfl⟩)
 refine hK.out _ _ (by exact hHeld) (fun hHeld=>?_)
 clear hK K
 (try simp only [zz])
 refine rdH 21 (fun K hK=>?_)
 go_simp
 ((with_reducible refine (HLv.out _ hHeld).mono ?_);rintro e y1 ⟨vL,rfl,hL⟩)
 obtain ⟨LA,lc,rfl,-,hO⟩:=own_ods hL.out.1 HLl.out (HOk.out _)
 have hO:=Lib.hid hO
 have hS1:=Lib.hid hHeld.size
 refine hK.out _ _ (by exact hHeld.trans (hL.out.2.mono hHeld.size)) (fun hHeld=>?_)
 clear hK K
 (try simp only [zz])
 refine rdH 22 (fun K hK=>?_)
 go_simp
 ((with_reducible refine (HMt.out _ _ _ _ hO.out).mono ?_);rintro e y2 ⟨RA,rc,DA,dc,rfl,hM⟩)
 have hS2:=Lib.hid hHeld.size
 refine hK.out _ _ (by exact hHeld.trans (hM.out.1.mono hHeld.size)) (fun hHeld=>?_)
 clear hK K
 (try simp only [zz])
 refine tkH 23 ?_ ?_ (by assumption) ?_
 rotate_left
 ·(intro w hSw;(try dsimp only at hSw);go_simp;try with_reducible rfl)
 (try simp only [zz])
 refine tkH 24 ?_ ?_ (by assumption) ?_
 rotate_left
 ·(intro w hSw;(try dsimp only at hSw);go_simp;try with_reducible rfl)
 (try simp only [zz])
 refine tkH 25 ?_ ?_ (by assumption) ?_
 rotate_left
 ·(intro w hSw;(try dsimp only at hSw);go_simp;try with_reducible rfl)
 (try simp only [zz])
 refine tkH 26 ?_ ?_ (by assumption) ?_
 rotate_left
 ·(intro w hSw;(try dsimp only at hSw);go_simp;try with_reducible rfl)
 (try simp only [zz])
 refine tkH 27 ?_ ?_ (by assumption) ?_
 rotate_left
 ·(intro w hSw;(try dsimp only at hSw);go_simp;try with_reducible rfl)
 (try simp only [zz])
 refine tkH 28 ?_ ?_ (by assumption) ?_
 rotate_left
 ·(intro w hSw;(try dsimp only at hSw);go_simp;try with_reducible rfl)
 (try simp only [zz])
 refine tkH 29 ?_ ?_ (by assumption) ?_
 rotate_left
 ·(intro w hSw;(try dsimp only at hSw);go_simp;try with_reducible rfl)
 (try simp only [zz])
 refine wpAnyH_done (by kernel_rfl) ?_ _
 have HM2:=Lib.hid (HW.out.below hHeld)
 have HB2:=Lib.hid hHeld
 obtain ⟨hb12,hrun,hdr,hnew⟩:=hM.out
 have HDr:Hid (dNum R m p = 1 → ∃ b,DA = some ⟨b,0,none⟩∧b < y2.heap.size∧y2.cell? ⟨b,0,none⟩ = some (.int .u64 (dId R m p))∧w.heap.size≤b):=Lib.hid (fun h=>by
  obtain ⟨b,h1,h2,h3,h4⟩:=hdr h
  exact ⟨b,h1,h2,h3,Nat.le_trans hS2.out h4⟩)
 have HTr:Hid (Calls Tryz.prog 74 #[ptA g,.int .i64 p,.slice RA (nM R m p) rc] y2 (TrdEnd y2 base g bk X R v k S m fv dv lf false p)):=Lib.hid (by
  obtain ⟨hm,hr,hpr,hp⟩:=HP.out
  refine trade_c base g bk X R v k S m fv dv lf false p RA (nM R m p) rc y2 HM2.out hrun rfl (fun b off e=>?_) hm.gm hp ⟨hr.l1,hr.l2⟩ hm.l1 hm.cr (by have:=hm.fn;omega) (HW.out.ly.hd.len)
  intro hf
  have h1:=hnew b off e
  have h2:=HW.out.lt b (by exact hf)
  have h3:=hS2.out
  omega)
 unfold TrdEnd at HTr
 have HNm:Hid (mtM R.self R.acc (lvM R m p) = dNum R m p∧mtS R.self R.acc (lvM R m p) = dStp R m p):=Lib.hid ⟨rfl,rfl⟩
 rw [HNm.out.1,HNm.out.2]
 clear hHeld hb12 hrun hdr hnew hM hO hL hS1 hS2 HMt HLv HO HLl HOk N0 N8 N10 N11 HR9
 obtain ⟨nD,hnD⟩:∃ n,dNum R m p = n:=⟨_,rfl⟩
 obtain ⟨sS,hsS⟩:∃ s,dStp R m p = s:=⟨_,rfl⟩
 rw [hnD,hsS]
 have HNS:=Lib.hid (And.intro hnD hsS)
 rw [hnD] at HDr
 clear hnD hsS HNm
 go_wp2_with fail
 ((with_reducible refine HTr.out.mono ?_);rintro e y3 ⟨em,fv1,S1,rfl,hT⟩)
 obtain ⟨mA,hmA⟩:∃ x,aftM R m p = x:=⟨_,rfl⟩
 rw [hmA] at hT
 have HT:=Lib.hid (MTurn.after HB2.out hT.out.2)
 have HE:=Lib.hid hT.out.1
 have HA:=Lib.hid hmA
 obtain ⟨lA,hlA⟩:∃ x,mA.left = x:=⟨_,rfl⟩
 have g13:y3.cell? ⟨g,13,none⟩ = some (.int .i64 lA):=by rw [← hlA];exact (hT.out.2.mw.mb.c 13).trans rfl
 have HLA:=Lib.hid hlA
 have HDr3:Hid (nD = 1 → ∃ b,DA = some ⟨b,0,none⟩∧y3.cell? ⟨b,0,none⟩ = some (.int .u64 (dId R m p))):=Lib.hid (fun h=>by
  obtain ⟨b,h1,h2,h3,h4⟩:=HDr.out h
  exact ⟨b,h1,fr_cell hT.out.2.fr h2 (HW.out.far h4) h3⟩)
 clear hT HTr hmA hlA HDr
 cases em with
 | false =>
  go_wp2_with fail
  go_ret
  exact meet_off HA.out HP.out.2.2.1 (.inl (fun h=>by have:=HE.out.2 h;cases this)) HT.out
 | true =>
  by_cases hl0:lA = 0
  ·have g1:(lA == 0) = true:=by simp [hl0]
   have HL0:Hid (mA.left = 0):=Lib.hid (by rw [HLA.out,hl0])
   clear hl0
   go_wp2_with fail
   go_ret
   exact meet_off HA.out HP.out.2.2.1 (.inr HL0.out) HT.out
  ·have g1:(lA == 0) = false:=by simp [hl0]
   have HPl:=Lib.hid (meet_p HP.out.1 HP.out.2.1 HP.out.2.2.1 (HE.out.1 rfl) (by rw [HA.out,HLA.out];exact hl0))
   rw [HA.out,HNS.out.1,HNS.out.2] at HPl
   have hn1:=HPl.out.1
   have HDn:Hid (mA.D.length < 100000):=Lib.hid (by
    have h:=HP.out.1.aft HP.out.2.1 HP.out.2.2.1 (HE.out.1 rfl)
    rw [HA.out] at h;have:=h.dn;omega)
   clear hl0
   go_wp2_with fail
   go_loopg [54] nD (fun kx s54 wr=>∃ (i:Nat) (dv1:Value) (S2:Nat → Prop),s54 = .int .i64 (i:Int)∧i≤nD∧nD - i≤kx∧Hid (MTurn w wr base g bk X R v k S S2 (dropK (dId R m p) mA i) fv dv fv1 dv1 lf false∧(i = 0 → nD = 1 → ∃ b,DA = some ⟨b,0,none⟩∧wr.cell? ⟨b,0,none⟩ = some (.int .u64 (dId R m p)))))
   case atStart=>exact ⟨0,dv,S1,rfl,by omega,by omega,Lib.hid ⟨HT.out,fun _=>HDr3.out⟩⟩
   case round =>
    clear HT HDr3 g13 g1
    obtain ⟨i,dv1,S2,rfl,hi,hkx,hI⟩:=hrel
    by_cases hlt:i < nD
    ·obtain rfl:i = 0:=by omega
     obtain rfl:nD = 1:=by omega
     obtain ⟨bD,rfl,cD⟩:=hI.out.2 rfl rfl
     obtain ⟨id,hid⟩:∃ x,dId R m p = x:=⟨_,rfl⟩
     rw [hid] at cD
     have HT0:Hid (MTurn w wr base g bk X R v k S S2 mA fv dv fv1 dv1 lf false):=Lib.hid hI.out.1
     have HId:=Lib.hid hid
     have hwf:(Lit.int .u64 id).wf = true:=by
      obtain ⟨x,hx,he⟩:=HPl.out.2.2 rfl
      rw [← hid,← he]
      exact wf_u (HT0.out.mw.ly.hd.ok x hx).1.1
     have HTk:=Lib.hid (yTake_c bk v k mA.L S2 id hwf wr HT0.out.mw.ly)
     unfold TakEnd at HTk
     have g0:wr.cell? ⟨g,0,none⟩ = some (ptA bk):=(HT0.out.mw.mb.c 0).trans rfl
     obtain ⟨⟨z0,z1,z2,z3,z4,z5⟩,hz⟩:∃ z,oZ (getO id mA.L) = z:=⟨_,rfl⟩
     obtain ⟨th,hth⟩:∃ t,(getO id mA.L).isSome = t:=⟨_,rfl⟩
     rw [hz,hth] at HTk
     have HZ:=Lib.hid hz
     clear hI hid hwf hz hth
     go_wp2_with fail
     ((with_reducible refine HTk.out.mono ?_);rintro e y4 ⟨S3,rfl,hK⟩)
     have HK:=Lib.hid hK.out
     clear hK HTk g0 cD
     go_upto_region 8 with fail
     obtain ⟨y5,hy5⟩:∃ y,y4.alloc (.cells #[.int .u64 z0,.int .i64 z1,.int .i64 z2,.int .i64 z3,.int .i64 z4,.int .u64 z5] 38) = y:=⟨_,rfl⟩
     rw [hy5]
     have hb5:Below y4.heap.size y4 y5:=by rw [← hy5];exact b1_of _ _
     have hO5:Cl 38 y5 y4.heap.size (OC ⟨z0,z1,z2,z3,z4,z5⟩):=by rw [← hy5];exact hd_last rfl
     have hmb5:Cl 109 y5 g (mC bk X R mA.left mA.cash fv1 dv1 lf false):=Cl.bel (HK.out.fr.blk HT0.out.mw.mb (nf_match HT0.out.mw.ly.hd HT0.out.mw.mb)) hb5
     have HDR5:=Lib.hid (own_fr (own_fr HT0.out.mw.dr HK.out.fr HT0.out.mw.ds) (Fr.of_below hb5:Fr (fun _=>False) y4 y5) (fun _ _ h=>h))
     have HB5:=Lib.hid hb5
     have g16:y5.cell? ⟨g,16,none⟩ = some dv1:=(hmb5.c 16).trans rfl
     obtain ⟨x0,x1,x2,x3,x4,x5⟩:=six_of hO5
     have lg:=blk_lt hmb5
     have HG5:=Lib.hid hmb5
     have Hsz:Hid (base≤y5.heap.size):=Lib.hid (Nat.le_trans HT0.out.mw.lo (Nat.le_trans HK.out.fr.size hb5.size))
     have Hng:Hid (dv1.ownBlock ≠ some g):=Lib.hid (own_ne HDR5.out HG5.out (by decide))
     obtain ⟨i0,hi0,hz0,hz1,hz2⟩:=info_parts info_o
     clear hO5 hmb5 hb5 hy5
     go_region_law
      ((refine step_append_lies _ (by rfl) _ _ 22 (by rfl) base 38 i0 (.agg (OC ⟨0,0,0,0,0,0⟩)) 6 48 Tryz.underlying22 hi0 hz0 hz1 hz2 rfl (by decide) dv1 mA.D.length (ol mA.D) (by rfl) (own_allocD HDR5.out _) ⟨y5.heap.size,0,none⟩ 1 1 (encO ⟨z0,z1,z2,z3,z4,z5⟩) (by rfl) (by rfl) (ord_news _ _ ⟨z0,z1,z2,z3,z4,z5⟩) (enc_one ⟨z0,z1,z2,z3,z4,z5⟩) (by decide) (by unfold maxLen;have:=HDn.out;omega) (by have:=HDn.out;omega) (by have:=Hsz.out;simp;omega) (y5.heap.size + 1) (by simp) ?_;intro gg cp w3 hown3 hgrow hat hlt;have hg3:Cl 109 w3 g (mC bk X R mA.left mA.cash fv1 dv1 lf false):=(hgrow.block g (Nat.lt_of_lt_of_le lg (by simp)) (Ne.symm Hng.out)).trans ((Below.heap_alloc y5.drew _ g lg).trans HG5.out);have HW3:=Lib.hid hown3;have HGR:=Lib.hid hgrow;have HAT:=Lib.hid hat;have cg16:w3.frozen? ⟨g,16,none⟩ = false:=frozen_of_row _ _ _ _ _ hg3;have cv16:w3.cell? ⟨g,16,none⟩ = some dv1:=(hg3.c 16).trans rfl;clear hown3 hgrow hat))
     all_goals
      have HT1:Hid (MTurn w (w3.setCell ⟨g,16,none⟩ (.slice (some ⟨gg,0,none⟩) (mA.D.length + 1) cp)) base g bk X R v k S S3 (dropK (dId R m p) mA 1) fv dv fv1 (.slice (some ⟨gg,0,none⟩) (mA.D.length + 1) cp) lf false):=Lib.hid (by
       have h:=HT0.out.trans (drop_rel HT0.out.mw HK.out HB5.out HW3.out HGR.out HAT.out)
       rw [HId.out]
       show MTurn _ _ _ _ _ _ _ _ _ _ _ (goneM id mA) _ _ _ _ _ _
       unfold goneM
       rw [HZ.out];exact h)
      go_wp2_with fail
      go_roundg 0
      case measure=>omega
      case rel=>exact ⟨1,_,S3,by go_num,by omega,by omega,Lib.hid ⟨HT1.out,fun h=>by cases h⟩⟩
    ·obtain rfl:i = nD:=by omega
     have HTE:=Lib.hid hI.out.1
     have hmb:=HTE.out.mw.mb
     have c18:wr.cell? ⟨g,18,none⟩ = some (.bool false):=(hmb.c 18).trans rfl
     have f18:wr.frozen? ⟨g,18,none⟩ = false:=frozen_of_row _ _ _ _ _ hmb
     have HR9:Hid (MTurn w (wr.setCell ⟨g,18,none⟩ (.bool sS)) base g bk X R v k S S2 (dropK (dId R m p) mA i) fv dv fv1 dv1 lf sS):=Lib.hid (HTE.out.setG (heap_set hmb))
     clear hI HTE hmb
     go_wp2_with fail
     go_ret
     exact ⟨!sS,_,fv1,dv1,S2,sS,rfl,Lib.hid ⟨HR9.out,HPl.out.2.1⟩⟩

theorem five_of {T:TypeId} {W:World} {c:Nat} {a0 a1 a2 a3 a4:Value} (h:Cl T W c #[a0,a1,a2,a3,a4]):W.cell? ⟨c,0,none⟩ = some a0∧W.cell? ⟨c,1,none⟩ = some a1∧W.cell? ⟨c,2,none⟩ = some a2∧W.cell? ⟨c,3,none⟩ = some a3∧W.cell? ⟨c,4,none⟩ = some a4 :=
 ⟨(h.c 0).trans rfl,(h.c 1).trans rfl,(h.c 2).trans rfl,(h.c 3).trans rfl,(h.c 4).trans rfl⟩
theorem nine_of {T:TypeId} {W:World} {c:Nat} {a0 a1 a2 a3 a4 a5 a6 a7 a8:Value} (h:Cl T W c #[a0,a1,a2,a3,a4,a5,a6,a7,a8]):W.cell? ⟨c,0,none⟩ = some a0∧W.cell? ⟨c,1,none⟩ = some a1∧W.cell? ⟨c,2,none⟩ = some a2∧W.cell? ⟨c,3,none⟩ = some a3∧W.cell? ⟨c,4,none⟩ = some a4∧W.cell? ⟨c,5,none⟩ = some a5∧W.cell? ⟨c,6,none⟩ = some a6∧W.cell? ⟨c,7,none⟩ = some a7∧W.cell? ⟨c,8,none⟩ = some a8 :=
 ⟨(h.c 0).trans rfl,(h.c 1).trans rfl,(h.c 2).trans rfl,(h.c 3).trans rfl,(h.c 4).trans rfl,(h.c 5).trans rfl,(h.c 6).trans rfl,(h.c 7).trans rfl,(h.c 8).trans rfl⟩
section
variable {ops : Array Oper} {rest : List Oper} {o : Oper} {a : Act} {w : World} {Q : Exit → Act → World → Prop}
theorem size_M:(Tryz.prog.info? 109).map (·.size) = some 19:=by kernel_rfl
theorem size_Re:(Tryz.prog.info? 71).map (·.size) = some 4:=by kernel_rfl
theorem storeM (hgd:o.guard = none) (x y:Operand) (ho:o.op = .store 109 x y) (g:Nat) (cs:Array Value) (hx:a.eval x = .pointer (some ⟨g,0,none⟩)) (hy:a.eval y = .agg cs) (old:Array Value) (t:TypeId)
  (hg:Cl t w g old) (hs:old.size = 19) (hc:cs.size = 19) (h1:cs.all (·.oneCell') = true) (h:wpList Tryz.prog ops Q rest (a.put o.dst undef) (w.setRow g cs)):wpList Tryz.prog ops Q (o :: rest) a w :=
 wpList_plain hgd fun K hK=>wp_store_row _ x y ho g _ hx hy _ _ hg (by rw [hc];exact size_M) (by rw [hs,hc]) h1 (hK _ _ h)
theorem storeRe (hgd:o.guard = none) (x y:Operand) (ho:o.op = .store 71 x y) (g:Nat) (cs:Array Value) (hx:a.eval x = .pointer (some ⟨g,0,none⟩)) (hy:a.eval y = .agg cs) (old:Array Value) (t:TypeId)
  (hg:Cl t w g old) (hs:old.size = 4) (hc:cs.size = 4) (h1:cs.all (·.oneCell') = true) (h:wpList Tryz.prog ops Q rest (a.put o.dst undef) (w.setRow g cs)):wpList Tryz.prog ops Q (o :: rest) a w :=
 wpList_plain hgd fun K hK=>wp_store_row _ x y ho g _ hx hy _ _ hg (by rw [hc];exact size_Re) (by rw [hs,hc]) h1 (hK _ _ h)
end
def Ruls.One (X:Ruls):Prop:=X.ver.oneCell' = true∧X.ticks.oneCell' = true∧X.band.oneCell' = true∧X.fees.oneCell' = true∧X.round.oneCell' = true∧X.lay.oneCell' = true
theorem mc_one {bk:Nat} {X:Ruls} {R:Rl} {l c:Int} (h:X.One):(mC bk X R l c (.slice none 0 0) (.slice none 0 0) 0 false).all (·.oneCell') = true:=by
 obtain ⟨h1,h2,h3,h4,h5,h6⟩:=h
 refine all_oneCell_toArray (cs:=[ptA bk,X.ver,X.ticks,.int .i64 R.lot,X.band,X.fees,X.round,.int .i64 R.mode,.int .i64 R.self,X.lay,.int .i64 R.acc,.int .i64 R.side,.int .i64 R.price,.int .i64 l,.int .i64 c,.slice none 0 0,.slice none 0 0,.int .i64 0,.bool false]) (fun u hu=>?_)
 simp only [List.mem_cons,List.not_mem_nil,or_false] at hu
 rcases hu with rfl | rfl | rfl | rfl | rfl | rfl | rfl | rfl | rfl | rfl | rfl | rfl | rfl | rfl | rfl | rfl | rfl | rfl | rfl <;> first | rfl | assumption
theorem retRs {fn:Func} {p q:Tmp} (h:fn.results = #[.cell p 71,.tmp q]) (tmps:Array Value) (w:World) (g:Nat) (hp:tmps.getD p undef = .pointer (some ⟨g,0,none⟩)) (cs:Array Value) (t:TypeId)
  (hg:Cl t w g cs) (hc:cs.size = 4) (v:Value) (hq:tmps.getD q undef = v):(results fn tmps).run Tryz.prog w = .ok (.tuple #[.agg cs,v]) w:=by
 have hp':tmps[p]?.getD undef = .pointer (some ⟨g,0,none⟩):=by simpa using hp
 have hq':tmps[q]?.getD undef = v:=by simpa using hq
 simp [results,h,hp',hq',asAddr,run_loadVar_row w g _ _ _ (0,0) _ hg Tryz.underlying71 rfl (by rw [hc];exact size_Re)]
theorem own_slice' {w:World} {base n size:Nat} {T:TypeId} {v:Value} {xs:List Value} (h:w.ownsRow base T size v n xs):∃ A c,v = .slice A n c:=by
 rcases h.2 with ⟨rfl,h0⟩ | ⟨k,cap,cur,rfl,_⟩
 ·subst h0;exact ⟨_,_,rfl⟩
 ·exact ⟨_,_,rfl⟩
abbrev resV (fv dv:Value) (lf:Int) (st:Bool):Value:=.agg #[fv,dv,.int .i64 lf,.bool st]
structure MatchIs (w w':World) (bk:Nat) (v:Value) (k:Int) (S S':Nat → Prop) (r:Mt × Bool) (fv dv:Value):Prop where
 ly:LyB w' bk v k r.1.L S'
 fo:w'.ownsRow w.heap.size 90 7 fv r.1.F.length (flF r.1.F)
 dr:w'.ownsRow w.heap.size 38 6 dv r.1.D.length (ol r.1.D)
 fr:Fr S w w'
 ft:∀ j,S' j → S j ∨ w.heap.size≤j
 fn:r.1.F.length≤100000
def MatchEnd (w:World) (bk:Nat) (v:Value) (k:Int) (S:Nat → Prop) (r:Mt × Bool) (e:Ending) (w':World):Prop :=
 ∃ (fv dv:Value) (S':Nat → Prop),e = .returned (.tuple #[resV fv dv r.1.left r.2,.int .i64 0])∧Hid (MatchIs w w' bk v k S S' r fv dv)
theorem match_is {w w5 w6 w7:World} {g bk c6:Nat} {X:Ruls} {R:Rl} {v:Value} {k:Int} {S S1:Nat → Prop} {m:Mt} {fv dv:Value} {lf:Int} {st:Bool} {T:TypeId} {cs:Array Value} {r:Mt × Bool} (hr:r = (m,st)) (HB:LyB w bk v k m.L S ∨ bk < w.heap.size) (hS:∀ j,S j → j < w.heap.size)
  (hb:Below w.heap.size w w5) (t:MTurn w5 w6 w.heap.size g bk X R v k S S1 m (.slice none 0 0) (.slice none 0 0) fv dv lf st) (hg:w.heap.size≤g) (hc:w.heap.size≤c6) (hlt:c6 < w5.heap.size) (hcl:Cl T w6 c6 cs) (h1:90 ≠ T) (h2:38 ≠ T) (hf:Fr (fun j=>j = c6) w6 w7) :
  MatchIs w w7 bk v k S S1 r fv dv:=by
 subst hr
 have hbk:bk < w.heap.size:=by rcases HB with h | h;exact blk_lt h.cl;exact h
 have s5:=hb.size
 have n1:¬ S1 c6:=fun h=>by
  rcases t.ft _ h with h | h
  ·have:=hS _ h;omega
  ·omega
 refine ⟨t.mw.ly.fr hf (by omega) (fun j hj h=>by subst h;exact n1 hj),own_fr t.mw.fo hf (fun j hj h=>by subst h;exact own_ne t.mw.fo hcl h1 hj),own_fr t.mw.dr hf (fun j hj h=>by subst h;exact own_ne t.mw.dr hcl h2 hj),?_,fun j hj=>?_,t.mw.fn⟩
 ·refine ((Fr.of_below hb:Fr S w w5).trans t.fr (fun j hj=>?_)).trans hf (fun j hj=>.inr (by omega))
  rcases hj with h | h | h | h
  ·exact .inl h
  ·right;omega
  ·simp [Value.ownBlock] at h
  ·simp [Value.ownBlock] at h
 ·rcases t.ft j hj with h | h
  ·exact .inl h
  ·right;omega
structure MaS (w w5 w':World) (g bk:Nat) (X:Ruls) (R:Rl) (v:Value) (k:Int) (S S1:Nat → Prop) (m0 m:Mt) (fv dv:Value):Prop where
 tu:MTurn w5 w' w.heap.size g bk X R v k S S1 m (.slice none 0 0) (.slice none 0 0) fv dv 0 false
 cr:crF R m0 = crF R m
 ok:MOk m
 be:Below w.heap.size w w5
 lg:w.heap.size + 3≤g
 c6:Cl 71 w5 (w.heap.size + 1 + 1) #[.slice none 0 0,.slice none 0 0,.int .i64 0,.bool false]
def MaJ (w:World) (bk:Nat) (X:Ruls) (R:Rl) (v:Value) (k:Int) (S:Nat → Prop) (m0:Mt) (q cash:Int) (n:Nat) (a:Act) (w':World):Prop :=
 ∃ (g:Nat) (w5:World) (m:Mt) (fv dv:Value) (S1:Nat → Prop),m.L.length = n∧Hid (MaS w w5 w' g bk X R v k S S1 m0 m fv dv)∧∃ u9 u10 u11 u12 u13 u14 u15 u16 u17 u18 u19 u20 u21 u22 u23 u24 u25 u26 u27 u28 u29 u30 u31 u32 u33 u34 u35 u36 u37 u38 u39,a = ⟨#[ptA bk,.agg #[.int .i64 R.acc,.int .i64 R.side,.int .i64 R.price,.int .i64 q,.int .i64 cash],.agg #[X.ver,X.ticks,.int .i64 R.lot,X.band,X.fees,X.round,.int .i64 R.mode,.int .i64 R.self,X.lay],undef,ptA w.heap.size,ptA (w.heap.size + 1),ptA (w.heap.size + 1 + 1),.int .i64 0,ptA g,u9,u10,u11,u12,u13,u14,u15,u16,u17,u18,u19,u20,u21,u22,u23,u24,u25,u26,u27,u28,u29,u30,u31,u32,u33,u34,u35,u36,u37,u38,u39],[]⟩
theorem MaS.out6 {w w5 w':World} {g bk:Nat} {X:Ruls} {R:Rl} {v:Value} {k:Int} {S S1:Nat → Prop} {m0 m:Mt} {fv dv:Value} (h:MaS w w5 w' g bk X R v k S S1 m0 m fv dv) (hS:∀ j,S j → j < w.heap.size) {w6:World} (hf:Fr (Ft S g (.slice none 0 0) (.slice none 0 0)) w5 w6):Cl 71 w6 (w.heap.size + 1 + 1) #[.slice none 0 0,.slice none 0 0,.int .i64 0,.bool false]:=by
 refine hf.blk h.c6 (fun hj=>?_)
 rcases hj with hj | hj | hj | hj
 ·have:=hS _ hj;omega
 ·have:=h.lg;omega
 ·simp [Value.ownBlock] at hj
 ·simp [Value.ownBlock] at hj
theorem ma_start {w w3 w4:World} {bk:Nat} {X:Ruls} {R:Rl} {v:Value} {k:Int} {L:List Od} {S:Nat → Prop} {q cash:Int} {old:Array Value} (b3:Below w.heap.size w w3) (s3:w3.heap.size = w.heap.size + 3) (c6:Cl 71 w3 (w.heap.size + 1 + 1) #[.slice none 0 0,.slice none 0 0,.int .i64 0,.bool false]) (b4:Below w3.heap.size w3 w4) (HB:LyB w bk v k L S) (hm:MOk ⟨L,q,cash,[],[]⟩) :
  MaS w ((w4.alloc (.cells old 109)).setRow w4.heap.size (mC bk X R q cash (.slice none 0 0) (.slice none 0 0) 0 false)) ((w4.alloc (.cells old 109)).setRow w4.heap.size (mC bk X R q cash (.slice none 0 0) (.slice none 0 0) 0 false)) w4.heap.size bk X R v k S S ⟨L,q,cash,[],[]⟩ ⟨L,q,cash,[],[]⟩ (.slice none 0 0) (.slice none 0 0):=by
 have s4:=b4.size
 have b5:Below w4.heap.size w4 ((w4.alloc (.cells old 109)).setRow w4.heap.size (mC bk X R q cash (.slice none 0 0) (.slice none 0 0) 0 false)):=below_row (b1_of _ _) (Nat.le_refl _)
 have b35:=b4.trans (b5.mono b4.size)
 have b05:=b3.trans (b35.mono b3.size)
 exact ⟨MTurn.same ⟨setRow_heap _ _ _ _ _ _ (hd_last rfl),HB.below b05,World.ownsRow_nil _ _ _ _,World.ownsRow_nil _ _ _ _,fun j hj=>(by simp [Value.ownBlock] at hj),b05.size,Nat.zero_le _⟩,rfl,hm,b05,by omega,Cl.bel c6 b35⟩
theorem ma_cells {w5 w1:World} {base g bk:Nat} {X:Ruls} {R:Rl} {v:Value} {k:Int} {S S1:Nat → Prop} {m1:Mt} {fv dv fv1 dv1:Value} {st:Bool} (t:MTurn w5 w1 base g bk X R v k S S1 m1 fv dv fv1 dv1 0 st) :
  w1.cell? ⟨g,13,none⟩ = some (.int .i64 m1.left)∧w1.cell? ⟨g,17,none⟩ = some (.int .i64 0)∧w1.frozen? ⟨g,17,none⟩ = false∧MTurn w5 (w1.setCell ⟨g,17,none⟩ (.int .i64 m1.left)) base g bk X R v k S S1 m1 fv dv fv1 dv1 m1.left st:=by
 have hm:=t.mw.mb
 exact ⟨(hm.c 13).trans rfl,(hm.c 17).trans rfl,frozen_of_row _ _ _ _ _ hm,t.setG (heap_set hm)⟩
theorem re_one {A B:Option Addr} {n c n' c':Nat} {lf:Int} {st:Bool}:(#[Value.slice A n c,.slice B n' c',.int .i64 lf,.bool st]:Array Value).all (·.oneCell') = true:=by
 refine all_oneCell_toArray (cs:=[.slice A n c,.slice B n' c',.int .i64 lf,.bool st]) (fun u hu=>?_)
 simp only [List.mem_cons,List.not_mem_nil,or_false] at hu
 rcases hu with rfl | rfl | rfl | rfl <;> rfl
theorem match18_c (bk:Nat) (X:Ruls) (R:Rl) (v:Value) (k:Int) (L:List Od) (S:Nat → Prop) (q cash:Int) (w:World) (HB:LyB w bk v k L S) (hf:FitP R q) (hc:InR cash) (hX:X.One) :
  Calls Tryz.prog 33 #[ptA bk,.agg #[.int .i64 R.acc,.int .i64 R.side,.int .i64 R.price,.int .i64 q,.int .i64 cash],.agg #[X.ver,X.ticks,.int .i64 R.lot,X.band,X.fees,X.round,.int .i64 R.mode,.int .i64 R.self,X.lay]] w (MatchEnd w bk v k S (crF R ⟨L,q,cash,[],[]⟩)):=by
 have hk:(k == 0) = false:=by rcases HB.hd.k12 with h | h <;> rw [h] <;> rfl
 have HKi:=Lib.hid (fun W (hW:Below w.heap.size w W)=>kind_c bk v k L S W (HB.below hW))
 have HFi:=Lib.hid (fun W=>fits_c X R q cash W true ⟨fun _=>hf,fun _=>rfl⟩)
 have HLy:=Lib.hid HB
 have hr:ROk R:=⟨hf.side,fit_pol hf,by have:=hf.m0;have:=hf.m1;omega,hf.l0,hf.l1⟩
 have HR:=Lib.hid hr
 have hm0:MOk ⟨L,q,cash,[],[]⟩:=⟨⟨HB.hd.ids,fun x hx=>(HB.hd.ok x hx).2⟩,by have:=hf.q0;show 0≤q;omega,hf.q1,hc,by show 0 + L.length≤64;have:=HB.hd.len;omega,by show 0 + L.length≤64;have:=HB.hd.len;omega⟩
 have HM0:=Lib.hid hm0
 have HS:=Lib.hid HB.hd.lt
 have HBk:=Lib.hid (blk_lt HB.cl)
 obtain ⟨w3,hw3⟩:∃ w3,((w.alloc (.cells #[.int .i64 R.acc,.int .i64 R.side,.int .i64 R.price,.int .i64 q,.int .i64 cash] 64)).alloc (.cells #[X.ver,X.ticks,.int .i64 R.lot,X.band,X.fees,X.round,.int .i64 R.mode,.int .i64 R.self,X.lay] 68)).alloc (.cells #[.slice none 0 0,.slice none 0 0,.int .i64 0,.bool false] 71) = w3:=⟨_,rfl⟩
 have b3:Below w.heap.size w w3:=by rw [← hw3];exact (((Below.refl _ _).alloc (Nat.le_refl _) _).alloc (by simp) _).alloc (by simp;omega) _
 have s3:w3.heap.size = w.heap.size + 3:=by rw [← hw3];simp
 have c4:Cl 64 w3 w.heap.size #[.int .i64 R.acc,.int .i64 R.side,.int .i64 R.price,.int .i64 q,.int .i64 cash]:=by rw [← hw3];exact hd_prev (by simp;omega) (hd_prev (by simp) (hd_last rfl))
 have c5:Cl 68 w3 (w.heap.size + 1) #[X.ver,X.ticks,.int .i64 R.lot,X.band,X.fees,X.round,.int .i64 R.mode,.int .i64 R.self,X.lay]:=by rw [← hw3];exact hd_prev (by simp) (hd_last (by simp))
 have c6:Cl 71 w3 (w.heap.size + 1 + 1) #[.slice none 0 0,.slice none 0 0,.int .i64 0,.bool false]:=by rw [← hw3];exact hd_last (by simp)
 have HB3:=Lib.hid b3
 have HC:=Lib.hid (And.intro c4 (And.intro c5 (And.intro c6 s3)))
 have HK3:=Lib.hid (HKi.out w3 b3)
 obtain ⟨t0,t1,t2,t3,t4⟩:=five_of c4
 obtain ⟨r0,r1,r2,r3,r4,r5,r6,r7,r8⟩:=nine_of c5
 clear HB hf hc hr hm0 HKi b3 s3 c4 c5 c6
 go_enter Tryz.func33,Tryz.ntmps33
 go_wp2_with fail
 refine scope_ghost 0 (MaJ w bk X R v k S ⟨L,q,cash,[],[]⟩ q cash) rfl ?_ ?_
 ·intro hp
  have HX:=Lib.hid (mc_one (bk:=bk) (R:=R) (l:=q) (c:=cash) hX)
  go_wp2_with (first | ((with_reducible refine HK3.out.mono ?_);rintro e w' ⟨rfl,rfl⟩) | ((with_reducible refine (HFi.out _).mono ?_);rintro e w4 ⟨rfl,hb4⟩;obtain ⟨p0,p1,p2,p3,p4⟩:=five_of (Cl.bel HC.out.1 hb4);obtain ⟨s0,s1,s2,s3,s4,s5,s6,s7,s8⟩:=nine_of (Cl.bel HC.out.2.1 hb4);have HB4:=Lib.hid hb4;clear hb4) | ((with_reducible apply storeM);rfl;rfl;rfl;rfl;exact (show Cl 109 _ w4.heap.size _ from hd_last rfl);rfl;rfl;exact HX.out;skip))
  go_step3
  rename_i K hK
  refine hK _ _ (hp L.length _ _ ⟨w4.heap.size,_,⟨L,q,cash,[],[]⟩,.slice none 0 0,.slice none 0 0,S,rfl,Lib.hid (ma_start HB3.out HC.out.2.2.2 HC.out.2.2.1 HB4.out HLy.out HM0.out),?_⟩)
  exact ⟨_,_,_,_,_,_,_,_,_,_,_,_,_,_,_,_,_,_,_,_,_,_,_,_,_,_,_,_,_,_,_,rfl⟩
 ·clear t0 t1 t2 t3 t4 r0 r1 r2 r3 r4 r5 r6 r7 r8 HK3 HFi HC HB3 hw3
  rintro n a w' ⟨g,w5,m,fv,dv,S1,rfl,HI,u9,u10,u11,u12,u13,u14,u15,u16,u17,u18,u19,u20,u21,u22,u23,u24,u25,u26,u27,u28,u29,u30,u31,u32,u33,u34,u35,u36,u37,u38,u39,rfl⟩
  obtain ⟨FA,fc,rfl⟩:=own_slice' HI.out.tu.mw.fo
  obtain ⟨DA,dc,rfl⟩:=own_slice' HI.out.tu.mw.dr
  have HPr:Hid (Calls Tryz.prog 54 #[ptA g] w' fun e w1=>e = .returned (.tuple #[.int .i64 ((prM R m.L).getD 0),.bool (prM R m.L).isSome])∧Below w'.heap.size w' w1):=Lib.hid (price18_c g bk v k m.L S1 X R m.left m.cash _ _ 0 false w' HI.out.tu.mw.mb HI.out.tu.mw.ly HR.out.s)
  cases hpr:prM R m.L with
  | none =>
   rw [hpr] at HPr
   simp only [Option.getD_none,Option.isSome_none] at HPr
   go_wp2_with fail
   ((with_reducible refine HPr.out.mono ?_);rintro e w1 ⟨rfl,hb1⟩)
   have HE:=Lib.hid (HI.out.tu.grow hb1)
   have HCR:Hid (crF R ⟨L,q,cash,[],[]⟩ = (m,false)):=Lib.hid (HI.out.cr.trans (crF_none hpr))
   clear hb1
   have HCE:=Lib.hid (ma_cells HE.out)
   obtain ⟨e13,e17,f17,-⟩:=HCE.out
   have HT7:=Lib.hid HCE.out.2.2.2
   have hm7:=HT7.out.mw.mb
   have q15:(w1.setCell ⟨g,17,none⟩ (.int .i64 m.left)).cell? ⟨g,15,none⟩ = some _:=(hm7.c 15).trans rfl
   have q16:(w1.setCell ⟨g,17,none⟩ (.int .i64 m.left)).cell? ⟨g,16,none⟩ = some _:=(hm7.c 16).trans rfl
   have q17:(w1.setCell ⟨g,17,none⟩ (.int .i64 m.left)).cell? ⟨g,17,none⟩ = some _:=(hm7.c 17).trans rfl
   have q18:(w1.setCell ⟨g,17,none⟩ (.int .i64 m.left)).cell? ⟨g,18,none⟩ = some _:=(hm7.c 18).trans rfl
   have HC6:=Lib.hid (HI.out.out6 HS.out HT7.out.fr)
   clear hm7 HCE HPr hpr
   go_wp2_with ((with_reducible apply storeRe);rfl;rfl;rfl;rfl;exact HC6.out;rfl;rfl;exact re_one;skip)
   refine bodyPost_ret (retRs rfl _ _ _ rfl _ _ (setRow_heap _ _ _ _ _ _ HC6.out) rfl _ rfl) rfl ?_
   rw [HCR.out]
   refine ⟨_,_,_,rfl,Lib.hid (match_is rfl (.inr HBk.out) HS.out HI.out.be HT7.out (by have:=HI.out.lg;omega) (by omega) (blk_lt HI.out.c6) HC6.out (by decide) (by decide) ?_)⟩
   exact ⟨rfl,rfl,rfl,by simp [World.setRow],fun j hj hne=>setRow_other _ _ _ _ hne⟩
  | some p =>
   rw [hpr] at HPr
   simp only [Option.getD_some,Option.isSome_some] at HPr
   go_wp2_with fail
   ((with_reducible refine HPr.out.mono ?_);rintro e w1 ⟨rfl,hb1⟩)
   have HE1:=Lib.hid (HI.out.tu.grow hb1)
   have HMe:Hid (Calls Tryz.prog 55 #[ptA g,.int .i64 p] w1 (MeetEnd w1 w.heap.size g bk X R v k S1 m (.slice FA m.F.length fc) (.slice DA m.D.length dc) 0)):=Lib.hid (meet18_c w.heap.size g bk X R v k S1 m _ _ 0 p w1 HE1.out.mw HI.out.ok HR.out hpr)
   unfold MeetEnd at HMe
   clear hb1 HPr hpr
   go_wp2_with fail
   ((with_reducible refine HMe.out.mono ?_);rintro e w2 ⟨go,m1,fv1,dv1,S2,st1,rfl,hM⟩)
   obtain ⟨FB,fc1,rfl⟩:=own_slice' hM.out.1.mw.fo
   obtain ⟨DB,dc1,rfl⟩:=own_slice' hM.out.1.mw.dr
   have HE:=Lib.hid (HE1.out.trans hM.out.1)
   have HMP:=Lib.hid hM.out.2
   clear hM HE1 HMe
   cases go with
   | false =>
    have HCR:Hid (crF R ⟨L,q,cash,[],[]⟩ = (m1,st1)):=Lib.hid (HI.out.cr.trans (HMP.out.no rfl))
    have HCE:=Lib.hid (ma_cells HE.out)
    obtain ⟨e13,e17,f17,-⟩:=HCE.out
    have HT7:=Lib.hid HCE.out.2.2.2
    have hm7:=HT7.out.mw.mb
    have q15:(w2.setCell ⟨g,17,none⟩ (.int .i64 m1.left)).cell? ⟨g,15,none⟩ = some _:=(hm7.c 15).trans rfl
    have q16:(w2.setCell ⟨g,17,none⟩ (.int .i64 m1.left)).cell? ⟨g,16,none⟩ = some _:=(hm7.c 16).trans rfl
    have q17:(w2.setCell ⟨g,17,none⟩ (.int .i64 m1.left)).cell? ⟨g,17,none⟩ = some _:=(hm7.c 17).trans rfl
    have q18:(w2.setCell ⟨g,17,none⟩ (.int .i64 m1.left)).cell? ⟨g,18,none⟩ = some _:=(hm7.c 18).trans rfl
    have HC6:=Lib.hid (HI.out.out6 HS.out HT7.out.fr)
    clear hm7 HCE
    go_wp2_with ((with_reducible apply storeRe);rfl;rfl;rfl;rfl;exact HC6.out;rfl;rfl;exact re_one;skip)
    refine bodyPost_ret (retRs rfl _ _ _ rfl _ _ (setRow_heap _ _ _ _ _ _ HC6.out) rfl _ rfl) rfl ?_
    rw [HCR.out]
    refine ⟨_,_,_,rfl,Lib.hid (match_is rfl (.inr HBk.out) HS.out HI.out.be HT7.out (by have:=HI.out.lg;omega) (by omega) (blk_lt HI.out.c6) HC6.out (by decide) (by decide) ?_)⟩
    exact ⟨rfl,rfl,rfl,by simp [World.setRow],fun j hj hne=>setRow_other _ _ _ _ hne⟩
   | true =>
    obtain ⟨hst,h1,h2,h3⟩:=HMP.out.yes rfl
    subst hst
    have HI2:Hid (MaS w w5 w2 g bk X R v k S S2 ⟨L,q,cash,[],[]⟩ m1 (.slice FB m1.F.length fc1) (.slice DB m1.D.length dc1)):=Lib.hid ⟨HE.out,HI.out.cr.trans h1,h3,HI.out.be,HI.out.lg,HI.out.c6⟩
    have H2:=Lib.hid h2
    clear h1 h2 h3 HE HI HMP
    go_wp2_with fail
    go_step3
    exact ⟨rfl,m1.L.length,H2.out,g,w5,m1,_,_,S2,rfl,HI2,_,_,_,_,_,_,_,_,_,_,_,_,_,_,_,_,_,_,_,_,_,_,_,_,_,_,_,_,_,_,_,rfl⟩

theorem made_nil (w:World):Calls Tryz.prog 47 #[.pointer none] w fun e w'=>e = .returned (.bool false)∧w = w':=by
 go_enter Tryz.func47,Tryz.ntmps47
 go_wp2_with fail
 go_ret
 exact ⟨rfl,rfl⟩
theorem kind_nil (w:World):Calls Tryz.prog 13 #[.pointer none] w fun e w'=>e = .returned (.int .i64 0)∧w = w':=by
 have HM:=Lib.hid (fun w=>made_nil w)
 go_enter Tryz.func13,Tryz.ntmps13
 go_wp2_with ((with_reducible refine (HM.out _).mono ?_);rintro e w' ⟨rfl,rfl⟩)
 go_ret
 exact ⟨rfl,rfl⟩
def MatchNo (w:World) (er:Int) (e:Ending) (w':World):Prop:=e = .returned (.tuple #[resV (.slice none 0 0) (.slice none 0 0) 0 false,.int .i64 er])∧Hid (Below w.heap.size w w')
theorem match_nil (X:Ruls) (R:Rl) (q cash:Int) (w:World):Calls Tryz.prog 33 #[.pointer none,.agg #[.int .i64 R.acc,.int .i64 R.side,.int .i64 R.price,.int .i64 q,.int .i64 cash],.agg #[X.ver,X.ticks,.int .i64 R.lot,X.band,X.fees,X.round,.int .i64 R.mode,.int .i64 R.self,X.lay]] w (MatchNo w 1):=by
 have HK:=Lib.hid (fun w=>kind_nil w)
 obtain ⟨w3,hw3⟩:∃ w3,((w.alloc (.cells #[.int .i64 R.acc,.int .i64 R.side,.int .i64 R.price,.int .i64 q,.int .i64 cash] 64)).alloc (.cells #[X.ver,X.ticks,.int .i64 R.lot,X.band,X.fees,X.round,.int .i64 R.mode,.int .i64 R.self,X.lay] 68)).alloc (.cells #[.slice none 0 0,.slice none 0 0,.int .i64 0,.bool false] 71) = w3:=⟨_,rfl⟩
 have b3:Below w.heap.size w w3:=by rw [← hw3];exact (((Below.refl _ _).alloc (Nat.le_refl _) _).alloc (by simp) _).alloc (by simp;omega) _
 have c4:Cl 64 w3 w.heap.size #[.int .i64 R.acc,.int .i64 R.side,.int .i64 R.price,.int .i64 q,.int .i64 cash]:=by rw [← hw3];exact hd_prev (by simp;omega) (hd_prev (by simp) (hd_last rfl))
 have c5:Cl 68 w3 (w.heap.size + 1) #[X.ver,X.ticks,.int .i64 R.lot,X.band,X.fees,X.round,.int .i64 R.mode,.int .i64 R.self,X.lay]:=by rw [← hw3];exact hd_prev (by simp) (hd_last (by simp))
 have c6:Cl 71 w3 (w.heap.size + 1 + 1) #[.slice none 0 0,.slice none 0 0,.int .i64 0,.bool false]:=by rw [← hw3];exact hd_last (by simp)
 have HB3:=Lib.hid b3
 have HC6:=Lib.hid c6
 clear b3 c4 c5 c6
 go_enter Tryz.func33,Tryz.ntmps33
 go_wp2_with fail
 refine scope_ghost 0 (fun _ _ _=>False) rfl (fun hp=>?_) (fun _ _ _ h=>h.elim)
 go_wp2_with (first | ((with_reducible refine (HK.out _).mono ?_);rintro e w' ⟨rfl,rfl⟩) | ((with_reducible apply storeRe);rfl;rfl;rfl;rfl;exact HC6.out;rfl;rfl;exact re_one;skip))
 refine bodyPost_ret (retRs rfl _ _ _ rfl _ _ (setRow_heap _ _ _ _ _ _ HC6.out) rfl _ rfl) rfl ?_
 exact ⟨rfl,Lib.hid (below_row HB3.out (by omega))⟩
theorem match_bad (bk:Nat) (X:Ruls) (R:Rl) (v:Value) (k:Int) (L:List Od) (S:Nat → Prop) (q cash:Int) (w:World) (HB:LyB w bk v k L S) (hf:¬ FitP R q) :
  Calls Tryz.prog 33 #[ptA bk,.agg #[.int .i64 R.acc,.int .i64 R.side,.int .i64 R.price,.int .i64 q,.int .i64 cash],.agg #[X.ver,X.ticks,.int .i64 R.lot,X.band,X.fees,X.round,.int .i64 R.mode,.int .i64 R.self,X.lay]] w (MatchNo w 2):=by
 have hk:(k == 0) = false:=by rcases HB.hd.k12 with h | h <;> rw [h] <;> rfl
 have HKi:=Lib.hid (fun W (hW:Below w.heap.size w W)=>kind_c bk v k L S W (HB.below hW))
 have HFi:=Lib.hid (fun W=>fits_c X R q cash W false ⟨fun h=>(by cases h),fun h=>absurd h hf⟩)
 obtain ⟨w3,hw3⟩:∃ w3,((w.alloc (.cells #[.int .i64 R.acc,.int .i64 R.side,.int .i64 R.price,.int .i64 q,.int .i64 cash] 64)).alloc (.cells #[X.ver,X.ticks,.int .i64 R.lot,X.band,X.fees,X.round,.int .i64 R.mode,.int .i64 R.self,X.lay] 68)).alloc (.cells #[.slice none 0 0,.slice none 0 0,.int .i64 0,.bool false] 71) = w3:=⟨_,rfl⟩
 have b3:Below w.heap.size w w3:=by rw [← hw3];exact (((Below.refl _ _).alloc (Nat.le_refl _) _).alloc (by simp) _).alloc (by simp;omega) _
 have c4:Cl 64 w3 w.heap.size #[.int .i64 R.acc,.int .i64 R.side,.int .i64 R.price,.int .i64 q,.int .i64 cash]:=by rw [← hw3];exact hd_prev (by simp;omega) (hd_prev (by simp) (hd_last rfl))
 have c5:Cl 68 w3 (w.heap.size + 1) #[X.ver,X.ticks,.int .i64 R.lot,X.band,X.fees,X.round,.int .i64 R.mode,.int .i64 R.self,X.lay]:=by rw [← hw3];exact hd_prev (by simp) (hd_last (by simp))
 have c6:Cl 71 w3 (w.heap.size + 1 + 1) #[.slice none 0 0,.slice none 0 0,.int .i64 0,.bool false]:=by rw [← hw3];exact hd_last (by simp)
 have HB3:=Lib.hid b3
 have HC6:=Lib.hid c6
 have HK3:=Lib.hid (HKi.out w3 b3)
 obtain ⟨t0,t1,t2,t3,t4⟩:=five_of c4
 obtain ⟨r0,r1,r2,r3,r4,r5,r6,r7,r8⟩:=nine_of c5
 clear HB hf HKi b3 c4 c5 c6
 go_enter Tryz.func33,Tryz.ntmps33
 go_wp2_with fail
 refine scope_ghost 0 (fun _ _ _=>False) rfl (fun hp=>?_) (fun _ _ _ h=>h.elim)
 go_wp2_with (first | ((with_reducible refine HK3.out.mono ?_);rintro e w' ⟨rfl,rfl⟩) | ((with_reducible refine (HFi.out _).mono ?_);rintro e w4 ⟨rfl,hb4⟩;have HC7:=Lib.hid (Cl.bel HC6.out hb4);have HB4:=Lib.hid hb4;clear hb4) | ((with_reducible apply storeRe);rfl;rfl;rfl;rfl;exact HC7.out;rfl;rfl;exact re_one;skip))
 refine bodyPost_ret (retRs rfl _ _ _ rfl _ _ (setRow_heap _ _ _ _ _ _ HC7.out) rfl _ rfl) rfl ?_
 exact ⟨rfl,Lib.hid (below_row (HB3.out.trans (HB4.out.mono HB3.out.size)) (by omega))⟩

abbrev exR:Rl:=⟨1,1,11,1,1,2⟩
abbrev exA:Od:=⟨1,0,2,10,5,1⟩
abbrev exB:Od:=⟨2,0,2,11,5,2⟩
abbrev exM0:Mt:=⟨[exA,exB],8,-1,[],[]⟩
abbrev exM1:Mt:=⟨[exB],3,-1,[(exA,5)],[]⟩
abbrev exM2:Mt:=⟨[⟨2,0,2,11,2,2⟩],0,-1,[(exA,5),(exB,3)],[]⟩
theorem xm_no0:¬ NoM exR exM0 10:=by unfold NoM NoSh;decide +kernel
theorem xm_no1:¬ NoM exR exM1 11:=by unfold NoM NoSh;decide +kernel
theorem xm_f0:fM exR exM0 10 0 = 5:=by decide +kernel
theorem xm_f1:fM exR exM1 11 0 = 3:=by decide +kernel
theorem xm_n0:nM exR exM0 10 = 1:=by decide +kernel
theorem xm_n1:nM exR exM1 11 = 1:=by decide +kernel
theorem xm_a0:aftM exR exM0 10 = exM1:=by
 unfold aftM
 rw [if_neg xm_no0,xm_n0]
 show fil1 (payM exR exM0) exM0 _ (fM exR exM0 10 0) = _
 rw [xm_f0]
 rfl
theorem xm_a1:aftM exR exM1 11 = exM2:=by
 unfold aftM
 rw [if_neg xm_no1,xm_n1]
 show fil1 (payM exR exM1) exM1 _ (fM exR exM1 11 0) = _
 rw [xm_f1]
 rfl
theorem xm_ok:ROk exR:=⟨.inl rfl,rfl,.inl rfl,by decide,by decide⟩
theorem xm_gm:GM exM0:=⟨by unfold Ids;decide,fun x hx=>by
 simp only [List.mem_cons,List.not_mem_nil,or_false] at hx
 rcases hx with rfl | rfl <;> decide +kernel⟩
theorem xm_cr:crF exR exM0 = (exM2,false):=by
 have hp0:prM exR exM0.L = some 10:=by decide +kernel
 have hp1:prM exR exM1.L = some 11:=by decide +kernel
 have he:EmpM exR exM0 10:=.inr ⟨xm_no0,fun i hi=>by
  rw [xm_n0] at hi
  obtain rfl:i = 0:=by omega
  rw [xm_f0];decide +kernel⟩
 have h:=(crF_all xm_ok.p xm_ok.l1 xm_gm (by decide) hp0 he (by rw [xm_a0];decide) (by rw [xm_n0];decide +kernel)).1
 rw [h,xm_a0,crF_end hp1 (.inr (by rw [xm_a1])),xm_a1]
theorem xm_fit:FitP exR 8:=⟨.inl rfl,by decide,by decide,by decide,by decide,by decide,by decide,by decide,by decide,by decide,by decide⟩
abbrev exX:Ruls:=⟨.int .i64 0,.slice none 0 0,.int .i64 0,.slice none 0 0,.int .i64 0,.int .i64 0⟩
theorem xm_one:exX.One:=⟨rfl,rfl,rfl,rfl,rfl,rfl⟩
theorem own_row' {w:World} {base n size:Nat} {T:TypeId} {v:Value} {xs:List Value} (h:w.ownsRow base T size v n xs) (hn:0 < n):∃ k cap,v = .slice (some ⟨k,0,none⟩) n cap∧k < w.heap.size∧∀ j u,xs[j]? = some u → w.cell? ⟨k,j,none⟩ = some u:=by
 rcases h.2 with ⟨_,h0⟩ | ⟨k,cap,cur,rfl,hb,hk,hc,hm,hs,ht⟩
 ·omega
 ·refine ⟨k,cap,rfl,blk_lt hk,fun j u hu=>?_⟩
  rw [cell_of_row _ _ _ _ _ _ hk]
  rw [← ht,List.getElem?_take] at hu
  split at hu
  ·rw [Array.getElem?_toList] at hu;exact hu
  ·cases hu
theorem lives18_c (w:World):Calls Tryz.prog 32 #[] w fun e w'=>e = .returned (.bool true)∧Below w.heap.size w w':=by
 obtain ⟨w1,hw1⟩:∃ w1,w.alloc (.cells #[.int .u64 1,.int .i64 0,.int .i64 2,.int .i64 10,.int .i64 5,.int .u64 1,.int .u64 2,.int .i64 0,.int .i64 2,.int .i64 11,.int .i64 5,.int .u64 2] 38) = w1:=⟨_,rfl⟩
 have b1:Below w.heap.size w w1:=by rw [← hw1];exact b1_of _ _
 have ho:Ods w1 (some ⟨w.heap.size,0,none⟩) 2 [exA,exB]:=ods_block rfl (by omega) (fun x hx=>by
  simp only [List.mem_cons,List.not_mem_nil,or_false] at hx
  rcases hx with rfl | rfl <;> (unfold Od.ok;decide)) (by rw [← hw1];exact hd_last rfl)
 have hbk:bookO [exA,exB] = true:=facts_book (by decide) xm_gm.gd xm_gm.ids (by decide +kernel)
 have HBd:=Lib.hid (build_c 1 (.inl rfl) (some ⟨w.heap.size,0,none⟩) 2 2 [exA,exB] w1 ho hbk)
 have B1:=Lib.hid b1
 clear b1 ho hbk
 go_enter Tryz.func32,Tryz.ntmps32
 go_wp2_with fail
 ((with_reducible refine HBd.out.mono ?_);rintro e w2 ⟨b,v,S,rfl,hN⟩)
 have HMt:=Lib.hid (match18_c b exX exR v 1 [exA,exB] S 8 (-1) w2 hN.out.ly xm_fit ⟨by decide,by decide⟩ xm_one)
 rw [show crF exR ⟨[exA,exB],8,-1,[],[]⟩ = (exM2,false) from xm_cr] at HMt
 unfold MatchEnd at HMt
 clear HBd
 go_wp2_with fail
 ((with_reducible refine HMt.out.mono ?_);rintro e w3 ⟨fv,dv,S2,rfl,hM⟩)
 obtain ⟨DA,dc,rfl⟩:=own_slice' hM.out.dr
 obtain ⟨gF,cF,rfl,hgF,hcF⟩:=own_row' hM.out.fo (by decide)
 obtain ⟨w4,hw4⟩:∃ w4,(w3.alloc (.cells #[.slice none 0 0,.slice none 0 0,.int .i64 0,.bool false] 71)).setRow w3.heap.size #[.slice (some ⟨gF,0,none⟩) 2 cF,.slice DA 0 dc,.int .i64 0,.bool false] = w4:=⟨_,rfl⟩
 have b4:Below w3.heap.size w3 w4:=by rw [← hw4];exact below_row (b1_of _ _) (Nat.le_refl _)
 have c4:Cl 71 w4 w3.heap.size #[.slice (some ⟨gF,0,none⟩) 2 cF,.slice DA 0 dc,.int .i64 0,.bool false]:=by rw [← hw4];exact setRow_heap _ _ _ _ _ _ (hd_last rfl)
 have e0:w4.cell? ⟨w3.heap.size,0,none⟩ = some (.slice (some ⟨gF,0,none⟩) 2 cF):=(c4.c 0).trans rfl
 have e2:w4.cell? ⟨w3.heap.size,2,none⟩ = some (.int .i64 0):=(c4.c 2).trans rfl
 have f6:w4.cell? ⟨gF,6,none⟩ = some (.int .i64 5):=(b4.cell (p:=⟨gF,6,none⟩) hgF).trans (hcF 6 _ rfl)
 have f7:w4.cell? ⟨gF,7,none⟩ = some (.int .u64 2):=(b4.cell (p:=⟨gF,7,none⟩) hgF).trans (hcF 7 _ rfl)
 have f13:w4.cell? ⟨gF,13,none⟩ = some (.int .i64 3):=(b4.cell (p:=⟨gF,13,none⟩) hgF).trans (hcF 13 _ rfl)
 have HLn:=Lib.hid (yLen_c b v 1 _ S2 w4 (hM.out.ly.below b4))
 unfold LenEnd at HLn
 have BE:=Lib.hid ((B1.out.trans (hN.out.be.mono B1.out.size)).trans ((hM.out.fr.below (B:=w.heap.size) (fun j hj=>Nat.le_trans B1.out.size (hN.out.lo j hj)) (Nat.le_trans B1.out.size hN.out.be.size)).trans (b4.mono (Nat.le_trans B1.out.size (Nat.le_trans hN.out.be.size hM.out.fr.size)))))
 clear HMt hM hN b4 c4 hcF
 go_wp2_with (first | ((with_reducible apply storeRe);rfl;rfl;rfl;rfl;exact (show Cl 71 _ w3.heap.size _ from hd_last rfl);rfl;rfl;exact re_one;rw [hw4];skip) | ((with_reducible refine HLn.out.mono ?_);rintro e w5 ⟨rfl,hb5⟩))
 go_ret
 exact ⟨rfl,BE.out.trans (hb5.out.mono BE.out.size)⟩
end Go.Proofs.YtikapeaodobkjaaGreat
namespace Go.Proofs.YtikapeaodobkjaaGreat
open Go.RowKit Go.ChangeShapes Go.WideShapes Go.Deep

structure Tkr where
 acc:Int
 side:Int
 price:Int
 qty:Int
 cash:Int
instance : Inhabited Tkr := ⟨⟨0, 0, 0, 0, 0⟩⟩
def Tkr.ok (w:World) (x:Tkr):Prop:=(-9223372036854775808≤x.acc∧x.acc≤9223372036854775807)∧(-9223372036854775808≤x.side∧x.side≤9223372036854775807)∧(-9223372036854775808≤x.price∧x.price≤9223372036854775807)∧(-9223372036854775808≤x.qty∧x.qty≤9223372036854775807)∧(-9223372036854775808≤x.cash∧x.cash≤9223372036854775807)
def Tkr.val (x:Tkr):Value:=.agg #[(.int .i64 x.acc),(.int .i64 x.side),(.int .i64 x.price),(.int .i64 x.qty),(.int .i64 x.cash)]
def Tkr.at (x:Tkr) (w:World) (b o:Nat):Prop:=w.cell? ⟨b,o,none⟩ = some (.int .i64 x.acc)∧w.cell? ⟨b,o + 1,none⟩ = some (.int .i64 x.side)∧w.cell? ⟨b,o + 2,none⟩ = some (.int .i64 x.price)∧w.cell? ⟨b,o + 3,none⟩ = some (.int .i64 x.qty)∧w.cell? ⟨b,o + 4,none⟩ = some (.int .i64 x.cash)
theorem Tkr.ok_below {w w':World} {x:Tkr} (h:x.ok w) (hb:Below w.heap.size w w'):x.ok w':=by
 exact h
theorem Tkr.at_below {w w':World} {x:Tkr} {b o:Nat} (h:x.at w b o) (hl:b < w.heap.size) (hb:Below w.heap.size w w'):x.at w' b o:=by
 unfold Tkr.at at h ⊢
 simpa only [hb.cell (p:=⟨b,o,none⟩) hl,hb.cell (p:=⟨b,o + 1,none⟩) hl,hb.cell (p:=⟨b,o + 2,none⟩) hl,hb.cell (p:=⟨b,o + 3,none⟩) hl,hb.cell (p:=⟨b,o + 4,none⟩) hl] using h
def Tkrs (w:World) (a:Option Addr) (len:Nat) (its:List Tkr):Prop :=
 its.length = len∧len≤9223372036854775807∧(∀ x ∈ its,x.ok w)∧(len = 0 ∨ ∃ b off,a = some ⟨b,off,none⟩∧b < w.heap.size∧∀ i,i < len → (its[i]!).at w b (off + i * 5))
theorem Tkrs.below {w w':World} {a:Option Addr} {len:Nat} {its:List Tkr} (h:Tkrs w a len its) (hb:Below w.heap.size w w'):Tkrs w' a len its:=by
 obtain ⟨h1,hle,h2,h3⟩:=h
 refine ⟨h1,hle,fun x hx=>Tkr.ok_below (h2 x hx) hb,?_⟩
 rcases h3 with h0 | ⟨b,off,rfl,hlt,hc⟩
 ·exact .inl h0
 ·exact .inr ⟨b,off,rfl,Nat.lt_of_lt_of_le hlt hb.size,fun i hi=>Tkr.at_below (hc i hi) hlt hb⟩
theorem fields_tkr:oneCellFields Tryz.prog (match Tryz.prog.underlying 64 with | some (.struct fs)=>fs | _=>#[]) = true:=by kernel_rfl
theorem cells_tkr:Tryz.prog.cellsOf 64 = 5:=by kernel_rfl

theorem open_tkr {H:Type} {enc:TypeId × Value → H} {w:World} {fuel:Nat} {cs:List Value} {y:DataW H × List MemPlace} (hl:cs.length = 5) (h:DataW.trod enc Tryz.prog w 0 (fun _=>true) true fuel 64 cs = some y) :
  ∃ x:Tkr,x.ok w∧cs[0]? = some (.int .i64 x.acc)∧cs[1]? = some (.int .i64 x.side)∧cs[2]? = some (.int .i64 x.price)∧cs[3]? = some (.int .i64 x.qty)∧cs[4]? = some (.int .i64 x.cash):=by
 obtain ⟨xs,n',_,_,_,hxl,hg⟩:=DataW.trod_struct Tryz.underlying64 h
 have fone:=fields_tkr
 rw [Tryz.underlying64] at fone
 have at_:∀ (j:Nat) (f:Field),j < 5 → f.offset = j∧Tryz.prog.cellsOf f.type = 1 → DataW.trod enc Tryz.prog w 0 (fun _=>true) true n' f.type ((cs.drop f.offset).take (Tryz.prog.cellsOf f.type)) = xs[j]? →
   ∃ v y,cs[j]? = some v∧DataW.trod enc Tryz.prog w 0 (fun _=>true) true n' f.type [v] = some y:=by
  intro j f hj ⟨ho,hk⟩ htr
  rw [ho,hk] at htr
  have hjl:j < cs.length:=by omega
  have e1:(cs.drop j).take 1 = [cs[j]]:=by
   rw [List.drop_eq_getElem_cons hjl];rfl
  rw [e1] at htr
  have hxj:j < xs.length:=by rw [hxl];exact hj
  rw [List.getElem?_eq_getElem hxj] at htr
  exact ⟨_,_,List.getElem?_eq_getElem hjl,htr⟩
 obtain ⟨v0,y0,p0,q0⟩:=at_ 0 _ (by omega) (hone_of fone 0 _ rfl) (hg 0 _ rfl)
 obtain ⟨v1,y1,p1,q1⟩:=at_ 1 _ (by omega) (hone_of fone 1 _ rfl) (hg 1 _ rfl)
 obtain ⟨v2,y2,p2,q2⟩:=at_ 2 _ (by omega) (hone_of fone 2 _ rfl) (hg 2 _ rfl)
 obtain ⟨v3,y3,p3,q3⟩:=at_ 3 _ (by omega) (hone_of fone 3 _ rfl) (hg 3 _ rfl)
 obtain ⟨v4,y4,p4,q4⟩:=at_ 4 _ (by omega) (hone_of fone 4 _ rfl) (hg 4 _ rfl)
 obtain ⟨k0,e0,_,w0⟩:=DataW.trod_int Tryz.underlying3 q0
 obtain ⟨k1,e1,_,w1⟩:=DataW.trod_int Tryz.underlying3 q1
 obtain ⟨k2,e2,_,w2⟩:=DataW.trod_int Tryz.underlying2 q2
 obtain ⟨k3,e3,_,w3⟩:=DataW.trod_int Tryz.underlying2 q3
 obtain ⟨k4,e4,_,w4⟩:=DataW.trod_int Tryz.underlying2 q4
 injection e0 with e0;injection e1 with e1;injection e2 with e2;injection e3 with e3;injection e4 with e4
 subst e0;subst e1;subst e2;subst e3;subst e4
 exact ⟨⟨k0,k1,k2,k3,k4⟩,⟨bounds_i64 w0,bounds_i64 w1,bounds_i64 w2,bounds_i64 w3,bounds_i64 w4⟩,p0,p1,p2,p3,p4⟩

theorem open_tkr_val {H:Type} {enc:TypeId × Value → H} {w:World} {r:Reach} {b0:Nat} {v:Value} {d:DataW H} {p:List MemPlace} (hv:Value.okWide Tryz.prog w r b0 64 v) (h:DataW.Trod enc Tryz.prog w 0 (fun _=>true) true 64 v d p):∃ x:Tkr,x.ok w∧v = x.val:=by
 obtain ⟨cs,rfl,hsz⟩:=okWide_struct Tryz.underlying64 hv
 obtain ⟨fuel,hf⟩:=h
 have hl:cs.toList.length = 5:=by rw [Array.length_toList,hsz,cells_tkr]
 obtain ⟨x,hx,p0,p1,p2,p3,p4⟩:=open_tkr hl hf
 refine ⟨x,hx,?_⟩
 unfold Tkr.val
 congr 1
 apply Array.ext'
 match cs.toList,hl,p0,p1,p2,p3,p4 with
 | [v0,v1,v2,v3,v4],_,p0,p1,p2,p3,p4=>simp at p0 p1 p2 p3 p4;simp [p0,p1,p2,p3,p4]


structure Rus where
 ver:Int
 tkA:Option Addr
 tkL:Nat
 tkC:Nat
 lot:Int
 band:Int
 feA:Option Addr
 feL:Nat
 feC:Nat
 rnd:Int
 pri:Int
 self:Int
 lay:Int
instance : Inhabited Rus := ⟨⟨0, none, 0, 0, 0, 0, none, 0, 0, 0, 0, 0, 0⟩⟩
def Rus.ok (w:World) (x:Rus):Prop:=(-9223372036854775808≤x.ver∧x.ver≤9223372036854775807)∧True∧(-9223372036854775808≤x.lot∧x.lot≤9223372036854775807)∧(-9223372036854775808≤x.band∧x.band≤9223372036854775807)∧True∧(-9223372036854775808≤x.rnd∧x.rnd≤9223372036854775807)∧(-9223372036854775808≤x.pri∧x.pri≤9223372036854775807)∧(-9223372036854775808≤x.self∧x.self≤9223372036854775807)∧(-9223372036854775808≤x.lay∧x.lay≤9223372036854775807)
def Rus.val (x:Rus):Value:=.agg #[(.int .i64 x.ver),(.slice x.tkA x.tkL x.tkC),(.int .i64 x.lot),(.int .i64 x.band),(.slice x.feA x.feL x.feC),(.int .i64 x.rnd),(.int .i64 x.pri),(.int .i64 x.self),(.int .i64 x.lay)]
def Rus.at (x:Rus) (w:World) (b o:Nat):Prop:=w.cell? ⟨b,o,none⟩ = some (.int .i64 x.ver)∧w.cell? ⟨b,o + 1,none⟩ = some (.slice x.tkA x.tkL x.tkC)∧w.cell? ⟨b,o + 2,none⟩ = some (.int .i64 x.lot)∧w.cell? ⟨b,o + 3,none⟩ = some (.int .i64 x.band)∧w.cell? ⟨b,o + 4,none⟩ = some (.slice x.feA x.feL x.feC)∧w.cell? ⟨b,o + 5,none⟩ = some (.int .i64 x.rnd)∧w.cell? ⟨b,o + 6,none⟩ = some (.int .i64 x.pri)∧w.cell? ⟨b,o + 7,none⟩ = some (.int .i64 x.self)∧w.cell? ⟨b,o + 8,none⟩ = some (.int .i64 x.lay)
theorem Rus.ok_below {w w':World} {x:Rus} (h:x.ok w) (hb:Below w.heap.size w w'):x.ok w':=by
 exact h
theorem Rus.at_below {w w':World} {x:Rus} {b o:Nat} (h:x.at w b o) (hl:b < w.heap.size) (hb:Below w.heap.size w w'):x.at w' b o:=by
 unfold Rus.at at h ⊢
 simpa only [hb.cell (p:=⟨b,o,none⟩) hl,hb.cell (p:=⟨b,o + 1,none⟩) hl,hb.cell (p:=⟨b,o + 2,none⟩) hl,hb.cell (p:=⟨b,o + 3,none⟩) hl,hb.cell (p:=⟨b,o + 4,none⟩) hl,hb.cell (p:=⟨b,o + 5,none⟩) hl,hb.cell (p:=⟨b,o + 6,none⟩) hl,hb.cell (p:=⟨b,o + 7,none⟩) hl,hb.cell (p:=⟨b,o + 8,none⟩) hl] using h
def Russ (w:World) (a:Option Addr) (len:Nat) (its:List Rus):Prop :=
 its.length = len∧len≤9223372036854775807∧(∀ x ∈ its,x.ok w)∧(len = 0 ∨ ∃ b off,a = some ⟨b,off,none⟩∧b < w.heap.size∧∀ i,i < len → (its[i]!).at w b (off + i * 9))
theorem Russ.below {w w':World} {a:Option Addr} {len:Nat} {its:List Rus} (h:Russ w a len its) (hb:Below w.heap.size w w'):Russ w' a len its:=by
 obtain ⟨h1,hle,h2,h3⟩:=h
 refine ⟨h1,hle,fun x hx=>Rus.ok_below (h2 x hx) hb,?_⟩
 rcases h3 with h0 | ⟨b,off,rfl,hlt,hc⟩
 ·exact .inl h0
 ·exact .inr ⟨b,off,rfl,Nat.lt_of_lt_of_le hlt hb.size,fun i hi=>Rus.at_below (hc i hi) hlt hb⟩
theorem fields_rus:oneCellFields Tryz.prog (match Tryz.prog.underlying 68 with | some (.struct fs)=>fs | _=>#[]) = true:=by kernel_rfl
theorem cells_rus:Tryz.prog.cellsOf 68 = 9:=by kernel_rfl

theorem open_any {H:Type} {enc:TypeId × Value → H} {w:World} {fuel:Nat} {v:Value} {y:DataW H × List MemPlace} {T E:TypeId} (hu:Tryz.prog.underlying T = some (.slice E)) (q:DataW.trod enc Tryz.prog w 0 (fun _=>true) true fuel T [v] = some y) :
  ∃ A L C,[v] = [.slice A L C]:=by
 rcases open_slice hu q with ⟨hcs,_⟩ | ⟨x,l,c,m,n,D,Pl,hcs,_⟩
 ·exact ⟨none,0,0,hcs⟩
 ·exact ⟨some x,l,c,hcs⟩

theorem open_rus {H:Type} {enc:TypeId × Value → H} {w:World} {fuel:Nat} {cs:List Value} {y:DataW H × List MemPlace} (hl:cs.length = 9) (h:DataW.trod enc Tryz.prog w 0 (fun _=>true) true fuel 68 cs = some y) :
  ∃ x:Rus,x.ok w∧cs[0]? = some (.int .i64 x.ver)∧cs[1]? = some (.slice x.tkA x.tkL x.tkC)∧cs[2]? = some (.int .i64 x.lot)∧cs[3]? = some (.int .i64 x.band)∧cs[4]? = some (.slice x.feA x.feL x.feC)∧cs[5]? = some (.int .i64 x.rnd)∧cs[6]? = some (.int .i64 x.pri)∧cs[7]? = some (.int .i64 x.self)∧cs[8]? = some (.int .i64 x.lay):=by
 obtain ⟨xs,n',_,_,_,hxl,hg⟩:=DataW.trod_struct Tryz.underlying68 h
 have fone:=fields_rus
 rw [Tryz.underlying68] at fone
 have at_:∀ (j:Nat) (f:Field),j < 9 → f.offset = j∧Tryz.prog.cellsOf f.type = 1 → DataW.trod enc Tryz.prog w 0 (fun _=>true) true n' f.type ((cs.drop f.offset).take (Tryz.prog.cellsOf f.type)) = xs[j]? →
   ∃ v y,cs[j]? = some v∧DataW.trod enc Tryz.prog w 0 (fun _=>true) true n' f.type [v] = some y:=by
  intro j f hj ⟨ho,hk⟩ htr
  rw [ho,hk] at htr
  have hjl:j < cs.length:=by omega
  have e1:(cs.drop j).take 1 = [cs[j]]:=by
   rw [List.drop_eq_getElem_cons hjl];rfl
  rw [e1] at htr
  have hxj:j < xs.length:=by rw [hxl];exact hj
  rw [List.getElem?_eq_getElem hxj] at htr
  exact ⟨_,_,List.getElem?_eq_getElem hjl,htr⟩
 obtain ⟨v0,y0,p0,q0⟩:=at_ 0 _ (by omega) (hone_of fone 0 _ rfl) (hg 0 _ rfl)
 obtain ⟨v1,y1,p1,q1⟩:=at_ 1 _ (by omega) (hone_of fone 1 _ rfl) (hg 1 _ rfl)
 obtain ⟨v2,y2,p2,q2⟩:=at_ 2 _ (by omega) (hone_of fone 2 _ rfl) (hg 2 _ rfl)
 obtain ⟨v3,y3,p3,q3⟩:=at_ 3 _ (by omega) (hone_of fone 3 _ rfl) (hg 3 _ rfl)
 obtain ⟨v4,y4,p4,q4⟩:=at_ 4 _ (by omega) (hone_of fone 4 _ rfl) (hg 4 _ rfl)
 obtain ⟨v5,y5,p5,q5⟩:=at_ 5 _ (by omega) (hone_of fone 5 _ rfl) (hg 5 _ rfl)
 obtain ⟨v6,y6,p6,q6⟩:=at_ 6 _ (by omega) (hone_of fone 6 _ rfl) (hg 6 _ rfl)
 obtain ⟨v7,y7,p7,q7⟩:=at_ 7 _ (by omega) (hone_of fone 7 _ rfl) (hg 7 _ rfl)
 obtain ⟨v8,y8,p8,q8⟩:=at_ 8 _ (by omega) (hone_of fone 8 _ rfl) (hg 8 _ rfl)
 obtain ⟨k0,e0,_,w0⟩:=DataW.trod_int Tryz.underlying3 q0
 obtain ⟨A1,L1,C1,e1⟩:∃ A L C,[v1] = [.slice A L C]:=open_any Tryz.underlying65 q1
 obtain ⟨k2,e2,_,w2⟩:=DataW.trod_int Tryz.underlying2 q2
 obtain ⟨k3,e3,_,w3⟩:=DataW.trod_int Tryz.underlying2 q3
 obtain ⟨A4,L4,C4,e4⟩:∃ A L C,[v4] = [.slice A L C]:=open_any Tryz.underlying66 q4
 obtain ⟨k5,e5,_,w5⟩:=DataW.trod_int Tryz.underlying3 q5
 obtain ⟨k6,e6,_,w6⟩:=DataW.trod_int Tryz.underlying3 q6
 obtain ⟨k7,e7,_,w7⟩:=DataW.trod_int Tryz.underlying3 q7
 obtain ⟨k8,e8,_,w8⟩:=DataW.trod_int Tryz.underlying3 q8
 injection e0 with e0;injection e1 with e1;injection e2 with e2;injection e3 with e3;injection e4 with e4;injection e5 with e5;injection e6 with e6;injection e7 with e7;injection e8 with e8
 subst e0;subst e1;subst e2;subst e3;subst e4;subst e5;subst e6;subst e7;subst e8
 exact ⟨⟨k0,A1,L1,C1,k2,k3,A4,L4,C4,k5,k6,k7,k8⟩,⟨bounds_i64 w0,trivial,bounds_i64 w2,bounds_i64 w3,trivial,bounds_i64 w5,bounds_i64 w6,bounds_i64 w7,bounds_i64 w8⟩,p0,p1,p2,p3,p4,p5,p6,p7,p8⟩

theorem open_rus_val {H:Type} {enc:TypeId × Value → H} {w:World} {r:Reach} {b0:Nat} {v:Value} {d:DataW H} {p:List MemPlace} (hv:Value.okWide Tryz.prog w r b0 68 v) (h:DataW.Trod enc Tryz.prog w 0 (fun _=>true) true 68 v d p):∃ x:Rus,x.ok w∧v = x.val:=by
 obtain ⟨cs,rfl,hsz⟩:=okWide_struct Tryz.underlying68 hv
 obtain ⟨fuel,hf⟩:=h
 have hl:cs.toList.length = 9:=by rw [Array.length_toList,hsz,cells_rus]
 obtain ⟨x,hx,p0,p1,p2,p3,p4,p5,p6,p7,p8⟩:=open_rus hl hf
 refine ⟨x,hx,?_⟩
 unfold Rus.val
 congr 1
 apply Array.ext'
 match cs.toList,hl,p0,p1,p2,p3,p4,p5,p6,p7,p8 with
 | [v0,v1,v2,v3,v4,v5,v6,v7,v8],_,p0,p1,p2,p3,p4,p5,p6,p7,p8=>simp at p0 p1 p2 p3 p4 p5 p6 p7 p8;simp [p0,p1,p2,p3,p4,p5,p6,p7,p8]

end Go.Proofs.YtikapeaodobkjaaGreat
namespace Go.Proofs.YtikapeaodobkjaaGreat
open Go.RowKit Go.Shelf Go.Sort Go.Maps Go.Lib

theorem crM_ind (R:Rl) (hp:isPol R.self = true) (hl:1≤R.lot) (I:Mt → Prop) (P:Mt × Bool → Prop)
  (hnone:∀ m,I m → GM m → 0≤m.left → prM R m.L = none → P (m,false))
  (hend:∀ m p,I m → GM m → 0≤m.left → prM R m.L = some p → (¬ EmpM R m p ∨ (aftM R m p).left = 0) → P (aftM R m p,false))
  (hall:∀ m p,I m → GM m → 0≤m.left → prM R m.L = some p → EmpM R m p → I (aftM R m p))
  (hdrop:∀ m x,I m → GM m → 0≤m.left → x ∈ m.L → isOwn R.self R.acc x = true → x.side = 3 - R.side → I (goneM x.id m))
  (hstop:∀ m,I m → GM m → 0≤m.left → P (m,true)) :
  ∀ (k:Nat) (m:Mt),m.L.length < k → I m → GM m → 0≤m.left → P (crM R k m)
 | 0,m,hk,_,_,_=>absurd hk (Nat.not_lt_zero _)
 | k + 1,m,hk,hi,hg,h0=>by
  rw [crM]
  cases hpr:prM R m.L with
  | none=>exact hnone m hi hg h0 hpr
  | some p =>
   have A:=aft_f hg (pr_rng hg hpr).1 hl h0
   have hpos:=lv_pos hpr
   simp only
   by_cases h1:¬ EmpM R m p ∨ (aftM R m p).left = 0
   ·rw [if_pos h1];exact hend m p hi hg h0 hpr h1
   ·rw [if_neg h1]
    have he:EmpM R m p:=Classical.byContradiction fun h=>h1 (.inl h)
    have hlen:=A.emp he
    have hi1:=hall m p hi hg h0 hpr he
    by_cases h2:nM R m p = (lvM R m p).length
    ·rw [if_pos h2]
     exact crM_ind R hp hl I P hnone hend hall hdrop hstop k _ (by omega) hi1 A.gm A.l0
    ·rw [if_neg h2]
     have hlt:nM R m p < (lvM R m p).length:=by have:=nM_le (R:=R) (m:=m) (p:=p);omega
     have hx:=A.there _ (Nat.le_refl _) hlt
     have hlv:=lv_mem (bang_mem hlt)
     have how:isOwn R.self R.acc ((lvM R m p)[nM R m p]!) = true:=by
      have e:nM R m p = (lvM R m p).findIdx (isOwn R.self R.acc):=by
       unfold nM runN;rw [if_pos hp];rfl
      have hlt':(lvM R m p).findIdx (isOwn R.self R.acc) < (lvM R m p).length:=by rw [← e];exact hlt
      rw [e,getElem!_pos (lvM R m p) _ hlt']
      exact List.findIdx_getElem (w:=hlt')
     have D:=gone_f A.gm hx
     have hd1:=hdrop _ _ hi1 A.gm A.l0 hx how hlv.2.1
     by_cases h3:stN R.self = true
     ·rw [if_pos h3]
      unfold drpM
      split
      ·exact hstop _ hd1 D.gm (by rw [D.left];exact A.l0)
      ·exact hstop _ hi1 A.gm A.l0
     ·rw [if_neg h3]
      have hd:=pol_drop hp (by simpa using h3) hlt
      have e:drpM R ((lvM R m p)[nM R m p]!).id (aftM R m p) = goneM ((lvM R m p)[nM R m p]!).id (aftM R m p):=if_pos hd
      rw [e]
      have:=D.len
      exact crM_ind R hp hl I P hnone hend hall hdrop hstop k _ (by omega) hd1 D.gm (by rw [D.left];exact A.l0)

def sumQ (L:List Od):Int:=(L.map Od.qty).sum
def sumF (F:List (Od × Int)):Int:=(F.map Prod.snd).sum
theorem sumQ_nil:sumQ [] = 0:=rfl
theorem sumQ_cons (x:Od) (L:List Od):sumQ (x :: L) = x.qty + sumQ L:=by unfold sumQ;rw [List.map_cons,List.sum_cons]
theorem sumQ_app (A B:List Od):sumQ (A ++ B) = sumQ A + sumQ B:=by unfold sumQ;rw [List.map_append,List.sum_append]
theorem sumF_app (A B:List (Od × Int)):sumF (A ++ B) = sumF A + sumF B:=by unfold sumF;rw [List.map_append,List.sum_append]
theorem sumQ_erase:∀ (L:List Od) (i:Nat),i < L.length → sumQ (L.eraseIdx i) = sumQ L - (L[i]!).qty
 | [],i,h=>absurd h (Nat.not_lt_zero _)
 | x :: L,0,_=>by rw [List.eraseIdx_cons_zero,sumQ_cons];show sumQ L = x.qty + sumQ L - x.qty;omega
 | x :: L,i + 1,h=>by
  have ih:=sumQ_erase L i (by simpa using h)
  rw [List.eraseIdx_cons_succ,sumQ_cons,sumQ_cons,ih]
  show x.qty + (sumQ L - (L[i]!).qty) = x.qty + sumQ L - ((x :: L)[i + 1]!).qty
  rw [show (x :: L)[i + 1]! = L[i]! by simp];omega
theorem sumQ_set:∀ (L:List Od) (i:Nat) (y:Od),i < L.length → sumQ (L.set i y) = sumQ L - (L[i]!).qty + y.qty
 | [],i,y,h=>absurd h (Nat.not_lt_zero _)
 | x :: L,0,y,_=>by rw [List.set_cons_zero,sumQ_cons,sumQ_cons];show y.qty + sumQ L = x.qty + sumQ L - x.qty + y.qty;omega
 | x :: L,i + 1,y,h=>by
  have ih:=sumQ_set L i y (by simpa using h)
  rw [List.set_cons_succ,sumQ_cons,sumQ_cons,ih,show (x :: L)[i + 1]! = L[i]! by simp];omega
theorem cut_sum {M:List Od} {x:Od} {q:Int} (hi:Ids M) (hx:x ∈ M) (h1:1≤q) (h2:q≤x.qty):sumQ (cutR x.id q M).2 = sumQ M - q:=by
 obtain ⟨hlt,he⟩:=idx_of hi hx rfl
 rw [cut_is hi hx h1 h2]
 split
 ·rename_i e;rw [sumQ_erase _ _ hlt,he,e]
 ·rw [sumQ_set _ _ _ hlt,he];simp only [lessO];omega
structure FilS (l:List Od) (f:Nat → Int) (m:Mt) (k:Nat) (m1:Mt):Prop where
 sum:sumQ m1.L + sumF m1.F = sumQ m.L + sumF m.F
 left:m1.left + sumF m1.F = m.left + sumF m.F
 fl:∀ y ∈ m1.F,y ∈ m.F ∨ ∃ i,i < k∧y = (l[i]!,f i)∧0 < f i
 fn:m1.F.length≤m.F.length + k
 sub:(∀ i,i < k → f i = (l[i]!).qty) → ∀ y ∈ m1.L,y ∈ m.L
theorem filS {pay:Bool} {l:List Od} {f:Nat → Int} {m:Mt} (hi:Ids m.L) (hl:∀ x ∈ l,x ∈ m.L∧1≤x.qty) (hp:l.Pairwise (fun x y=>¬ x.id = y.id)) (n:Nat) (hn:n≤l.length) (hf:∀ i,i < n → 0≤f i∧f i≤(l[i]!).qty) :
  ∀ k,k≤n → FilS l f m k (filN pay l f m k)
 | 0,_=>⟨rfl,rfl,fun y hy=>.inl hy,Nat.le_refl _,fun _ y hy=>hy⟩
 | k + 1,h=>by
  have ih:=filS (pay:=pay) hi hl hp n hn hf k (by omega)
  have I:=filN_is (pay:=pay) (p:=0) hi hl hp n hn hf k (by omega)
  have hq:=hf k (by omega)
  have hx:=I.there k (Nat.le_refl _) (by omega)
  by_cases h0:0 < f k
  ·have e:filN pay l f m (k + 1) = ⟨(cutR (l[k]!).id (f k) (filN pay l f m k).L).2,(filN pay l f m k).left - f k,if pay = true then (filN pay l f m k).cash - (l[k]!).price * f k else (filN pay l f m k).cash,(filN pay l f m k).F ++ [(l[k]!,f k)],(filN pay l f m k).D⟩:=if_pos h0
   have hs:=cut_sum I.ids hx (by omega) hq.2
   have e1:sumF ((filN pay l f m k).F ++ [(l[k]!,f k)]) = sumF (filN pay l f m k).F + f k:=by rw [sumF_app];simp [sumF]
   have h1:=ih.sum
   have h2:=ih.left
   refine ⟨?_,?_,fun y hy=>?_,?_,fun hall y hy=>?_⟩ <;> rw [e] at *
   ·simp only [hs,e1];omega
   ·simp only [e1];omega
   ·rcases List.mem_append.1 hy with hy | hy
    ·rcases ih.fl y hy with hy | ⟨i,hi,rfl,h0⟩
     ·exact .inl hy
     ·exact .inr ⟨i,by omega,rfl,h0⟩
    ·obtain rfl:=List.mem_singleton.1 hy
     exact .inr ⟨k,by omega,rfl,h0⟩
   ·have:=ih.fn;simp only [List.length_append,List.length_singleton];omega
   ·refine ih.sub (fun i hi=>hall i (by omega)) y ?_
    have hy:y ∈ (cutR (l[k]!).id (f k) (filN pay l f m k).L).2:=hy
    rw [cut_is I.ids hx (by omega) hq.2,if_pos (hall k (by omega))] at hy
    exact List.mem_of_mem_eraseIdx hy
  ·have e:filN pay l f m (k + 1) = filN pay l f m k:=if_neg h0
   refine ⟨?_,?_,fun y hy=>?_,?_,fun hall y hy=>?_⟩ <;> rw [e] at *
   ·exact ih.sum
   ·exact ih.left
   ·rcases ih.fl y hy with hy | ⟨i,hi,rfl,h0⟩
    ·exact .inl hy
    ·exact .inr ⟨i,by omega,rfl,h0⟩
   ·have:=ih.fn;omega
   ·exact ih.sub (fun i hi=>hall i (by omega)) y hy
theorem aft_s {R:Rl} {m:Mt} {p:Int} (hg:GM m):(¬ NoM R m p∧FilS (lvM R m p) (fM R m p) m (nM R m p) (aftM R m p)) ∨ (NoM R m p∧aftM R m p = m):=by
 by_cases h:NoM R m p
 ·exact .inr ⟨h,if_pos h⟩
 ·refine .inl ⟨h,?_⟩
  unfold aftM
  rw [if_neg h]
  exact filS hg.ids (fun x hx=>⟨(lv_mem hx).1,(good_is (hg.gd x (lv_mem hx).1)).2.2.2.2.2.1⟩) (lv_pw hg) (nM R m p) nM_le (fun i hi=>fM_rng h hi) _ (Nat.le_refl _)
theorem run_not {R:Rl} {m:Mt} {p:Int} (hp:isPol R.self = true) {i:Nat} (hi:i < nM R m p):isOwn R.self R.acc ((lvM R m p)[i]!) = false:=by
 have e:nM R m p = (lvM R m p).findIdx (isOwn R.self R.acc):=by
  unfold nM runN;rw [if_pos hp];rfl
 have hl:i < (lvM R m p).length:=Nat.lt_of_lt_of_le hi nM_le
 rw [e] at hi
 have:=List.not_of_lt_findIdx hi
 rw [getElem!_pos (lvM R m p) i hl]
 simpa using this
def FOk (R:Rl) (y:Od × Int):Prop:=1≤y.2∧y.2≤y.1.qty∧y.1.side = 3 - R.side∧(R.price = 0 ∨ croN R.side R.price y.1.price = true)∧isOwn R.self R.acc y.1 = false∧goodO y.1 = true
structure KJ (R:Rl) (m0 m:Mt):Prop where
 sum:sumQ m.L + sumQ m.D + sumF m.F = sumQ m0.L
 left:m.left + sumF m.F = m0.left
 dr:∀ x ∈ m.D,isOwn R.self R.acc x = true∧x.side = 3 - R.side∧goodO x = true
 fl:∀ y ∈ m.F,FOk R y
 fn:m.F.length≤m0.L.length + 64
 dn:m.D.length≤m0.L.length
 pay:payM R m0 = false → m.cash = m0.cash
structure KI (R:Rl) (m0 m:Mt):Prop where
 j:KJ R m0 m
 sub:∀ x ∈ m.L,x ∈ m0.L
 len:m.F.length + m.L.length≤m0.L.length
 dl:m.D.length + m.L.length≤m0.L.length
structure KE (R:Rl) (m0:Mt) (r:Mt × Bool):Prop where
 j:KJ R m0 r.1
 l0:0≤r.1.left
 gm:GM r.1
 why:r.2 = true ∨ r.1.left = 0 ∨ r.1.left < R.lot ∨ payM R m0 = true ∨ ¬ (∀ x ∈ m0.L,x.qty % R.lot = 0) ∨ prM R r.1.L = none
theorem aft_j {R:Rl} {m0 m:Mt} {p:Int} (hp:isPol R.self = true) (hl:1≤R.lot) (h:KI R m0 m) (hg:GM m) (h0:0≤m.left) (h64:m0.L.length≤64) (hpr:prM R m.L = some p) :
  KJ R m0 (aftM R m p)∧(EmpM R m p → KI R m0 (aftM R m p)):=by
 have A:=aft_f hg (pr_rng hg hpr).1 hl h0
 obtain ⟨b,-,-,-,-,hcr⟩:=pr_some hpr
 have hpay:payM R m0 = false → (aftM R m p).cash = m0.cash:=fun hp0=>by
  have e:=h.j.pay hp0
  rw [← e]
  refine A.c1 ?_
  unfold payM at hp0 ⊢;rw [e];exact hp0
 rcases aft_s (R:=R) (p:=p) hg with ⟨hno,S⟩ | ⟨hno,e⟩
 ·have hn:nM R m p≤m.L.length:=Nat.le_trans nM_le (by unfold lvM;exact levL_len _ _ _)
  have j:KJ R m0 (aftM R m p):=by
   refine ⟨?_,?_,?_,fun y hy=>?_,?_,?_,hpay⟩
   ·have:=S.sum;have:=h.j.sum;rw [A.D];omega
   ·have:=S.left;have:=h.j.left;omega
   ·rw [A.D];exact h.j.dr
   ·rcases S.fl y hy with hy | ⟨i,hi,rfl,hq⟩
    ·exact h.j.fl y hy
    ·have hlv:=lv_mem (bang_mem (Nat.lt_of_lt_of_le hi nM_le))
     have:=fM_rng hno hi
     exact ⟨by omega,this.2,hlv.2.1,by simp only;rw [hlv.2.2];exact hcr,run_not hp hi,hg.gd _ hlv.1⟩
   ·have:=S.fn;have:=h.len;omega
   ·rw [A.D];exact h.j.dn
  refine ⟨j,fun he=>⟨j,fun x hx=>?_,?_,?_⟩⟩
  ·refine h.sub x (S.sub (fun i hi=>?_) x hx)
   rcases he with he | ⟨_,he⟩
   ·omega
   ·exact he i hi
  ·have:=A.emp he;have:=S.fn;have:=h.len;omega
  ·rw [A.D];have:=A.len;have:=h.dl;omega
 ·rw [e] at A hpay ⊢
  exact ⟨h.j,fun _=>h⟩
theorem sF_all {f:Nat → Int} {Q:List Int}:∀ k,k≤Q.length → (∀ i,i < k → f i≤Q.getD i 0) → sF f k≤(Q.take k).sum∧(sF f k = (Q.take k).sum → ∀ i,i < k → f i = Q.getD i 0)
 | 0,_,_=>⟨by simp [sF],fun _ i h=>absurd h (Nat.not_lt_zero _)⟩
 | k + 1,hk,h=>by
  obtain ⟨h1,h2⟩:=sF_all k (by omega) (fun i hi=>h i (by omega))
  have hq:=h k (by omega)
  have e:(Q.take (k + 1)).sum = (Q.take k).sum + Q.getD k 0:=by
   rw [List.take_succ_eq_append_getElem (by omega),List.sum_append,List.getD_eq_getElem?_getD,List.getElem?_eq_getElem (by omega)];simp
  refine ⟨by rw [sF,e];omega,fun hs i hi=>?_⟩
  rw [sF,e] at hs
  by_cases hik:i = k
  ·subst hik;omega
  ·exact h2 (by omega) i (by omega)
theorem sumT_whole {lot:Int} (hl:1≤lot):∀ {Q:List Int},(∀ q ∈ Q,1≤q∧q % lot = 0) → sumT lot Q = Q.sum
 | [],_=>rfl
 | q :: Q,h=>by
  have h0:=h q (List.mem_cons_self ..)
  have:=(trim_bd (lot:=lot) (qty:=q) hl h0.1).2.2.2.2
  have:=sumT_whole (lot:=lot) hl (Q:=Q) (fun x hx=>h x (List.mem_cons_of_mem _ hx))
  rw [sumT,List.sum_cons];omega
theorem sum_pos:∀ {Q:List Int},(∀ q ∈ Q,1≤q) → 0 < Q.length → 0 < Q.sum
 | [],_,h=>absurd h (Nat.not_lt_zero _)
 | q :: Q,h,_=>by
  have h0:=h q (List.mem_cons_self ..)
  have:0≤Q.sum:=by
   by_cases e:Q = []
   ·rw [e];exact Int.le_refl _
   ·exact Int.le_of_lt (sum_pos (fun x hx=>h x (List.mem_cons_of_mem _ hx)) (List.length_pos_iff.2 e))
  rw [List.sum_cons];omega
theorem open_less {R:Rl} {m:Mt} {p:Int} (hp:isPol R.self = true) (hl:1≤R.lot) (hl2:R.lot≤1099511627776) (hmo:R.mode = 1 ∨ R.mode = 2) (hg:GM m) (h64:m.L.length≤64) (hleft:1≤m.left) (hleft2:m.left≤1099511627776)
  (hpay:payM R m = false) (hw:∀ x ∈ m.L,x.qty % R.lot = 0) (hne:¬ EmpM R m p):(aftM R m p).left < R.lot:=by
 have hq:∀ q ∈ QM R m p,1≤q∧q≤1099511627776∧q % R.lot = 0:=by
  intro q hq
  unfold QM qs at hq
  obtain ⟨x,hx,rfl⟩:=List.mem_map.1 hq
  have hm:=(lv_mem (List.mem_of_mem_take hx)).1
  have hgd:=good_is (hg.gd x hm)
  exact ⟨hgd.2.2.2.2.2.1,hgd.2.2.2.2.2.2,hw x hm⟩
 have hn0:¬ nM R m p = 0:=fun h=>hne (.inl h)
 have hQl:(QM R m p).length = nM R m p:=QM_len
 have hT:sumT R.lot (QM R m p) = (QM R m p).sum:=sumT_whole hl (fun q h=>⟨(hq q h).1,(hq q h).2.2⟩)
 have hpos:0 < (QM R m p).sum:=sum_pos (fun q h=>(hq q h).1) (by omega)
 have hmost:mostM R m p = m.left:=by unfold mostM;rw [if_neg (by rw [hpay];decide)]
 have hle:nM R m p≤64:=Nat.le_trans nM_le (Nat.le_trans (by unfold lvM;exact levL_len _ _ _) h64)
 have hok:OkQ (QM R m p):=fun q h=>⟨by have:=(hq q h).1;omega,(hq q h).2.1⟩
 have hno:¬ NoM R m p:=by
  unfold NoM NoSh
  rw [hmost]
  have e:totN (QM R m p) R.lot = sumT R.lot (QM R m p):=by unfold totN;rw [if_neg];rintro (h | h | h | h) <;> first | omega | exact h hok
  rintro (h | h | h | h)
  ·exact h hmo
  ·rw [e] at h;omega
  ·omega
  ·omega
 have hs:=(shOk hno).2
 have hall:=gtS_all (mode:=R.mode) hs
 have K:=fil_is (k:=nM R m p) hg (p:=p) (by
  have:0 < (lvM R m p).length:=by have:=nM_le (R:=R) (m:=m) (p:=p);omega
  have:=lv_mem (bang_mem this)
  have h2:=good_is (hg.gd _ this.1)
  rw [this.2.2] at h2;omega) hl hno (Nat.le_refl _)
 have ea:aftM R m p = filN (payM R m) (lvM R m p) (fM R m p) m (nM R m p):=if_neg hno
 rw [ea,K.l1]
 have es:sF (fM R m p) (nM R m p) = allN R.lot m.left (sumT R.lot (QM R m p)):=by
  unfold fM;rw [sF_gt,← hQl,hall,hmost]
 rw [es]
 have ht:=trim_rng (lot:=R.lot) (q:=m.left) hl (by omega)
 by_cases hc:trimN R.lot m.left≤sumT R.lot (QM R m p)
 ·unfold allN;rw [Int.min_eq_left hc];omega
 ·exfalso
  refine hne (.inr ⟨hno,?_⟩)
  have hf:∀ i,i < nM R m p → fM R m p i≤(QM R m p).getD i 0:=fun i hi=>by rw [QM_at hi];exact (fM_rng hno hi).2
  have h2:=(sF_all (nM R m p) (by omega) hf).2
  rw [show (QM R m p).take (nM R m p) = QM R m p by rw [← hQl,List.take_length],es] at h2
  intro i hi
  rw [h2 (by unfold allN;rw [Int.min_eq_right (by omega)];exact hT) i hi,QM_at hi]
theorem keeps_p (R:Rl) (hp:isPol R.self = true) (hl:1≤R.lot) (hl2:R.lot≤1099511627776) (hmo:R.mode = 1 ∨ R.mode = 2) (m0:Mt) (hg:GM m0) (h64:m0.L.length≤64) (h0:1≤m0.left) (h1:m0.left≤1099511627776) (hF:m0.F = []) (hD:m0.D = []):KE R m0 (crF R m0):=by
 have hI:KI R m0 m0:=⟨⟨by rw [hF,hD];simp [sumQ,sumF],by rw [hF];simp [sumF],by rw [hD];simp,by rw [hF];simp,by rw [hF];simp,by rw [hD];simp,fun _=>rfl⟩,fun _ h=>h,by rw [hF];simp,by rw [hD];simp⟩
 have hlen:∀ m,KI R m0 m → m.L.length≤64:=fun m h=>by have:=h.len;omega
 refine crM_ind R hp hl (KI R m0) (KE R m0) ?_ ?_ ?_ ?_ ?_ _ m0 (Nat.lt_succ_self _) hI hg (by omega)
 ·exact fun m h hg h0 hpr=>⟨h.j,h0,hg,.inr (.inr (.inr (.inr (.inr hpr))))⟩
 ·intro m p h hg h0 hpr hend
  have A:=aft_f hg (pr_rng hg hpr).1 hl h0
  refine ⟨(aft_j hp hl h hg h0 h64 hpr).1,A.l0,A.gm,?_⟩
  by_cases hz:(aftM R m p).left = 0
  ·exact .inr (.inl hz)
  ·have hne:¬ EmpM R m p:=by rcases hend with h | h;exact h;exact absurd h hz
   cases hpy:payM R m0 with
   | true=>exact .inr (.inr (.inr (.inl rfl)))
   | false =>
    by_cases hw:∀ x ∈ m0.L,x.qty % R.lot = 0
    ·have hc:=h.j.pay hpy
     refine .inr (.inr (.inl (open_less hp hl hl2 hmo hg (hlen m h) (by have:=A.l1;have:=A.l0;omega) ?_ (by unfold payM at hpy ⊢;rw [hc];exact hpy) (fun x hx=>hw x (h.sub x hx)) hne)))
     have:=h.j.left
     have hs:0≤sumF m.F:=by
      have:∀ F:List (Od × Int),(∀ y ∈ F,FOk R y) → 0≤sumF F:=by
       intro F
       induction F with
       | nil=>intro _;exact Int.le_refl _
       | cons y F ih =>
        intro hF
        have:=ih (fun z hz=>hF z (List.mem_cons_of_mem _ hz))
        have hy:=(hF y (List.mem_cons_self ..)).1
        unfold sumF at this ⊢
        rw [List.map_cons,List.sum_cons];omega
      exact this _ h.j.fl
     omega
    ·exact .inr (.inr (.inr (.inr (.inl hw))))
 ·exact fun m p h hg h0 hpr he=>(aft_j hp hl h hg h0 h64 hpr).2 he
 ·intro m x h hg h0 hx how hs
  obtain ⟨hlt,he⟩:=idx_of hg.ids hx rfl
  have hge:getO x.id m.L = some x:=get_some hg.ids hx rfl
  have eD:(goneM x.id m).D = m.D ++ [x]:=by show m.D ++ [oZ (getO x.id m.L)] = _;rw [hge];rfl
  refine ⟨⟨?_,h.j.left,fun y hy=>?_,h.j.fl,h.j.fn,?_,h.j.pay⟩,fun y hy=>h.sub y (List.mem_of_mem_eraseIdx hy),?_,?_⟩
  ·rw [eD,sumQ_app]
   show sumQ (m.L.eraseIdx (idxN x.id m.L)) + (sumQ m.D + sumQ [x]) + sumF m.F = _
   rw [sumQ_erase _ _ hlt,he]
   have:=h.j.sum
   have e1:sumQ [x] = x.qty:=by rw [sumQ_cons,sumQ_nil];omega
   omega
  ·rw [eD] at hy
   rcases List.mem_append.1 hy with hy | hy
   ·exact h.j.dr y hy
   ·obtain rfl:=List.mem_singleton.1 hy
    exact ⟨how,hs,hg.gd _ hx⟩
  ·rw [eD,List.length_append,List.length_singleton]
   have:=h.dl;omega
  ·show m.F.length + (m.L.eraseIdx (idxN x.id m.L)).length≤_
   rw [List.length_eraseIdx_of_lt hlt]
   have:=h.len;omega
  ·rw [eD,List.length_append,List.length_singleton]
   show _ + (m.L.eraseIdx (idxN x.id m.L)).length≤_
   rw [List.length_eraseIdx_of_lt hlt]
   have:=h.dl;omega
 ·exact fun m h hg h0=>⟨h.j,h0,hg,.inl rfl⟩
theorem none_cros {R:Rl} {L:List Od} (hs:R.side = 1 ∨ R.side = 2) (hg:∀ x ∈ L,goodO x = true) (hw:L.Pairwise (fun x y=>ltO x y = true)) (h:prM R L = none) :
  ∀ x ∈ L,¬ x.side = R.side → ¬ R.price = 0∧croN R.side R.price x.price = false:=by
 intro x hx hn
 have hg':=good_is (hg x hx)
 have hxs:x.side = 3 - R.side:=by omega
 have hmem:x ∈ sideL (3 - R.side) L:=by unfold sideL;rw [List.mem_filter];exact ⟨hx,by simpa using hxs⟩
 unfold prM at h
 cases hb:bestL (3 - R.side) L with
 | none =>
  unfold bestL at hb
  rw [List.head?_eq_none_iff] at hb
  rw [hb] at hmem;cases hmem
 | some b =>
  rw [hb] at h
  simp only at h
  split at h
  ·rename_i hc
   refine ⟨hc.1,?_⟩
   have hbm:b ∈ sideL (3 - R.side) L:=by unfold bestL at hb;exact List.mem_of_mem_head? hb
   have hbs:b.side = 3 - R.side∧b ∈ L:=by unfold sideL at hbm;rw [List.mem_filter] at hbm;exact ⟨by simpa using hbm.2,hbm.1⟩
   by_cases hxb:x = b
   ·rw [hxb];exact hc.2
   ·have hlt:ltO b x = true:=by
     have hw2:(sideL (3 - R.side) L).Pairwise (fun x y=>ltO x y = true):=List.Pairwise.sublist List.filter_sublist hw
     unfold bestL at hb
     match hS:sideL (3 - R.side) L,hb,hmem,hw2 with
     | [],hb,_,_=>cases hb
     | c :: cs,hb,hmem,hw2 =>
      injection hb with hb;subst hb
      rcases List.mem_cons.1 hmem with e | hm
      ·exact absurd e hxb
      ·exact (List.pairwise_cons.1 hw2).1 x hm
    have e1:b.side = x.side:=by omega
    rw [ltO_iff,e1] at hlt
    have hk:kpO b≤kpO x:=by unfold Lex at hlt;omega
    have hc2:=hc.2
    unfold kpO at hk
    unfold croN at hc2 ⊢
    rw [e1,hxs] at hk
    rcases hs with h1 | h1 <;> rw [h1] at hc2 hk ⊢ <;> simp at hc2 hk ⊢ <;> omega
  ·cases h
end Go.Proofs.YtikapeaodobkjaaGreat
namespace Go.Proofs.YtikapeaodobkjaaGreat
open Go.RowKit Go.Lib Go.Maps Go.Deep

theorem sF_take (L:List Od):∀ k,k≤L.length → sF (fun j=>(L[j]!).qty) k = sumQ (L.take k)
 | 0,_=>rfl
 | k + 1,h=>by
  rw [sF,sF_take L k (by omega),List.take_succ_eq_append_getElem (by omega),sumQ_app]
  congr 1
  rw [getElem!_pos L k (by omega),sumQ_cons,sumQ_nil];omega
theorem sF_Q (L:List Od):sF (fun j=>(L[j]!).qty) L.length = sumQ L:=by rw [sF_take L _ (Nat.le_refl _),List.take_length]
theorem sF_takeF (F:List (Od × Int)):∀ k,k≤F.length → sF (fun j=>(F[j]!).2) k = sumF (F.take k)
 | 0,_=>rfl
 | k + 1,h=>by
  rw [sF,sF_takeF F k (by omega),List.take_succ_eq_append_getElem (by omega),sumF_app]
  congr 1
  rw [getElem!_pos F k (by omega)];simp [sumF]
theorem sF_F (F:List (Od × Int)):sF (fun j=>(F[j]!).2) F.length = sumF F:=by rw [sF_takeF F _ (Nat.le_refl _),List.take_length]
theorem sF_small {f:Nat → Int} {n:Nat} (h:∀ j,j < n → 0≤f j∧f j≤1099511627776):∀ k,k≤n → 0≤sF f k∧sF f k≤1099511627776 * (k:Int)
 | 0,_=>⟨Int.le_refl _,by simp [sF]⟩
 | k + 1,hk=>by
  have ih:=sF_small h k (by omega)
  have:=h k (by omega)
  simp only [sF]
  omega
theorem bangF_mem {F:List (Od × Int)} {i:Nat} (h:i < F.length):F[i]! ∈ F:=by rw [getElem!_pos F i h];exact List.getElem_mem _
def alB (lot:Int) (L:List Od):Bool:=L.all fun x=>x.qty % lot == 0
theorem alB_no {lot:Int} {L:List Od} {i:Nat} (hi:i < L.length) (h:¬ (L[i]!).qty % lot = 0):alB lot L = false:=by
 unfold alB
 rw [List.all_eq_false]
 exact ⟨L[i]!,bang_mem hi,by simpa using h⟩
theorem alB_yes {lot:Int} {L:List Od} (h:∀ j,j < L.length → (L[j]!).qty % lot = 0):alB lot L = true:=by
 unfold alB
 rw [List.all_eq_true]
 intro x hx
 obtain ⟨j,hj,rfl⟩:=List.getElem_of_mem hx
 have:=h j hj
 rw [getElem!_pos L j hj] at this
 simpa using this
theorem tmod_is {q lot:Int} (h:0≤q):q.tmod lot = q % lot:=Int.tmod_eq_emod_of_nonneg h
theorem alone_c (A:Option Addr) (n c:Nat) (L:List Od) (lot:Int) (w:World) (HO:Ods w A n L) (hl:1≤lot) (hg:∀ x ∈ L,goodO x = true) (hn:n≤64) :
  Calls Tryz.prog 42 #[.slice A n c,.int .i64 lot] w fun e w'=>e = .returned (.bool (alB lot L))∧Below w.heap.size w w':=by
 have HH:=Lib.hid HO
 have HL:=Lib.hid HO.1
 have HG:=Lib.hid hg
 have hz:¬ lot = 0:=by omega
 have HZ:=Lib.hid hl
 clear HO hg hl
 go_enter Tryz.func42,Tryz.ntmps42
 go_wp2_with fail
 go_loopg [9] n (fun kx s9 wr=>∃ i:Nat,s9 = .int .i64 (i:Int)∧i≤n∧n - i≤kx∧Hid (Below w.heap.size w wr∧∀ j,j < i → (L[j]!).qty % lot = 0))
 case atStart=>exact ⟨0,rfl,by omega,by omega,Lib.hid ⟨Below.refl _ _,fun j hj=>absurd hj (Nat.not_lt_zero _)⟩⟩
 case round =>
  obtain ⟨i,rfl,hi,hkx,hB⟩:=hrel
  by_cases hlt:i < n
  ·have hltI:(i:Int) < (n:Int):=by omega
   have hi0:(0:Int)≤(i:Int):=by omega
   obtain ⟨b,off,rfl,hb,hc⟩:∃ b off,A = some ⟨b,off,none⟩∧b < wr.heap.size∧∀ i,i < n → (L[i]!).at wr b (off + i * 6):=by
    rcases (HH.out.below hB.out.1).2.2.2 with h | h
    ·omega
    ·exact h
   have hx:=hc i hlt
   obtain ⟨x,ex⟩:∃ x,L[i]! = x:=⟨_,rfl⟩
   rw [ex] at hx
   have hq0:0≤x.qty:=by
    have:=good_is (HG.out x (by rw [← ex];exact bang_mem (by rw [HL.out];exact hlt)));omega
   obtain ⟨r,hr⟩:∃ r,x.qty.tmod lot = r:=⟨_,rfl⟩
   have HX:Hid (L[i]! = x∧r = x.qty % lot∧i < L.length):=Lib.hid ⟨ex,by rw [← hr,tmod_is hq0],by rw [HL.out];exact hlt⟩
   have HBx:Hid (∀ y:Od,Below w.heap.size w (wr.alloc (.cells (OC y) 38))):=Lib.hid (fun y=>hB.out.1.alloc hB.out.1.size _)
   obtain ⟨x0,x1,x2,x3,x4,x5⟩:=hx
   clear hc hb hq0 ex
   by_cases h0:r = 0
   ·have g1:(r != 0) = false:=by simp [h0]
    have hJ:Hid (∀ j,j < i + 1 → (L[j]!).qty % lot = 0):=Lib.hid (fun j hj=>by
     by_cases e:j = i
     ·subst e;rw [HX.out.1,← HX.out.2.1];exact h0
     ·exact hB.out.2 j (by omega))
    clear h0
    go_wp2_with fail
    go_roundg (n - (i + 1))
    case measure=>omega
    case rel=>exact ⟨i + 1,by go_num,by omega,by omega,Lib.hid ⟨HBx.out x,hJ.out⟩⟩
   ·have g1:(r != 0) = true:=by simp [h0]
    have hal:Hid (alB lot L = false):=Lib.hid (alB_no HX.out.2.2 (by rw [HX.out.1,← HX.out.2.1];exact h0))
    clear h0
    go_wp2_with fail
    go_ret
    exact ⟨by rw [hal.out];rfl,HBx.out x⟩
  ·have hltI:¬ (i:Int) < (n:Int):=by omega
   obtain rfl:i = n:=by omega
   have hB1:=Lib.hid hB.out.1
   have hal:Hid (alB lot L = true):=Lib.hid (alB_yes (fun j hj=>hB.out.2 j (by rw [HL.out] at hj;exact hj)))
   clear hB
   go_wp2_with fail
   go_ret
   exact ⟨by rw [hal.out];rfl,hB1.out⟩

theorem five_four {T:TypeId} {W:World} {c:Nat} {a0 a1 a2 a3:Value} (h:Cl T W c #[a0,a1,a2,a3]):W.cell? ⟨c,0,none⟩ = some a0∧W.cell? ⟨c,1,none⟩ = some a1∧W.cell? ⟨c,2,none⟩ = some a2∧W.cell? ⟨c,3,none⟩ = some a3 :=
 ⟨(h.c 0).trans rfl,(h.c 1).trans rfl,(h.c 2).trans rfl,(h.c 3).trans rfl⟩
theorem keeps_long (k:Int) (A:Option Addr) (n c:Nat) (X:Ruls) (R:Rl) (q cash:Int) (w:World) (hz:(64:Int) < (n:Int)) :
  Calls Tryz.prog 8 #[.int .i64 k,.slice A n c,.agg #[.int .i64 R.acc,.int .i64 R.side,.int .i64 R.price,.int .i64 q,.int .i64 cash],.agg #[X.ver,X.ticks,.int .i64 R.lot,X.band,X.fees,X.round,.int .i64 R.mode,.int .i64 R.self,X.lay]] w fun e w'=>e = .returned (.bool true)∧Below w.heap.size w w':=by
 have HLv:=Lib.hid (fun W=>lives18_c W)
 obtain ⟨w2,hw2⟩:∃ w2,(w.alloc (.cells #[.int .i64 R.acc,.int .i64 R.side,.int .i64 R.price,.int .i64 q,.int .i64 cash] 64)).alloc (.cells #[X.ver,X.ticks,.int .i64 R.lot,X.band,X.fees,X.round,.int .i64 R.mode,.int .i64 R.self,X.lay] 68) = w2:=⟨_,rfl⟩
 have b2:Below w.heap.size w w2:=by rw [← hw2];exact ((Below.refl _ _).alloc (Nat.le_refl _) _).alloc (by simp) _
 have c4:Cl 64 w2 w.heap.size #[.int .i64 R.acc,.int .i64 R.side,.int .i64 R.price,.int .i64 q,.int .i64 cash]:=by rw [← hw2];exact hd_prev (by simp) (hd_last rfl)
 have c5:Cl 68 w2 (w.heap.size + 1) #[X.ver,X.ticks,.int .i64 R.lot,X.band,X.fees,X.round,.int .i64 R.mode,.int .i64 R.self,X.lay]:=by rw [← hw2];exact hd_last (by simp)
 have HB2:=Lib.hid b2
 have HC4:=Lib.hid c4
 have HC5:=Lib.hid c5
 clear b2 c4 c5
 go_enter Tryz.func8,Tryz.ntmps8
 go_wp2_with ((with_reducible refine (HLv.out _).mono ?_);rintro e w9 ⟨rfl,hb9⟩)
 go_ret
 exact ⟨rfl,HB2.out.trans (hb9.mono HB2.out.size)⟩
theorem keeps_no (k:Int) (A:Option Addr) (n c:Nat) (X:Ruls) (R:Rl) (q cash:Int) (w:World) (hz:n≤64) (HB:∀ W,Below w.heap.size w W → Calls Tryz.prog 10 #[.int .i64 k,.slice A n c] W (NoEnd W)) :
  Calls Tryz.prog 8 #[.int .i64 k,.slice A n c,.agg #[.int .i64 R.acc,.int .i64 R.side,.int .i64 R.price,.int .i64 q,.int .i64 cash],.agg #[X.ver,X.ticks,.int .i64 R.lot,X.band,X.fees,X.round,.int .i64 R.mode,.int .i64 R.self,X.lay]] w fun e w'=>e = .returned (.bool true)∧Below w.heap.size w w':=by
 have hzI:decide ((64:Int) < (n:Int)) = false:=decide_eq_false (by omega)
 have HLv:=Lib.hid (fun W=>lives18_c W)
 obtain ⟨w2,hw2⟩:∃ w2,(w.alloc (.cells #[.int .i64 R.acc,.int .i64 R.side,.int .i64 R.price,.int .i64 q,.int .i64 cash] 64)).alloc (.cells #[X.ver,X.ticks,.int .i64 R.lot,X.band,X.fees,X.round,.int .i64 R.mode,.int .i64 R.self,X.lay] 68) = w2:=⟨_,rfl⟩
 have b2:Below w.heap.size w w2:=by rw [← hw2];exact ((Below.refl _ _).alloc (Nat.le_refl _) _).alloc (by simp) _
 have c4:Cl 64 w2 w.heap.size #[.int .i64 R.acc,.int .i64 R.side,.int .i64 R.price,.int .i64 q,.int .i64 cash]:=by rw [← hw2];exact hd_prev (by simp) (hd_last rfl)
 have c5:Cl 68 w2 (w.heap.size + 1) #[X.ver,X.ticks,.int .i64 R.lot,X.band,X.fees,X.round,.int .i64 R.mode,.int .i64 R.self,X.lay]:=by rw [← hw2];exact hd_last (by simp)
 have HB2:=Lib.hid b2
 have HC4:=Lib.hid c4
 have HC5:=Lib.hid c5
 have HBd:=Lib.hid (HB w2 b2)
 unfold NoEnd at HBd
 clear b2 c4 c5 HB hz
 go_enter Tryz.func8,Tryz.ntmps8
 go_wp2_with fail
 ((with_reducible refine HBd.out.mono ?_);rintro e w3 ⟨rfl,h3⟩)
 have HMt:=Lib.hid (match_nil X R q cash w3)
 unfold MatchNo at HMt
 obtain ⟨t0,t1,t2,t3,t4⟩:=five_of (Cl.bel HC4.out h3.out);obtain ⟨r0,r1,r2,r3,r4,r5,r6,r7,r8⟩:=nine_of (Cl.bel HC5.out h3.out)
 have B3:=Lib.hid (HB2.out.trans (h3.out.mono HB2.out.size))
 clear h3 HBd
 go_wp2_with fail
 ((with_reducible refine HMt.out.mono ?_);rintro e w4 ⟨rfl,h4⟩)
 obtain ⟨w5,hw5⟩:∃ w5,(w4.alloc (.cells #[.slice none 0 0,.slice none 0 0,.int .i64 0,.bool false] 71)).setRow w4.heap.size #[.slice none 0 0,.slice none 0 0,.int .i64 0,.bool false] = w5:=⟨_,rfl⟩
 have b5:Below w4.heap.size w4 w5:=by rw [← hw5];exact below_row (b1_of _ _) (Nat.le_refl _)
 have c5:Cl 71 w5 w4.heap.size #[.slice none 0 0,.slice none 0 0,.int .i64 0,.bool false]:=by rw [← hw5];exact setRow_heap _ _ _ _ _ _ (hd_last rfl)
 have e0:=(five_four c5).1
 have B5:=Lib.hid ((B3.out.trans (h4.out.mono B3.out.size)).trans (b5.mono (Nat.le_trans B3.out.size h4.out.size)))
 clear b5 c5 HMt h4
 go_wp2_with (first | ((with_reducible apply storeRe);rfl;rfl;rfl;rfl;exact (show Cl 71 _ w4.heap.size _ from hd_last rfl);rfl;rfl;exact re_one;rw [hw5];skip) | ((with_reducible refine (HLv.out _).mono ?_);rintro e w9 ⟨rfl,hb9⟩))
 go_ret
 exact ⟨rfl,B5.out.trans (hb9.mono B5.out.size)⟩
theorem keeps_bad (k:Int) (hk:k = 1 ∨ k = 2) (A:Option Addr) (n c:Nat) (L:List Od) (X:Ruls) (R:Rl) (q cash:Int) (w:World) (H:Ods w A n L) (hz:n≤64) (hB:bookO L = true) (hf:¬ FitP R q) :
  Calls Tryz.prog 8 #[.int .i64 k,.slice A n c,.agg #[.int .i64 R.acc,.int .i64 R.side,.int .i64 R.price,.int .i64 q,.int .i64 cash],.agg #[X.ver,X.ticks,.int .i64 R.lot,X.band,X.fees,X.round,.int .i64 R.mode,.int .i64 R.self,X.lay]] w fun e w'=>e = .returned (.bool true)∧Below w.heap.size w w':=by
 have hzI:decide ((64:Int) < (n:Int)) = false:=decide_eq_false (by omega)
 have HLv:=Lib.hid (fun W=>lives18_c W)
 obtain ⟨w2,hw2⟩:∃ w2,(w.alloc (.cells #[.int .i64 R.acc,.int .i64 R.side,.int .i64 R.price,.int .i64 q,.int .i64 cash] 64)).alloc (.cells #[X.ver,X.ticks,.int .i64 R.lot,X.band,X.fees,X.round,.int .i64 R.mode,.int .i64 R.self,X.lay] 68) = w2:=⟨_,rfl⟩
 have b2:Below w.heap.size w w2:=by rw [← hw2];exact ((Below.refl _ _).alloc (Nat.le_refl _) _).alloc (by simp) _
 have c4:Cl 64 w2 w.heap.size #[.int .i64 R.acc,.int .i64 R.side,.int .i64 R.price,.int .i64 q,.int .i64 cash]:=by rw [← hw2];exact hd_prev (by simp) (hd_last rfl)
 have c5:Cl 68 w2 (w.heap.size + 1) #[X.ver,X.ticks,.int .i64 R.lot,X.band,X.fees,X.round,.int .i64 R.mode,.int .i64 R.self,X.lay]:=by rw [← hw2];exact hd_last (by simp)
 have HB2:=Lib.hid b2
 have HC4:=Lib.hid c4
 have HC5:=Lib.hid c5
 have HBd:=Lib.hid (build_c k hk A n c L w2 (H.below b2) hB)
 have HF:=Lib.hid hf
 clear b2 c4 c5 H hz hf hB hk
 go_enter Tryz.func8,Tryz.ntmps8
 go_wp2_with fail
 ((with_reducible refine HBd.out.mono ?_);rintro e w3 ⟨b,v,S,rfl,hN⟩)
 have HMt:=Lib.hid (match_bad b X R v k L S q cash w3 hN.out.ly HF.out)
 unfold MatchNo at HMt
 obtain ⟨t0,t1,t2,t3,t4⟩:=five_of (Cl.bel HC4.out hN.out.be);obtain ⟨r0,r1,r2,r3,r4,r5,r6,r7,r8⟩:=nine_of (Cl.bel HC5.out hN.out.be)
 have B3:=Lib.hid (HB2.out.trans (hN.out.be.mono HB2.out.size))
 clear hN HBd HF
 go_wp2_with fail
 ((with_reducible refine HMt.out.mono ?_);rintro e w4 ⟨rfl,h4⟩)
 obtain ⟨w5,hw5⟩:∃ w5,(w4.alloc (.cells #[.slice none 0 0,.slice none 0 0,.int .i64 0,.bool false] 71)).setRow w4.heap.size #[.slice none 0 0,.slice none 0 0,.int .i64 0,.bool false] = w5:=⟨_,rfl⟩
 have b5:Below w4.heap.size w4 w5:=by rw [← hw5];exact below_row (b1_of _ _) (Nat.le_refl _)
 have c5:Cl 71 w5 w4.heap.size #[.slice none 0 0,.slice none 0 0,.int .i64 0,.bool false]:=by rw [← hw5];exact setRow_heap _ _ _ _ _ _ (hd_last rfl)
 have e0:=(five_four c5).1
 have B5:=Lib.hid ((B3.out.trans (h4.out.mono B3.out.size)).trans (b5.mono (Nat.le_trans B3.out.size h4.out.size)))
 clear b5 c5 HMt h4
 go_wp2_with (first | ((with_reducible apply storeRe);rfl;rfl;rfl;rfl;exact (show Cl 71 _ w4.heap.size _ from hd_last rfl);rfl;rfl;exact re_one;rw [hw5];skip) | ((with_reducible refine (HLv.out _).mono ?_);rintro e w9 ⟨rfl,hb9⟩))
 go_ret
 exact ⟨rfl,B5.out.trans (hb9.mono B5.out.size)⟩
end Go.Proofs.YtikapeaodobkjaaGreat
