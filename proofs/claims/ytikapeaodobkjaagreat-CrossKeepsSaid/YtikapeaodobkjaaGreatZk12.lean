/- What the laws lean on, in a few texts (by shake.py): number 12 of 16. -/
import Derived.Test.YtikapeaodobkjaaGreatZk1
import Derived.Test.YtikapeaodobkjaaGreatZk2
import Derived.Test.YtikapeaodobkjaaGreatZk5
import Derived.Test.YtikapeaodobkjaaGreatZk10
import Derived.Test.YtikapeaodobkjaaGreatZk9
import Derived.Test.YtikapeaodobkjaaGreatZk3
import Derived.Shelf.SlSortCmp.QuietGrown
import Derived.Laws.OwnMore
import Derived.Laws.AppendOwnNone
import Derived.Maps.AppendAt
import Derived.Deep.MidRow

set_option maxHeartbeats 16000000
set_option maxRecDepth 1000000
set_option linter.unusedVariables false
namespace Go.Proofs.YtikapeaodobkjaaGreat
open Go.RowKit Go.Sort Go.Lib Go.Shelf

def RB (W:World) (wb:Nat) (M:List Od):Prop:=∃ A c,Cl 46 W wb #[.slice A M.length c]∧W.ownsRow 0 49 6 (.slice A M.length c) M.length (ol M)
def idxN (id:Int) (M:List Od):Nat:=M.findIdx (fun x=>x.id == id)
theorem idx_none {id:Int} {M:List Od} (hn:∀ x ∈ M,¬ x.id = id):idxN id M = M.length:=by
 unfold idxN
 rw [List.findIdx_eq_length]
 intro x hx
 simp [hn x hx]
theorem idx_get {id:Int} {M:List Od} (h:idxN id M < M.length):(M[idxN id M]!).id = id:=by
 rw [getElem!_pos M _ h]
 have:=List.findIdx_getElem (w:=h)
 exact eq_of_beq this
theorem idx_some {id:Int} {M:List Od} {x:Od} (hx:x ∈ M) (he:x.id = id):idxN id M < M.length:=by
 unfold idxN
 rw [List.findIdx_lt_length]
 exact ⟨x,hx,by simp [he]⟩

theorem own_low {w W:World} {base n size:Nat} {T:TypeId} {v:Value} {xs:List Value} (h:w.ownsRow base T size v n xs) (hb:Below w.heap.size w W):W.ownsRow base T size v n xs:=own_fr h (S:=fun _=>False) (Fr.of_below hb) (fun _ _ h=>h)

theorem foot_kind {W:World} {b:Option Addr} {m:Option Nat} {s1 s2:Sd} (H:Bk W b m s1 s2) {k:Nat} (hk:foot b m s1 s2 k) {cs:Array Value} {T:TypeId} (h:W.heap[k]? = some (.cells cs T (0,0))):T = 132 ∨ T = 247 ∨ T = 38:=by
 rcases hk with e | e | e | e | ⟨r,hr,e⟩
 ·rcases H.shape with ⟨h0,_⟩ | ⟨p,hb,hp⟩
  ·rw [h0] at e;cases e
  ·rw [hb] at e;injection e with e;injection e with e;subst e
   rw [h] at hp;injection hp with hp;injection hp with _ hp;exact .inl hp
 ·obtain ⟨es,clock,hb,_⟩:=H.mp k e
  rw [h] at hb;cases hb
 ·obtain ⟨cs',hc⟩:=own_blk H.r1 e
  rw [h] at hc;injection hc with hc;injection hc with _ hc;exact .inr (.inl hc)
 ·obtain ⟨cs',hc⟩:=own_blk H.r2 e
  rw [h] at hc;injection hc with hc;injection hc with _ hc;exact .inr (.inl hc)
 ·obtain ⟨cs',hc⟩:=own_blk (H.q r hr) e
  rw [h] at hc;injection hc with hc;injection hc with _ hc;exact .inr (.inr hc)
theorem rb_low {W W':World} {wb:Nat} {M:List Od} (R:RB W wb M) (hb:Below W.heap.size W W'):RB W' wb M:=by
 obtain ⟨A,c,hc,hr⟩:=R
 exact ⟨A,c,(hb.block _ (blk_lt hc)).trans hc,own_low hr hb⟩
theorem put_sort {w w':World} {p m:Nat} {s1 s2 s1' s2':Sd} {o:Od} (h:PutIs w w' p m s1 s2 s1' s2' o):sortO (bookL s1.rs s2.rs ++ [o]) = bookL s1'.rs s2'.rs :=
 sortO_uniq (h.perm.trans (List.perm_append_comm (l₁:=[o]) (l₂:=bookL s1.rs s2.rs))) h.wh.pw

structure Tri (w W:World) (pa ma:Nat) (a1 a2:Sd) (pb mb:Nat) (b1 b2:Sd) (wb:Nat) (M:List Od):Prop where
 wa:Whole W pa ma a1 a2
 wv:Whole W pb mb b1 b2
 rb:RB W wb M
 be:Below w.heap.size w W
 loa:∀ k,foot (some ⟨pa,0,none⟩) (some ma) a1 a2 k → w.heap.size≤k
 lob:∀ k,foot (some ⟨pb,0,none⟩) (some mb) b1 b2 k → w.heap.size≤k
 low:w.heap.size≤wb
 dj:∀ k,foot (some ⟨pa,0,none⟩) (some ma) a1 a2 k → ¬ foot (some ⟨pb,0,none⟩) (some mb) b1 b2 k
section
variable {w W W' : World} {pa ma pb mb wb : Nat} {a1 a2 b1 b2 : Sd} {M : List Od}
theorem Tri.below (h:Tri w W pa ma a1 a2 pb mb b1 b2 wb M) (hb:Below W.heap.size W W'):Tri w W' pa ma a1 a2 pb mb b1 b2 wb M :=
 ⟨h.wa.below hb,h.wv.below hb,rb_low h.rb hb,h.be.trans (hb.mono h.be.size),h.loa,h.lob,h.low,h.dj⟩
end
end Go.Proofs.YtikapeaodobkjaaGreat
namespace Go.Proofs.YtikapeaodobkjaaGreat
open Go.RowKit Go.Shelf Go.Sort Go.Maps

def getO (id:Int) (M:List Od):Option Od:=if idxN id M < M.length then some (M[idxN id M]!) else none
end Go.Proofs.YtikapeaodobkjaaGreat
namespace Go.Proofs.YtikapeaodobkjaaGreat
open Go.RowKit Go.Shelf Go.Sort Go.Maps Go.Lib

def cutR (id qty:Int) (M:List Od):Int × List Od :=
 if idxN id M < M.length then (if qty < 1 ∨ (M[idxN id M]!).qty < qty then (2,M) else if qty = (M[idxN id M]!).qty then (0,M.eraseIdx (idxN id M)) else (0,M.set (idxN id M) (lessO (M[idxN id M]!) qty))) else (51,M)
theorem cutR_some {id qty:Int} {M:List Od} {i:Nat} (h:idxN id M = i) (hi:i < M.length):cutR id qty M = if qty < 1 ∨ (M[i]!).qty < qty then (2,M) else if qty = (M[i]!).qty then (0,M.eraseIdx i) else (0,M.set i (lessO (M[i]!) qty)):=by
 unfold cutR
 rw [h,if_pos hi]


def levL (sd p:Int) (M:List Od):List Od:=M.filter (fun x=>x.side == sd && x.price == p)
theorem levL_len (sd p:Int) (M:List Od):(levL sd p M).length≤M.length:=List.length_filter_le _ _


structure ClI (w wr:World) (p m:Nat) (t1 t2:Sd) (A:Option Addr) (n:Nat) (L:List Od) (k:Nat):Prop where
 wh:Whole wr p m t1 t2
 perm:(bookL t1.rs t2.rs).Perm (L.take k)
 od:Ods wr A n L
 nf:∀ b off,A = some ⟨b,off,none⟩ → ¬ foot (some ⟨p,0,none⟩) (some m) t1 t2 b
 be:Below w.heap.size w wr
 lo:∀ j,foot (some ⟨p,0,none⟩) (some m) t1 t2 j → w.heap.size≤j
theorem ods_fr {S:Nat → Prop} {w w':World} {A:Option Addr} {n:Nat} {L:List Od} (h:Ods w A n L) (hf:Fr S w w') (hn:∀ b off,A = some ⟨b,off,none⟩ → ¬ S b):Ods w' A n L:=by
 obtain ⟨h1,h2,h3,h4⟩:=h
 refine ⟨h1,h2,h3,?_⟩
 rcases h4 with h0 | ⟨b,off,rfl,hlt,hc⟩
 ·exact .inl h0
 ·have e:∀ o,w'.cell? ⟨b,o,none⟩ = w.cell? ⟨b,o,none⟩:=fun o=>World.cell?_of_block (w:=w) (a:=⟨b,o,none⟩) (hf.block b hlt (hn b off rfl))
  refine .inr ⟨b,off,rfl,Nat.lt_of_lt_of_le hlt hf.size,fun i hi=>?_⟩
  have:=hc i hi
  unfold Od.at at this ⊢
  simpa only [e] using this
theorem ClI.below {w wr w':World} {p m n k:Nat} {t1 t2:Sd} {A:Option Addr} {L:List Od} (h:ClI w wr p m t1 t2 A n L k) (hb:Below wr.heap.size wr w'):ClI w w' p m t1 t2 A n L k :=
 ⟨h.wh.below hb,h.perm,h.od.below hb,h.nf,h.be.trans (hb.mono h.be.size),h.lo⟩

def Trn (W W':World) (p m:Nat) (s1 s2 s1' s2':Sd):Prop :=
 Whole W' p m s1' s2'∧Fr (foot (some ⟨p,0,none⟩) (some m) s1 s2) W W'∧∀ k,foot (some ⟨p,0,none⟩) (some m) s1' s2' k → foot (some ⟨p,0,none⟩) (some m) s1 s2 k ∨ W.heap.size≤k
structure Pl (w W:World) (p m:Nat) (s1 s2:Sd) (wb:Nat) (M:List Od):Prop where
 wh:Whole W p m s1 s2
 rb:RB W wb M
 be:Below w.heap.size w W
 lo:∀ k,foot (some ⟨p,0,none⟩) (some m) s1 s2 k → w.heap.size≤k
 low:w.heap.size≤wb
section
variable {w W W' : World} {p m wb : Nat} {s1 s2 s1' s2' : Sd} {M M' : List Od}
theorem Pl.below (h:Pl w W p m s1 s2 wb M) (hb:Below W.heap.size W W'):Pl w W' p m s1 s2 wb M:=⟨h.wh.below hb,rb_low h.rb hb,h.be.trans (hb.mono h.be.size),h.lo,h.low⟩
theorem trn_same (H:Whole W p m s1 s2) (hb:Below W.heap.size W W'):Trn W W' p m s1 s2 s1 s2:=⟨H.below hb,Fr.of_below hb,fun _ h=>.inl h⟩
end

theorem idx_of {id:Int} {M:List Od} {x:Od} (hi:M.Pairwise (fun x y=>¬ x.id = y.id)) (hx:x ∈ M) (he:x.id = id):idxN id M < M.length∧M[idxN id M]! = x:=by
 have hl:=idx_some hx he
 exact ⟨hl,ids_inj hi (by rw [getElem!_pos M _ hl];exact List.getElem_mem hl) hx ((idx_get hl).trans he.symm)⟩
theorem get_some {id:Int} {M:List Od} {x:Od} (hi:M.Pairwise (fun x y=>¬ x.id = y.id)) (hx:x ∈ M) (he:x.id = id):getO id M = some x:=by
 obtain ⟨h1,h2⟩:=idx_of hi hx he
 unfold getO
 rw [if_pos h1,h2]
theorem get_none {id:Int} {M:List Od} (h:∀ x ∈ M,¬ x.id = id):getO id M = none:=by
 unfold getO
 rw [if_neg]
 intro hl
 exact h _ (by rw [getElem!_pos M _ hl];exact List.getElem_mem hl) (idx_get hl)
theorem erase_none {id:Int} {M:List Od} (h:∀ x ∈ M,¬ x.id = id):M.eraseIdx (idxN id M) = M:=by
 rw [idx_none h];exact List.eraseIdx_of_length_le (Nat.le_refl _)
theorem take_same {w w':World} {p m:Nat} {s1 s2 s1' s2':Sd} {o:Od} {id:Int} (H:Whole w p m s1 s2) (k:TakeIs w w' p m s1 s2 s1' s2' o) (ho:o ∈ bookL s1.rs s2.rs) (he:o.id = id):(bookL s1.rs s2.rs).eraseIdx (idxN id (bookL s1.rs s2.rs)) = bookL s1'.rs s2'.rs:=by
 obtain ⟨h1,h2⟩:=idx_of H.ids ho he
 have hp:=era_perm h1 h2
 refine uniq ?_ ?_ k.tu.wh.pw
 ·exact (List.Perm.cons_inv (hp.symm.trans k.perm))
 ·exact H.pw.sublist (List.eraseIdx_sublist _ _)
theorem cut_same {w w':World} {p m:Nat} {s1 s2 s1' s2':Sd} {id qty c:Int} (H:Whole w p m s1 s2) (k:CutIs w w' p m s1 s2 s1' s2' id qty c):(cutR id qty (bookL s1.rs s2.rs)) = (c,bookL s1'.rs s2'.rs)∧Trn w w' p m s1 s2 s1' s2':=by
 rcases k with ⟨rfl,hno,rfl,rfl,hb⟩ | ⟨o,ho,hid,k⟩
 ·refine ⟨?_,trn_same H hb⟩
  unfold cutR
  rw [if_neg]
  rw [idx_none hno];exact Nat.lt_irrefl _
 ·obtain ⟨h1,h2⟩:=idx_of H.ids ho hid
  rw [cutR_some rfl h1,h2]
  rcases k with ⟨rfl,hq,rfl,rfl,hb⟩ | ⟨rfl,hq,he,ht⟩ | ⟨rfl,hq,hl,ht⟩
  ·exact ⟨if_pos hq,trn_same H hb⟩
  ·rw [if_neg (by omega),if_pos he]
   exact ⟨by rw [take_same H ht ho hid],ht.tu.wh,ht.tu.fr,ht.tu.ft⟩
  ·rw [if_neg (by omega),if_neg (by omega)]
   refine ⟨?_,ht.tu.wh,ht.tu.fr,ht.tu.ft⟩
   rw [ht.now]
   congr 1
   have e:bookL s1.rs s2.rs = (bookL s1.rs s2.rs).take (idxN id (bookL s1.rs s2.rs)) ++ o :: (bookL s1.rs s2.rs).drop (idxN id (bookL s1.rs s2.rs) + 1):=by
    have h3:o = (bookL s1.rs s2.rs)[idxN id (bookL s1.rs s2.rs)]'h1:=by rw [← h2,getElem!_pos (bookL s1.rs s2.rs) _ h1]
    rw [h3,← List.drop_eq_getElem_cons h1,List.take_append_drop]
   have h4:=less_map (P:=(bookL s1.rs s2.rs).take (idxN id (bookL s1.rs s2.rs))) (T:=(bookL s1.rs s2.rs).drop (idxN id (bookL s1.rs s2.rs) + 1)) (o:=o) (qty:=qty) (by rw [← e];exact H.ids)
   rw [← e] at h4
   rw [h4,List.set_eq_take_append_cons_drop,if_pos h1]
theorem filt_none {s p:Int}:∀ {R:List Rw},(∀ r ∈ R,∀ x ∈ r.q,x.side = s∧x.price = r.pr) → (∀ r ∈ R,¬ r.pr = p) → (flatR R).filter (fun x=>x.price == p) = []:=by
 intro R hm h
 rw [List.filter_eq_nil_iff]
 intro x hx
 obtain ⟨r,hr,hx⟩:=List.mem_flatMap.1 hx
 have:=(hm r hr x hx).2
 have h2:=h r hr
 simp only [beq_iff_eq]
 rw [this];exact h2
theorem bet_ne {s a b:Int} (h:betN s a b = true):¬ a = b:=by
 intro e
 subst e
 rw [bet_irr] at h
 cases h
theorem lev_same {w:World} {p m:Nat} {s1 s2:Sd} (H:Whole w p m s1 s2) (sd pr:Int):levQ sd pr (rsOf s1 s2 sd) = levL sd pr (bookL s1.rs s2.rs):=by
 have e1:levL sd pr (bookL s1.rs s2.rs) = (sideL sd (bookL s1.rs s2.rs)).filter (fun x=>x.price == pr):=by
  unfold levL sideL
  rw [List.filter_filter]
  congr 1
  funext x
  exact Bool.and_comm _ _
 rw [e1,sideL_book H sd]
 rcases rs_ok H sd with h | ⟨hs,h⟩
 ·rw [h];rfl
 ·obtain ⟨h1,h2,h3,h4⟩:=row_split (p:=pr) hs h.rows
  unfold levQ
  generalize rsOf s1 s2 sd = R at *
  have e2:flatR R = flatR (R.take (atN sd pr R)) ++ flatR (R.drop (atN sd pr R)):=by
   unfold flatR
   rw [← List.flatMap_append,List.take_append_drop]
  have e3:(flatR (R.take (atN sd pr R))).filter (fun x=>x.price == pr) = []:=filt_none (s:=sd) (fun r hr=>h.mem r (List.mem_of_mem_take hr)) (fun r hr=>bet_ne (h1 r hr))
  rw [e2,List.filter_append,e3,List.nil_append]
  by_cases hi:atN sd pr R < R.length
  ·have e4:R.drop (atN sd pr R) = R[atN sd pr R]! :: R.drop (atN sd pr R + 1):=by rw [getElem!_pos R _ hi];exact List.drop_eq_getElem_cons hi
   have hm4:∀ r ∈ R[atN sd pr R]! :: R.drop (atN sd pr R + 1),r ∈ R:=fun r hr=>List.mem_of_mem_drop (by rw [e4];exact hr)
   by_cases hp:(R[atN sd pr R]!).pr = pr
   ·rw [if_pos ⟨hi,hp⟩,e4]
    have h5:=h4 _ _ e4 hp
    have e5:(flatR (R.drop (atN sd pr R + 1))).filter (fun x=>x.price == pr) = []:=filt_none (s:=sd) (fun r hr=>h.mem r (hm4 r (List.mem_cons_of_mem _ hr))) (fun r hr e=>bet_ne (h5 r hr) e.symm)
    show _ = ((R[atN sd pr R]!).q ++ flatR (R.drop (atN sd pr R + 1))).filter _
    rw [List.filter_append,e5,List.append_nil,List.filter_eq_self.2]
    intro x hx
    have:=(h.mem _ (hm4 _ List.mem_cons_self) x hx).2
    simp only [beq_iff_eq]
    rw [this];exact hp
   ·rw [if_neg (fun hh=>hp hh.2),e4]
    have h5:=h3 _ _ e4 hp
    exact (filt_none (s:=sd) (fun r hr=>h.mem r (hm4 r hr)) (fun r hr e=>bet_ne (h5 r hr) e.symm)).symm
  ·rw [if_neg (fun hh=>hi hh.1),List.drop_of_length_le (by omega)]
   rfl
end Go.Proofs.YtikapeaodobkjaaGreat
