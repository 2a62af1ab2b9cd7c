/- What the laws lean on, in a few texts (by shake.py): number 8 of 16. -/
import Derived.Test.YtikapeaodobkjaaGreatZk1
import Derived.Test.YtikapeaodobkjaaGreatZk2
import Derived.Test.YtikapeaodobkjaaGreatZk5
import Derived.Test.YtikapeaodobkjaaGreatZk3
import Derived.Deep.OwnRows
import Derived.Shelf.SlSortCmp.QuietGrown
import Derived.Laws.OwnMore
import Derived.Laws.AppendOwnNone
import Derived.Deep.DeepCutAuto
import Derived.Deep.CutBlock
import Derived.Maps.AppendAt
import Derived.Deep.LoopGhost
import Derived.Sort.Grow
import Derived.Laws.StructEq
import Derived.Laws.CopyRow
import Derived.Laws.CopyOwn

set_option maxHeartbeats 16000000
set_option maxRecDepth 1000000
set_option linter.unusedVariables false
namespace Go.Proofs.YtikapeaodobkjaaGreat
open Go.RowKit Go.Lib Go.Maps Go.Deep

def gtN (mode lot v:Int) (Q:List Int):Nat → Int:=outN mode (allN lot v (sumT lot Q)) (sumT lot Q) lot Q
def gtS (mode lot v:Int) (Q:List Int):Nat → Int:=outS mode (allN lot v (sumT lot Q)) (sumT lot Q) lot Q
theorem all_rng {mode lot v:Int} {Q:List Int} (h:ShOk Q v lot):0≤allN lot v (sumT lot Q)∧allN lot v (sumT lot Q)≤v∧allN lot v (sumT lot Q)≤sumT lot Q:=by
 have h1:=trim_rng h.l1 (show 0≤v by have:=h.y1;omega)
 have h2:=h.t1
 unfold allN;omega
theorem gt_rng {mode lot v:Int} {Q:List Int} (h:ShOk Q v lot) {k:Nat} (hk:k < Q.length):0≤gtN mode lot v Q k∧gtN mode lot v Q k≤Q.getD k 0:=by
 have ha:=all_rng (mode:=mode) h
 have h1:=outN_rng (mode:=mode) h.l1 h.q ha.1 ha.2.2 h.t1 k hk
 have h2:=trim_rng h.l1 (getD_ok h.q k).1
 unfold gtN;omega
theorem gtS_all {mode lot v:Int} {Q:List Int} (h:ShOk Q v lot):gtS mode lot v Q Q.length = allN lot v (sumT lot Q):=by
 have ha:=all_rng (mode:=mode) h
 exact outS_all (mode:=mode) h.l1 h.q ha.1 ha.2.2 h.t1
theorem gtS_rng {mode lot v:Int} {Q:List Int} (h:ShOk Q v lot) {k:Nat} (hk:k≤Q.length):0≤gtS mode lot v Q k∧gtS mode lot v Q k≤allN lot v (sumT lot Q):=by
 have ha:=all_rng (mode:=mode) h
 have h1:=outS_rng (mode:=mode) h.l1 h.q ha.1 ha.2.2 h.t1 k hk
 refine ⟨h1.1,?_⟩
 have mono:∀ m,k + m≤Q.length → gtS mode lot v Q k≤gtS mode lot v Q (k + m):=by
  intro m hm
  induction m with
  | zero=>exact Int.le_refl _
  | succ m ih =>
   have:=ih (by omega)
   have hg:=gt_rng (mode:=mode) h (k:=k + m) (by omega)
   have e:gtS mode lot v Q (k + (m + 1)) = gtS mode lot v Q (k + m) + gtN mode lot v Q (k + m):=rfl
   omega
 have:=mono (Q.length - k) (by omega)
 rw [show k + (Q.length - k) = Q.length by omega,gtS_all h] at this
 exact this
def ShNew (w:World) (mode:Int) (n:Nat) (Q:List Int) (qty lot:Int) (e:Ending) (w':World):Prop :=
 ∃ A m c,e = .returned (.slice A m c)∧m≤n∧Hid (Below w.heap.size w w'∧(m = 0 ∨ ∃ b,A = some ⟨b,0,none⟩∧w.heap.size≤b∧w'.rowIs b 2 m (fun i=>.int .i64 (gtN mode lot qty Q i)))∧((m = 0∧NoSh mode Q qty lot) ∨ (m = n∧(mode = 1 ∨ mode = 2)∧ShOk Q qty lot)))
theorem share_new (mode:Int) (A:Option Addr) (n c:Nat) (L:List Od) (qty lot:Int) (hlot:InR lot) (w:World) (HO:Ods w A n L) (hn:n≤1000) :
  Calls Tryz.prog 94 #[.int .i64 mode,.slice A n c,.int .i64 qty,.int .i64 lot] w (ShNew w mode n (qs L) qty lot):=by
 by_cases h:NoSh mode (qs L) qty lot
 ·exact (share_no mode A n c L qty lot hlot w HO hn h).mono fun e w' hh=>⟨none,0,0,hh.1,by omega,Lib.hid ⟨hh.2,.inl rfl,.inl ⟨rfl,h⟩⟩⟩
 ·obtain ⟨hm,hok⟩:=shOk h
  rcases hm with rfl | rfl
  ·exact (share_1 A n c L qty lot hlot w HO hn hok).mono fun e w' ⟨b,h1,h2,h3,h4⟩=>⟨_,n,n,h1,Nat.le_refl _,Lib.hid ⟨h3,.inr ⟨b,rfl,h2,h4⟩,.inr ⟨rfl,.inl rfl,hok⟩⟩⟩
  ·exact (share_2 A n c L qty lot hlot w HO hn hok).mono fun e w' ⟨b,h1,h2,h3,h4⟩=>⟨_,n,n,h1,Nat.le_refl _,Lib.hid ⟨h3,.inr ⟨b,rfl,h2,h4⟩,.inr ⟨rfl,.inr rfl,hok⟩⟩⟩
end Go.Proofs.YtikapeaodobkjaaGreat
namespace Go.Proofs.YtikapeaodobkjaaGreat
open Go.RowKit Go.Lib

theorem info43:(Tryz.prog.info? 158).map (·.size) = some 2:=by kernel_rfl
theorem retA2 {fn:Func} {p q:Tmp} (h:fn.results = #[.cell p 158,.tmp q]) (tmps:Array Value) (w:World) (g:Nat) (v:Value) (hp:tmps.getD p undef = .pointer (some ⟨g,0,none⟩)) (hq:tmps.getD q undef = v) (a b:Bool) (t:TypeId)
  (hg:w.heap[g]? = some (.cells #[.bool a,.bool b] t (0,0))):(results fn tmps).run Tryz.prog w = .ok (.tuple #[.agg #[.bool a,.bool b],v]) w:=by
 have hp':tmps[p]?.getD undef = .pointer (some ⟨g,0,none⟩):=by simpa using hp
 have hq':tmps[q]?.getD undef = v:=by simpa using hq
 simp [results,h,hp',hq',asAddr,run_loadVar_row w g _ _ _ (0,0) _ hg Tryz.underlying158 rfl info43]
def isPol (p:Int):Bool:=(p == 1) || (p == 2) || (p == 3) || (p == 4)
def drN (p:Int):Bool:=(p == 3) || (p == 4)
def stN (p:Int):Bool:=(p == 2) || (p == 4)

theorem deeds_c (p:Int) (w:World) :
  Calls Tryz.prog 86 #[.int .i64 p] w fun e w'=>e = .returned (.tuple #[.agg #[.bool (drN p),.bool (stN p)],.bool (isPol p)])∧Below w.heap.size w w':=by
 by_cases p1:p = 1
 ·subst p1
  go_enter Tryz.func86,Tryz.ntmps86
  go_wp2_with fail
  (with_reducible apply bodyPost_ret)
  (apply retA2;rfl;rfl;rfl;exact heap_alloc_new _ _)
  rfl
  exact ⟨rfl,by first | (focus ((repeat' (first | (with_reducible exact Below.refl _ _) | (with_reducible assumption) | (with_reducible refine Below.alloc ?_ ?_ _) | (with_reducible refine Below.setCell ?_ ?_ _) | (with_reducible refine Below.row ?_ ?_ _) | (with_reducible refine Below.drew ?_) | (with_reducible refine below_drewN ?_ _) | (focus (first | (simp;done) | omega | (simp;omega)))));done)) | go_grown⟩
 by_cases p2:p = 2
 ·subst p2
  go_enter Tryz.func86,Tryz.ntmps86
  go_wp2_with fail
  (with_reducible apply bodyPost_ret)
  (apply retA2;rfl;rfl;rfl;exact heap_alloc_new _ _)
  rfl
  exact ⟨rfl,by first | (focus ((repeat' (first | (with_reducible exact Below.refl _ _) | (with_reducible assumption) | (with_reducible refine Below.alloc ?_ ?_ _) | (with_reducible refine Below.setCell ?_ ?_ _) | (with_reducible refine Below.row ?_ ?_ _) | (with_reducible refine Below.drew ?_) | (with_reducible refine below_drewN ?_ _) | (focus (first | (simp;done) | omega | (simp;omega)))));done)) | go_grown⟩
 by_cases p3:p = 3
 ·subst p3
  go_enter Tryz.func86,Tryz.ntmps86
  go_wp2_with fail
  (with_reducible apply bodyPost_ret)
  (apply retA2;rfl;rfl;rfl;exact heap_alloc_new _ _)
  rfl
  exact ⟨rfl,by first | (focus ((repeat' (first | (with_reducible exact Below.refl _ _) | (with_reducible assumption) | (with_reducible refine Below.alloc ?_ ?_ _) | (with_reducible refine Below.setCell ?_ ?_ _) | (with_reducible refine Below.row ?_ ?_ _) | (with_reducible refine Below.drew ?_) | (with_reducible refine below_drewN ?_ _) | (focus (first | (simp;done) | omega | (simp;omega)))));done)) | go_grown⟩
 by_cases p4:p = 4
 ·subst p4
  go_enter Tryz.func86,Tryz.ntmps86
  go_wp2_with fail
  (with_reducible apply bodyPost_ret)
  (apply retA2;rfl;rfl;rfl;exact heap_alloc_new _ _)
  rfl
  exact ⟨rfl,by first | (focus ((repeat' (first | (with_reducible exact Below.refl _ _) | (with_reducible assumption) | (with_reducible refine Below.alloc ?_ ?_ _) | (with_reducible refine Below.setCell ?_ ?_ _) | (with_reducible refine Below.row ?_ ?_ _) | (with_reducible refine Below.drew ?_) | (with_reducible refine below_drewN ?_ _) | (focus (first | (simp;done) | omega | (simp;omega)))));done)) | go_grown⟩
 have e1:(p == 1) = false:=by simp [p1]
 have e2:(p == 2) = false:=by simp [p2]
 have e3:(p == 3) = false:=by simp [p3]
 have e4:(p == 4) = false:=by simp [p4]
 have d1:drN p = false:=by unfold drN;rw [e3,e4];rfl
 have d2:stN p = false:=by unfold stN;rw [e2,e4];rfl
 have d3:isPol p = false:=by unfold isPol;rw [e1,e2,e3,e4];rfl
 rw [d1,d2,d3]
 clear d1 d2 d3 p1 p2 p3 p4
 go_enter Tryz.func86,Tryz.ntmps86
 go_wp2_with fail
 (with_reducible apply bodyPost_ret)
 (apply retA2;rfl;rfl;rfl;exact heap_alloc_new _ _)
 rfl
 exact ⟨rfl,by first | (focus ((repeat' (first | (with_reducible exact Below.refl _ _) | (with_reducible assumption) | (with_reducible refine Below.alloc ?_ ?_ _) | (with_reducible refine Below.setCell ?_ ?_ _) | (with_reducible refine Below.row ?_ ?_ _) | (with_reducible refine Below.drew ?_) | (with_reducible refine below_drewN ?_ _) | (focus (first | (simp;done) | omega | (simp;omega)))));done)) | go_grown⟩

theorem drops_c (p:Int) (w:World) :
  Calls Tryz.prog 88 #[.int .i64 p] w fun e w'=>e = .returned (.bool (drN p))∧Below w.heap.size w w':=by
 have HD:Hid (Calls Tryz.prog 86 #[.int .i64 p] w fun e w'=>e = .returned (.tuple #[.agg #[.bool (drN p),.bool (stN p)],.bool (isPol p)])∧Below w.heap.size w w'):=Lib.hid (deeds_c p w)
 generalize drN p = d at HD ⊢
 generalize stN p = s at HD ⊢
 generalize isPol p = k at HD ⊢
 go_enter Tryz.func88,Tryz.ntmps88
 go_wp2_with ((with_reducible refine HD.out.mono ?_);rintro e w1 ⟨rfl,b1⟩)
 go_ret
 exact ⟨rfl,by first | exact b1.alloc b1.size _ | (focus ((repeat' (first | (with_reducible exact Below.refl _ _) | (with_reducible assumption) | (with_reducible refine Below.alloc ?_ ?_ _) | (with_reducible refine Below.setCell ?_ ?_ _) | (with_reducible refine Below.row ?_ ?_ _) | (with_reducible refine Below.drew ?_) | (with_reducible refine below_drewN ?_ _) | (focus (first | (simp;done) | omega | (simp;omega)))));done)) | go_grown⟩

theorem stops_c (p:Int) (w:World) :
  Calls Tryz.prog 89 #[.int .i64 p] w fun e w'=>e = .returned (.bool (stN p))∧Below w.heap.size w w':=by
 have HD:Hid (Calls Tryz.prog 86 #[.int .i64 p] w fun e w'=>e = .returned (.tuple #[.agg #[.bool (drN p),.bool (stN p)],.bool (isPol p)])∧Below w.heap.size w w'):=Lib.hid (deeds_c p w)
 generalize drN p = d at HD ⊢
 generalize stN p = s at HD ⊢
 generalize isPol p = k at HD ⊢
 go_enter Tryz.func89,Tryz.ntmps89
 go_wp2_with ((with_reducible refine HD.out.mono ?_);rintro e w1 ⟨rfl,b1⟩)
 go_ret
 exact ⟨rfl,by first | exact b1.alloc b1.size _ | (focus ((repeat' (first | (with_reducible exact Below.refl _ _) | (with_reducible assumption) | (with_reducible refine Below.alloc ?_ ?_ _) | (with_reducible refine Below.setCell ?_ ?_ _) | (with_reducible refine Below.row ?_ ?_ _) | (with_reducible refine Below.drew ?_) | (with_reducible refine below_drewN ?_ _) | (focus (first | (simp;done) | omega | (simp;omega)))));done)) | go_grown⟩

def isOwn (p a:Int) (x:Od):Bool:=!(p == 1) && (x.acc == a)
def Bxs (w:World) (c:Nat) (p a:Int):Prop:=w.heap[c]? = some (.cells #[.int .i64 p] 3 (0,0))∧w.heap[c + 1]? = some (.cells #[.int .i64 a] 3 (0,0))
theorem Bxs.below {w w':World} {c:Nat} {p a:Int} {B:Nat} (h:Bxs w c p a) (hb:Below B w w') (hc:c + 1 < B):Bxs w' c p a :=
 ⟨(hb.block c (by omega)).trans h.1,(hb.block (c + 1) hc).trans h.2⟩
theorem Bxs.c0 {w:World} {c:Nat} {p a:Int} (h:Bxs w c p a):w.cell? ⟨c,0,none⟩ = some (.int .i64 p):=by rw [cell_of_row _ _ _ _ _ _ h.1];rfl
theorem Bxs.c1 {w:World} {c:Nat} {p a:Int} (h:Bxs w c p a):w.cell? ⟨c + 1,0,none⟩ = some (.int .i64 a):=by rw [cell_of_row _ _ _ _ _ _ h.2];rfl

theorem own1_c (c:Nat) (p a:Int) (x:Od) (w:World) (h:Bxs w c p a) :
  Calls Tryz.prog 141 #[.agg #[.int .u64 x.id,.int .i64 x.acc,.int .i64 x.side,.int .i64 x.price,.int .i64 x.qty,.int .u64 x.seq],.pointer (some ⟨c,0,none⟩),.pointer (some ⟨c + 1,0,none⟩)] w fun e w'=>e = .returned (.bool (isOwn p a x))∧Below w.heap.size w w':=by
 obtain ⟨r,hr⟩:∃ r,r = isOwn p a x:=⟨_,rfl⟩
 rw [← hr]
 unfold isOwn at hr
 obtain ⟨i,ac,s,pr,q,sq⟩:=x
 have hl:c + 1 < w.heap.size:=blk_lt h.2
 have b0:Below w.heap.size w (w.alloc (.cells #[.int .u64 i,.int .i64 ac,.int .i64 s,.int .i64 pr,.int .i64 q,.int .u64 sq] 38)):=(Below.refl _ _).alloc (Nat.le_refl _) _
 have k0:=(h.below b0 hl).c0
 have k1:=(h.below b0 hl).c1
 clear h
 show Calls Tryz.prog 141 #[.agg #[.int .u64 i,.int .i64 ac,.int .i64 s,.int .i64 pr,.int .i64 q,.int .u64 sq],.pointer (some ⟨c,0,none⟩),.pointer (some ⟨c + 1,0,none⟩)] w _
 by_cases h1:p = 1
 ·subst h1
  have hf:r = false:=by rw [hr];rfl
  subst hf;clear hr
  go_enter Tryz.func141,Tryz.ntmps141
  go_wp2_with fail
  go_ret
  exact ⟨rfl,b0⟩
 have e1:(p == 1) = false:=by simp [h1]
 have e2:(p != 1) = true:=by simp [h1]
 rw [e1] at hr
 by_cases h2:ac = a
 ·subst h2
  have hf:r = true:=by rw [hr];simp
  subst hf;clear hr h1
  have e3:(ac == ac) = true:=by simp
  go_enter Tryz.func141,Tryz.ntmps141
  go_wp2_with fail
  go_ret
  exact ⟨rfl,b0⟩
 ·have e3:(ac == a) = false:=by simp [h2]
  have hf:r = false:=by rw [hr];simp [e3]
  subst hf;clear hr h1 h2
  go_enter Tryz.func141,Tryz.ntmps141
  go_wp2_with fail
  go_ret
  exact ⟨rfl,b0⟩
end Go.Proofs.YtikapeaodobkjaaGreat
namespace Go.Proofs.YtikapeaodobkjaaGreat
open Go.RowKit Go.Lib Go.Sort

def frO (p a:Int) (L:List Od):Nat:=L.findIdx (isOwn p a)
theorem frO_le (p a:Int) (L:List Od):frO p a L≤L.length:=List.findIdx_le_length
theorem frO_at {p a:Int} {L:List Od} {k:Nat} (hk:k < L.length) (h:∀ j,j < k → isOwn p a L[j]! = false) (ht:isOwn p a L[k]! = true):frO p a L = k:=by
 unfold frO
 rw [List.findIdx_eq hk]
 refine ⟨by rw [getElem!_pos L k hk] at ht;exact ht,fun j hj=>?_⟩
 have:=h j hj
 rwa [getElem!_pos L j (by omega)] at this
theorem frO_none {p a:Int} {L:List Od} (h:∀ j,j < L.length → isOwn p a L[j]! = false):frO p a L = L.length:=by
 unfold frO
 rw [List.findIdx_eq_length]
 intro x hx
 obtain ⟨j,hj,rfl⟩:=List.mem_iff_getElem.1 hx
 have:=h j hj
 rwa [getElem!_pos L j hj] at this
def idxW (p a:Int) (L:List Od):Int:=if frO p a L < L.length then (frO p a L:Int) else -1

theorem idx_c (g:Nat) (p a:Int) (A:Option Addr) (n c:Nat) (L:List Od) (w:World) (H:Ods w A n L) (K:Bxs w g p a) :
  Calls Tryz.prog 119 #[.slice A n c,.func (.func 141) #[] #[.pointer (some ⟨g,0,none⟩),.pointer (some ⟨g + 1,0,none⟩)]] w fun e w'=>e = .returned (.int .i64 (idxW p a L))∧Below w.heap.size w w':=by
 have HT:=Lib.hid H
 have HL:=Lib.hid H.1
 have HK:=Lib.hid K
 have hg:g + 1 < w.heap.size:=blk_lt K.2
 have hmI:(n:Int)≤9223372036854775807:=by have:=H.2.1;omega
 clear H K
 go_enter Tryz.func119,Tryz.ntmps119
 go_wp2_with fail
 go_loopg [8] n (fun kx s8 wr=>∃ k:Nat,s8 = .int .i64 (k:Int)∧k≤n∧n - k≤kx∧Hid ((∀ j,j < k → isOwn p a L[j]! = false)∧Below w.heap.size w wr))
 case atStart=>exact ⟨0,rfl,by omega,by omega,Lib.hid ⟨fun j hj=>by omega,Below.refl _ _⟩⟩
 case round =>
  obtain ⟨k,rfl,hk,hkx,hd⟩:=hrel
  by_cases hlt:k < n
  ·have hltI:(k:Int) < (n:Int):=by omega
   have hk0:(0:Int)≤(k:Int):=by omega
   have hB:=hd.out.2
   have HH:=HT.out.below hB
   obtain ⟨b,off,rfl,hb,hc⟩:∃ b off,A = some ⟨b,off,none⟩∧b < wr.heap.size∧∀ i,i < n → (L[i]!).at wr b (off + i * 6):=by
    rcases HH.2.2.2 with h | h
    ·omega
    ·exact h
   have hx:=hc k hlt
   obtain ⟨x,ex⟩:∃ x,L[k]! = x:=⟨_,rfl⟩
   rw [ex] at hx
   have HX:=Lib.hid ex
   have HW:=Lib.hid (fun w1 (h1:Below w.heap.size w w1)=>own1_c g p a x w1 (HK.out.below h1 hg))
   clear ex hc HH
   obtain ⟨x0,x1,x2,x3,x4,x5⟩:=hx
   cases hbd:isOwn p a x
   ·have HF:Hid (∀ j,j < k + 1 → isOwn p a L[j]! = false):=Lib.hid (fun j hj=>by
     by_cases e:j < k
     ·exact hd.out.1 j e
     ·obtain rfl:j = k:=by omega
      rw [HX.out];exact hbd)
    rw [hbd] at HW
    have HD:=Lib.hid hB
    clear hB hd hbd
    go_wp2_with fail
    ((with_reducible refine (HW.out _ HD.out).mono ?_);rintro e w1 ⟨rfl,hd1⟩)
    have hD:Hid (Below w.heap.size w w1):=HD.out.trans (hd1.mono HD.out.size)
    clear hd1 HW
    go_wp2_with fail
    go_roundg (n - (k + 1))
    case measure=>omega
    case rel=>exact ⟨k + 1,by go_num,by omega,by omega,Lib.hid ⟨HF.out,hD.out⟩⟩
   ·have HF:Hid (idxW p a L = (k:Int)):=Lib.hid (by
     have e:=frO_at (by rw [HL.out];exact hlt) hd.out.1 (by rw [HX.out];exact hbd)
     unfold idxW
     rw [e,if_pos (by rw [HL.out];exact hlt)])
    rw [hbd] at HW
    have HD:=Lib.hid hB
    clear hB hd hbd
    go_wp2_with fail
    ((with_reducible refine (HW.out _ HD.out).mono ?_);rintro e w1 ⟨rfl,hd1⟩)
    have hD:Hid (Below w.heap.size w w1):=HD.out.trans (hd1.mono HD.out.size)
    clear hd1 HW
    go_wp2_with fail
    go_ret
    rw [HF.out]
    exact ⟨rfl,hD.out⟩
  ·have hltI:¬ (k:Int) < (n:Int):=by omega
   have HF:Hid (idxW p a L = -1):=Lib.hid (by
    have e:=frO_none (p:=p) (a:=a) (L:=L) (fun j hj=>hd.out.1 j (by rw [HL.out] at hj;omega))
    unfold idxW
    rw [e,if_neg (by omega)])
   go_wp2_with fail
   go_ret
   rw [HF.out]
   exact ⟨rfl,hd.out.2⟩

def pBoxes (w:World) (p a:Int):World:=(w.alloc (.cells #[.int .i64 p] 3)).alloc (.cells #[.int .i64 a] 3)
theorem pBoxes_ok (w:World) (p a:Int):Bxs (pBoxes w p a) w.heap.size p a∧Below w.heap.size w (pBoxes w p a):=by
 refine ⟨⟨?_,?_⟩,((Below.refl _ _).alloc (Nat.le_refl _) _).alloc (by simp) _⟩
 ·show ((w.heap.push _).push _)[w.heap.size]? = _;rw [Array.getElem?_push_lt (by simp),Array.getElem_push_eq]
 ·show ((w.heap.push _).push _)[w.heap.size + 1]? = _
  have e:w.heap.size + 1 = (w.heap.push (.cells #[.int .i64 p] 3)).size:=by simp
  rw [e,Array.getElem?_push_size]
theorem ownOf_c (p a:Int) (w:World) :
  Calls Tryz.prog 120 #[.int .i64 p,.int .i64 a] w fun e w'=>∃ g,e = .returned (.func (.func 141) #[] #[.pointer (some ⟨g,0,none⟩),.pointer (some ⟨g + 1,0,none⟩)])∧Hid (Bxs w' g p a∧Below w.heap.size w w'):=by
 go_enter Tryz.func120,Tryz.ntmps120
 go_wp2_with fail
 go_ret
 exact ⟨_,rfl,pBoxes_ok w p a⟩

def runN (p a:Int) (L:List Od):Nat:=if isPol p = true then frO p a L else 0
theorem runN_le (p a:Int) (L:List Od):runN p a L≤L.length:=by
 unfold runN;split
 ·exact frO_le p a L
 ·omega

theorem run_c (p a:Int) (A:Option Addr) (n c:Nat) (L:List Od) (w:World) (H:Ods w A n L) :
  Calls Tryz.prog 87 #[.int .i64 p,.int .i64 a,.slice A n c] w fun e w'=>e = .returned (.int .i64 (runN p a L))∧Below w.heap.size w w':=by
 obtain ⟨r,hr⟩:∃ r,r = runN p a L:=⟨_,rfl⟩
 rw [← hr]
 unfold runN at hr
 have HL:=H.1
 have HH:=Lib.hid H
 have HD:Hid (Calls Tryz.prog 86 #[.int .i64 p] w fun e w'=>e = .returned (.tuple #[.agg #[.bool (drN p),.bool (stN p)],.bool (isPol p)])∧Below w.heap.size w w'):=Lib.hid (deeds_c p w)
 clear H
 generalize drN p = d at HD
 generalize stN p = s at HD
 cases hp:isPol p with
 | false =>
  rw [hp] at hr HD
  obtain rfl:r = 0:=by rw [hr];rfl
  clear hr HL HH hp
  go_enter Tryz.func87,Tryz.ntmps87
  go_wp2_with fail
  ((with_reducible refine HD.out.mono ?_);rintro e w1 ⟨rfl,b1⟩)
  go_wp2_with fail
  go_ret
  exact ⟨rfl,b1.alloc b1.size _⟩
 | true =>
  rw [hp] at hr HD
  rw [if_pos rfl] at hr
  clear hp
  have HI:Hid (∀ wr g,Below w.heap.size w wr → Bxs wr g p a → Calls Tryz.prog 119 #[.slice A n c,.func (.func 141) #[] #[.pointer (some ⟨g,0,none⟩),.pointer (some ⟨g + 1,0,none⟩)]] wr fun e w'=>e = .returned (.int .i64 (idxW p a L))∧Below wr.heap.size wr w') :=
   Lib.hid fun wr g hb hx=>idx_c g p a A n c L wr (HH.out.below hb) hx
  have hi:idxW p a L = if r < n then (r:Int) else -1:=by unfold idxW;rw [← hr,HL]
  have hrl:r≤n:=by rw [hr,← HL];exact frO_le p a L
  generalize idxW p a L = ix at HI hi
  by_cases hlt:r < n
  ·rw [if_pos hlt] at hi
   subst hi
   clear hr HL HH
   have g0:¬ ((r:Int) < 0):=by omega
   have g1:decide ((r:Int) < 0) = false:=decide_eq_false g0
   go_enter Tryz.func87,Tryz.ntmps87
   go_wp2_with fail
   ((with_reducible refine HD.out.mono ?_);rintro e w1 ⟨rfl,b1⟩)
   have b1':=b1.alloc b1.size (.cells #[.bool d,.bool s] 158)
   clear HD b1
   go_wp2_with fail
   ((with_reducible refine (ownOf_c p a _).mono ?_);rintro e w2 ⟨g,rfl,h2⟩)
   have b2:=b1'.trans (h2.out.2.mono b1'.size)
   have x2:=h2.out.1
   clear h2 b1'
   go_wp2_with fail
   ((with_reducible refine (HI.out _ _ b2 x2).mono ?_);rintro e w3 ⟨rfl,b3⟩)
   have b4:=b2.trans (b3.mono b2.size)
   clear HI b2 x2 b3
   go_wp2_with fail
   go_ret
   exact ⟨rfl,b4⟩
  ·rw [if_neg hlt] at hi
   subst hi
   obtain rfl:r = n:=by omega
   clear hr HL HH
   go_enter Tryz.func87,Tryz.ntmps87
   go_wp2_with fail
   ((with_reducible refine HD.out.mono ?_);rintro e w1 ⟨rfl,b1⟩)
   have b1':=b1.alloc b1.size (.cells #[.bool d,.bool s] 158)
   clear HD b1
   go_wp2_with fail
   ((with_reducible refine (ownOf_c p a _).mono ?_);rintro e w2 ⟨g,rfl,h2⟩)
   have b2:=b1'.trans (h2.out.2.mono b1'.size)
   have x2:=h2.out.1
   clear h2 b1'
   go_wp2_with fail
   ((with_reducible refine (HI.out _ _ b2 x2).mono ?_);rintro e w3 ⟨rfl,b3⟩)
   have b4:=b2.trans (b3.mono b2.size)
   clear HI b2 x2 b3
   go_wp2_with fail
   go_ret
   exact ⟨rfl,b4⟩


theorem run_copyKW (w:World) (dT sT ty elem:TypeId) (k g o dLen dCap:Nat) (a:Addr) (sLen sCap:Nat) (cur:Array Value) (t:TypeId) (cs:List Value)
  (hu:Tryz.prog.underlying dT = some (.slice elem)) (hs:(Tryz.prog.info? elem).map (·.size) = some k)
  (hg:w.heap[g]? = some (.cells cur t (0,0))) (m:Nat) (hm:Nat.min sLen dLen = m) (hn:cs.length = m * k)
  (hsrc:∀ j v,cs[j]? = some v → w.cell? (a.add j) = some v) (hfit:o + cs.length≤cur.size) (h1:∀ v ∈ cs,v.oneCell' = true) :
  (Builtin.copy_ #[dT,sT] ty #[.slice (some ⟨g,o,none⟩) dLen dCap,.slice (some a) sLen sCap]).run Tryz.prog w =
   .ok (goInt m) (w.setRow g (cur.toList.take o ++ cs ++ cur.toList.drop (o + cs.length)).toArray):=by
 have hl:=run_loadCells_list (P:=Tryz.prog) w a cs hsrc
 have hst:=run_storeCells_at Tryz.prog g o t cs 0 cur w hg (by simpa using hfit) h1
 cases hq:Tryz.prog.info? elem with
 | none=>simp [hq] at hs
 | some i =>
  have hi:i.size = k:=by simpa [hq] using hs
  simp [Builtin.copy_,run_underlying hu,Builtin.lenOf,Builtin.firstCells,sizeOf,typeInfo,hq,hi,hm,← hn,hl,hst]

theorem run_copyK0 (w:World) (dT sT ty elem:TypeId) (k:Nat) (d a:Option Addr) (dLen dCap sLen sCap:Nat)
  (hu:Tryz.prog.underlying dT = some (.slice elem)) (hs:(Tryz.prog.info? elem).map (·.size) = some k) (hm:Nat.min sLen dLen = 0) :
  (Builtin.copy_ #[dT,sT] ty #[.slice d dLen dCap,.slice a sLen sCap]).run Tryz.prog w = .ok (goInt 0) w:=by
 cases hq:Tryz.prog.info? elem with
 | none=>simp [hq] at hs
 | some i =>
  have hl:∀ (x:Addr),(loadCells x 0).run Tryz.prog w = .ok #[] w:=fun x=>by simpa using run_loadCells_list (P:=Tryz.prog) w x [] (by simp)
  cases d <;> cases a <;> simp [Builtin.copy_,run_underlying hu,Builtin.lenOf,Builtin.firstCells,sizeOf,typeInfo,hq,hm,storeCells,hl]
theorem size_o:(Tryz.prog.info? 38).map (·.size) = some 6:=by kernel_rfl
theorem take_get {L:List Od} {m i:Nat} (hi:i < m):(L.take m)[i]! = L[i]!:=by
 rw [List.getElem!_eq_getElem?_getD,List.getElem?_take,if_pos hi,← List.getElem!_eq_getElem?_getD]
theorem ods_cellsW {w:World} {b off n m:Nat} {L:List Od} (hl:L.length = n) (hm:m≤n) (hc:∀ i,i < n → (L[i]!).at w b (off + i * 6)) :
  ∀ j v,(ol (L.take m))[j]? = some v → w.cell? ((⟨b,off,none⟩:Addr).add j) = some v:=by
 intro j v hj
 have hlt:j < (ol (L.take m)).length:=(List.getElem?_eq_some_iff.1 hj).1
 have htl:(L.take m).length = m:=by rw [List.length_take];omega
 rw [ol_len,htl] at hlt
 have e:j = j / 6 * 6 + j % 6:=by omega
 have h6:j % 6 < 6:=Nat.mod_lt _ (by omega)
 have hd:j / 6 < m:=by omega
 rw [e,ol_get (L.take m) (j / 6) (j % 6) (by rw [htl];exact hd) h6,take_get hd] at hj
 have h:=hc (j / 6) (by omega)
 rw [addr_add,e]
 generalize j / 6 = i at *
 generalize j % 6 = r at *
 obtain ⟨x0,x1,x2,x3,x4,x5⟩:=h
 show w.cell? ⟨b,off + (i * 6 + r),none⟩ = some v
 rw [show off + (i * 6 + r) = off + i * 6 + r by omega]
 match r,h6,hj with
 | 0,_,hj=>exact x0.trans hj
 | 1,_,hj=>exact x1.trans hj
 | 2,_,hj=>exact x2.trans hj
 | 3,_,hj=>exact x3.trans hj
 | 4,_,hj=>exact x4.trans hj
 | 5,_,hj=>exact x5.trans hj
theorem ods_block {w:World} {g m:Nat} {L:List Od} (hl:L.length = m) (hm:m≤1000) (hok:∀ x ∈ L,Od.ok w x) (hg:w.heap[g]? = some (.cells (ol L).toArray 38 (0,0))):Ods w (some ⟨g,0,none⟩) m L:=by
 refine ⟨hl,by omega,hok,.inr ⟨g,0,rfl,blk_lt hg,fun i hi=>?_⟩⟩
 have cc:∀ c v,c < 6 → (encO L[i]!)[c]? = some v → w.cell? ⟨g,0 + i * 6 + c,none⟩ = some v:=fun c v hc hv=>by
  rw [cell_of_row _ _ _ _ _ _ hg,List.getElem?_toArray,Nat.zero_add,ol_get L i c (by omega) hc,hv]
 exact ⟨cc 0 _ (by omega) rfl,cc 1 _ (by omega) rfl,cc 2 _ (by omega) rfl,cc 3 _ (by omega) rfl,cc 4 _ (by omega) rfl,cc 5 _ (by omega) rfl⟩
theorem wpL_copyO {w w0:World} {ops:Array Oper} {rest:List Oper} {o:Oper} {a:Act} {Q:Exit → Act → World → Prop} (hgd:o.guard = none) (d s:Operand) (dT sT:TypeId)
  (ho:o.op = .call { callee:=.builtin .copy,args:=#[d,s],argTypes:=#[dT,sT] }) (hu:Tryz.prog.underlying dT = some (.slice 38))
  (g m dc:Nat) (A:Option Addr) (n c:Nat) (L:List Od) (hd:a.eval d = .slice (some ⟨g,0,none⟩) m dc) (hs:a.eval s = .slice A n c) (hm:m≤n) (hm1:m≤1000)
  (HO:Ods w A n L) (B:Nat) (hB:Below B w0 w) (hBg:B≤g) (cur:Array Value) (hg:w.heap[g]? = some (.cells cur 38 (0,0))) (hc:cur.size = m * 6)
  (h:∀ w',Hid (Below B w0 w'∧Ods w' (some ⟨g,0,none⟩) m (L.take m)) → wpList Tryz.prog ops Q rest (a.put o.dst (goInt m)) w') :
  wpList Tryz.prog ops Q (o :: rest) a w:=by
 have htl:(L.take m).length = m:=by rw [List.length_take,HO.1];omega
 have hcs:(ol (L.take m)).length = m * 6:=by rw [ol_len,htl]
 have hok:∀ x ∈ L.take m,Od.ok w x:=fun x hx=>HO.2.2.1 x (List.mem_of_mem_take hx)
 by_cases h0:m = 0
 ·subst h0
  have hrun:=run_copyK0 w dT sT o.type 38 6 (some ⟨g,0,none⟩) A 0 dc n c hu size_o (by simp)
  refine wpList_plain hgd fun K hK=>?_
  unfold Oper.wp
  simp [execOp,ho,resolve,invoke,builtin,hd,hs,hrun,Result.andThen]
  exact hK _ _ (h w ⟨hB,htl,by omega,hok,.inl rfl⟩)
 ·obtain ⟨b,off,rfl,hb,hcl⟩:∃ b off,A = some ⟨b,off,none⟩∧b < w.heap.size∧∀ i,i < n → (L[i]!).at w b (off + i * 6):=by
   rcases HO.2.2.2 with h | h
   ·omega
   ·exact h
  have hmin:Nat.min n m = m:=Nat.min_eq_right hm
  have hrun:=run_copyKW w dT sT o.type 38 6 g 0 m dc ⟨b,off,none⟩ n c cur 38 (ol (L.take m)) hu size_o hg m hmin hcs (ods_cellsW HO.1 hm hcl) (by omega) (ol_one _)
  have e:(cur.toList.take 0 ++ ol (L.take m) ++ cur.toList.drop (0 + (ol (L.take m)).length)) = ol (L.take m):=by
   rw [hcs,List.take_zero,List.nil_append,List.drop_eq_nil_of_le (by simp;omega),List.append_nil]
  rw [e] at hrun
  refine wpList_plain hgd fun K hK=>?_
  unfold Oper.wp
  simp [execOp,ho,resolve,invoke,builtin,hd,hs,hrun,Result.andThen]
  refine hK _ _ (h _ ⟨below_setRow hB hBg _,ods_block htl hm1 hok (setRow_heap w g _ _ _ _ hg)⟩)

def mtM (p a:Int) (L:List Od):Nat:=if isPol p = true∧frO p a L < L.length∧drN p = true then 1 else 0
def mtS (p a:Int) (L:List Od):Bool:=if isPol p then (if frO p a L < L.length then stN p else false) else true
def MeetIs (p a:Int) (L:List Od) (w:World) (e:Ending) (w':World):Prop :=
 ∃ R rc D dc,e = .returned (.tuple #[.slice R (runN p a L) rc,.slice D (mtM p a L) dc,.bool (mtS p a L)])∧Hid (Below w.heap.size w w'∧Ods w' R (runN p a L) (L.take (runN p a L))∧(mtM p a L = 1 → ∃ b,D = some ⟨b,0,none⟩∧b < w'.heap.size∧w'.cell? ⟨b,0,none⟩ = some (.int .u64 (L[frO p a L]!).id)∧w.heap.size≤b)∧(∀ b off,R = some ⟨b,off,none⟩ → w.heap.size≤b))
theorem info_o:(Tryz.prog.info? 38).map (fun i=>(i.zero,i.size,i.bytes)) = some (some (.agg (OC ⟨0,0,0,0,0,0⟩)),6,48):=by kernel_rfl
theorem make_o (r:Nat) (hr:r≤1000):∃ cs:Array Value,cs.size = r * 6∧∀ W:World,(Instr.makeSlice 22 (.int .i64 (r:Int)) (.int .i64 (r:Int))).run Tryz.prog W = .ok (.slice (some ⟨W.heap.size,0,none⟩) r r) (W.alloc (.cells cs 38)):=by
 obtain ⟨i0,hi0,hz0,hz1,hz2⟩:=info_parts info_o
 refine ⟨madeCells (Value.cells (.agg (OC ⟨0,0,0,0,0,0⟩))) (r * i0.size),by rw [size_madeCells,hz1],fun W=>?_⟩
 have:=run_make (P:=Tryz.prog) W 22 38 i0 (.agg (OC ⟨0,0,0,0,0,0⟩)) Tryz.underlying22 hi0 hz0 .i64 .i64 (r:Int) (r:Int) (by omega) (Int.le_refl _) (by rw [hz2];omega) (by omega)
 simpa using this
def wantsRun (p a:Int) (L:List Od) (w:World) (A:Option Addr) (n c:Nat):Prop:=∀ wr,Below w.heap.size w wr → Calls Tryz.prog 87 #[.int .i64 p,.int .i64 a,.slice A n c] wr fun e w'=>e = .returned (.int .i64 (runN p a L))∧Below wr.heap.size wr w'

theorem meet_no (p a:Int) (A:Option Addr) (n c:Nat) (L:List Od) (w:World) (H:Ods w A n L) (hp:isPol p = false) :
  Calls Tryz.prog 73 #[.int .i64 p,.int .i64 a,.slice A n c] w (MeetIs p a L w):=by
 have e1:runN p a L = 0:=by unfold runN;rw [hp];rfl
 have e2:mtM p a L = 0:=by unfold mtM;rw [hp];simp
 have e3:mtS p a L = true:=by unfold mtS;rw [hp];rfl
 have HD:Hid (Calls Tryz.prog 86 #[.int .i64 p] w fun e w'=>e = .returned (.tuple #[.agg #[.bool (drN p),.bool (stN p)],.bool (isPol p)])∧Below w.heap.size w w'):=Lib.hid (deeds_c p w)
 rw [hp] at HD
 unfold MeetIs
 rw [e1,e2,e3]
 generalize drN p = d at HD
 generalize stN p = s at HD
 clear H e1 e2 e3 hp
 go_enter Tryz.func73,Tryz.ntmps73
 go_wp2_with fail
 ((with_reducible refine HD.out.mono ?_);rintro e w1 ⟨rfl,b1⟩)
 go_wp2_with fail
 go_ret3
 exact ⟨none,0,none,0,rfl,Lib.hid ⟨b1.alloc b1.size _,⟨rfl,by omega,fun x hx=>absurd hx (by simp),.inl rfl⟩,fun h=>absurd h (by omega),fun _ _ h=>by cases h⟩⟩

theorem meet_all (p a:Int) (A:Option Addr) (n c:Nat) (L:List Od) (w:World) (H:Ods w A n L) (hn:n≤1000) (hp:isPol p = true) (hr:frO p a L = n) :
  Calls Tryz.prog 73 #[.int .i64 p,.int .i64 a,.slice A n c] w (MeetIs p a L w):=by
 have HR:Hid (wantsRun p a L w A n c):=Lib.hid fun wr hb=>run_c p a A n c L wr (H.below hb)
 have HT:=Lib.hid (And.intro (drops_c p) (stops_c p))
 have e1:runN p a L = frO p a L:=by unfold runN;rw [if_pos hp]
 have HL:=H.1
 have e2:mtM p a L = 0:=by unfold mtM;rw [if_neg (by omega)]
 have e3:mtS p a L = false:=by unfold mtS;rw [hp,if_pos rfl,if_neg (by omega)]
 have HD:Hid (Calls Tryz.prog 86 #[.int .i64 p] w fun e w'=>e = .returned (.tuple #[.agg #[.bool (drN p),.bool (stN p)],.bool (isPol p)])∧Below w.heap.size w w'):=Lib.hid (deeds_c p w)
 rw [hp] at HD
 unfold Hid wantsRun at HR
 rw [e1] at HR
 have HO:=Lib.hid H
 generalize hdd:drN p = d at HD HT 
 generalize hss:stN p = s at HD HT 
 have HRR:=Lib.hid HR
 have HE:=Lib.hid (And.intro e1 (And.intro e2 e3))
 clear e1 e2 e3
 generalize hfr:frO p a L = r at HRR hr HE
 have HFR:=Lib.hid hfr
 clear hfr
 have hrh:=Lib.hid hr
 have hrn:r≤n:=by omega
 have hrI:(r:Int)≤(n:Int):=by omega
 have hr0:(0:Int)≤(r:Int):=by omega
 clear H HR hp hr
 go_enter Tryz.func73,Tryz.ntmps73
 go_wp2_with fail
 ((with_reducible refine HD.out.mono ?_);rintro e w1 ⟨rfl,b1⟩)
 have b1':=b1.alloc b1.size (.cells #[.bool d,.bool s] 158)
 clear HD b1
 go_wp2_with fail
 ((with_reducible refine (HRR.out _ b1').mono ?_);rintro e w2 ⟨rfl,b2⟩)
 have b3:=b1'.trans (b2.mono b1'.size)
 clear HRR b1' b2
 obtain ⟨cs,hcs,hmk⟩:=make_o r (by omega)
 have h1:(w2.alloc (.cells cs 38)).heap[w2.heap.size]? = some (.cells cs 38 (0,0)):=heap_alloc_new _ _
 have b5:=b3.alloc b3.size (.cells cs 38)
 have HC:=Lib.hid (And.intro (HO.out.below b5) (And.intro b5 (And.intro h1 hcs)))
 have hs2:=b3.size
 clear b3 b5 h1 hcs
 go_wp2_with (refine wpL_copyO rfl _ _ 22 22 rfl Tryz.underlying22 w2.heap.size r r A n c L rfl rfl hrn (by omega) HC.out.1 w.heap.size HC.out.2.1 hs2 cs HC.out.2.2.1 HC.out.2.2.2 ?_)
 intro w5 h5
 clear HC
 obtain rfl:n = r:=hrh.out.symm
 have enn:((n:Int) == (n:Int)) = true:=by simp
 go_wp2_with fail
 go_ret3
 show MeetIs p a L w _ _
 unfold MeetIs
 rw [HE.out.1,HE.out.2.1,HE.out.2.2]
 exact ⟨_,_,none,0,rfl,Lib.hid ⟨h5.out.1,h5.out.2,fun h=>absurd h (by omega),fun _ _ h=>by injection h with h;injection h with h _;subst h;exact hs2⟩⟩

theorem meet_stay (p a:Int) (A:Option Addr) (n c:Nat) (L:List Od) (w:World) (H:Ods w A n L) (hn:n≤1000) (hp:isPol p = true) (hr:frO p a L < n) (hdr:drN p = false) :
  Calls Tryz.prog 73 #[.int .i64 p,.int .i64 a,.slice A n c] w (MeetIs p a L w):=by
 have HR:Hid (wantsRun p a L w A n c):=Lib.hid fun wr hb=>run_c p a A n c L wr (H.below hb)
 have HT:=Lib.hid (And.intro (drops_c p) (stops_c p))
 have e1:runN p a L = frO p a L:=by unfold runN;rw [if_pos hp]
 have HL:=H.1
 have e2:mtM p a L = 0:=by unfold mtM;rw [if_neg (by rw [hdr];simp)]
 have e3:mtS p a L = stN p:=by unfold mtS;rw [hp,if_pos rfl,if_pos (by omega)]
 have HD:Hid (Calls Tryz.prog 86 #[.int .i64 p] w fun e w'=>e = .returned (.tuple #[.agg #[.bool (drN p),.bool (stN p)],.bool (isPol p)])∧Below w.heap.size w w'):=Lib.hid (deeds_c p w)
 rw [hp] at HD
 unfold Hid wantsRun at HR
 rw [e1] at HR
 have HO:=Lib.hid H
 generalize hdd:drN p = d at HD HT 
 generalize hss:stN p = s at HD HT 
 have HRR:=Lib.hid HR
 have HE:=Lib.hid (And.intro e1 (And.intro e2 e3))
 clear e1 e2 e3
 generalize hfr:frO p a L = r at HRR hr HE
 have HFR:=Lib.hid hfr
 clear hfr
 have hrh:=Lib.hid hr
 have hrn:r≤n:=by omega
 have hrI:(r:Int)≤(n:Int):=by omega
 have hr0:(0:Int)≤(r:Int):=by omega
 clear H HR hp hr
 go_enter Tryz.func73,Tryz.ntmps73
 go_wp2_with fail
 ((with_reducible refine HD.out.mono ?_);rintro e w1 ⟨rfl,b1⟩)
 have b1':=b1.alloc b1.size (.cells #[.bool d,.bool s] 158)
 clear HD b1
 go_wp2_with fail
 ((with_reducible refine (HRR.out _ b1').mono ?_);rintro e w2 ⟨rfl,b2⟩)
 have b3:=b1'.trans (b2.mono b1'.size)
 clear HRR b1' b2
 obtain ⟨cs,hcs,hmk⟩:=make_o r (by omega)
 have h1:(w2.alloc (.cells cs 38)).heap[w2.heap.size]? = some (.cells cs 38 (0,0)):=heap_alloc_new _ _
 have b5:=b3.alloc b3.size (.cells cs 38)
 have HC:=Lib.hid (And.intro (HO.out.below b5) (And.intro b5 (And.intro h1 hcs)))
 have hs2:=b3.size
 clear b3 b5 h1 hcs
 go_wp2_with (refine wpL_copyO rfl _ _ 22 22 rfl Tryz.underlying22 w2.heap.size r r A n c L rfl rfl hrn (by omega) HC.out.1 w.heap.size HC.out.2.1 hs2 cs HC.out.2.2.1 HC.out.2.2.2 ?_)
 intro w5 h5
 clear HC
 obtain rfl:d = false:=hdd.symm.trans hdr
 have hlt:=hrh.out
 have enn:((r:Int) == (n:Int)) = false:=by simp;omega
 go_wp2_with fail
 ((with_reducible refine (HT.out.1 _).mono ?_);rintro e w6 ⟨rfl,b6⟩)
 have b7:=h5.out.1.trans (b6.mono h5.out.1.size)
 have h7:=h5.out.2.below b6
 go_wp2_with fail
 ((with_reducible refine (HT.out.2 _).mono ?_);rintro e w8 ⟨rfl,b8⟩)
 have b9:=b7.trans (b8.mono b7.size)
 have h9:=h7.below b8
 go_wp2_with fail
 go_ret3
 show MeetIs p a L w _ _
 unfold MeetIs
 rw [HE.out.1,HE.out.2.1,HE.out.2.2,hss]
 exact ⟨_,_,none,0,rfl,Lib.hid ⟨b9,h9,fun h=>absurd h (by omega),fun _ _ h=>by injection h with h;injection h with h _;subst h;exact hs2⟩⟩

theorem meet_go (p a:Int) (A:Option Addr) (n c:Nat) (L:List Od) (w:World) (H:Ods w A n L) (hn:n≤1000) (hp:isPol p = true) (hr:frO p a L < n) (hdr:drN p = true) :
  Calls Tryz.prog 73 #[.int .i64 p,.int .i64 a,.slice A n c] w (MeetIs p a L w):=by
 have HR:Hid (wantsRun p a L w A n c):=Lib.hid fun wr hb=>run_c p a A n c L wr (H.below hb)
 have HT:=Lib.hid (And.intro (drops_c p) (stops_c p))
 have e1:runN p a L = frO p a L:=by unfold runN;rw [if_pos hp]
 have HL:=H.1
 have e2:mtM p a L = 1:=by unfold mtM;rw [if_pos ⟨hp,by omega,hdr⟩]
 have e3:mtS p a L = stN p:=by unfold mtS;rw [hp,if_pos rfl,if_pos (by omega)]
 have HD:Hid (Calls Tryz.prog 86 #[.int .i64 p] w fun e w'=>e = .returned (.tuple #[.agg #[.bool (drN p),.bool (stN p)],.bool (isPol p)])∧Below w.heap.size w w'):=Lib.hid (deeds_c p w)
 rw [hp] at HD
 unfold Hid wantsRun at HR
 rw [e1] at HR
 have HO:=Lib.hid H
 generalize hdd:drN p = d at HD HT 
 generalize hss:stN p = s at HD HT 
 have HRR:=Lib.hid HR
 have HE:=Lib.hid (And.intro e1 (And.intro e2 e3))
 clear e1 e2 e3
 generalize hfr:frO p a L = r at HRR hr HE
 have HFR:=Lib.hid hfr
 clear hfr
 have hrh:=Lib.hid hr
 have hrn:r≤n:=by omega
 have hrI:(r:Int)≤(n:Int):=by omega
 have hr0:(0:Int)≤(r:Int):=by omega
 clear H HR hp hr
 go_enter Tryz.func73,Tryz.ntmps73
 go_wp2_with fail
 ((with_reducible refine HD.out.mono ?_);rintro e w1 ⟨rfl,b1⟩)
 have b1':=b1.alloc b1.size (.cells #[.bool d,.bool s] 158)
 clear HD b1
 go_wp2_with fail
 ((with_reducible refine (HRR.out _ b1').mono ?_);rintro e w2 ⟨rfl,b2⟩)
 have b3:=b1'.trans (b2.mono b1'.size)
 clear HRR b1' b2
 obtain ⟨cs,hcs,hmk⟩:=make_o r (by omega)
 have h1:(w2.alloc (.cells cs 38)).heap[w2.heap.size]? = some (.cells cs 38 (0,0)):=heap_alloc_new _ _
 have b5:=b3.alloc b3.size (.cells cs 38)
 have HC:=Lib.hid (And.intro (HO.out.below b5) (And.intro b5 (And.intro h1 hcs)))
 have hs2:=b3.size
 clear b3 b5 h1 hcs
 go_wp2_with (refine wpL_copyO rfl _ _ 22 22 rfl Tryz.underlying22 w2.heap.size r r A n c L rfl rfl hrn (by omega) HC.out.1 w.heap.size HC.out.2.1 hs2 cs HC.out.2.2.1 HC.out.2.2.2 ?_)
 intro w5 h5
 clear HC
 obtain rfl:d = true:=hdd.symm.trans hdr
 have hlt:=hrh.out
 have hltI:(r:Int) < (n:Int):=by omega
 have enn:((r:Int) == (n:Int)) = false:=by simp;omega
 obtain ⟨iu,hu0,huz0,huz1,huz2⟩:=info_parts info_u64
 go_wp2_with fail
 ((with_reducible refine (HT.out.1 _).mono ?_);rintro e w6 ⟨rfl,b6⟩)
 have b7:=h5.out.1.trans (b6.mono h5.out.1.size)
 have h7:=Lib.hid (h5.out.2.below b6)
 have HO7:=HO.out.below b7
 obtain ⟨b,off,rfl,hb,hc⟩:∃ b off,A = some ⟨b,off,none⟩∧b < w6.heap.size∧∀ i,i < n → (L[i]!).at w6 b (off + i * 6):=by
  rcases HO7.2.2.2 with h | h
  ·omega
  ·exact h
 have x0:=(hc r hlt).1
 have HX:=Lib.hid (show ∃ z,z = (L[r]!).id from ⟨_,rfl⟩)
 clear hc HO7 b6 h5
 obtain ⟨z,hz⟩:∃ z,z = (L[r]!).id:=⟨_,rfl⟩
 rw [← hz] at x0
 have HZ:=Lib.hid hz
 clear hz HX
 have hsz:=b7.size
 go_wp2_with (at_builtin;refine wpList_append_own _ rfl _ _ 124 rfl w6.heap.size 35 iu (.int .u64 0) 1 8 Tryz.underlying124 hu0 huz0 huz1 huz2 rfl (by decide) _ _ _ rfl (World.ownsRow_nil _ _ _ _) ⟨w6.heap.size,0,none⟩ 1 1 [.int .u64 z] rfl rfl ?c1 ?c2 ?c3 ?c4 ?c5 ?_)
 case c1=>intro j u hu;match j,hu with
  | 0,hu=>rw [addr_add,cell_of_row _ _ _ _ _ _ (heap_alloc_new w6 _)];simpa using hu
 case c2=>intro u hu;obtain rfl:=List.mem_singleton.1 hu;rfl
 case c3=>unfold maxLen;omega
 case c4=>omega
 case c5=>simp
 intro v1 w7 hown1 hg1 _
 have B8:Hid (Below w.heap.size w w7∧Ods w7 (some ⟨w2.heap.size,0,none⟩) r (L.take r)∧∃ b c,v1 = .slice (some ⟨b,0,none⟩) 1 c∧b < w7.heap.size∧w7.cell? ⟨b,0,none⟩ = some (.int .u64 z)∧w.heap.size≤b):=by
  have hB:Below w6.heap.size w6 w7:=Below.grown ((Below.refl _ _).alloc (Nat.le_refl _) _) hg1 (by simp) (fun k hk=>by cases hk)
  refine ⟨b7.trans (hB.mono b7.size),h7.out.below hB,?_⟩
  obtain ⟨_,h2⟩:=hown1
  rcases h2 with ⟨hv,h0⟩ | ⟨k,cap,cur,hv,hbk,hk,_,_,hs,ht⟩
  ·omega
  ·refine ⟨k,cap,hv,blk_lt hk,?_,Nat.le_trans b7.size hbk⟩
   rw [cell_of_row _ _ _ _ _ _ hk,← Array.getElem?_toList]
   have:(cur.toList.take (1 * 1))[0]? = some (.int .u64 z):=by rw [ht];rfl
   simpa [List.getElem?_take] using this
 obtain ⟨b8,h8,kb,kc,rfl,hkb,hkc,hkw⟩:=B8.out
 clear B8
 have h8':=Lib.hid h8
 clear hown1 hg1 h7 b7 h8
 go_wp2_with fail
 ((with_reducible refine (HT.out.2 _).mono ?_);rintro e w8 ⟨rfl,b9⟩)
 have b10:=b8.trans (b9.mono b8.size)
 have h9:=h8'.out.below b9
 have hc9:=(b9.cell (p:=⟨kb,0,none⟩) hkb).trans hkc
 have hk9:=Nat.lt_of_lt_of_le hkb b9.size
 clear h8' hkc hkb b8 b9
 go_wp2_with fail
 go_ret3
 show MeetIs p a L w _ _
 unfold MeetIs
 rw [HE.out.1,HE.out.2.1,HE.out.2.2,hss,HFR.out]
 exact ⟨_,_,_,_,rfl,Lib.hid ⟨b10,h9,fun _=>⟨kb,rfl,hk9,by rw [hc9,HZ.out],hkw⟩,fun _ _ h=>by injection h with h;injection h with h _;subst h;exact hs2⟩⟩
theorem meet_c (p a:Int) (A:Option Addr) (n c:Nat) (L:List Od) (w:World) (H:Ods w A n L) (hn:n≤1000) :
  Calls Tryz.prog 73 #[.int .i64 p,.int .i64 a,.slice A n c] w (MeetIs p a L w):=by
 cases hp:isPol p with
 | false=>exact meet_no p a A n c L w H hp
 | true =>
  by_cases hr:frO p a L = n
  ·exact meet_all p a A n c L w H hn hp hr
  ·have:=frO_le p a L
   rw [H.1] at this
   cases hd:drN p with
   | false=>exact meet_stay p a A n c L w H hn hp (by omega) hd
   | true=>exact meet_go p a A n c L w H hn hp (by omega) hd
end Go.Proofs.YtikapeaodobkjaaGreat
