/- What the laws lean on, in a few texts (by shake.py): number 5 of 16. -/
import Derived.Test.YtikapeaodobkjaaGreatZk1
import Derived.Test.YtikapeaodobkjaaGreatZk2
import Derived.Test.YtikapeaodobkjaaGreatZk3
import Derived.Laws.StructEq
import Derived.Deep.LoopGhost
import Derived.Shelf.SlSortCmp.Kit1
import Derived.BigRegion
import Derived.Maps.AppendAt
import Derived.WalkSpells
import Derived.WalkLawsBesides
import Derived.Handy
import Derived.BigQuiet
import Derived.Deep.QuietTactic
import Derived.Deep.WholeRow
import Derived.Deep.Cut
import Derived.Deep.CutRange
import Derived.Shelf.SlSortCmp.QuietGrown

set_option maxHeartbeats 16000000
set_option maxRecDepth 1000000
set_option linter.unusedVariables false
namespace Go.Proofs.YtikapeaodobkjaaGreat
open Go.RowKit

def goodO (x:Od):Bool:=decide (0≤x.acc) && (decide (x.acc < 8) && ((rkN x.side != 2) && (decide (1≤x.price) && (decide (x.price≤1099511627776) && (decide (1≤x.qty) && decide (x.qty≤1099511627776))))))
theorem good_w0 (x:Od) (w:World) (h0:¬ (0≤x.acc)):Calls Tryz.prog 65 #[.agg #[.int .u64 x.id,.int .i64 x.acc,.int .i64 x.side,.int .i64 x.price,.int .i64 x.qty,.int .u64 x.seq]] w fun e w'=>e = .returned (.bool false)∧Gw w w':=by
 have HK:=Lib.hid rank_c
 have g:decide (0≤x.acc) = false:=decide_eq_false h0
 go_enter Tryz.func65,Tryz.ntmps65
 go_wp2_with ((with_reducible refine (HK.out _ _).mono ?_);rintro e w' ⟨rfl,rfl⟩)
 go_ret
 exact ⟨rfl,(Gw.refl w).alloc _⟩
theorem good_w1 (x:Od) (w:World) (h0:(0≤x.acc)) (h1:¬ (x.acc < 8)):Calls Tryz.prog 65 #[.agg #[.int .u64 x.id,.int .i64 x.acc,.int .i64 x.side,.int .i64 x.price,.int .i64 x.qty,.int .u64 x.seq]] w fun e w'=>e = .returned (.bool false)∧Gw w w':=by
 have HK:=Lib.hid rank_c
 have g:decide (x.acc < 8) = false:=decide_eq_false h1
 go_enter Tryz.func65,Tryz.ntmps65
 go_wp2_with ((with_reducible refine (HK.out _ _).mono ?_);rintro e w' ⟨rfl,rfl⟩)
 go_ret
 exact ⟨rfl,(Gw.refl w).alloc _⟩
theorem good_w2 (x:Od) (w:World) (h0:(0≤x.acc)) (h1:(x.acc < 8)) (h2:(rkN x.side != 2) = false):Calls Tryz.prog 65 #[.agg #[.int .u64 x.id,.int .i64 x.acc,.int .i64 x.side,.int .i64 x.price,.int .i64 x.qty,.int .u64 x.seq]] w fun e w'=>e = .returned (.bool false)∧Gw w w':=by
 have HK:=Lib.hid rank_c
 go_enter Tryz.func65,Tryz.ntmps65
 go_wp2_with ((with_reducible refine (HK.out _ _).mono ?_);rintro e w' ⟨rfl,rfl⟩)
 go_ret
 exact ⟨rfl,(Gw.refl w).alloc _⟩
theorem good_w3 (x:Od) (w:World) (h0:(0≤x.acc)) (h1:(x.acc < 8)) (h2:(rkN x.side != 2) = true) (h3:¬ (1≤x.price)):Calls Tryz.prog 65 #[.agg #[.int .u64 x.id,.int .i64 x.acc,.int .i64 x.side,.int .i64 x.price,.int .i64 x.qty,.int .u64 x.seq]] w fun e w'=>e = .returned (.bool false)∧Gw w w':=by
 have HK:=Lib.hid rank_c
 have g:decide (1≤x.price) = false:=decide_eq_false h3
 go_enter Tryz.func65,Tryz.ntmps65
 go_wp2_with ((with_reducible refine (HK.out _ _).mono ?_);rintro e w' ⟨rfl,rfl⟩)
 go_ret
 exact ⟨rfl,(Gw.refl w).alloc _⟩
theorem good_w4 (x:Od) (w:World) (h0:(0≤x.acc)) (h1:(x.acc < 8)) (h2:(rkN x.side != 2) = true) (h3:(1≤x.price)) (h4:¬ (x.price≤1099511627776)):Calls Tryz.prog 65 #[.agg #[.int .u64 x.id,.int .i64 x.acc,.int .i64 x.side,.int .i64 x.price,.int .i64 x.qty,.int .u64 x.seq]] w fun e w'=>e = .returned (.bool false)∧Gw w w':=by
 have HK:=Lib.hid rank_c
 have g:decide (x.price≤1099511627776) = false:=decide_eq_false h4
 go_enter Tryz.func65,Tryz.ntmps65
 go_wp2_with ((with_reducible refine (HK.out _ _).mono ?_);rintro e w' ⟨rfl,rfl⟩)
 go_ret
 exact ⟨rfl,(Gw.refl w).alloc _⟩
theorem good_w5 (x:Od) (w:World) (h0:(0≤x.acc)) (h1:(x.acc < 8)) (h2:(rkN x.side != 2) = true) (h3:(1≤x.price)) (h4:(x.price≤1099511627776)) (h5:¬ (1≤x.qty)):Calls Tryz.prog 65 #[.agg #[.int .u64 x.id,.int .i64 x.acc,.int .i64 x.side,.int .i64 x.price,.int .i64 x.qty,.int .u64 x.seq]] w fun e w'=>e = .returned (.bool false)∧Gw w w':=by
 have HK:=Lib.hid rank_c
 have g:decide (1≤x.qty) = false:=decide_eq_false h5
 go_enter Tryz.func65,Tryz.ntmps65
 go_wp2_with ((with_reducible refine (HK.out _ _).mono ?_);rintro e w' ⟨rfl,rfl⟩)
 go_ret
 exact ⟨rfl,(Gw.refl w).alloc _⟩
theorem good_w6 (x:Od) (w:World) (h0:(0≤x.acc)) (h1:(x.acc < 8)) (h2:(rkN x.side != 2) = true) (h3:(1≤x.price)) (h4:(x.price≤1099511627776)) (h5:(1≤x.qty)) (h6:¬ (x.qty≤1099511627776)):Calls Tryz.prog 65 #[.agg #[.int .u64 x.id,.int .i64 x.acc,.int .i64 x.side,.int .i64 x.price,.int .i64 x.qty,.int .u64 x.seq]] w fun e w'=>e = .returned (.bool false)∧Gw w w':=by
 have HK:=Lib.hid rank_c
 have g:decide (x.qty≤1099511627776) = false:=decide_eq_false h6
 go_enter Tryz.func65,Tryz.ntmps65
 go_wp2_with ((with_reducible refine (HK.out _ _).mono ?_);rintro e w' ⟨rfl,rfl⟩)
 go_ret
 exact ⟨rfl,(Gw.refl w).alloc _⟩
theorem good_w7 (x:Od) (w:World) (h0:(0≤x.acc)) (h1:(x.acc < 8)) (h2:(rkN x.side != 2) = true) (h3:(1≤x.price)) (h4:(x.price≤1099511627776)) (h5:(1≤x.qty)) (h6:(x.qty≤1099511627776)):Calls Tryz.prog 65 #[.agg #[.int .u64 x.id,.int .i64 x.acc,.int .i64 x.side,.int .i64 x.price,.int .i64 x.qty,.int .u64 x.seq]] w fun e w'=>e = .returned (.bool true)∧Gw w w':=by
 have HK:=Lib.hid rank_c
 go_enter Tryz.func65,Tryz.ntmps65
 go_wp2_with ((with_reducible refine (HK.out _ _).mono ?_);rintro e w' ⟨rfl,rfl⟩)
 go_ret
 exact ⟨rfl,(Gw.refl w).alloc _⟩
theorem good_c (x:Od) (w:World):Calls Tryz.prog 65 #[x.val] w fun e w'=>e = .returned (.bool (goodO x))∧Gw w w':=by
 unfold goodO
 by_cases h0:0≤x.acc
 rotate_left
 ·rw [decide_eq_false h0];simp only [Bool.false_and];exact good_w0 x w h0
 rw [decide_eq_true h0]
 rw [Bool.true_and]
 by_cases h1:x.acc < 8
 rotate_left
 ·rw [decide_eq_false h1];simp only [Bool.false_and];exact good_w1 x w h0 h1
 rw [decide_eq_true h1]
 rw [Bool.true_and]
 cases h2:(rkN x.side != 2) with
 | false=>simp only [Bool.false_and];exact good_w2 x w h0 h1 h2
 | true =>
  rw [Bool.true_and]
  by_cases h3:1≤x.price
  rotate_left
  ·rw [decide_eq_false h3];simp only [Bool.false_and];exact good_w3 x w h0 h1 h2 h3
  rw [decide_eq_true h3]
  rw [Bool.true_and]
  by_cases h4:x.price≤1099511627776
  rotate_left
  ·rw [decide_eq_false h4];simp only [Bool.false_and];exact good_w4 x w h0 h1 h2 h3 h4
  rw [decide_eq_true h4]
  rw [Bool.true_and]
  by_cases h5:1≤x.qty
  rotate_left
  ·rw [decide_eq_false h5];simp only [Bool.false_and];exact good_w5 x w h0 h1 h2 h3 h4 h5
  rw [decide_eq_true h5]
  rw [Bool.true_and]
  by_cases h6:x.qty≤1099511627776
  rotate_left
  ·rw [decide_eq_false h6];exact good_w6 x w h0 h1 h2 h3 h4 h5 h6
  rw [decide_eq_true h6]
  exact good_w7 x w h0 h1 h2 h3 h4 h5 h6

theorem eqf {P:Program} (w:World) (d:Nat) (xs ys:Array Value) (fs:List Field) (hn:∀ f ∈ fs,f.name ≠ "_") (E:Field → Bool)
  (h:∀ f ∈ fs,∃ a b,(part f.type xs f.offset).run P w = .ok a w∧(part f.type ys f.offset).run P w = .ok b w∧(Op.equalIn d f.type a b).run P w = .ok (E f) w) :
  (Op.eqFields d xs ys fs).run P w = .ok (fs.all E) w:=by
 induction fs with
 | nil=>simp [Op.eqFields]
 | cons f fs ih =>
  obtain ⟨a,b,h1,h2,h3⟩:=h f List.mem_cons_self
  have ih':=ih (fun g hg=>hn g (List.mem_cons_of_mem _ hg)) (fun g hg=>h g (List.mem_cons_of_mem _ hg))
  simp only [Op.eqFields]
  rw [if_pos (hn f List.mem_cons_self)]
  simp only [Sem.run_bind,h1,h2,h3,Result.andThen_ok,Sem.run_ite,List.all_cons]
  cases hE:E f
  ·simp
  ·simpa using ih'
def fld (x:Od):Nat → Int
 | 0=>x.id | 1=>x.acc | 2=>x.side | 3=>x.price | 4=>x.qty | _=>x.seq
def eqO (x y:Od):Bool:=[0,1,2,3,4,5].all fun i=>fld x i == fld y i
theorem eqO_iff (x y:Od):eqO x y = true ↔ x = y:=by
 unfold eqO
 simp only [List.all_cons,List.all_nil,Bool.and_true,Bool.and_eq_true,beq_iff_eq,fld]
 constructor
 ·rintro ⟨h0,h1,h2,h3,h4,h5⟩
  cases x;cases y;simp only at *;subst h0 h1 h2 h3 h4 h5;rfl
 ·rintro rfl;simp
abbrev OC (x:Od):Array Value:=#[.int .u64 x.id,.int .i64 x.acc,.int .i64 x.side,.int .i64 x.price,.int .i64 x.qty,.int .u64 x.seq]
theorem ptP0 (x:Od) (w:World):(part 35 (OC x) 0).run Tryz.prog w = .ok (.int .u64 (fld x 0)) w:=by kernel_rfl
theorem ptP1 (x:Od) (w:World):(part 3 (OC x) 1).run Tryz.prog w = .ok (.int .i64 (fld x 1)) w:=by kernel_rfl
theorem ptP2 (x:Od) (w:World):(part 3 (OC x) 2).run Tryz.prog w = .ok (.int .i64 (fld x 2)) w:=by kernel_rfl
theorem ptP3 (x:Od) (w:World):(part 2 (OC x) 3).run Tryz.prog w = .ok (.int .i64 (fld x 3)) w:=by kernel_rfl
theorem ptP4 (x:Od) (w:World):(part 2 (OC x) 4).run Tryz.prog w = .ok (.int .i64 (fld x 4)) w:=by kernel_rfl
theorem ptP5 (x:Od) (w:World):(part 35 (OC x) 5).run Tryz.prog w = .ok (.int .u64 (fld x 5)) w:=by kernel_rfl
theorem eq_ordP (x y:Od) (w:World):(Op.equalIn 10000 38 (.agg (OC x)) (.agg (OC y))).run Tryz.prog w = .ok (eqO x y) w:=by
 rw [run_equalIn_agg w 9999 38 _ _ (by unfold Program.fieldsOf;rw [Tryz.underlying38]) (by kernel_rfl)]
 have h1:∀ (a b:Int) (w:World),(Op.equalIn 9999 35 (.int .u64 a) (.int .u64 b)).run Tryz.prog w = .ok (a == b) w:=fun a b w=>run_equalIn_int w 9998 _ _ _ a b Tryz.underlying35
 have h2:∀ (a b:Int) (w:World),(Op.equalIn 9999 2 (.int .i64 a) (.int .i64 b)).run Tryz.prog w = .ok (a == b) w:=fun a b w=>run_equalIn_int w 9998 _ _ _ a b Tryz.underlying2
 have h3:∀ (a b:Int) (w:World),(Op.equalIn 9999 3 (.int .i64 a) (.int .i64 b)).run Tryz.prog w = .ok (a == b) w:=fun a b w=>run_equalIn_int w 9998 _ _ _ a b Tryz.underlying3
 unfold Program.fieldsOf
 rw [Tryz.underlying38]
 refine (eqf w 9999 _ _ _ ?_ (fun f=>fld x f.offset == fld y f.offset) ?_).trans rfl
 ·intro f hf
  simp only [List.mem_cons,List.not_mem_nil,or_false] at hf
  rcases hf with rfl | rfl | rfl | rfl | rfl | rfl <;> decide
 ·intro f hf
  simp only [List.mem_cons,List.not_mem_nil,or_false] at hf
  rcases hf with rfl | rfl | rfl | rfl | rfl | rfl
  ·exact ⟨_,_,ptP0 x w,ptP0 y w,h1 _ _ _⟩
  ·exact ⟨_,_,ptP1 x w,ptP1 y w,h3 _ _ _⟩
  ·exact ⟨_,_,ptP2 x w,ptP2 y w,h3 _ _ _⟩
  ·exact ⟨_,_,ptP3 x w,ptP3 y w,h2 _ _ _⟩
  ·exact ⟨_,_,ptP4 x w,ptP4 y w,h2 _ _ _⟩
  ·exact ⟨_,_,ptP5 x w,ptP5 y w,h1 _ _ _⟩
theorem neqP (x y:Od) (w:World):(binOp .neq 38 (.agg (OC x)) (.agg (OC y))).run Tryz.prog w = .ok (.bool (!eqO x y)) w:=by
 rw [run_neq_struct,eq_ordP];rfl
end Go.Proofs.YtikapeaodobkjaaGreat
namespace Go.Proofs.YtikapeaodobkjaaGreat
open Go.RowKit Go.Sort Go.Lib Go.Shelf

def eqL:List Od → List Od → Bool
 | [],[]=>true
 | x :: l,y :: m=>eqO x y && eqL l m
 | _,_=>false
theorem eqL_iff:∀ (l m:List Od),eqL l m = true ↔ l = m
 | [],[]=>by simp [eqL]
 | x :: l,y :: m=>by simp [eqL,eqO_iff,eqL_iff l m]
 | [],y :: m=>by simp [eqL]
 | x :: l,[]=>by simp [eqL]
theorem eqL_no {l m:List Od} {i:Nat} (_hi:i < l.length) (_hl:l.length = m.length) (h:eqO l[i]! m[i]! = false):eqL l m = false:=by
 cases e:eqL l m with
 | false=>rfl
 | true =>
  rw [eqL_iff] at e
  subst e
  have:=(eqO_iff l[i]! l[i]!).2 rfl
  rw [h] at this;cases this
theorem eqL_yes {l m:List Od} (hl:l.length = m.length) (h:∀ i,i < l.length → l[i]! = m[i]!):eqL l m = true:=by
 rw [eqL_iff]
 apply List.ext_getElem hl
 intro i h1 h2
 have:=h i h1
 rwa [getElem!_pos l i h1,getElem!_pos m i h2] at this
def EqIs (w:World) (b:Bool) (e:Ending) (w':World):Prop:=e = .returned (.bool b)∧Gw w w'
theorem equal_c (A B:Option Addr) (n c c':Nat) (L M:List Od) (w:World) (H:Ods w A n L) (K:Ods w B n M) (hn:n≤1000) :
  Calls Tryz.prog 68 #[.slice A n c,.slice B n c'] w (EqIs w (eqL L M)):=by
 have mixed:Tryz.prog.follows .mixedOrders = true:=by kernel_rfl
 obtain ⟨hl,_,_,h⟩:=H
 obtain ⟨kl,_,_,k⟩:=K
 have HLn:=Lib.hid hl
 have KLn:=Lib.hid kl
 have HH:=Lib.hid h
 have KK:=Lib.hid k
 have HE:=Lib.hid (fun q:Nat=>(show EqIs w (eqL L M) (.returned (.bool (eqL L M))) (w.drewN q) from ⟨rfl,⟨below_drewN (Below.refl _ _) _,Nat.le_add_right _ _⟩⟩))
 clear hl kl h k
 go_enter Tryz.func68,Tryz.ntmps68
 go_wp2
 go_loopg [13] n (fun kx s13 wr=>∃ i q:Nat,s13 = .int .i64 i∧i≤n∧n - i≤kx∧wr = w.drewN q∧Hid (∀ j,j < i → L[j]! = M[j]!))
 case atStart=>exact ⟨0,0,rfl,by omega,by omega,rfl,Lib.hid (fun j hj=>by omega)⟩
 case round =>
  obtain ⟨i,q,rfl,hin,hkx,rfl,HI⟩:=hrel
  by_cases hlt:i < n
  ·have hltz:(i:Int) < (n:Int):=by omega
   have h1:=HH.out
   have k1:=KK.out
   rcases h1 with h1 | ⟨b,off,rfl,_,hc⟩
   ·omega
   rcases k1 with k1 | ⟨b',off',rfl,_,kc⟩
   ·omega
   have hx:=hc i hlt
   have hy:=kc i hlt
   clear hc kc
   obtain ⟨x,ex⟩:∃ x,L[i]! = x:=⟨_,rfl⟩
   obtain ⟨y,ey⟩:∃ y,M[i]! = y:=⟨_,rfl⟩
   rw [ex] at hx
   rw [ey] at hy
   have XY:Hid (L[i]! = x∧M[i]! = y):=⟨ex,ey⟩
   clear ex ey
   obtain ⟨x0,x1,x2,x3,x4,x5⟩:=hx
   obtain ⟨y0,y1,y2,y3,y4,y5⟩:=hy
   have hq:=neqP x y
   cases he:eqO x y with
   | true =>
    rw [he] at hq
    have HN:Hid (∀ j,j < i + 1 → L[j]! = M[j]!):=Lib.hid (fun j hj=>by
     by_cases e:j < i
     ·exact HI.out j e
     ·obtain rfl:j = i:=by omega
      rw [XY.out.1,XY.out.2];exact (eqO_iff x y).1 he)
    clear he
    go_wp2_with fail
    go_quiet (fail)
    go_wp2_with fail
    go_roundg (n - (i + 1))
    case measure=>omega
    case rel=>exact ⟨i + 1,q + nq,by go_num,by omega,by omega,(by first | rfl | exact World.drewN_drewN _ _ _),HN⟩
   | false =>
    rw [he] at hq
    have HF:Hid (eqL L M = false):=Lib.hid (eqL_no (i:=i) (by rw [HLn.out];exact hlt) (by rw [HLn.out,KLn.out]) (by rw [XY.out.1,XY.out.2];exact he))
    clear he
    go_wp2_with fail
    go_quiet (fail)
    go_wp2_with fail
    go_ret
    try rw [World.drewN_drewN]
    have:=HE.out (q + nq)
    rw [HF.out] at this
    rw [HF.out]
    exact this
  ·have hltz:¬ (i:Int) < (n:Int):=by omega
   obtain rfl:i = n:=by omega
   have HF:Hid (eqL L M = true):=Lib.hid (eqL_yes (by rw [HLn.out,KLn.out]) (fun j hj=>HI.out j (by rw [HLn.out] at hj;exact hj)))
   go_wp2
   go_ret
   have:=HE.out q
   rw [HF.out] at this
   rw [HF.out]
   exact this

def eU (z:Int):Value:=.int .u64 z
theorem eU_one:OneCell eU:=fun _=>rfl
theorem lessU_c (x y:Int) (W:World):Calls Tryz.prog 110 #[.int .u64 x,.int .u64 y] W fun e w'=>e = .returned (.bool (ltInt x y))∧w' = W:=by
 have HN:=Lib.hid isNaN_c
 cases h:ltInt x y with
 | true =>
  have h1:x < y:=by unfold ltInt at h;simpa using h
  go_enter Tryz.func110,Tryz.ntmps110
  go_wp2_with ((with_reducible refine (HN.out _ _).mono ?_);rintro e w' ⟨rfl,rfl⟩)
  go_ret
  exact ⟨rfl,rfl⟩
 | false =>
  have h1:¬ x < y:=by unfold ltInt at h;simpa using h
  have g1:decide (x < y) = false:=decide_eq_false h1
  go_enter Tryz.func110,Tryz.ntmps110
  go_wp2_with ((with_reducible refine (HN.out _ _).mono ?_);rintro e w' ⟨rfl,rfl⟩)
  go_ret
  exact ⟨rfl,rfl⟩

theorem insU_c (blk off cap a b:Nat) (za zb:Int) (d0 d:Array Int) (w0 w:World) (n:Nat) (ha:za = a) (hb':zb = b) (hn:n = d.size) (R:Row1 eU w0 blk off d0) (hs:d0.size = d.size) (S:SW eU w0 blk off d w) (hab:a≤b) (hb:b≤d.size) (hsz:d.size < 4611686018427387904) :
  Calls Tryz.prog 104 #[.slice (some ⟨blk,off,none⟩) n cap,.int .i64 za,.int .i64 zb] w fun e w'=>e = .returned (.tuple #[]) ∧
   ∃ d',SW eU w0 blk off d' w'∧PermIn a b d d'∧SortedIn ltInt a b d':=by
 subst ha hb' hn
 have mixed:Tryz.prog.follows .mixedOrders = true:=by kernel_rfl
 have S0:Aside (SW eU w0 blk off d w):=S
 have HS:=Lib.hid hs
 have HL:=Lib.hid lessU_c
 clear S hs
 go_enter Tryz.func104,Tryz.ntmps104
 go_wp2
 go_loopg [6] (b - a) (fun kx s6 wr=>∃ (i:Nat) (dk:Array Int),s6 = .int .i64 i∧a < i∧i≤b + 1∧b + 1 - i≤kx + 1∧Aside (SW eU w0 blk off dk wr)∧PermIn a b d dk∧Hid (SortedIn ltInt a i dk))
 case atStart=>exact ⟨a + 1,d,by go_num,by omega,by omega,by omega,S0,permIn_refl _ _ _,Lib.hid (fun i j h1 h2 h3=>by omega)⟩
 case round =>
  clear S0
  obtain ⟨i,dk,rfl,hai,hib,hkx,S1,HPm,HO⟩:=hrel
  have HD:Hid (dk.size = d.size):=HPm.1
  by_cases hlt:i < b
  ·have hltz:(i:Int) < (b:Int):=by omega
   have HI0:Hid (Ins ltInt a i i dk):=Lib.hid ⟨fun p q h1 h2 h3 h4 h5=>HO.out p q h1 h2 (by omega),fun q h1 h2=>by omega⟩
   clear HO
   go_wp2
   go_loopg [7] i (fun g2 s7 wr2=>∃ (j:Nat) (dj:Array Int),s7 = .int .i64 j∧a≤j∧j≤i∧j≤g2∧Aside (SW eU w0 blk off dj wr2)∧PermIn a b d dj∧Hid (Ins ltInt a j i dj))
   case atStart=>exact ⟨i,dk,rfl,by omega,Nat.le_refl _,Nat.le_refl _,S1,HPm,HI0⟩
   case round =>
    clear S1 HI0 HPm HD
    obtain ⟨j1,dj,rfl,haj,hji,hg2,S1,HPm,HI⟩:=hrel
    have HD:Hid (dj.size = d.size):=HPm.1
    by_cases hja:a < j1
    ·obtain ⟨j,rfl⟩:∃ j,j1 = j + 1:=⟨j1 - 1,by omega⟩
     have hjz:(a:Int) < (j:Int) + 1:=by omega
     have wc:IntKind.i64.wrap ((j:Int) + 1 - 1) = (j:Int):=by rw [IntKind.wrap_i64];omega
     have wc':IntKind.i64.wrap (j:Int) = (j:Int):=by rw [IntKind.wrap_i64];omega
     have bz:(j:Int) + 1 < (d.size:Int):=by omega
     have bt:((j:Int) + 1).toNat = j + 1:=by omega
     have b0:(0:Int)≤(j:Int) + 1:=by omega
     have hsz2:=HD.out
     obtain ⟨x,hx⟩:∃ x,dj[j + 1]! = x:=⟨_,rfl⟩
     obtain ⟨y,hy⟩:∃ y,dj[j]! = y:=⟨_,rfl⟩
     have cx:=S1.out.c1 R (by rw [HD.out];exact HS.out.symm) (j + 1) (by omega)
     have cy:=S1.out.c1 R (by rw [HD.out];exact HS.out.symm) (j) (by omega)
     rw [hx] at cx
     rw [hy] at cy
     have cx':wr.cell? ⟨blk,off + (j + 1),none⟩ = some (.int .u64 x):=cx
     have cy':wr.cell? ⟨blk,off + (j),none⟩ = some (.int .u64 y):=cy
     clear cx cy
     have XY:Hid (dj[j + 1]! = x∧dj[j]! = y):=⟨hx,hy⟩
     clear hx hy
     have bp:((j + 1:Nat):Int) < (d.size:Int):=by omega
     have bq:((j:Nat):Int) < (d.size:Int):=by omega
     clear hsz2
     cases hl:ltInt x y with
     | true =>
      have HN:Hid (Ins ltInt a j i (swp dj (j + 1) j)):=Lib.hid (HI.out.step (by rw [XY.out.1,XY.out.2];exact hl) (by omega) (by rw [HD.out];omega))
      have HPn:PermIn a b d (swp dj (j + 1) j):=permIn_trans _ _ _ _ _ HPm (swp_permIn dj a b (j + 1) j (by omega) (by omega) (by omega) (by omega) (by rw [HD.out];omega))
      go_wp2_with fail
      go_quiet ((go_at_call 110;with_reducible exact Calls.quiet_of_same (HL.out _ _ _)))
      go_wp2_with fail
      have S3:Aside (SW eU w0 blk off dj (wr.drewN nq)):=S1.out.drewN nq
      clear cx' cy' S1 HPm HI hl
      generalize wr.drewN nq = wq at S3 ⊢
      have hsz2:=HD.out
      have S2:=S3.out.swapped R (j + 1) (j) (by omega) (by omega)
      have ca:=S3.out.c1 R (by rw [HD.out];exact HS.out.symm) (j + 1) (by omega)
      have cb:=S3.out.c1 R (by rw [HD.out];exact HS.out.symm) (j) (by omega)
      have fa:=S3.out.f1 R (by rw [HD.out];exact HS.out.symm) (j + 1) (by omega)
      have fb:=S3.out.f1 R (by rw [HD.out];exact HS.out.symm) (j) (by omega)
      obtain ⟨uc,cc⟩:=S3.out.c2 R (by rw [HD.out];exact HS.out.symm) (j + 1) (j) (by omega) (by omega) (eU dj[j]!)
      generalize dj[j + 1]! = vI at S2 ca cc
      generalize dj[j]! = vJ at S2 cb cc
      replace S2:Aside (SW eU w0 blk off (swp dj (j + 1) (j)) ((wq.setCell ⟨blk,off + (j + 1),none⟩ (.int .u64 vJ)).setCell ⟨blk,off + (j),none⟩ (.int .u64 vI)).drew):=S2
      replace ca:wq.cell? ⟨blk,off + (j + 1),none⟩ = some (.int .u64 vI):=ca
      replace cb:wq.cell? ⟨blk,off + (j),none⟩ = some (.int .u64 vJ):=cb
      replace cc:(wq.setCell ⟨blk,off + (j + 1),none⟩ (.int .u64 vJ)).cell? ⟨blk,off + (j),none⟩ = some uc:=cc
      clear S3
      go_wp2_with fail
      go_big_region
      clear ca cb fa fb cc
      generalize ((wq.setCell ⟨blk,off + (j + 1),none⟩ (.int .u64 vJ)).setCell ⟨blk,off + (j),none⟩ (.int .u64 vI)).drew = w2 at S2 ⊢
      clear hsz2
      all_goals go_wp2
      go_roundg j
      case measure=>omega
      case rel=>exact ⟨j,swp dj (j + 1) j,by go_num,by omega,by omega,Nat.le_refl _,S2,HPn,HN⟩
     | false =>
      have HN:Hid (SortedIn ltInt a (i + 1) dj):=Lib.hid (HI.out.stop swo_ltInt (.inr (by simp only [Nat.add_sub_cancel];rw [XY.out.1,XY.out.2];exact hl)))
      go_wp2_with fail
      go_quiet ((go_at_call 110;with_reducible exact Calls.quiet_of_same (HL.out _ _ _)))
      have S3:Aside (SW eU w0 blk off dj (wr.drewN nq)):=S1.out.drewN nq
      clear cx' cy' S1 HI
      generalize wr.drewN nq = wq at S3 ⊢
      go_wp2
      go_roundg (b - (i + 1))
      case measure=>omega
      case rel=>exact ⟨i + 1,dj,by go_num,by omega,by omega,by omega,S3,HPm,HN⟩
    ·have hjz:¬ (a:Int) < (j1:Int):=by omega
     have hjd:decide ((j1:Int) > (a:Int)) = false:=decide_eq_false (by omega)
     have HN:Hid (SortedIn ltInt a (i + 1) dj):=Lib.hid (HI.out.stop swo_ltInt (.inl (by omega)))
     go_wp2_with fail
     go_quiet ((go_at_call 110;with_reducible exact Calls.quiet_of_same (HL.out _ _ _)))
     have S3:Aside (SW eU w0 blk off dj (wr.drewN nq)):=S1.out.drewN nq
     clear S1 HI
     generalize wr.drewN nq = wq at S3 ⊢
     go_wp2
     go_roundg (b - (i + 1))
     case measure=>omega
     case rel=>exact ⟨i + 1,dj,by go_num,by omega,by omega,by omega,S3,HPm,HN⟩
  ·have hltz:¬ (i:Int) < (b:Int):=by omega
   have HF:Hid (SortedIn ltInt a b dk):=Lib.hid (fun p q h1 h2 h3=>HO.out p q h1 h2 (by omega))
   clear HO HD
   go_wp2
   go_end0
   exact ⟨rfl,dk,S1.out,HPm,HF.out⟩

theorem len_c (x:Int) (w:World) (h0:0≤x) (h1:x≤18446744073709551615):Calls Tryz.prog 79 #[.int .u64 x] w fun e w'=>e = .returned (.int .i64 (Lib.bitLen x.toNat))∧w' = w :=
 Any.bits_Len (ρ:=Tryz.bitsLenL_ren) Tryz.bitsLenL x w h0 h1
def SortsU (n:Nat):Prop:=∀ (blk off cap:Nat) (d:Array Int) (w:World),n = d.size → Holds eU w blk off d → blk < w.heap.size →
 Calls Tryz.prog 66 #[.slice (some ⟨blk,off,none⟩) n cap] w fun e w'=>e = .returned (.tuple #[])∧∃ d',SW eU w blk off d' w'∧PermIn 0 n d d'∧SortedIn ltInt 0 n d'
theorem compact_c (blk off cap:Nat) (d:Array Int) (w:World) (hH:Holds eU w blk off d) (hsz:d.size≤1000) (hcap:d.size≤cap) :
  Calls Tryz.prog 67 #[.slice (some ⟨blk,off,none⟩) d.size cap] w fun e w'=>e = .returned (.slice (some ⟨blk,off,none⟩) (compactUpTo d d.size).length cap)∧∃ d',SW eU w blk off d' w':=by
 refine (AnyE.slices_Compact (ρ:=Tryz.compactL_ren) Tryz.compactL eU eU_one (EqlAt.intD _ _ _) (NeqAt.intD _ _ _) 0 Tryz.zeroValue35 blk off cap d w hH (by omega) hcap).mono ?_
 rintro e w' ⟨rfl,q,rfl⟩
 exact ⟨rfl,_,q,#[],by unfold sortWorld;rw [grow_empty]⟩

def bookO (L:List Od):Bool:=decide (L.length≤64) && (L.all goodO && (decide ((L.map Od.id).Nodup) && eqL L (sortO L)))
theorem keeps_iff (d:Array Int) (j:Nat):keeps d j = true ↔ j = 0 ∨ d[j - 1]! ≠ d[j]!:=by
 unfold keeps;by_cases h:j = 0 <;> simp [h] <;> exact ⟨fun h e=>h e.symm,fun h e=>h e.symm⟩
theorem compact_len {d d':Array Int} {n:Nat} (hn:d.size = n) (P:PermIn 0 n d d') (S:SortedIn ltInt 0 n d'):(compactUpTo d' n).length = n ↔ d.toList.Nodup:=by
 have hn':d'.size = n:=P.1.trans hn
 have e1:d'.extract 0 n = d':=by rw [← hn'];exact Array.extract_size
 have e2:d.extract 0 n = d:=by rw [← hn];exact Array.extract_size
 have hp:=P.2.2
 rw [e1,e2] at hp
 rw [← hp.nodup_iff]
 unfold compactUpTo
 rw [List.length_map]
 have hl:((List.range n).filter (keeps d')).length = n ↔ ∀ j,j < n → keeps d' j = true:=by
  constructor
  ·intro h j hj
   have:=List.length_filter_eq_length_iff.1 (h.trans List.length_range.symm)
   exact this j (List.mem_range.2 hj)
  ·intro h
   rw [List.filter_eq_self.2 (fun j hj=>h j (List.mem_range.1 hj)),List.length_range]
 rw [hl]
 constructor
 ·intro h
  have hs:∀ i j,i < j → j < n → d'[i]! < d'[j]!:=by
   intro i j hij hj
   induction j with
   | zero=>omega
   | succ j ih =>
    have h1:=S j (j + 1) (Nat.zero_le _) (by omega) hj
    have h2:=(keeps_iff d' (j + 1)).1 (h (j + 1) hj)
    unfold ltInt at h1
    simp only [decide_eq_false_iff_not,Int.not_lt] at h1
    have h3:d'[j]! < d'[j + 1]!:=by
     rcases h2 with h2 | h2
     ·omega
     ·simp only [Nat.add_sub_cancel] at h2;omega
    by_cases e:i = j
    ·subst e;exact h3
    ·exact Int.lt_trans (ih (by omega) (by omega)) h3
  unfold List.Nodup
  rw [List.pairwise_iff_getElem]
  intro i j hi hj hij
  have:=hs i j hij (by simpa [hn'] using hj)
  rw [getElem!_pos d' i (by simpa using hi),getElem!_pos d' j (by simpa using hj)] at this
  simp only [Array.getElem_toList]
  omega
 ·intro h j hj
  rw [keeps_iff]
  by_cases e:j = 0
  ·exact .inl e
  ·right
   unfold List.Nodup at h
   rw [List.pairwise_iff_getElem] at h
   have:=h (j - 1) j (by simp [hn'];omega) (by simp [hn'];omega) (by omega)
   rw [getElem!_pos d' (j - 1) (by omega),getElem!_pos d' j (by omega)]
   simpa using this
theorem su_below {w0 w:World} {blk:Nat} {d:Array Int} {B:Nat} (S:SW eU w0 blk 0 d w) (hB:B≤blk) (hs:B≤w0.heap.size):Below B w0 w:=by
 obtain ⟨n,os,rfl⟩:=S
 refine ⟨rfl,rfl,rfl,?_,fun j hj=>?_⟩
 ·unfold sortWorld;rw [size_grow,size_putRow];exact Nat.le_add_right _ _
 ·unfold sortWorld
  rw [heap_grow_old _ _ (by rw [size_putRow];show j < w0.heap.size;omega)]
  unfold putRow mapBlock
  show (w0.heap.modify blk _)[j]? = _
  rw [Array.getElem?_modify,if_neg (by omega)]
theorem own_u {w:World} {base n g cap:Nat} {zs:List Int} (h:w.ownsRow base 35 1 (.slice (some ⟨g,0,none⟩) n cap) n (zs.map eU)):zs.length = n∧n≤cap∧g < w.heap.size∧Holds eU w g 0 zs.toArray:=by
 obtain ⟨h1,h2⟩:=h
 rw [List.length_map,Nat.mul_one] at h1
 rcases h2 with ⟨h0,_⟩ | ⟨k,cap',cur,hv,hb,hk,hc,hm,hs,ht⟩
 ·cases h0
 ·injection hv with e1 e2 e3
  injection e1 with e1
  injection e1 with e1
  subst e1 e3
  refine ⟨h1,hc,blk_lt hk,fun j hj=>⟨?_,frozen_of_row _ _ _ _ _ hk⟩⟩
  have hj':j < zs.length:=by simpa using hj
  have hx:(zs.map eU)[j]? = some (eU zs.toArray[j]!):=by
   rw [List.getElem?_map,List.getElem?_eq_getElem hj',getElem!_pos zs.toArray j hj]
   rfl
  rw [Nat.zero_add,cell_of_row _ _ _ _ _ _ hk]
  rw [← ht,List.getElem?_take,if_pos (by omega),Array.getElem?_toList] at hx
  exact hx
theorem ids_one (z:Int):∀ u ∈ [Value.int .u64 z],u.oneCell' = true:=by
 intro u hu;simp at hu;subst hu;rfl
def idc (L:List Od) (i:Nat):List Value:=((L.take i).map Od.id).map eU
theorem ids_snoc {L:List Od} {i:Nat} (h:i < L.length):idc L (i + 1) = idc L i ++ [.int .u64 (L[i]!).id]:=by
 unfold idc
 rw [List.take_succ_eq_append_getElem h,List.map_append,List.map_append,getElem!_pos L i h];rfl
theorem info_u64:(Tryz.prog.info? 35).map (fun i=>(i.zero,i.size,i.bytes)) = some (some (.int .u64 0),1,8):=by kernel_rfl
def BookIs (w:World) (b:Bool) (e:Ending) (w':World):Prop:=e = .returned (.bool b)∧Below w.heap.size w w'
theorem book_long {L:List Od} (h:¬ L.length≤64):bookO L = false:=by unfold bookO;rw [decide_eq_false h,Bool.false_and]
theorem book_bad {L:List Od} {i:Nat} (hi:i < L.length) (h:goodO L[i]! = false):bookO L = false:=by
 unfold bookO
 have:L.all goodO = false:=by
  rw [List.all_eq_false]
  exact ⟨L[i]!,by rw [getElem!_pos L i hi];exact List.getElem_mem _,by rw [h];exact Bool.false_ne_true⟩
 rw [this,Bool.false_and,Bool.and_false]
theorem book_twice {L:List Od} (h:¬ (L.map Od.id).Nodup):bookO L = false:=by
 unfold bookO
 rw [decide_eq_false h,Bool.false_and,Bool.and_false,Bool.and_false]
theorem book_else {L:List Od} (h1:L.length≤64) (h2:∀ i,i < L.length → goodO L[i]! = true) (h3:(L.map Od.id).Nodup):bookO L = eqL L (sortO L):=by
 unfold bookO
 have:L.all goodO = true:=by
  rw [List.all_eq_true]
  intro x hx
  obtain ⟨i,hi,rfl⟩:=List.getElem_of_mem hx
  have:=h2 i hi
  rwa [getElem!_pos L i hi] at this
 rw [decide_eq_true h1,this,decide_eq_true h3]
 rfl

section
variable {ops : Array Oper} {rest : List Oper} {o : Oper} {a : Act} {w : World} {Q : Exit → Act → World → Prop}
end
theorem bookLong_c (A:Option Addr) (n c:Nat) (L:List Od) (w:World) (hl:L.length = n) (h:¬ n≤64):Calls Tryz.prog 43 #[.slice A n c] w (BookIs w (bookO L)):=by
 have e:bookO L = false:=book_long (by omega)
 rw [e]
 have hz:(64:Int) < (n:Int):=by omega
 clear h
 go_enter Tryz.func43,Tryz.ntmps43
 go_wp2_with fail
 go_ret
 exact ⟨rfl,Below.refl _ _⟩

def CapOk (A:Option Addr) (n c:Nat):Prop:=n≤c∧(A = none → c = 0)
theorem own_ods {w:World} {base n:Nat} {T:TypeId} {v:Value} {L:List Od} (h:w.ownsRow base T 6 v n (ol L)) (hn:n≤1000) (hok:∀ x ∈ L,Od.ok w x):∃ A c,v = .slice A n c∧CapOk A n c∧Ods w A n L:=by
 obtain ⟨h1,h2⟩:=h
 rw [ol_len] at h1
 have hl:L.length = n:=by omega
 rcases h2 with ⟨hv,h0⟩ | ⟨k,cap,cur,hv,_,hk,hc,hm,hs,ht⟩
 ·subst h0;exact ⟨none,0,hv,⟨Nat.le_refl _,fun _=>rfl⟩,hl,by omega,hok,.inl rfl⟩
 ·refine ⟨_,_,hv,⟨hc,fun h=>by cases h⟩,hl,by omega,hok,.inr ⟨k,0,rfl,blk_lt hk,fun i hi=>?_⟩⟩
  have hcell:∀ j v,(ol L)[j]? = some v → w.cell? ⟨k,0 + j,none⟩ = some v:=by
   intro j v hj
   rw [← ht,List.getElem?_take] at hj
   split at hj
   ·rw [Array.getElem?_toList] at hj
    rw [Nat.zero_add,cell_of_row _ _ _ _ _ _ hk,hj]
   ·cases hj
  have g:∀ c v,c < 6 → (encO L[i]!)[c]? = some v → w.cell? ⟨k,0 + i * 6 + c,none⟩ = some v:=fun c v hc hv=>by
   rw [Nat.add_assoc]
   exact hcell (i * 6 + c) v ((ol_get L i c (by omega) hc).trans hv)
  exact ⟨g 0 _ (by omega) rfl,g 1 _ (by omega) rfl,g 2 _ (by omega) rfl,g 3 _ (by omega) rfl,g 4 _ (by omega) rfl,g 5 _ (by omega) rfl⟩
theorem ol_app (L:List Od) (x:Od):ol (L ++ [x]) = ol L ++ encO x:=by
 unfold ol
 rw [List.flatMap_append]
 simp
theorem enc_one (x:Od):∀ u ∈ encO x,u.oneCell' = true:=fun u hu=>encD_one (x,0) u hu


def x1:Od:=⟨1,0,1,10,1,2⟩
def x2:Od:=⟨2,0,1,11,1,3⟩
def x3:Od:=⟨3,0,1,10,1,1⟩
end Go.Proofs.YtikapeaodobkjaaGreat
namespace Go.Proofs.YtikapeaodobkjaaGreat
open Go.RowKit

theorem Below.row {B g:Nat} {w0 w:World} (hb:Below B w0 w) (hBg:B≤g) (cs:Array Value):Below B w0 (w.setRow g cs) :=
 hb.trans ⟨rfl,rfl,rfl,by simp [World.setRow],fun k hk=>setRow_other w g k cs (by omega)⟩
section
variable {ops : Array Oper} {rest : List Oper} {o : Oper} {a : Act} {w : World} {Q : Exit → Act → World → Prop}
end
end Go.Proofs.YtikapeaodobkjaaGreat

namespace Go.Proofs.YtikapeaodobkjaaGreat
open Go.RowKit

end Go.Proofs.YtikapeaodobkjaaGreat

namespace Go.Proofs.YtikapeaodobkjaaGreat
open Go.RowKit

end Go.Proofs.YtikapeaodobkjaaGreat

namespace Go.Proofs.YtikapeaodobkjaaGreat
open Go.RowKit

end Go.Proofs.YtikapeaodobkjaaGreat

namespace Go.Proofs.YtikapeaodobkjaaGreat
open Go.RowKit

end Go.Proofs.YtikapeaodobkjaaGreat

namespace Go.Proofs.YtikapeaodobkjaaGreat
open Go.RowKit

end Go.Proofs.YtikapeaodobkjaaGreat

namespace Go.Proofs.YtikapeaodobkjaaGreat
open Go.RowKit

end Go.Proofs.YtikapeaodobkjaaGreat

namespace Go.Proofs.YtikapeaodobkjaaGreat
open Go.RowKit

end Go.Proofs.YtikapeaodobkjaaGreat

namespace Go.Proofs.YtikapeaodobkjaaGreat
open Go.RowKit

end Go.Proofs.YtikapeaodobkjaaGreat

namespace Go.Proofs.YtikapeaodobkjaaGreat
open Go.RowKit

end Go.Proofs.YtikapeaodobkjaaGreat

namespace Go.Proofs.YtikapeaodobkjaaGreat
open Go.RowKit

end Go.Proofs.YtikapeaodobkjaaGreat

namespace Go.Proofs.YtikapeaodobkjaaGreat
open Go.RowKit

end Go.Proofs.YtikapeaodobkjaaGreat
namespace Go.Proofs.YtikapeaodobkjaaGreat
open Go.RowKit Go.Sort Go.Lib Go.Shelf

section
variable {ops : Array Oper} {rest : List Oper} {o : Oper} {a : Act} {w : World} {Q : Exit → Act → World → Prop}
end
theorem crosses_c (s a b:Int) (w:World):Calls Tryz.prog 41 #[.int .i64 s,.int .i64 a,.int .i64 b] w fun e w'=>e = .returned (.bool (croN s a b))∧w = w':=by
 have HA0:=fun w=>asBuyer_c s a b w
 by_cases h1:s = 1
 ·rw [if_pos h1,if_pos h1] at HA0
  have e:croN s a b = decide (b≤a):=by unfold croN;simp [h1]
  have e1:(s == 1) = true:=by simp [h1]
  rw [e1,Bool.true_or] at HA0
  have HA:=Lib.hid HA0
  rw [e]
  clear HA0 h1 e e1
  go_enter Tryz.func41,Tryz.ntmps41
  go_wp2_with ((with_reducible refine (HA.out _).mono ?_);rintro e w' ⟨rfl,rfl⟩)
  go_ret
  exact ⟨rfl,rfl⟩
 rw [if_neg h1,if_neg h1] at HA0
 by_cases h2:s = 2
 ·rw [if_pos h2,if_pos h2] at HA0
  have e:croN s a b = decide (a≤b):=by unfold croN;simp [h2]
  have e1:(s == 2) = true:=by simp [h2]
  rw [e1,Bool.or_true] at HA0
  have HA:=Lib.hid HA0
  rw [e]
  clear HA0 h1 h2 e e1
  go_enter Tryz.func41,Tryz.ntmps41
  go_wp2_with ((with_reducible refine (HA.out _).mono ?_);rintro e w' ⟨rfl,rfl⟩)
  go_ret
  exact ⟨rfl,rfl⟩
 rw [if_neg h2,if_neg h2] at HA0
 have e:croN s a b = false:=by unfold croN;simp [h1,h2]
 have e1:(s == 1) = false:=by simp [h1]
 have e2:(s == 2) = false:=by simp [h2]
 rw [e1,e2] at HA0
 have HA:=Lib.hid HA0
 rw [e]
 clear HA0 h1 h2 e e1 e2
 go_enter Tryz.func41,Tryz.ntmps41
 go_wp2_with ((with_reducible refine (HA.out _).mono ?_);rintro e w' ⟨rfl,rfl⟩)
 go_ret
 exact ⟨rfl,rfl⟩

def clsO (x:Od):Int:=if x.side < 1 ∨ 2 < x.side then 0 else x.side
def ofO (s:Int) (x:Od):Bool:=decide (clsO x = s)

def fz (s:Int) (L:List Od):List (Od × Nat):=L.zipIdx.filter (fun d=>ofO s d.1)
end Go.Proofs.YtikapeaodobkjaaGreat
