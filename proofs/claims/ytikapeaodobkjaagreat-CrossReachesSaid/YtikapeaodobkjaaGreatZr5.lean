/- What the laws lean on, in a few texts (by shake.py): number 5 of 16. -/
import Derived.Test.YtikapeaodobkjaaGreatZr1
import Derived.Test.YtikapeaodobkjaaGreatZr2
import Derived.Test.YtikapeaodobkjaaGreatZr3
import Derived.Laws.StructEq
import Derived.Deep.LoopGhost
import Derived.Shelf.SlSortCmp.Kit1
import Derived.BigRegion
import Derived.Maps.AppendAt
import Derived.WalkSpells
import Derived.WalkLawsBesides
import Derived.Handy
import Derived.BigQuiet
import Derived.Deep.QuietTactic
import Derived.Deep.WholeRow
import Derived.Deep.Cut
import Derived.Deep.CutRange
import Derived.Shelf.SlSortCmp.QuietGrown
import Derived.Deep.DeepCutAuto
import Derived.Deep.CutBlock

set_option maxHeartbeats 16000000
set_option maxRecDepth 1000000
set_option linter.unusedVariables false
set_option linter.unusedSimpArgs false
namespace Go.Proofs.YtikapeaodobkjaaGreat
open _root_.Go.Proofs.Tryz
section
open Go.RowKit
def Qk (x:Od):Bool:=decide (0<=x.acc)&&(decide (x.acc<8)&&((rkN x.side != 2)&&(decide (1<=x.price)&&(decide (x.price<=1099511627776)&&(decide (1<=x.qty)&&decide (x.qty<=1099511627776))))))
theorem qd8 (x:Od)(w:World)(h0:¬(0<=x.acc)):Calls prog 65 #[.agg #[.int .u64 x.id,.int .i64 x.acc,.int .i64 x.side,.int .i64 x.price,.int .i64 x.qty,.int .u64 x.seq]] w λe w'=>e=.returned (.bool false)/\Gw w w':=by
 have HK:=Ou JJ
 have g:decide (0<=x.acc)=false:=Sz h0
 go_enter func65,ntmps65
 go_wp2_with ((with_reducible refine(HK.out _ _).mono ?_);rintro e w' ⟨rfl,rfl⟩)
 go_ret
 exact⟨rfl,(Gw.refl w).alloc _⟩
theorem qd9 (x:Od)(w:World)(h0:(0<=x.acc))(h1:¬(x.acc<8)):Calls prog 65 #[.agg #[.int .u64 x.id,.int .i64 x.acc,.int .i64 x.side,.int .i64 x.price,.int .i64 x.qty,.int .u64 x.seq]] w λe w'=>e=.returned (.bool false)/\Gw w w':=by
 have HK:=Ou JJ
 have g:decide (x.acc<8)=false:=Sz h1
 go_enter func65,ntmps65
 go_wp2_with ((with_reducible refine(HK.out _ _).mono ?_);rintro e w' ⟨rfl,rfl⟩)
 go_ret
 exact⟨rfl,(Gw.refl w).alloc _⟩
theorem qea (x:Od)(w:World)(h0:(0<=x.acc))(h1:(x.acc<8))(h2:(rkN x.side != 2)=false):Calls prog 65 #[.agg #[.int .u64 x.id,.int .i64 x.acc,.int .i64 x.side,.int .i64 x.price,.int .i64 x.qty,.int .u64 x.seq]] w λe w'=>e=.returned (.bool false)/\Gw w w':=by
 have HK:=Ou JJ
 go_enter func65,ntmps65
 go_wp2_with ((with_reducible refine(HK.out _ _).mono ?_);rintro e w' ⟨rfl,rfl⟩)
 go_ret
 exact⟨rfl,(Gw.refl w).alloc _⟩
theorem qeb (x:Od)(w:World)(h0:(0<=x.acc))(h1:(x.acc<8))(h2:(rkN x.side != 2)=true)(h3:¬(1<=x.price)):Calls prog 65 #[.agg #[.int .u64 x.id,.int .i64 x.acc,.int .i64 x.side,.int .i64 x.price,.int .i64 x.qty,.int .u64 x.seq]] w λe w'=>e=.returned (.bool false)/\Gw w w':=by
 have HK:=Ou JJ
 have g:decide (1<=x.price)=false:=Sz h3
 go_enter func65,ntmps65
 go_wp2_with ((with_reducible refine(HK.out _ _).mono ?_);rintro e w' ⟨rfl,rfl⟩)
 go_ret
 exact⟨rfl,(Gw.refl w).alloc _⟩
theorem qec (x:Od)(w:World)(h0:(0<=x.acc))(h1:(x.acc<8))(h2:(rkN x.side != 2)=true)(h3:(1<=x.price))(h4:¬(x.price<=1099511627776)):Calls prog 65 #[.agg #[.int .u64 x.id,.int .i64 x.acc,.int .i64 x.side,.int .i64 x.price,.int .i64 x.qty,.int .u64 x.seq]] w λe w'=>e=.returned (.bool false)/\Gw w w':=by
 have HK:=Ou JJ
 have g:decide (x.price<=1099511627776)=false:=Sz h4
 go_enter func65,ntmps65
 go_wp2_with ((with_reducible refine(HK.out _ _).mono ?_);rintro e w' ⟨rfl,rfl⟩)
 go_ret
 exact⟨rfl,(Gw.refl w).alloc _⟩
theorem qed (x:Od)(w:World)(h0:(0<=x.acc))(h1:(x.acc<8))(h2:(rkN x.side != 2)=true)(h3:(1<=x.price))(h4:(x.price<=1099511627776))(h5:¬(1<=x.qty)):Calls prog 65 #[.agg #[.int .u64 x.id,.int .i64 x.acc,.int .i64 x.side,.int .i64 x.price,.int .i64 x.qty,.int .u64 x.seq]] w λe w'=>e=.returned (.bool false)/\Gw w w':=by
 have HK:=Ou JJ
 have g:decide (1<=x.qty)=false:=Sz h5
 go_enter func65,ntmps65
 go_wp2_with ((with_reducible refine(HK.out _ _).mono ?_);rintro e w' ⟨rfl,rfl⟩)
 go_ret
 exact⟨rfl,(Gw.refl w).alloc _⟩
theorem qee (x:Od)(w:World)(h0:(0<=x.acc))(h1:(x.acc<8))(h2:(rkN x.side != 2)=true)(h3:(1<=x.price))(h4:(x.price<=1099511627776))(h5:(1<=x.qty))(h6:¬(x.qty<=1099511627776)):Calls prog 65 #[.agg #[.int .u64 x.id,.int .i64 x.acc,.int .i64 x.side,.int .i64 x.price,.int .i64 x.qty,.int .u64 x.seq]] w λe w'=>e=.returned (.bool false)/\Gw w w':=by
 have HK:=Ou JJ
 have g:decide (x.qty<=1099511627776)=false:=Sz h6
 go_enter func65,ntmps65
 go_wp2_with ((with_reducible refine(HK.out _ _).mono ?_);rintro e w' ⟨rfl,rfl⟩)
 go_ret
 exact⟨rfl,(Gw.refl w).alloc _⟩
theorem qef (x:Od)(w:World)(h0:(0<=x.acc))(h1:(x.acc<8))(h2:(rkN x.side != 2)=true)(h3:(1<=x.price))(h4:(x.price<=1099511627776))(h5:(1<=x.qty))(h6:(x.qty<=1099511627776)):Calls prog 65 #[.agg #[.int .u64 x.id,.int .i64 x.acc,.int .i64 x.side,.int .i64 x.price,.int .i64 x.qty,.int .u64 x.seq]] w λe w'=>e=.returned (.bool true)/\Gw w w':=by
 have HK:=Ou JJ
 go_enter func65,ntmps65
 go_wp2_with ((with_reducible refine(HK.out _ _).mono ?_);rintro e w' ⟨rfl,rfl⟩)
 go_ret
 exact⟨rfl,(Gw.refl w).alloc _⟩
theorem KM (x:Od)(w:World):Calls prog 65 #[x.val] w λe w'=>e=.returned (.bool (Qk x))/\Gw w w':=by
 unfold Qk
 by_cases h0:0<=x.acc
 rotate_left
 ·rw[Sz h0];simp only[Fj];exact qd8 x w h0
 rw[Sy h0]
 rw[My]
 by_cases h1:x.acc<8
 rotate_left
 ·rw[Sz h1];simp only[Fj];exact qd9 x w h0 h1
 rw[Sy h1]
 rw[My]
 cases h2:(rkN x.side != 2) with
 | false=>simp only[Fj];exact qea x w h0 h1 h2
 | true =>
  rw[My];by_cases h3:1<=x.price;rotate_left
  ·rw[Sz h3];simp only[Fj];exact qeb x w h0 h1 h2 h3
  rw[Sy h3];rw[My];by_cases h4:x.price<=1099511627776;rotate_left
  ·rw[Sz h4];simp only[Fj];exact qec x w h0 h1 h2 h3 h4
  rw[Sy h4];rw[My];by_cases h5:1<=x.qty;rotate_left
  ·rw[Sz h5];simp only[Fj];exact qed x w h0 h1 h2 h3 h4 h5
  rw[Sy h5];rw[My];by_cases h6:x.qty<=1099511627776;rotate_left
  ·rw[Sz h6];exact qee x w h0 h1 h2 h3 h4 h5 h6
  rw[Sy h6];exact qef x w h0 h1 h2 h3 h4 h5 h6
theorem eqf {P:Program}(w:World)(d:Nat)(xs ys:Array Value)(fs:List Field)(hn:∀f∈fs,f.name ≠ "_")(E:Field->Bool)
  (h:∀f∈fs,∃a b,(part f.type xs f.offset).run P w=.ok a w/\(part f.type ys f.offset).run P w=.ok b w/\(Op.equalIn d f.type a b).run P w=.ok (E f) w) :
  (Op.eqFields d xs ys fs).run P w=.ok (fs.all E) w:=by
 induction fs with
 | nil=>simp[Op.eqFields]
 | cons f fs ih =>
  obtain⟨a,b,h1,h2,h3⟩:=h f Eu;have ih':=ih (λg hg=>hn g (Ev _ hg)) (λg hg=>h g (Ev _ hg));simp only[Op.eqFields];rw[Sx (hn f Eu)];simp only[Sem.run_bind,h1,h2,h3,Result.andThen_ok,Sem.run_ite,List.all_cons]
  cases hE:E f
  ·simp
  ·simpa using ih'
def fld (x:Od):Nat->Int
 | 0=>x.id|1=>x.acc|2=>x.side|3=>x.price|4=>x.qty|_=>x.seq
def eqO (x y:Od):Bool:=[0,1,2,3,4,5].all λi=>fld x i==fld y i
theorem YH (x y:Od):eqO x y=true↔x=y:=by
 unfold eqO
 simp only[List.all_cons,List.all_nil,Bool.and_true,Iv,beq_iff_eq,fld]
 constructor
 ·rintro ⟨h0,h1,h2,h3,h4,h5⟩
  cases x;cases y;simp only at *;subst h0 h1 h2 h3 h4 h5;rfl
 ·rintro rfl;simp
abbrev OC (x:Od):Array Value:=#[.int .u64 x.id,.int .i64 x.acc,.int .i64 x.side,.int .i64 x.price,.int .i64 x.qty,.int .u64 x.seq]
theorem D9 (x:Od)(w:World):(part 35 (OC x) 0).run prog w=.ok (.int .u64 (fld x 0)) w:=by kernel_rfl
theorem Ca (x:Od)(w:World):(part 3 (OC x) 1).run prog w=.ok (.int .i64 (fld x 1)) w:=by kernel_rfl
theorem Cb (x:Od)(w:World):(part 3 (OC x) 2).run prog w=.ok (.int .i64 (fld x 2)) w:=by kernel_rfl
theorem Cc (x:Od)(w:World):(part 2 (OC x) 3).run prog w=.ok (.int .i64 (fld x 3)) w:=by kernel_rfl
theorem Cd (x:Od)(w:World):(part 2 (OC x) 4).run prog w=.ok (.int .i64 (fld x 4)) w:=by kernel_rfl
theorem Ce (x:Od)(w:World):(part 35 (OC x) 5).run prog w=.ok (.int .u64 (fld x 5)) w:=by kernel_rfl
theorem qeg (x y:Od)(w:World):(Op.equalIn 10000 38 (.agg (OC x)) (.agg (OC y))).run prog w=.ok (eqO x y) w:=by
 rw[run_equalIn_agg w 9999 38 _ _ (by unfold Program.fieldsOf;rw[underlying38]) (by kernel_rfl)]
 have h1:∀(a b:Int) (w:World),(Op.equalIn 9999 35 (.int .u64 a) (.int .u64 b)).run prog w=.ok (a==b) w:=λa b w=>run_equalIn_int w 9998 _ _ _ a b underlying35
 have h2:∀(a b:Int) (w:World),(Op.equalIn 9999 2 (.int .i64 a) (.int .i64 b)).run prog w=.ok (a==b) w:=λa b w=>run_equalIn_int w 9998 _ _ _ a b underlying2
 have h3:∀(a b:Int) (w:World),(Op.equalIn 9999 3 (.int .i64 a) (.int .i64 b)).run prog w=.ok (a==b) w:=λa b w=>run_equalIn_int w 9998 _ _ _ a b underlying3
 unfold Program.fieldsOf
 rw[underlying38]
 refine(eqf w 9999 _ _ _ ?_ (λf=>fld x f.offset==fld y f.offset) ?_).trans rfl
 ·intro f hf;simp only[Iz,Iy,or_false]at hf;rcases hf with rfl|rfl|rfl|rfl|rfl|rfl<;>decide
 ·intro f hf;simp only[Iz,Iy,or_false]at hf;rcases hf with rfl|rfl|rfl|rfl|rfl|rfl
  ·exact⟨_,_,D9 x w,D9 y w,h1 _ _ _⟩
  ·exact⟨_,_,Ca x w,Ca y w,h3 _ _ _⟩
  ·exact⟨_,_,Cb x w,Cb y w,h3 _ _ _⟩
  ·exact⟨_,_,Cc x w,Cc y w,h2 _ _ _⟩
  ·exact⟨_,_,Cd x w,Cd y w,h2 _ _ _⟩
  ·exact⟨_,_,Ce x w,Ce y w,h1 _ _ _⟩
theorem qeh (x y:Od)(w:World):(binOp .neq 38 (.agg (OC x)) (.agg (OC y))).run prog w=.ok (.bool (!eqO x y)) w:=by
 rw[run_neq_struct,qeg];rfl
theorem Cf (x:Od)(w:World):(part 35 (OC x) 0).run prog w=.ok (.int .u64 (fld x 0)) w:=by kernel_rfl
theorem Cg (x:Od)(w:World):(part 3 (OC x) 1).run prog w=.ok (.int .i64 (fld x 1)) w:=by kernel_rfl
theorem Ch (x:Od)(w:World):(part 3 (OC x) 2).run prog w=.ok (.int .i64 (fld x 2)) w:=by kernel_rfl
theorem Ci (x:Od)(w:World):(part 2 (OC x) 3).run prog w=.ok (.int .i64 (fld x 3)) w:=by kernel_rfl
theorem Cj (x:Od)(w:World):(part 2 (OC x) 4).run prog w=.ok (.int .i64 (fld x 4)) w:=by kernel_rfl
theorem Ck (x:Od)(w:World):(part 35 (OC x) 5).run prog w=.ok (.int .u64 (fld x 5)) w:=by kernel_rfl
theorem qei (x y:Od)(w:World):(Op.equalIn 10000 49 (.agg (OC x)) (.agg (OC y))).run prog w=.ok (eqO x y) w:=by
 rw[run_equalIn_agg w 9999 49 _ _ (by unfold Program.fieldsOf;rw[underlying49]) (by kernel_rfl)]
 have h1:∀(a b:Int) (w:World),(Op.equalIn 9999 35 (.int .u64 a) (.int .u64 b)).run prog w=.ok (a==b) w:=λa b w=>run_equalIn_int w 9998 _ _ _ a b underlying35
 have h2:∀(a b:Int) (w:World),(Op.equalIn 9999 2 (.int .i64 a) (.int .i64 b)).run prog w=.ok (a==b) w:=λa b w=>run_equalIn_int w 9998 _ _ _ a b underlying2
 have h3:∀(a b:Int) (w:World),(Op.equalIn 9999 3 (.int .i64 a) (.int .i64 b)).run prog w=.ok (a==b) w:=λa b w=>run_equalIn_int w 9998 _ _ _ a b underlying3
 unfold Program.fieldsOf
 rw[underlying49]
 refine(eqf w 9999 _ _ _ ?_ (λf=>fld x f.offset==fld y f.offset) ?_).trans rfl
 ·intro f hf;simp only[Iz,Iy,or_false]at hf;rcases hf with rfl|rfl|rfl|rfl|rfl|rfl<;>decide
 ·intro f hf;simp only[Iz,Iy,or_false]at hf;rcases hf with rfl|rfl|rfl|rfl|rfl|rfl
  ·exact⟨_,_,Cf x w,Cf y w,h1 _ _ _⟩
  ·exact⟨_,_,Cg x w,Cg y w,h3 _ _ _⟩
  ·exact⟨_,_,Ch x w,Ch y w,h3 _ _ _⟩
  ·exact⟨_,_,Ci x w,Ci y w,h2 _ _ _⟩
  ·exact⟨_,_,Cj x w,Cj y w,h2 _ _ _⟩
  ·exact⟨_,_,Ck x w,Ck y w,h1 _ _ _⟩
theorem qej (x y:Od)(w:World):(binOp .neq 49 (.agg (OC x)) (.agg (OC y))).run prog w=.ok (.bool (!eqO x y)) w:=by
 rw[run_neq_struct,qei];rfl
end
section
open Go.RowKit Go.Sort Go.Lib Go.Shelf
def eqL:List Od->List Od->Bool
 | [],[]=>true
 | x :: l,y :: m=>eqO x y&&eqL l m
 | _,_=>false
theorem VI:∀(l m:List Od),eqL l m=true↔l=m
 | [],[]=>by simp[eqL]
 | x :: l,y :: m=>by simp[eqL,YH,VI l m]
 | [],y :: m=>by simp[eqL]
 | x :: l,[]=>by simp[eqL]
theorem Cm {l m:List Od}{i:Nat}(_hi:i<l.length)(_hl:l.length=m.length)(h:eqO l[i]! m[i]! = false):eqL l m=false:=by
 cases e:eqL l m with
 | false=>rfl
 | true =>
  rw[VI]at e;subst e;have:=(YH l[i]! l[i]!).2 rfl;rw[h]at this;cases this
theorem Cn {l m:List Od}(hl:l.length=m.length)(h:∀i,i<l.length->l[i]! = m[i]!):eqL l m=true:=by
 rw[VI]
 apply List.ext_getElem hl
 intro i h1 h2
 have:=h i h1
 rwa [Sj l i h1,Sj m i h2]at this
def YI (w:World)(b:Bool)(e:Ending)(w':World):Prop:=e=.returned (.bool b)/\Gw w w'
theorem qek (A B:Option Addr)(n c c':Nat)(L M:List Od)(w:World)(H:Ods w A n L)(K:Ods w B n M)(hn:n<=1000) :
  Calls prog 68 #[.slice A n c,.slice B n c'] w (YI w (eqL L M)):=by
 have mixed:prog.follows .mixedOrders=true:=by kernel_rfl
 obtain⟨hl,_,_,h⟩:=H
 obtain⟨kl,_,_,k⟩:=K
 have aJ:=Ou hl
 have tM:=Ou kl
 have HH:=Ou h
 have KK:=Ou k
 have HE:=Ou (λq:Nat=>(show YI w (eqL L M) (.returned (.bool (eqL L M))) (w.drewN q) from⟨rfl,⟨QJ (Oq _ _) _,Iw _ _⟩⟩))
 clear hl kl h k
 go_enter func68,ntmps68
 go_wp2
 go_loopg [13] n (λkx gP wr=>∃i q:Nat,gP=.int .i64 i/\i<=n/\n-i<=kx/\wr=w.drewN q/\Hid (∀j,j<i->L[j]! = M[j]!))
 case atStart=>exact⟨0,0,rfl,by omega,by omega,rfl,Ou (λj hj=>by omega)⟩
 case round =>
  obtain⟨i,q,rfl,hin,aP,rfl,HI⟩:=hrel;by_cases hlt:i<n
  ·have bE:(i:Int)<(n:Int):=by omega
   have h1:=HH.out;have k1:=KK.out;rcases h1 with h1 | ⟨b,off,rfl,_,hc⟩
   ·omega
   rcases k1 with k1 | ⟨b',off',rfl,_,kc⟩
   ·omega
   have hx:=hc i hlt;have hy:=kc i hlt;clear hc kc;obtain⟨x,ex⟩:∃x,L[i]! = x:=⟨_,rfl⟩
   obtain⟨y,ey⟩:∃y,M[i]! = y:=⟨_,rfl⟩
   rw[ex]at hx;rw[ey]at hy;have XY:Hid (L[i]! = x/\M[i]! = y):=⟨ex,ey⟩
   clear ex ey;obtain⟨x0,x1,x2,x3,x4,x5⟩:=hx;obtain⟨y0,y1,y2,y3,y4,y5⟩:=hy;have hq:=qeh x y
   cases he:eqO x y with
   | true =>
    rw[he]at hq
    have HN:Hid (∀j,j<i+1->L[j]! = M[j]!):=Ou (λj hj=>by
     by_cases e:j<i
     ·exact HI.out j e
     ·obtain rfl:j=i:=by omega
      rw[XY.out.1,XY.out.2];exact(YH x y).1 he)
    clear he;go_wp2_with fail
    go_quiet (fail)
    go_wp2_with fail
    go_roundg (n-(i+1))
    case measure=>omega
    case rel=>exact⟨i+1,q+nq,by go_num,by omega,by omega,(by first|rfl|exact World.drewN_drewN _ _ _),HN⟩
   | false =>
    rw[he]at hq;have HF:Hid (eqL L M=false):=Ou (Cm (i:=i) (by rw[aJ.out];exact hlt) (by rw[aJ.out,tM.out]) (by rw[XY.out.1,XY.out.2];exact he));clear he;go_wp2_with fail
    go_quiet (fail)
    go_wp2_with fail
    go_ret
    try rw[World.drewN_drewN]
    have:=HE.out (q+nq);rw[HF.out]at this;rw[HF.out];exact this
  ·have bE:¬(i:Int)<(n:Int):=by omega
   obtain rfl:i=n:=by omega
   have HF:Hid (eqL L M=true):=Ou (Cn (by rw[aJ.out,tM.out]) (λj hj=>HI.out j (by rw[aJ.out]at hj;exact hj)));go_wp2;go_ret;have:=HE.out q;rw[HF.out]at this;rw[HF.out];exact this
def eU (z:Int):Value:=.int .u64 z
theorem Co:OneCell eU:=λ_=>rfl
theorem Jh (x y:Int)(W:World):Calls prog 110 #[.int .u64 x,.int .u64 y] W λe w'=>e=.returned (.bool (ltInt x y))/\w'=W:=by
 have HN:=Ou G9
 cases h:ltInt x y with
 | true =>
  have h1:x<y:=by unfold ltInt at h;simpa using h
  go_enter func110,ntmps110;go_wp2_with ((with_reducible refine(HN.out _ _).mono ?_);rintro e w' ⟨rfl,rfl⟩)
  go_ret;exact⟨rfl,rfl⟩
 | false =>
  have h1:¬x<y:=by unfold ltInt at h;simpa using h
  have g1:decide (x<y)=false:=Sz h1;go_enter func110,ntmps110;go_wp2_with ((with_reducible refine(HN.out _ _).mono ?_);rintro e w' ⟨rfl,rfl⟩)
  go_ret;exact⟨rfl,rfl⟩
theorem qel (blk off cap a b:Nat)(za zb:Int)(d0 d:Array Int)(w0 w:World)(n:Nat)(ha:za=a)(hb':zb=b)(hn:n=d.size)(R:Row1 eU w0 blk off d0)(hs:d0.size=d.size)(S:SW eU w0 blk off d w)(hab:a<=b)(hb:b<=d.size)(hsz:d.size<4611686018427387904) :
  Calls prog 104 #[.slice (some ⟨blk,off,none⟩) n cap,.int .i64 za,.int .i64 zb] w λe w'=>e=.returned (.tuple #[]) /\
   ∃d',SW eU w0 blk off d' w'/\PermIn a b d d'/\SortedIn ltInt a b d':=by
 subst ha hb' hn
 have mixed:prog.follows .mixedOrders=true:=by kernel_rfl
 have S0:Aside (SW eU w0 blk off d w):=S
 have HS:=Ou hs
 have HL:=Ou Jh
 clear S hs
 go_enter func104,ntmps104
 go_wp2
 go_loopg [6] (b-a) (λkx s6 wr=>∃(i:Nat) (dk:Array Int),s6=.int .i64 i/\a<i/\i<=b+1/\b+1-i<=kx+1/\Aside (SW eU w0 blk off dk wr)/\PermIn a b d dk/\Hid (SortedIn ltInt a i dk))
 case atStart=>exact⟨a+1,d,by go_num,by omega,by omega,by omega,S0,permIn_refl _ _ _,Ou (λi j h1 h2 h3=>by omega)⟩
 case round =>
  clear S0;obtain⟨i,dk,rfl,hai,hib,aP,S1,bQ,HO⟩:=hrel;have HD:Hid (dk.size=d.size):=bQ.1;by_cases hlt:i<b
  ·have bE:(i:Int)<(b:Int):=by omega
   have eW:Hid (Ins ltInt a i i dk):=Ou ⟨λp q h1 h2 h3 h4 h5=>HO.out p q h1 h2 Oz,λq h1 h2=>by omega⟩;clear HO;go_wp2;go_loopg [7] i (λg2 s7 wr2=>∃(j:Nat) (dj:Array Int),s7=.int .i64 j/\a<=j/\j<=i/\j<=g2/\Aside (SW eU w0 blk off dj wr2)/\PermIn a b d dj/\Hid (Ins ltInt a j i dj))
   case atStart=>exact⟨i,dk,rfl,by omega,Sq _,Sq _,S1,bQ,eW⟩
   case round =>
    clear S1 eW bQ HD;obtain⟨j1,dj,rfl,rD,hji,hg2,S1,bQ,HI⟩:=hrel;have HD:Hid (dj.size=d.size):=bQ.1;by_cases hja:a<j1
    ·obtain⟨j,rfl⟩:∃j,j1=j+1:=⟨j1-1,by omega⟩
     have hjz:(a:Int)<(j:Int)+1:=by omega
     have wc:IntKind.i64.wrap ((j:Int)+1-1)=(j:Int):=by rw[Wz];omega
     have wc':IntKind.i64.wrap (j:Int)=(j:Int):=by rw[Wz];omega
     have bz:(j:Int)+1<(d.size:Int):=by omega
     have bt:((j:Int)+1).toNat=j+1:=by omega
     have b0:(0:Int)<=(j:Int)+1:=by omega
     have aA:=HD.out;obtain⟨x,hx⟩:∃x,dj[j+1]! = x:=⟨_,rfl⟩
     obtain⟨y,hy⟩:∃y,dj[j]! = y:=⟨_,rfl⟩
     have cx:=S1.out.c1 R (by rw[HD.out];exact HS.out.symm) (j+1) Oz;have cy:=S1.out.c1 R (by rw[HD.out];exact HS.out.symm) (j) Oz;rw[hx]at cx;rw[hy]at cy;have cx':wr.cell? ⟨blk,off+(j+1),none⟩=some (.int .u64 x):=cx;have cy':wr.cell? ⟨blk,off+(j),none⟩=some (.int .u64 y):=cy;clear cx cy;have XY:Hid (dj[j+1]! = x/\dj[j]! = y):=⟨hx,hy⟩
     clear hx hy;have bp:((j+1:Nat):Int)<(d.size:Int):=by omega
     have bq:((j:Nat):Int)<(d.size:Int):=by omega
     clear aA
     cases hl:ltInt x y with
     | true =>
      have HN:Hid (Ins ltInt a j i (swp dj (j+1) j)):=Ou (HI.out.step (by rw[XY.out.1,XY.out.2];exact hl) Oz (by rw[HD.out];omega));have kX:PermIn a b d (swp dj (j+1) j):=permIn_trans _ _ _ _ _ bQ (swp_permIn dj a b (j+1) j Oz Oz Oz Oz (by rw[HD.out];omega));go_wp2_with fail
      go_quiet ((go_at_call 110;with_reducible exact Ss (HL.out _ _ _)))
      go_wp2_with fail
      have S3:Aside (SW eU w0 blk off dj (wr.drewN nq)):=S1.out.drewN nq;clear cx' cy' S1 bQ HI hl;generalize wr.drewN nq=wq at S3 ⊢;have aA:=HD.out;have S2:=S3.out.swapped R (j+1) (j) Oz Oz;have ca:=S3.out.c1 R (by rw[HD.out];exact HS.out.symm) (j+1) Oz;have cb:=S3.out.c1 R (by rw[HD.out];exact HS.out.symm) (j) Oz;have fa:=S3.out.f1 R (by rw[HD.out];exact HS.out.symm) (j+1) Oz;have fb:=S3.out.f1 R (by rw[HD.out];exact HS.out.symm) (j) Oz;obtain⟨uc,cc⟩:=S3.out.c2 R (by rw[HD.out];exact HS.out.symm) (j+1) (j) Oz Oz (eU dj[j]!);generalize dj[j+1]! = vI at S2 ca cc;generalize dj[j]! = vJ at S2 cb cc
      replace S2:Aside (SW eU w0 blk off (swp dj (j+1) (j)) ((wq.setCell ⟨blk,off+(j+1),none⟩ (.int .u64 vJ)).setCell ⟨blk,off+(j),none⟩ (.int .u64 vI)).drew):=S2;replace ca:wq.cell? ⟨blk,off+(j+1),none⟩=some (.int .u64 vI):=ca;replace cb:wq.cell? ⟨blk,off+(j),none⟩=some (.int .u64 vJ):=cb;replace cc:(wq.setCell ⟨blk,off+(j+1),none⟩ (.int .u64 vJ)).cell? ⟨blk,off+(j),none⟩=some uc:=cc;clear S3;go_wp2_with fail
      go_big_region
      clear ca cb fa fb cc;generalize ((wq.setCell ⟨blk,off+(j+1),none⟩ (.int .u64 vJ)).setCell ⟨blk,off+(j),none⟩ (.int .u64 vI)).drew=w2 at S2 ⊢;clear aA
      all_goals go_wp2
      go_roundg j
      case measure=>omega
      case rel=>exact⟨j,swp dj (j+1) j,by go_num,by omega,by omega,Sq _,S2,kX,HN⟩
     | false =>
      have HN:Hid (SortedIn ltInt a (i+1) dj):=Ou (HI.out.stop swo_ltInt (.inr (by simp only[Nat.add_sub_cancel];rw[XY.out.1,XY.out.2];exact hl)));go_wp2_with fail
      go_quiet ((go_at_call 110;with_reducible exact Ss (HL.out _ _ _)))
      have S3:Aside (SW eU w0 blk off dj (wr.drewN nq)):=S1.out.drewN nq;clear cx' cy' S1 HI;generalize wr.drewN nq=wq at S3 ⊢;go_wp2;go_roundg (b-(i+1))
      case measure=>omega
      case rel=>exact⟨i+1,dj,by go_num,by omega,by omega,by omega,S3,bQ,HN⟩
    ·have hjz:¬(a:Int)<(j1:Int):=by omega
     have hjd:decide ((j1:Int) > (a:Int))=false:=Sz Oz;have HN:Hid (SortedIn ltInt a (i+1) dj):=Ou (HI.out.stop swo_ltInt (.inl Oz));go_wp2_with fail
     go_quiet ((go_at_call 110;with_reducible exact Ss (HL.out _ _ _)))
     have S3:Aside (SW eU w0 blk off dj (wr.drewN nq)):=S1.out.drewN nq;clear S1 HI;generalize wr.drewN nq=wq at S3 ⊢;go_wp2;go_roundg (b-(i+1))
     case measure=>omega
     case rel=>exact⟨i+1,dj,by go_num,by omega,by omega,by omega,S3,bQ,HN⟩
  ·have bE:¬(i:Int)<(b:Int):=by omega
   have HF:Hid (SortedIn ltInt a b dk):=Ou (λp q h1 h2 h3=>HO.out p q h1 h2 Oz);clear HO HD;go_wp2;go_end0;exact⟨rfl,dk,S1.out,bQ,HF.out⟩
theorem Cp (x:Int)(w:World)(h0:0<=x)(h1:x<=18446744073709551615):Calls prog 79 #[.int .u64 x] w λe w'=>e=.returned (.int .i64 (Lib.bitLen x.toNat))/\w'=w :=
 Any.bits_Len (ρ:=Tryz.bitsLenL_ren) Tryz.bitsLenL x w h0 h1
def Uj (n:Nat):Prop:=∀(blk off cap:Nat) (d:Array Int) (w:World),n=d.size->Holds eU w blk off d->blk<w.heap.size ->
 Calls prog 66 #[.slice (some ⟨blk,off,none⟩) n cap] w λe w'=>e=.returned (.tuple #[])/\∃d',SW eU w blk off d' w'/\PermIn 0 n d d'/\SortedIn ltInt 0 n d'
theorem qem (blk off cap:Nat)(d:Array Int)(w:World)(hH:Holds eU w blk off d)(hsz:d.size<=1000)(hcap:d.size<=cap) :
  Calls prog 67 #[.slice (some ⟨blk,off,none⟩) d.size cap] w λe w'=>e=.returned (.slice (some ⟨blk,off,none⟩) (compactUpTo d d.size).length cap)/\∃d',SW eU w blk off d' w':=by
 refine(AnyE.slices_Compact (ρ:=Tryz.compactL_ren) Tryz.compactL eU Co (EqlAt.intD _ _ _) (NeqAt.intD _ _ _) 0 Tryz.zeroValue35 blk off cap d w hH Oz hcap).mono ?_
 rintro e w' ⟨rfl,q,rfl⟩
 exact⟨rfl,_,q,#[],by unfold sortWorld;rw[grow_empty]⟩
def QW (L:List Od):Bool:=decide (L.length<=64)&&(L.all Qk&&(decide ((L.map Od.id).Nodup)&&eqL L (QZ L)))
theorem Cq (d:Array Int)(j:Nat):keeps d j=true↔j=0∨d[j-1]!≠d[j]!:=by
 unfold keeps;by_cases h:j=0<;>simp[h]<;>exact⟨λh e=>h e.symm,λh e=>h e.symm⟩
theorem qen {d d':Array Int}{n:Nat}(hn:d.size=n)(P:PermIn 0 n d d')(S:SortedIn ltInt 0 n d'):(compactUpTo d' n).length=n↔d.toList.Nodup:=by
 have hn':d'.size=n:=P.1.trans hn
 have e1:d'.extract 0 n=d':=by rw[<-hn'];exact It
 have e2:d.extract 0 n=d:=by rw[<-hn];exact It
 have hp:=P.2.2
 rw[e1,e2]at hp
 rw[<-hp.nodup_iff]
 unfold compactUpTo
 rw[Fv]
 have hl:((List.range n).filter (keeps d')).length=n↔∀j,j<n->keeps d' j=true:=by
  constructor
  ·intro h j hj;have:=List.length_filter_eq_length_iff.1 (h.trans List.length_range.symm);exact this j (List.mem_range.2 hj)
  ·intro h;rw[List.filter_eq_self.2 (λj hj=>h j (List.mem_range.1 hj)),List.length_range]
 rw[hl]
 constructor
 ·intro h;have hs:∀i j,i<j->j<n->d'[i]! < d'[j]!:=by
   intro i j hij hj
   induction j with
   | zero=>omega
   | succ j ih =>
    have h1:=S j (j+1) (As _) Oz hj;have h2:=(Cq d' (j+1)).1 (h (j+1) hj);unfold ltInt at h1;simp only[decide_eq_false_iff_not,Int.not_lt]at h1;have h3:d'[j]! < d'[j+1]!:=by
     rcases h2 with h2|h2
     ·omega
     ·simp only[Nat.add_sub_cancel]at h2;omega
    by_cases e:i=j
    ·subst e;exact h3
    ·exact Int.lt_trans (ih Oz Oz) h3
  unfold List.Nodup;rw[Is];intro i j hi hj hij;have:=hs i j hij (by simpa [hn'] using hj);rw[Sj d' i (by simpa using hi),Sj d' j (by simpa using hj)]at this;simp only[Array.getElem_toList];omega
 ·intro h j hj;rw[Cq];by_cases e:j=0
  ·exact .inl e
  ·right
   unfold List.Nodup at h;rw[Is]at h;have:=h (j-1) j (by simp[hn'];omega) (by simp[hn'];omega) Oz;rw[Sj d' (j-1) Oz,Sj d' j (by omega)];simpa using this
theorem Cr {w0 w:World}{blk:Nat}{d:Array Int}{B:Nat}(S:SW eU w0 blk 0 d w)(hB:B<=blk)(hs:B<=w0.heap.size):Below B w0 w:=by
 obtain⟨n,os,rfl⟩:=S
 refine⟨rfl,rfl,rfl,?_,λj hj=>?_⟩
 ·unfold sortWorld;rw[size_grow,size_putRow];exact Iw _ _
 ·unfold sortWorld;rw[heap_grow_old _ _ (by rw[size_putRow];show j<w0.heap.size;omega)];unfold putRow mapBlock;show (w0.heap.modify blk _)[j]? = _;rw[Array.getElem?_modify,Sw (by omega)]
theorem qeo {w:World}{base n g cap:Nat}{zs:List Int}(h:w.ownsRow base 35 1 (.slice (some ⟨g,0,none⟩) n cap) n (zs.map eU)):zs.length=n/\n<=cap/\g<w.heap.size/\Holds eU w g 0 zs.toArray:=by
 obtain⟨h1,h2⟩:=h
 rw[Fv,Mx]at h1
 rcases h2 with ⟨h0,_⟩ | ⟨k,cap',cur,hv,hb,hk,hc,hm,hs,ht⟩
 ·cases h0
 ·injection hv with e1 e2 e3;injection e1 with e1;injection e1 with e1;subst e1 e3;refine⟨h1,hc,Qc hk,λj hj=>⟨?_,frozen_of_row _ _ _ _ _ hk⟩⟩;have hj':j<zs.length:=by simpa using hj
  have hx:(zs.map eU)[j]? = some (eU zs.toArray[j]!):=by
   rw[List.getElem?_map,List.getElem?_eq_getElem hj',Sj zs.toArray j hj];rfl
  rw[Ij,cell_of_row _ _ _ _ _ _ hk];rw[<-ht,List.getElem?_take,Sx Oz,Array.getElem?_toList]at hx;exact hx
theorem qep (z:Int):∀u∈[Value.int .u64 z],u.oneCell'=true:=by
 intro u hu;simp at hu;subst hu;rfl
def idc (L:List Od)(i:Nat):List Value:=((L.take i).map Od.id).map eU
theorem qeq {L:List Od}{i:Nat}(h:i<L.length):idc L (i+1)=idc L i++[.int .u64 (L[i]!).id]:=by
 unfold idc
 rw[Ek h,Mw,Mw,Sj L i h];rfl
theorem Uk:(prog.info? 35).map (λi=>(i.zero,i.size,i.bytes))=some (some (.int .u64 0),1,8):=by kernel_rfl
def Ul (w:World)(b:Bool)(e:Ending)(w':World):Prop:=e=.returned (.bool b)/\Ok w w'
theorem qer {L:List Od}(h:¬L.length<=64):QW L=false:=by unfold QW;rw[Sz h,Fj]
theorem qes {L:List Od}{i:Nat}(hi:i<L.length)(h:Qk L[i]! = false):QW L=false:=by
 unfold QW
 have:L.all Qk=false:=by
  rw[List.all_eq_false];exact⟨L[i]!,by rw[Sj L i hi];exact Wt _,by rw[h];exact Bool.false_ne_true⟩
 rw[this,Fj,Fk]
theorem qet {L:List Od}(h:¬(L.map Od.id).Nodup):QW L=false:=by
 unfold QW
 rw[Sz h,Fj,Fk,Fk]
theorem qeu {L:List Od}(h1:L.length<=64)(h2:∀i,i<L.length->Qk L[i]! = true)(h3:(L.map Od.id).Nodup):QW L=eqL L (QZ L):=by
 unfold QW
 have:L.all Qk=true:=by
  rw[List.all_eq_true];intro x hx;obtain⟨i,hi,rfl⟩:=List.getElem_of_mem hx;have:=h2 i hi
  rwa [Sj L i hi]at this
 rw[Sy h1,this,Sy h3]
 rfl
section
variable {ops:Array Oper}{rest:List Oper}{o:Oper}{a:Act}{w:World}{Q:Exit → Act → World → Prop}
end
theorem qev (A:Option Addr)(n c:Nat)(L:List Od)(w:World)(hl:L.length=n)(h:¬n<=64):Calls prog 43 #[.slice A n c] w (Ul w (QW L)):=by
 have e:QW L=false:=qer Oz
 rw[e]
 have hz:(64:Int)<(n:Int):=by omega
 clear h
 go_enter func43,ntmps43
 go_wp2_with fail
 go_ret
 exact⟨rfl,Below.refl _ _⟩
def qew (A:Option Addr)(n c:Nat):Prop:=n<=c/\(A=none->c=0)
theorem VJ {w:World}{base n:Nat}{T:TypeId}{v:Value}{L:List Od}(h:w.ownsRow base T 6 v n (ol L))(hn:n<=1000)(hok:∀x∈L,Od.ok w x):∃A c,v=.slice A n c/\qew A n c/\Ods w A n L:=by
 obtain⟨h1,h2⟩:=h
 rw[Jg]at h1
 have hl:L.length=n:=by omega
 rcases h2 with ⟨hv,h0⟩ | ⟨k,cap,cur,hv,_,hk,hc,hm,hs,ht⟩
 ·subst h0;exact⟨none,0,hv,⟨Sq _,λ_=>rfl⟩,hl,by omega,hok,.inl rfl⟩
 ·refine⟨_,_,hv,⟨hc,λh=>by cases h⟩,hl,by omega,hok,.inr ⟨k,0,rfl,Qc hk,λi hi=>?_⟩⟩;have hcell:∀j v,(ol L)[j]? = some v->w.cell? ⟨k,0+j,none⟩=some v:=by
   intro j v hj;rw[<-ht,List.getElem?_take]at hj
   split at hj
   ·rw[Array.getElem?_toList]at hj;rw[Ij,cell_of_row _ _ _ _ _ _ hk,hj]
   ·cases hj
  have g:∀c v,c<6->(Qn L[i]!)[c]? = some v->w.cell? ⟨k,0+i*6+c,none⟩=some v:=λc v hc hv=>by
   rw[Nat.add_assoc];exact hcell (i*6+c) v ((Kq L i c Oz hc).trans hv)
  exact⟨g 0 _ Oz rfl,g 1 _ Oz rfl,g 2 _ Oz rfl,g 3 _ Oz rfl,g 4 _ Oz rfl,g 5 _ Oz rfl⟩
theorem qex {L:List Od}{k:Nat}(h:k<L.length):ol (L.take (k+1))=ol (L.take k)++Qn L[k]!:=by
 unfold ol
 rw[Ek h,Wv,Sj L k h]
 simp
theorem Cs (L:List Od)(x:Od):ol (L++[x])=ol L++Qn x:=by
 unfold ol
 rw[Wv]
 simp
theorem Ct (w:World)(x:Od):∀(j:Nat) (u:Value),(Qn x)[j]? = some u->(w.alloc (Obj.cells (OC x) 49)).cell? ((⟨w.heap.size,0,none⟩:Addr).add j)=some u:=by
 intro j u hu
 rw[QP,cell_of_row _ _ _ _ _ _ (heap_alloc_new w _)]
 match j,hu with
 | 0,hu=>simpa [Qn] using hu
 | 1,hu=>simpa [Qn] using hu
 | 2,hu=>simpa [Qn] using hu
 | 3,hu=>simpa [Qn] using hu
 | 4,hu=>simpa [Qn] using hu
 | 5,hu=>simpa [Qn] using hu
theorem YJ:(prog.info? 49).map (λi=>(i.zero,i.size,i.bytes))=some (some (.agg (OC ⟨0,0,0,0,0,0⟩)),6,48):=by kernel_rfl
theorem Jr (x:Od):∀u∈Qn x,u.oneCell'=true:=λu hu=>Uf (x,0) u hu
theorem qey (A B:Option Addr)(n c c':Nat)(L M:List Od)(w:World)(H:Ods w A n L)(K:Ods w B n M)(hn:n<=1000) :
  Calls prog 14 #[.slice A n c,.slice B n c'] w (YI w (eqL L M)):=by
 have mixed:prog.follows .mixedOrders=true:=by kernel_rfl
 obtain⟨hl,_,_,h⟩:=H
 obtain⟨kl,_,_,k⟩:=K
 have aJ:=Ou hl
 have tM:=Ou kl
 have HH:=Ou h
 have KK:=Ou k
 have HE:=Ou (λq:Nat=>(show YI w (eqL L M) (.returned (.bool (eqL L M))) (w.drewN q) from⟨rfl,⟨QJ (Oq _ _) _,Iw _ _⟩⟩))
 clear hl kl h k
 go_enter func14,ntmps14
 have enn:((n:Int)==(n:Int))=true:=by simp
 go_wp2
 go_loopg [13] n (λkx gP wr=>∃i q:Nat,gP=.int .i64 i/\i<=n/\n-i<=kx/\wr=w.drewN q/\Hid (∀j,j<i->L[j]! = M[j]!))
 case atStart=>exact⟨0,0,rfl,by omega,by omega,rfl,Ou (λj hj=>by omega)⟩
 case round =>
  obtain⟨i,q,rfl,hin,aP,rfl,HI⟩:=hrel;by_cases hlt:i<n
  ·have bE:(i:Int)<(n:Int):=by omega
   have h1:=HH.out;have k1:=KK.out;rcases h1 with h1 | ⟨b,off,rfl,_,hc⟩
   ·omega
   rcases k1 with k1 | ⟨b',off',rfl,_,kc⟩
   ·omega
   have hx:=hc i hlt;have hy:=kc i hlt;clear hc kc;obtain⟨x,ex⟩:∃x,L[i]! = x:=⟨_,rfl⟩
   obtain⟨y,ey⟩:∃y,M[i]! = y:=⟨_,rfl⟩
   rw[ex]at hx;rw[ey]at hy;have XY:Hid (L[i]! = x/\M[i]! = y):=⟨ex,ey⟩
   clear ex ey;obtain⟨x0,x1,x2,x3,x4,x5⟩:=hx;obtain⟨y0,y1,y2,y3,y4,y5⟩:=hy;have hq:=qej x y
   cases he:eqO x y with
   | true =>
    rw[he]at hq
    have HN:Hid (∀j,j<i+1->L[j]! = M[j]!):=Ou (λj hj=>by
     by_cases e:j<i
     ·exact HI.out j e
     ·obtain rfl:j=i:=by omega
      rw[XY.out.1,XY.out.2];exact(YH x y).1 he)
    clear he;go_wp2_with fail
    go_quiet (fail)
    go_wp2_with fail
    go_roundg (n-(i+1))
    case measure=>omega
    case rel=>exact⟨i+1,q+nq,by go_num,by omega,by omega,(by first|rfl|exact World.drewN_drewN _ _ _),HN⟩
   | false =>
    rw[he]at hq;have HF:Hid (eqL L M=false):=Ou (Cm (i:=i) (by rw[aJ.out];exact hlt) (by rw[aJ.out,tM.out]) (by rw[XY.out.1,XY.out.2];exact he));clear he;go_wp2_with fail
    go_quiet (fail)
    go_wp2_with fail
    go_ret
    try rw[World.drewN_drewN]
    have:=HE.out (q+nq);rw[HF.out]at this;rw[HF.out];exact this
  ·have bE:¬(i:Int)<(n:Int):=by omega
   obtain rfl:i=n:=by omega
   have HF:Hid (eqL L M=true):=Ou (Cn (by rw[aJ.out,tM.out]) (λj hj=>HI.out j (by rw[aJ.out]at hj;exact hj)));go_wp2;go_ret;have:=HE.out q;rw[HF.out]at this;rw[HF.out];exact this
def x1:Od:=⟨1,0,1,10,1,2⟩
def x2:Od:=⟨2,0,1,11,1,3⟩
def x3:Od:=⟨3,0,1,10,1,1⟩
end
section
open Go.RowKit
theorem KN (w:World):(zeroValue 169).run prog w=.ok (.agg (NC 0 false)) w:=by kernel_rfl
theorem qez:(prog.info? 169).map (·.size)=some 137:=by kernel_rfl
theorem KO (m:Nat)(s:Bool):(prog.info? 169).map (·.size)=some (NC m s).size:=by rw[qez,VB]
theorem VK {w:World}{n:Nat}{c c':Array Value}{t:TypeId}(h:n=w.heap.size):(w.alloc (.cells c t)).setRow n c'=w.alloc (.cells c' t):=by
 subst h;exact World.setRow_alloc_new w c c' t
theorem JO {w:World}{n:Nat}{c':Array Value}{o:Obj}(h:n<w.heap.size):(w.alloc o).setRow n c'=(w.setRow n c').alloc o:=by
 simp only[World.setRow,World.alloc]
 congr 1
 apply Array.ext_getElem?
 intro i
 simp only[Array.getElem?_modify,Array.getElem?_push,Array.size_modify]
 by_cases h1:n=i
 ·subst h1;simp[show ¬n=w.heap.size by omega]
 ·simp[h1]
theorem qeA {w:World}{g m:Nat}{s r:Bool}{t:TypeId}(h:w.heap[g]? = some (.cells (NC m s) t (0,0))):(w.setCell ⟨g,136,none⟩ (.bool r)).heap[g]? = some (.cells (NC m r) t (0,0)):=by
 rw[heap_setCell_same _ _ _ _ _ _ h,XU]
theorem Cu {w:World}{g m:Nat}{s v:Bool}{t:TypeId}(h:w.heap[g]? = some (.cells (NC (2*m) s) t (0,0))):(w.setCell ⟨g,0,none⟩ (.bool v)).heap[g]? = some (.cells (NC (2*m+if v then 1 else 0) s) t (0,0)):=by
 rw[heap_setCell_same _ _ _ _ _ _ h,qcs]
theorem JD {w:World}{g:Nat}{a:Addr}{v:Value}{p:Obj}(hne:g≠a.block)(h:w.heap[g]? = some p):(w.setCell a v).heap[g]? = some p:=by
 rw[heap_setCell_other _ _ _ _ hne];exact h
theorem JP {w:World}{g:Nat}{c c':Array Value}{t:TypeId}(h:w.heap[g]? = some (.cells c t (0,0))):(w.setRow g c').heap[g]? = some (.cells c' t (0,0)):=setRow_heap w g c c' t _ h
theorem Zc {w:World}{g k:Nat}{c':Array Value}{p:Obj}(hne:k≠g)(h:w.heap[k]? = some p):(w.setRow g c').heap[k]? = some p:=by rw[setRow_other w g k c' hne];exact h
theorem Below.row {B g:Nat}{w0 w:World}(hb:Below B w0 w)(hBg:B<=g)(cs:Array Value):Below B w0 (w.setRow g cs) :=
 hb.trans ⟨rfl,rfl,rfl,by simp[World.setRow],λk hk=>setRow_other w g k cs Oz⟩
section
variable {ops:Array Oper}{rest:List Oper}{o:Oper}{a:Act}{w:World}{Q:Exit → Act → World → Prop}
theorem Q4 (hgd:Region.wanted o (yielded ops a.tmps)=true)(x:Operand)(ho:o.op=.load 169 x)(g:Nat)(hx:a.eval x=.pointer (some ⟨g,0,none⟩))(m:Nat)(s:Bool)
  (hg:w.heap[g]? = some (.cells (NC m s) 169 (0,0))) (h:wpList prog ops Q rest (a.put o.dst (.agg (NC m s))) w):wpList prog ops Q (o :: rest) a w :=
 BigFrame.wpList_want hgd λ_ hK=>wp_load_row _ x ho g hx _ _ (0,0) _ hg underlying169 rfl (KO m s) (hK _ _ h)
theorem Js (hgd:Region.wanted o (yielded ops a.tmps)=true)(x y:Operand)(ho:o.op=.store 169 x y)(g:Nat)(m:Nat)(s:Bool)(hx:a.eval x=.pointer (some ⟨g,0,none⟩))(hy:a.eval y=.agg (NC m s))(m':Nat)(s':Bool)
  (hg:w.heap[g]? = some (.cells (NC m' s') 169 (0,0))) (h:wpList prog ops Q rest (a.put o.dst undef) (w.setRow g (NC m s))):wpList prog ops Q (o :: rest) a w :=
 BigFrame.wpList_want hgd λ_ hK=>wp_store_row _ x y ho g _ hx hy _ _ hg (KO m s) (by rw[VB,VB]) (Dc m s) (hK _ _ h)
theorem ZB {w0:World}(hgd:Region.wanted o (yielded ops a.tmps)=true)(x y:Operand)(ho:o.op=.store 169 x y)(g:Nat)(m:Nat)(s:Bool)(hx:a.eval x=.pointer (some ⟨g,0,none⟩))(hy:a.eval y=.agg (NC m s))(m':Nat)(s':Bool)
  (hg:g=w0.heap.size) (h:wpList prog ops Q rest (a.put o.dst undef) (w0.alloc (.cells (NC m s) 169))):wpList prog ops Q (o :: rest) a (w0.alloc (.cells (NC m' s') 169)):=by
 subst hg
 refine Js hgd x y ho _ m s hx hy m' s' (ZY rfl) ?_
 rw[VK rfl]
 exact h
theorem ZC {w0:World}{p1:Obj}(hgd:Region.wanted o (yielded ops a.tmps)=true)(x y:Operand)(ho:o.op=.store 169 x y)(g:Nat)(m:Nat)(s:Bool)(hx:a.eval x=.pointer (some ⟨g,0,none⟩))(hy:a.eval y=.agg (NC m s))(m':Nat)(s':Bool)
  (hg:g=w0.heap.size) (h:wpList prog ops Q rest (a.put o.dst undef) ((w0.alloc (.cells (NC m s) 169)).alloc p1)):wpList prog ops Q (o :: rest) a ((w0.alloc (.cells (NC m' s') 169)).alloc p1):=by
 subst hg
 refine Js hgd x y ho _ m s hx hy m' s' (Zz (by simp only[World.size_alloc];omega) (ZY rfl)) ?_
 rw[JO (by simp only[World.size_alloc];omega),VK rfl]
 exact h
theorem ZD {w0:World}{p1 p2:Obj}(hgd:Region.wanted o (yielded ops a.tmps)=true)(x y:Operand)(ho:o.op=.store 169 x y)(g:Nat)(m:Nat)(s:Bool)(hx:a.eval x=.pointer (some ⟨g,0,none⟩))(hy:a.eval y=.agg (NC m s))(m':Nat)(s':Bool)
  (hg:g=w0.heap.size) (h:wpList prog ops Q rest (a.put o.dst undef) (((w0.alloc (.cells (NC m s) 169)).alloc p1).alloc p2)):wpList prog ops Q (o :: rest) a (((w0.alloc (.cells (NC m' s') 169)).alloc p1).alloc p2):=by
 subst hg
 refine Js hgd x y ho _ m s hx hy m' s' (Zz (by simp only[World.size_alloc];omega) (Zz (by simp only[World.size_alloc];omega) (ZY rfl))) ?_
 rw[JO (by simp only[World.size_alloc];omega),JO (by simp only[World.size_alloc];omega),VK rfl]
 exact h
theorem ZE {w0:World}{p1 p2 p3:Obj}(hgd:Region.wanted o (yielded ops a.tmps)=true)(x y:Operand)(ho:o.op=.store 169 x y)(g:Nat)(m:Nat)(s:Bool)(hx:a.eval x=.pointer (some ⟨g,0,none⟩))(hy:a.eval y=.agg (NC m s))(m':Nat)(s':Bool)
  (hg:g=w0.heap.size) (h:wpList prog ops Q rest (a.put o.dst undef) ((((w0.alloc (.cells (NC m s) 169)).alloc p1).alloc p2).alloc p3)):wpList prog ops Q (o :: rest) a ((((w0.alloc (.cells (NC m' s') 169)).alloc p1).alloc p2).alloc p3):=by
 subst hg
 refine Js hgd x y ho _ m s hx hy m' s' (Zz (by simp only[World.size_alloc];omega) (Zz (by simp only[World.size_alloc];omega) (Zz (by simp only[World.size_alloc];omega) (ZY rfl)))) ?_
 rw[JO (by simp only[World.size_alloc];omega),JO (by simp only[World.size_alloc];omega),JO (by simp only[World.size_alloc];omega),VK rfl]
 exact h
theorem ZF {w0:World}{p1 p2 p3 p4:Obj}(hgd:Region.wanted o (yielded ops a.tmps)=true)(x y:Operand)(ho:o.op=.store 169 x y)(g:Nat)(m:Nat)(s:Bool)(hx:a.eval x=.pointer (some ⟨g,0,none⟩))(hy:a.eval y=.agg (NC m s))(m':Nat)(s':Bool)
  (hg:g=w0.heap.size) (h:wpList prog ops Q rest (a.put o.dst undef) (((((w0.alloc (.cells (NC m s) 169)).alloc p1).alloc p2).alloc p3).alloc p4)):wpList prog ops Q (o :: rest) a (((((w0.alloc (.cells (NC m' s') 169)).alloc p1).alloc p2).alloc p3).alloc p4):=by
 subst hg
 refine Js hgd x y ho _ m s hx hy m' s' (Zz (by simp only[World.size_alloc];omega) (Zz (by simp only[World.size_alloc];omega) (Zz (by simp only[World.size_alloc];omega) (Zz (by simp only[World.size_alloc];omega) (ZY rfl))))) ?_
 rw[JO (by simp only[World.size_alloc];omega),JO (by simp only[World.size_alloc];omega),JO (by simp only[World.size_alloc];omega),JO (by simp only[World.size_alloc];omega),VK rfl]
 exact h
theorem KP {K:Act->World->Prop}{E:Prop}(hgd:Region.wanted o (yielded ops a.tmps)=true)(x:Operand)(ho:o.op=.load 169 x)(g:Nat)(hx:a.eval x=.pointer (some ⟨g,0,none⟩))(m:Nat)(s:Bool)
  (hg:w.heap[g]? = some (.cells (NC m s) 169 (0,0))) (h:K (a.put o.dst (.agg (NC m s))) w):if Region.wanted o (yielded ops a.tmps)=true then Oper.wp prog o a w K Q else E:=by
 rw[Sx hgd]
 exact wp_load_row _ x ho g hx _ _ (0,0) _ hg underlying169 rfl (KO m s) h
theorem Ks {K:Act->World->Prop}{E:Prop}(hgd:Region.wanted o (yielded ops a.tmps)=true)(x y:Operand)(ho:o.op=.store 169 x y)(g:Nat)(m:Nat)(s:Bool)(hx:a.eval x=.pointer (some ⟨g,0,none⟩))(hy:a.eval y=.agg (NC m s))(m':Nat)(s':Bool)
  (hg:w.heap[g]? = some (.cells (NC m' s') 169 (0,0))) (h:K (a.put o.dst undef) (w.setRow g (NC m s))):if Region.wanted o (yielded ops a.tmps)=true then Oper.wp prog o a w K Q else E:=by
 rw[Sx hgd]
 exact wp_store_row _ x y ho g _ hx hy _ _ hg (KO m s) (by rw[VB,VB]) (Dc m s) h
theorem qeB {fn:Func}{p q:Tmp}(h:fn.results=#[.cell p 169,.cell q 169])(tmps:Array Value)(w:World)(g g':Nat)(hp:tmps.getD p undef=.pointer (some ⟨g,0,none⟩))(hq:tmps.getD q undef=.pointer (some ⟨g',0,none⟩))(m m':Nat)(s s':Bool)
  (hg:w.heap[g]? = some (.cells (NC m s) 169 (0,0))) (hg':w.heap[g']? = some (.cells (NC m' s') 169 (0,0))):(results fn tmps).run prog w=.ok (.tuple #[.agg (NC m s),.agg (NC m' s')]) w:=by
 have hp':tmps[p]?.getD undef=.pointer (some ⟨g,0,none⟩):=by simpa using hp
 have hq':tmps[q]?.getD undef=.pointer (some ⟨g',0,none⟩):=by simpa using hq
 simp[results,h,hp',hq',asAddr,run_loadVar_row w g _ _ _ (0,0) _ hg underlying169 rfl (KO m s),run_loadVar_row w g' _ _ _ (0,0) _ hg' underlying169 rfl (KO m' s')]
theorem Kt {fn:Func}{p:Tmp}(h:fn.results=#[.cell p 169])(tmps:Array Value)(w:World)(g:Nat)(hp:tmps.getD p undef=.pointer (some ⟨g,0,none⟩))(m:Nat)(s:Bool)
  (hg:w.heap[g]? = some (.cells (NC m s) 169 (0,0))):(results fn tmps).run prog w=.ok (.agg (NC m s)) w :=
 results_cell_row h tmps w g _ _ (0,0) _ hp hg underlying169 rfl (KO m s)
end
end
section
open Go.RowKit
theorem Um (a b:Nat)(s t:Bool)(w:World) :
  Calls prog 102 #[.agg (NC a s),.agg (NC b t)] w λe w'=>e=.returned (.agg (NC (a+b) false))/\Ok w w':=by
 have hz:=KN
 go_enter func102,ntmps102
 go_wp2
 go_loopw [6,7] (λc i wr=>∃k:Nat,k<=136/\i=.int .i64 k/\c=.bool (ZI a b k) /\
   wr=(((w.alloc (.cells (NC a s) 169)).alloc (.cells (NC b t) 169)).alloc (.cells (NC 0 false) 169)).alloc (.cells (NCf (below (a+b).testBit k) false) 169)) (λ_ i _=>136-(intOf i).toNat)
 case atStart=>exact⟨0,by omega,rfl,by rw[De],by rw[Yn]⟩
 case round =>
  obtain⟨k,hk,rfl,rfl,rfl⟩:=hrel;by_cases hlt:k<136
  ·have ⟨h1,h2⟩:=Df a b k;have g1:=ZW a s k hlt;have g2:=ZW b t k hlt;generalize a.testBit k=x at *;generalize b.testBit k=y at *;generalize ZI a b k=z at *;have H1:=Ou h1;clear h1;have H2:=Ou h2;clear h2;have g3:=Jo (below (a+b).testBit k) false k hlt
   cases x<;>cases y<;>cases z
   all_goals
    go_wp2;exact⟨⟨k+1,by omega,by go_num,by rw[H2.out];rfl,by rw[K9 _ _ _ _ hlt (by rw[H1.out];rfl)]⟩,by simp[intOf];omega⟩
  ·obtain rfl:k=136:=by omega
   rw[Dg];go_wp2_with (first|((with_reducible apply Q4);rfl;rfl;rfl;(exact zf0);skip)|(first|((with_reducible apply ZB);rfl;rfl;rfl;rfl;(exact zf4);skip)|((with_reducible apply ZC);rfl;rfl;rfl;rfl;(exact zf4);skip)|((with_reducible apply ZD);rfl;rfl;rfl;rfl;(exact zf4);skip)|((with_reducible apply ZE);rfl;rfl;rfl;rfl;(exact zf4);skip)|((with_reducible apply ZF);rfl;rfl;rfl;rfl;(exact zf4);skip))|((with_reducible apply bodyPost_ret);(apply Kt;rfl;rfl;(exact zf0));rfl;skip))
   go_grown
end
section
open Go.RowKit
theorem qeC (a b:Nat)(s t:Bool)(hab:b<=a)(w:World) :
  Calls prog 131 #[.agg (NC a s),.agg (NC b t)] w λe w'=>e=.returned (.agg (NC (a-b) false))/\Ok w w':=by
 have hz:=KN
 go_enter func131,ntmps131
 go_wp2
 go_loopw [6,7] (λc i wr=>∃k:Nat,k<=136/\i=.int .i64 k/\c=.int .i64 (b2i (ZI b (a-b) k)) /\
   wr=(((w.alloc (.cells (NC a s) 169)).alloc (.cells (NC b t) 169)).alloc (.cells (NC 0 false) 169)).alloc (.cells (NCf (below (a-b).testBit k) false) 169)) (λ_ i _=>136-(intOf i).toNat)
 case atStart=>exact⟨0,by omega,rfl,by rw[De];rfl,by rw[Yn]⟩
 case round =>
  obtain⟨k,hk,rfl,rfl,rfl⟩:=hrel;by_cases hlt:k<136
  ·have ⟨h1,h2⟩:=qcl a b k hab;have g1:=ZW a s k hlt;have g2:=ZW b t k hlt;generalize a.testBit k=x at *;generalize b.testBit k=y at *;generalize ZI b (a-b) k=z at *;have H1:=Ou h1;clear h1;have H2:=Ou h2;clear h2;have g3:=Jo (below (a-b).testBit k) false k hlt
   cases x<;>cases y<;>cases z
   all_goals
    simp only[b2i];go_wp2;exact⟨⟨k+1,by omega,by go_num,by rw[H2.out];rfl,by rw[K9 _ _ _ _ hlt (by rw[H1.out];rfl)]⟩,by simp[intOf];omega⟩
  ·obtain rfl:k=136:=by omega
   rw[Dg];go_wp2_with (first|((with_reducible apply Q4);rfl;rfl;rfl;(exact zf0);skip)|(first|((with_reducible apply ZB);rfl;rfl;rfl;rfl;(exact zf4);skip)|((with_reducible apply ZC);rfl;rfl;rfl;rfl;(exact zf4);skip)|((with_reducible apply ZD);rfl;rfl;rfl;rfl;(exact zf4);skip)|((with_reducible apply ZE);rfl;rfl;rfl;rfl;(exact zf4);skip)|((with_reducible apply ZF);rfl;rfl;rfl;rfl;(exact zf4);skip))|((with_reducible apply bodyPost_ret);(apply Kt;rfl;rfl;(exact zf0));rfl;skip))
   go_grown
end
section
open Go.RowKit
theorem Un (m:Nat)(s:Bool)(b:Bool)(hm:m<2 ^ 136)(hb:b=decide (m=0))(w:World) :
  Calls prog 99 #[.agg (NC m s)] w λe w'=>e=.returned (.bool b)/\Ok w w':=by
 have hz0:=qck m hm
 have Hm:=Ou hm;clear hm
 have Hb:=Ou hb;clear hb
 have Hz:=Ou hz0;clear hz0
 go_enter func99,ntmps99
 go_wp2
 go_loop [3] (λi=>∃k:Nat,k<=136/\i=.int .i64 k/\(∀j,j<k->m.testBit j=false)) (λi=>136-(intOf i).toNat)
 case atStart=>exact⟨0,by omega,rfl,by omega⟩
 case round =>
  obtain⟨k,hk,rfl,hf⟩:=hrel;have Hf:=Ou hf;clear hf;by_cases hlt:k<136
  ·have g1:=ZW m s k hlt;obtain⟨x,hx⟩:∃x,x=m.testBit k:=⟨_,rfl⟩
   rw[<-hx]at g1;have Hx:=Ou hx;clear hx
   cases x
   ·go_wp2;refine⟨⟨k+1,by omega,by go_num,λj hj=>?_⟩,by simp[intOf];omega⟩;by_cases e:j=k
    ·subst e;exact Hx.out.symm
    ·exact Hf.out j Oz
   ·go_wp2;go_ret;refine⟨JK ?_,by go_grown⟩;rw[Hb.out];refine(Sz ?_).symm;intro h0;have:=(Hz.out.1 h0) k hlt;rw[<-Hx.out]at this
    cases this
  ·obtain rfl:k=136:=by omega
   go_wp2;go_ret;refine⟨JK ?_,by go_grown⟩;rw[Hb.out];exact(Sy (Hz.out.2 Hf.out)).symm
end
section
open Go.RowKit
theorem qeD (x:Int)(h0:-9223372036854775808<=x)(h1:x<=9223372036854775807):x.natAbs<2 ^ 64:=by omega
theorem qeE (x:Int)(h0:-9223372036854775808<=x)(h1:x<=9223372036854775807)(w:World) :
  Calls prog 97 #[.int .i64 x] w λe w'=>e=.returned (.agg (NC x.natAbs (decide (x<0))))/\Ok w w':=by
 have hz:=KN
 have ha:=qeD x h0 h1
 have Ha:=Ou ha;clear ha
 have g1:=Jb 0 false
 have g2:=XU 0 false true
 have g3:=XU 0 false false
 obtain⟨m,hm⟩:∃m,m=x.natAbs:=⟨_,rfl⟩
 rw[<-hm]
 by_cases hneg:x<0
 ·have hd:decide (x<0)=true:=Sy hneg;have g4:=Jb 0 true;rw[hd];have Hst:Hid (IntKind.u64.wrap (IntKind.u64.wrap (18446744073709551615-IntKind.u64.wrap x)+1)=((m / 2 ^ 0:Nat):Int)):=by
   show _=_;simp only[Lu];omega
  have Hm:=Ou hm;clear hm;go_enter func97,ntmps97;go_wp2
  go_loopw [4,5] (λu i wr=>∃k:Nat,k<=64/\i=.int .i64 k/\u=.int .u64 ((m / 2 ^ k:Nat):Int) /\
   wr=(w.alloc (.cells (NC 0 false) 169)).alloc (.cells (NCf (below m.testBit k) true) 169)) (λ_ i _=>64-(intOf i).toNat)
  case atStart=>exact⟨0,by omega,rfl,by rw[Hst.out],by rw[Yn]⟩
  case round=>
   obtain⟨k,hk,rfl,rfl,rfl⟩:=hrel;by_cases hlt:k<64
   ·have g5:=Jo (below m.testBit k) true k Oz;have h1:=ZX m k;have h2:=Ko m k;have hb:m / 2 ^ k<=18446744073709551615:=Sk (Lk _ _) (by have:=Ha.out;have:=Hm.out;omega);have H1:=Ou h1;clear h1;have H2:=Ou h2;clear h2;generalize m / 2 ^ k=q at *;rcases Nat.mod_two_eq_zero_or_one q with e|e
    ·have e1:((q:Int) % 2==1)=false:=by simp;omega
     have E:=Ou e;clear e;go_wp2;exact⟨⟨k+1,by omega,by go_num,by rw[H2.out];simp,by rw[K9 _ _ _ _ Oz (by rw[H1.out];simp[E.out])]⟩,by simp[intOf];omega⟩
    ·have e1:((q:Int) % 2==1)=true:=by simp;omega
     have E:=Ou e;clear e;go_wp2;exact⟨⟨k+1,by omega,by go_num,by rw[H2.out];simp,by rw[K9 _ _ _ _ Oz (by rw[H1.out];simp[E.out])]⟩,by simp[intOf];omega⟩
   ·obtain rfl:k=64:=by omega
    rw[Dh _ _ (by have:=Ha.out;have:=Hm.out;omega)];go_wp2_with (first|((with_reducible apply Q4);rfl;rfl;rfl;(exact zf0);skip)|(first|((with_reducible apply ZB);rfl;rfl;rfl;rfl;(exact zf4);skip)|((with_reducible apply ZC);rfl;rfl;rfl;rfl;(exact zf4);skip)|((with_reducible apply ZD);rfl;rfl;rfl;rfl;(exact zf4);skip)|((with_reducible apply ZE);rfl;rfl;rfl;rfl;(exact zf4);skip)|((with_reducible apply ZF);rfl;rfl;rfl;rfl;(exact zf4);skip))|((with_reducible apply bodyPost_ret);(apply Kt;rfl;rfl;(exact zf0));rfl;skip))
    go_grown
 ·have hd:decide (x<0)=false:=Sz hneg;rw[hd];have Hst:Hid (x=((m / 2 ^ 0:Nat):Int)):=by
   show _=_;omega
  have Hm:=Ou hm;clear hm;go_enter func97,ntmps97;go_wp2
  go_loopw [4,5] (λu i wr=>∃k:Nat,k<=64/\i=.int .i64 k/\u=.int .u64 ((m / 2 ^ k:Nat):Int) /\
   wr=(w.alloc (.cells (NC 0 false) 169)).alloc (.cells (NCf (below m.testBit k) false) 169)) (λ_ i _=>64-(intOf i).toNat)
  case atStart=>exact⟨0,by omega,rfl,by rw[<-Hst.out],by rw[Yn]⟩
  case round=>
   obtain⟨k,hk,rfl,rfl,rfl⟩:=hrel;by_cases hlt:k<64
   ·have g5:=Jo (below m.testBit k) false k Oz;have h1:=ZX m k;have h2:=Ko m k;have hb:m / 2 ^ k<=18446744073709551615:=Sk (Lk _ _) (by have:=Ha.out;have:=Hm.out;omega);have H1:=Ou h1;clear h1;have H2:=Ou h2;clear h2;generalize m / 2 ^ k=q at *;rcases Nat.mod_two_eq_zero_or_one q with e|e
    ·have e1:((q:Int) % 2==1)=false:=by simp;omega
     have E:=Ou e;clear e;go_wp2;exact⟨⟨k+1,by omega,by go_num,by rw[H2.out];simp,by rw[K9 _ _ _ _ Oz (by rw[H1.out];simp[E.out])]⟩,by simp[intOf];omega⟩
    ·have e1:((q:Int) % 2==1)=true:=by simp;omega
     have E:=Ou e;clear e;go_wp2;exact⟨⟨k+1,by omega,by go_num,by rw[H2.out];simp,by rw[K9 _ _ _ _ Oz (by rw[H1.out];simp[E.out])]⟩,by simp[intOf];omega⟩
   ·obtain rfl:k=64:=by omega
    rw[Dh _ _ (by have:=Ha.out;have:=Hm.out;omega)];go_wp2_with (first|((with_reducible apply Q4);rfl;rfl;rfl;(exact zf0);skip)|(first|((with_reducible apply ZB);rfl;rfl;rfl;rfl;(exact zf4);skip)|((with_reducible apply ZC);rfl;rfl;rfl;rfl;(exact zf4);skip)|((with_reducible apply ZD);rfl;rfl;rfl;rfl;(exact zf4);skip)|((with_reducible apply ZE);rfl;rfl;rfl;rfl;(exact zf4);skip)|((with_reducible apply ZF);rfl;rfl;rfl;rfl;(exact zf4);skip))|((with_reducible apply bodyPost_ret);(apply Kt;rfl;rfl;(exact zf0));rfl;skip))
    go_grown
end
section
open Go.RowKit
theorem YK (a b:Nat)(s t:Bool)(r:Bool)(ha:a<2 ^ 136)(hb:b<2 ^ 136)(hr:r=decide (a<b))(w:World) :
  Calls prog 101 #[.agg (NC a s),.agg (NC b t)] w λe w'=>e=.returned (.bool r)/\Ok w w':=by
 have ht:=qcn a b ha hb
 have Ha:=Ou ha;clear ha
 have Hb:=Ou hb;clear hb
 have Hr:=Ou hr;clear hr
 have Ht:=Ou ht;clear ht
 go_enter func101,ntmps101
 go_wp2
 go_loopw [5] (λi wr=>∃k:Nat,k<=136/\i=.int .i64 ((k:Int)-1)/\Hid (a / 2 ^ k=b / 2 ^ k)/\wr.heap[w.heap.size]? = some (.cells (NC a s) 169 (0,0))/\wr.heap[w.heap.size+1]? = some (.cells (NC b t) 169 (0,0))/\Ok w wr) (λi _=>(intOf i+1).toNat)
 case atStart=>exact⟨136,by omega,rfl,Ht,(by(exact zf0)),(by(exact zf0)),by go_grown⟩
 case round =>
  obtain⟨k,hk,rfl,hf,h0,h1,pG⟩:=hrel;by_cases hlt:0<k
  ·obtain⟨j,rfl⟩:∃j,k=j+1:=⟨k-1,by omega⟩
   rw[show (((j+1:Nat):Int)-1)=(j:Int) by omega];have hj:j<136:=by omega
   have ⟨s1,s2⟩:=qcm a b j hf.out;have c1:wr.cell? ⟨w.heap.size,j,none⟩=some (.bool (a.testBit j)):=by rw[cell_of_row wr _ j _ _ _ h0,ZW a s j hj]
   have c2:wr.cell? ⟨w.heap.size+1,j,none⟩=some (.bool (b.testBit j)):=by rw[cell_of_row wr _ j _ _ _ h1,ZW b t j hj]
   have H0:=Ou h0;clear h0;have H1:=Ou h1;clear h1;generalize a.testBit j=x at *;generalize b.testBit j=y at *;have q0:(0:Int)<=(j:Int):=by omega
   have q1:(j:Int)<136:=by omega
   cases x<;>cases y
   ·have S1:=Ou (s1 rfl);clear s1 s2;go_wp2;go_quiet (fail)
    go_wp2;exact⟨⟨j,by omega,rfl,S1.out,H0.out,H1.out,QJ pG _⟩,by simp[intOf]⟩
   ·have S1:=Ou (Sy ((s2 Oy).2 rfl));clear s1 s2;go_wp2;go_quiet (fail)
    go_wp2;go_ret;exact⟨JK (by rw[Hr.out];exact S1.out.symm),QJ pG _⟩
   ·have S1:=Ou (Sz (λh=>Bool.false_ne_true ((s2 Oy).1 h)));clear s1 s2;go_wp2;go_quiet (fail)
    go_wp2;go_ret;exact⟨JK (by rw[Hr.out];exact S1.out.symm),QJ pG _⟩
   ·have S1:=Ou (s1 rfl);clear s1 s2;go_wp2;go_quiet (fail)
    go_wp2;exact⟨⟨j,by omega,rfl,S1.out,H0.out,H1.out,QJ pG _⟩,by simp[intOf]⟩
  ·obtain rfl:k=0:=by omega
   go_wp2;go_ret;refine⟨JK ?_,pG⟩;rw[Hr.out];refine(Sz ?_).symm;have:=hf.out;simp at this;omega
end
section
open Go.RowKit
theorem YL (m:Nat)(s:Bool)(w:World) :
  Calls prog 100 #[.agg (NC m s)] w λe w'=>e=.returned (.agg (NC (2*m) s))/\Ok w w':=by
 have hz:=KN
 go_enter func100,ntmps100
 go_wp2_with (first|((with_reducible apply Q4);rfl;rfl;rfl;(exact zf0);skip)|(first|((with_reducible apply ZB);rfl;rfl;rfl;rfl;(exact zf4);skip)|((with_reducible apply ZC);rfl;rfl;rfl;rfl;(exact zf4);skip)|((with_reducible apply ZD);rfl;rfl;rfl;rfl;(exact zf4);skip)|((with_reducible apply ZE);rfl;rfl;rfl;rfl;(exact zf4);skip)|((with_reducible apply ZF);rfl;rfl;rfl;rfl;(exact zf4);skip))|((with_reducible apply bodyPost_ret);(apply Kt;rfl;rfl;(exact zf0));rfl;skip))
 go_loopw [4] (λi wr=>∃k:Nat,k<=135/\i=.int .i64 k /\
   wr=((w.alloc (.cells (NC m s) 169)).alloc (.cells (NC 0 false) 169)).alloc (.cells (NCf (up m.testBit k) s) 169)) (λi _=>(intOf i).toNat)
 case atStart=>exact⟨135,by omega,rfl,by rw[qcp]⟩
 case round =>
  obtain⟨k,hk,rfl,rfl⟩:=hrel;by_cases hlt:0<k
  ·obtain⟨j,rfl⟩:∃j,k=j+1:=⟨k-1,by omega⟩
   have g1:=ZW m s j Oz;have g3:=Jo (up m.testBit (j+1)) s (j+1) Oz;have q0:(0:Int)<=(j:Int):=by omega
   have q1:(j:Int)<135:=by omega
   go_wp2;exact⟨⟨j,by omega,rfl,by rw[qco _ _ _ Oz _ rfl]⟩,by simp[intOf]⟩
  ·obtain rfl:k=0:=by omega
   have g3:=Jo (up m.testBit 0) s 0 Oz;have he:=qcr m s;go_wp2_with (first|((with_reducible apply Q4);rfl;rfl;rfl;(exact zf0);skip)|(first|((with_reducible apply ZB);rfl;rfl;rfl;rfl;(exact zf4);skip)|((with_reducible apply ZC);rfl;rfl;rfl;rfl;(exact zf4);skip)|((with_reducible apply ZD);rfl;rfl;rfl;rfl;(exact zf4);skip)|((with_reducible apply ZE);rfl;rfl;rfl;rfl;(exact zf4);skip)|((with_reducible apply ZF);rfl;rfl;rfl;rfl;(exact zf4);skip))|((with_reducible apply bodyPost_ret);(apply Kt;rfl;rfl;(exact zf0));rfl;skip))
   go_grown
end
section
open Go.RowKit
def NZ (x:Int):Array Value:=NC x.natAbs (decide (x<0))
end
section
open Go.RowKit
theorem qeF (a b k:Nat):a*(b % 2 ^ (k+1))=a*(b % 2 ^ k)+(if b.testBit k then a*2 ^ k else 0):=by
 rw[XV,By]
 cases b.testBit k<;>simp
theorem qeG (a b:Nat)(s t:Bool)(m:Nat)(r:Bool)(ha:a<2 ^ 64)(hb:b<2 ^ 64)
  (hm:m=a*b) (hr:r=((s != t)&&!decide (m=0))) (w:World) :
  Calls prog 96 #[.agg (NC a s),.agg (NC b t)] w λe w'=>e=.returned (.agg (NC m r))/\Ok w w':=by
 have hz:=KN
 have g1:=Jb a s
 have g2:=Jb b t
 have Hm:Hid (m<2 ^ 136):=by
  show _<_;rw[hm];exact Ww (Nat.mul_lt_mul'' ha hb) (by rw[<-Nat.pow_add];exact Hu Oz Oz)
 have Ha:=Ou ha;clear ha
 have Hb:=Ou hb;clear hb
 have Hmm:=Ou hm;clear hm
 have Hr:=Ou hr;clear hr
 go_enter func96,ntmps96
 go_wp2_with (first|((with_reducible apply Q4);rfl;rfl;rfl;(exact zf0);skip)|(first|((with_reducible apply ZB);rfl;rfl;rfl;rfl;(exact zf4);skip)|((with_reducible apply ZC);rfl;rfl;rfl;rfl;(exact zf4);skip)|((with_reducible apply ZD);rfl;rfl;rfl;rfl;(exact zf4);skip)|((with_reducible apply ZE);rfl;rfl;rfl;rfl;(exact zf4);skip)|((with_reducible apply ZF);rfl;rfl;rfl;rfl;(exact zf4);skip)))
 go_loopw [7] (λi wr=>∃k:Nat,k<=64/\i=.int .i64 k/\Hid (wr.heap[w.heap.size]? = some (.cells (NC a s) 169 (0,0)))/\Hid (wr.heap[w.heap.size+1]? = some (.cells (NC b t) 169 (0,0))) /\
   Hid (wr.heap[w.heap.size+1+1]? = some (.cells (NC 0 false) 169 (0,0)))/\Hid (wr.heap[w.heap.size+1+1+1]? = some (.cells (NC (a*(b % 2 ^ k)) false) 169 (0,0))) /\
   Hid (wr.heap[w.heap.size+1+1+1+1]? = some (.cells (NC (a*2 ^ k) s) 169 (0,0)))/\w.heap.size+5<=wr.heap.size/\Ok w wr) (λi _=>64-(intOf i).toNat)
 case atStart =>
  refine⟨0,by omega,rfl,by show _=_;(exact zf0),by show _=_;(exact zf0),by show _=_;(exact zf0),?_,?_,by simp,by(exact zf1)⟩
  ·show _=_;rw[show a*(b % 2 ^ 0)=0 by simp[Nat.mod_one]];(exact zf0)
  ·show _=_;rw[show a*2 ^ 0=a by simp];(exact zf0)
 case round =>
  obtain⟨k,hk,rfl,h0,h1,h2,h3,h4,z1,hB⟩:=hrel;by_cases hlt:k<64
  ·have c1:wr.cell? ⟨w.heap.size+1,k,none⟩=some (.bool (b.testBit k)):=by rw[cell_of_row wr _ _ _ _ _ h1.out,ZW b t k (by omega)]
   have nN:=qeF a b k;generalize b.testBit k=y at *;have H5:Hid (2*(a*2 ^ k)=a*2 ^ (k+1)):=by show _=_;rw[Hw];grind
   cases y
   ·have jQ:a*(b % 2 ^ k)=a*(b % 2 ^ (k+1)):=by rw[nN];simp
    have H6:=Ou jQ;clear nN jQ;have q4:=h4.out;go_wp2_with (first|((with_reducible apply Q4);rfl;rfl;rfl;(exact zf0);skip))
    clear q4;((with_reducible refine(YL _ _ _).mono ?_);rintro e w1 ⟨rfl,hb1⟩);rw[H5.out];have y0:Hid (w1.heap[w.heap.size]? = some (.cells (NC a s) 169 (0,0))):=(hb1.block _ Oz).trans h0;have y1:Hid (w1.heap[w.heap.size+1]? = some (.cells (NC b t) 169 (0,0))):=(hb1.block _ Oz).trans h1;have y2:Hid (w1.heap[w.heap.size+1+1]? = some (.cells (NC 0 false) 169 (0,0))):=(hb1.block _ Oz).trans h2;have y3:Hid (w1.heap[w.heap.size+1+1+1]? = some (.cells (NC (a*(b % 2 ^ k)) false) 169 (0,0))):=(hb1.block _ Oz).trans h3;have y4:w1.heap[w.heap.size+1+1+1+1]? = some (.cells (NC (a*2 ^ k) s) 169 (0,0)):=(hb1.block _ Oz).trans h4
    have yz:w.heap.size+5<=w1.heap.size:=by have:=hb1.size;omega
    have yB:Ok w w1:=hB.trans (hb1.mono Oz);clear hb1 h0 h1 h2 h3 h4 z1 hB c1;go_wp2_with (first|((with_reducible apply Js);rfl;rfl;rfl;rfl;(exact zf0);skip))
    refine⟨⟨k+1,by omega,by go_num,Zc Oz y0.out,Zc Oz y1.out,Zc Oz y2.out,?_,JP y4,by simp;omega,by(exact zf1)⟩,by simp[intOf];omega⟩;show _=_;rw[<-H6.out];exact Zc Oz y3.out
   ·have jQ:a*(b % 2 ^ k)+a*2 ^ k=a*(b % 2 ^ (k+1)):=by rw[nN];simp
    have H6:=Ou jQ;clear nN jQ;have q4:=h4.out;have q3:=h3.out;go_wp2_with (first|((with_reducible apply Q4);rfl;rfl;rfl;(exact zf0);skip))
    clear q4 q3;((with_reducible refine(Um _ _ _ _ _).mono ?_);rintro e w1 ⟨rfl,hb1⟩);rw[H6.out];have y0:Hid (w1.heap[w.heap.size]? = some (.cells (NC a s) 169 (0,0))):=(hb1.block _ Oz).trans h0;have y1:Hid (w1.heap[w.heap.size+1]? = some (.cells (NC b t) 169 (0,0))):=(hb1.block _ Oz).trans h1;have y2:Hid (w1.heap[w.heap.size+1+1]? = some (.cells (NC 0 false) 169 (0,0))):=(hb1.block _ Oz).trans h2;have y3:w1.heap[w.heap.size+1+1+1]? = some (.cells (NC (a*(b % 2 ^ k)) false) 169 (0,0)):=(hb1.block _ Oz).trans h3;have y4:w1.heap[w.heap.size+1+1+1+1]? = some (.cells (NC (a*2 ^ k) s) 169 (0,0)):=(hb1.block _ Oz).trans h4
    have yz:w.heap.size+5<=w1.heap.size:=by have:=hb1.size;omega
    have yB:Ok w w1:=hB.trans (hb1.mono Oz);clear hb1 h0 h1 h2 h3 h4 z1 hB c1;go_wp2_with (first|((with_reducible apply Js);rfl;rfl;rfl;rfl;(exact zf0);skip)|((with_reducible apply Q4);rfl;rfl;rfl;(exact zf0);skip))
    ((with_reducible refine(YL _ _ _).mono ?_);rintro e w2 ⟨rfl,hb2⟩);rw[H5.out];have x0:Hid (w2.heap[w.heap.size]? = some (.cells (NC a s) 169 (0,0))):=(hb2.block _ (by(exact zf3))).trans (Zc Oz y0.out);have x1:Hid (w2.heap[w.heap.size+1]? = some (.cells (NC b t) 169 (0,0))):=(hb2.block _ (by(exact zf3))).trans (Zc Oz y1.out);have x2:Hid (w2.heap[w.heap.size+1+1]? = some (.cells (NC 0 false) 169 (0,0))):=(hb2.block _ (by(exact zf3))).trans (Zc Oz y2.out);have x3:Hid (w2.heap[w.heap.size+1+1+1]? = some (.cells (NC (a*(b % 2 ^ (k+1))) false) 169 (0,0))):=(hb2.block _ (by(exact zf3))).trans (JP y3)
    have x4:w2.heap[w.heap.size+1+1+1+1]? = some (.cells (NC (a*2 ^ k) s) 169 (0,0)):=(hb2.block _ (by(exact zf3))).trans (Zc Oz y4);have xz:w.heap.size+5<=w2.heap.size:=by have:=hb2.size;simp at this;omega
    have xB:Ok w w2:=Below.trans (by(exact zf1)) (hb2.mono (by simp;omega));clear hb2 y0 y1 y2 y3 y4 yz yB;go_wp2_with (first|((with_reducible apply Js);rfl;rfl;rfl;rfl;(exact zf0);skip))
    exact⟨⟨k+1,by omega,by go_num,Zc Oz x0.out,Zc Oz x1.out,Zc Oz x2.out,Zc Oz x3.out,JP x4,by simp;omega,by(exact zf1)⟩,by simp[intOf];omega⟩
  ·obtain rfl:k=64:=by omega
   have xU:a*(b % 2 ^ 64)=m:=by rw[Nat.mod_eq_of_lt Hb.out];exact Hmm.out.symm
   rw[xU]at h3;clear xU;have c0:wr.cell? ⟨w.heap.size,136,none⟩=some (.bool s):=by rw[cell_of_row wr _ _ _ _ _ h0.out,Jb]
   have c1:wr.cell? ⟨w.heap.size+1,136,none⟩=some (.bool t):=by rw[cell_of_row wr _ _ _ _ _ h1.out,Jb]
   have c3:wr.cell? ⟨w.heap.size+1+1+1,136,none⟩=some (.bool false):=by rw[cell_of_row wr _ _ _ _ _ h3.out,Jb]
   have f3:wr.frozen? ⟨w.heap.size+1+1+1,136,none⟩=false:=frozen_of_row wr _ _ _ _ h3.out;have hr:=Hr.out;by_cases hst:s=t
   ·obtain rfl:r=false:=by rw[hr,hst];simp
    have e1:(s != t)=false:=by simp[hst]
    have e2:(s==t)=true:=by simp[hst]
    clear hr;have Hst:=Ou hst;clear hst;have q3:=h3.out;have q2:=h2.out;go_wp2_with (first|((with_reducible apply Q4);rfl;rfl;rfl;(exact zf0);skip)|(first|((with_reducible apply ZB);rfl;rfl;rfl;rfl;(exact zf4);skip)|((with_reducible apply ZC);rfl;rfl;rfl;rfl;(exact zf4);skip)|((with_reducible apply ZD);rfl;rfl;rfl;rfl;(exact zf4);skip)|((with_reducible apply ZE);rfl;rfl;rfl;rfl;(exact zf4);skip)|((with_reducible apply ZF);rfl;rfl;rfl;rfl;(exact zf4);skip))|((with_reducible apply Js);rfl;rfl;rfl;rfl;(exact zf0);skip)|((with_reducible apply bodyPost_ret);(apply Kt;rfl;rfl;(exact zf0));rfl;skip))
    first|exact⟨rfl,by(exact zf1)⟩|(exact zf1)
   ·have e1:(s != t)=true:=by simp[hst]
    have e2:(s==t)=false:=by simp[hst]
    obtain⟨bz,hbz⟩:∃bz,bz=decide (m=0):=⟨_,rfl⟩
    have Hbz:=Ou hbz;obtain rfl:r=!bz:=by rw[hr,e1,<-hbz];rfl
    clear hr hbz;have Hst:=Ou hst;clear hst;have q3:=h3.out;go_wp2_with (first|((with_reducible apply Q4);rfl;rfl;rfl;(exact zf0);skip))
    ((with_reducible refine(Un m _ bz Hm.out Hbz.out _).mono ?_);rintro e w2 ⟨rfl,hb2⟩);have x3:w2.heap[w.heap.size+1+1+1]? = some (.cells (NC m false) 169 (0,0)):=(hb2.block _ (by(exact zf3))).trans q3;have x2:w2.heap[w.heap.size+1+1]? = some (.cells (NC 0 false) 169 (0,0)):=(hb2.block _ (by(exact zf3))).trans h2.out;have xz:w.heap.size+5<=w2.heap.size:=by have:=hb2.size;omega
    have xB:Ok w w2:=hB.trans (hb2.mono Oz);have yc:w2.cell? ⟨w.heap.size+1+1+1,136,none⟩=some (.bool false):=by rw[cell_of_row _ _ _ _ _ _ x3,Jb]
    have yf:w2.frozen? ⟨w.heap.size+1+1+1,136,none⟩=false:=frozen_of_row _ _ _ _ _ x3;clear hb2 hB z1 h0 h1 h2 h3 h4 q3 c0 c1 c3 f3
    cases bz
    all_goals
     go_wp2_with (first|((with_reducible apply Q4);rfl;rfl;rfl;(exact zf0);skip)|(first|((with_reducible apply ZB);rfl;rfl;rfl;rfl;(exact zf4);skip)|((with_reducible apply ZC);rfl;rfl;rfl;rfl;(exact zf4);skip)|((with_reducible apply ZD);rfl;rfl;rfl;rfl;(exact zf4);skip)|((with_reducible apply ZE);rfl;rfl;rfl;rfl;(exact zf4);skip)|((with_reducible apply ZF);rfl;rfl;rfl;rfl;(exact zf4);skip))|((with_reducible apply Js);rfl;rfl;rfl;rfl;(exact zf0);skip)|((with_reducible apply bodyPost_ret);(apply Kt;rfl;rfl;(exact zf0));rfl;skip))
     first|exact⟨rfl,by(exact zf1)⟩|(exact zf1)
end
section
open Go.RowKit
def Zl (f:Nat->Bool)(k:Nat):Nat->Bool:=λj=>decide (k<=j)&&f j
theorem qeH (m:Nat)(s:Bool):NCf (Zl m.testBit 0) s=NC m s:=by
 unfold NC;apply Jp;intro j _;simp[Zl]
theorem qeI (m:Nat)(s:Bool):NCf (Zl m.testBit 136) s=NC 0 s:=by
 unfold NC;apply Jp;intro j hj;simp[Zl];omega
theorem qeJ (f:Nat->Bool)(s:Bool)(k:Nat)(hk:k<136)(hv:f k=true):(NCf (Zl f (k+1)) s).setIfInBounds k (.bool true)=NCf (Zl f k) s:=by
 rw[VA _ _ _ _ hk]
 apply Jp
 intro j _
 unfold Zl
 by_cases e:j=k
 ·subst e;simp[hv]
 ·rw[Sw e];by_cases h1:k<=j
  ·simp[h1,show k+1<=j by omega]
  ·simp[h1,show ¬k+1<=j by omega]
theorem qeK (f:Nat->Bool)(s:Bool)(k:Nat)(hv:f k=false):NCf (Zl f (k+1)) s=NCf (Zl f k) s:=by
 apply Jp
 intro j _
 unfold Zl
 by_cases e:j=k
 ·subst e;simp[hv]
 ·by_cases h1:k<=j
  ·simp[h1,show k+1<=j by omega]
  ·simp[h1,show ¬k+1<=j by omega]
theorem qeL (a b j:Nat)(hb:0<b):(a / b).testBit j=decide (b<=2*(a / 2 ^ (j+1) % b)+(if a.testBit j then 1 else 0)) /\
  a / 2 ^ j % b=if b<=2*(a / 2 ^ (j+1) % b)+(if a.testBit j then 1 else 0) then 2*(a / 2 ^ (j+1) % b)+(if a.testBit j then 1 else 0)-b else 2*(a / 2 ^ (j+1) % b)+(if a.testBit j then 1 else 0):=by
 have e1:a / 2 ^ j=2*(a / 2 ^ (j+1))+(if a.testBit j then 1 else 0):=by
  rw[Ko,ZX];have:a / 2 ^ j % 2=0∨a / 2 ^ j % 2=1:=by omega
  rcases this with h|h<;>simp[h]<;>omega
 have e2:a / b / 2 ^ j=a / 2 ^ j / b:=by rw[Ly,Ly,Lv]
 rw[ZX (a / b),e2,e1]
 obtain⟨c,hc,hc1⟩:∃c:Nat,c=(if a.testBit j then 1 else 0)/\c<=1:=⟨_,rfl,by split<;>omega⟩
 rw[<-hc]
 generalize a / 2 ^ (j+1)=x
 have e3:2*x+c=b*(2*(x / b))+(2*(x % b)+c):=by
  have:=Lj x b
  grind
 have hl:x % b<b:=Lz _ hb
 rw[e3,Nat.mul_add_div hb,Bq]
 generalize x % b=y at *
 generalize x / b=z at *
 by_cases h:b<=2*y+c
 ·have h1:(2*y+c) / b=1:=by
   rw[Nat.div_eq_iff hb];omega
  have h2:(2*y+c) % b=2*y+c-b:=by
   rw[Nat.mod_eq_sub_mod h,Nat.mod_eq_of_lt (by omega)]
  rw[h1,Bq,h2,Sx h];exact⟨by simp[h],rfl⟩
 ·have h1:(2*y+c) / b=0:=Lw Oz;have h2:(2*y+c) % b=2*y+c:=Nat.mod_eq_of_lt Oz;rw[h1,Bq,h2,Sw h];exact⟨by simp[h],rfl⟩
theorem qeM (f:Nat->Bool)(s:Bool)(k i:Nat)(h:i<136):(NCf (Zl f k) s)[i]? = some (.bool (Zl f k i)):=Jo _ _ _ h
theorem qeN {w:World}{g k:Nat}{f:Nat->Bool}{s:Bool}{t:TypeId}(hk:k<136)(hv:f k=true)(h:w.heap[g]? = some (.cells (NCf (Zl f (k+1)) s) t (0,0))) :
  (w.setCell ⟨g,k,none⟩ (.bool true)).heap[g]? = some (.cells (NCf (Zl f k) s) t (0,0)):=by
 rw[heap_setCell_same _ _ _ _ _ _ h,qeJ f s k hk hv]
theorem qeO (a b:Nat)(s t:Bool)(ha:a<2 ^ 136)(hb0:0<b)(hb:b<2 ^ 134)(w:World) :
  Calls prog 98 #[.agg (NC a s),.agg (NC b t)] w λe w'=>e=.returned (.tuple #[.agg (NC (a / b) false),.agg (NC (a % b) false)])/\Ok w w':=by
 have hz:=KN
 have Ha:=Ou ha;clear ha
 have Hb:=Ou hb;clear hb
 have qY:=Ou hb0;clear hb0
 go_enter func98,ntmps98
 go_wp2
 go_loopw [8] (λi wr=>∃k:Nat,k<=136/\i=.int .i64 ((k:Int)-1)/\Hid (wr.heap[w.heap.size]? = some (.cells (NC a s) 169 (0,0)))/\Hid (wr.heap[w.heap.size+1]? = some (.cells (NC b t) 169 (0,0)))/\Hid (wr.heap[w.heap.size+1+1]? = some (.cells (NC 0 false) 169 (0,0)))/\Hid (wr.heap[w.heap.size+1+1+1]? = some (.cells (NC 0 false) 169 (0,0)))/\Hid (wr.heap[w.heap.size+1+1+1+1]? = some (.cells (NCf (Zl (a / b).testBit k) false) 169 (0,0)))/\Hid (wr.heap[w.heap.size+1+1+1+1+1]? = some (.cells (NC (a / 2 ^ k % b) false) 169 (0,0)))/\w.heap.size+6<=wr.heap.size/\Ok w wr) (λi _=>(intOf i+1).toNat)
 case atStart =>
  refine⟨136,by omega,rfl,by show _=_;(exact zf0),by show _=_;(exact zf0),by show _=_;(exact zf0),by show _=_;(exact zf0),?_,?_,by simp,by(exact zf1)⟩
  ·show _=_;rw[qeI];(exact zf0)
  ·show _=_;rw[show a / 2 ^ 136 % b=0 by rw[Lw Ha.out];simp];(exact zf0)
 case round =>
  obtain⟨k,hk,rfl,h0,h1,h2,h3,h4,h5,z1,hB⟩:=hrel;by_cases hlt:0<k
  ·obtain⟨j,rfl⟩:∃j,k=j+1:=⟨k-1,by omega⟩
   rw[show (((j+1:Nat):Int)-1)=(j:Int) by omega];have hj:j<136:=by omega
   have ⟨d1,d2⟩:=qeL a b j qY.out;obtain⟨x,hx⟩:∃x,x=a.testBit j:=⟨_,rfl⟩
   rw[<-hx]at d1 d2;have hyb:a / 2 ^ (j+1) % b<b:=Lz _ qY.out;have hq1:(a / b).testBit j=false->NCf (Zl (a / b).testBit (j+1)) false=NCf (Zl (a / b).testBit j) false:=λh=>qeK _ _ _ h;obtain⟨y,hy⟩:∃y,y=a / 2 ^ (j+1) % b:=⟨_,rfl⟩
   rw[<-hy]at d1 d2 hyb h5;obtain⟨r,hr⟩:∃r,r=2*y+(if x then 1 else 0):=⟨_,rfl⟩
   rw[<-hr]at d1 d2;have nV:r<2 ^ 136:=by rw[hr];have:=Hb.out;split<;>omega
   have mY:b<2 ^ 136:=by have:=Hb.out;omega
   have D1:=Ou d1;clear d1;have D2:=Ou d2;clear d2;have Hx:=Ou hx;clear hx;have Hy:=Ou hy;clear hy;have Hr:=Ou hr;clear hr;have xD:=Ou hq1;clear hq1;have Hyb:=Ou hyb;clear hyb;have mV:=Ou nV;clear nV;have mU:=Ou mY;clear mY;have q0:(0:Int)<=(j:Int):=by omega
   have q1:(j:Int)<136:=by omega
   have q5:=h5.out;go_wp2_with (first|((with_reducible apply Q4);rfl;rfl;rfl;(exact zf0);skip))
   clear q5;((with_reducible refine(YL _ _ _).mono ?_);rintro e w1 ⟨rfl,hb1⟩);have y0:Hid (w1.heap[w.heap.size]? = some (.cells (NC a s) 169 (0,0))):=(hb1.block _ Oz).trans h0;have y1:Hid (w1.heap[w.heap.size+1]? = some (.cells (NC b t) 169 (0,0))):=(hb1.block _ Oz).trans h1;have y2:Hid (w1.heap[w.heap.size+1+1]? = some (.cells (NC 0 false) 169 (0,0))):=(hb1.block _ Oz).trans h2;have y3:Hid (w1.heap[w.heap.size+1+1+1]? = some (.cells (NC 0 false) 169 (0,0))):=(hb1.block _ Oz).trans h3;have y4:Hid (w1.heap[w.heap.size+1+1+1+1]? = some (.cells (NCf (Zl (a / b).testBit (j+1)) false) 169 (0,0))):=(hb1.block _ Oz).trans h4
   have y5:w1.heap[w.heap.size+1+1+1+1+1]? = some (.cells (NC y false) 169 (0,0)):=(hb1.block _ Oz).trans h5;have yz:w.heap.size+6<=w1.heap.size:=by have:=hb1.size;omega
   have yB:Ok w w1:=hB.trans (hb1.mono Oz);clear hb1 h0 h1 h2 h3 h4 h5 z1 hB;have c0:(w1.setRow (w.heap.size+1+1+1+1+1) (NC (2*y) false)).cell? ⟨w.heap.size,j,none⟩=some (.bool x):=by rw[cell_of_row _ _ _ _ _ _ (Zc Oz y0.out),ZW _ _ _ hj,<-Hx.out]
   have c5:(w1.setRow (w.heap.size+1+1+1+1+1) (NC (2*y) false)).cell? ⟨w.heap.size+1+1+1+1+1,0,none⟩=some (.bool ((2*y).testBit 0)):=by rw[cell_of_row _ _ _ _ _ _ (JP y5),ZW _ _ _ (by omega)]
   have f5:(w1.setRow (w.heap.size+1+1+1+1+1) (NC (2*y) false)).frozen? ⟨w.heap.size+1+1+1+1+1,0,none⟩=false:=frozen_of_row _ _ _ _ _ (JP y5);have Y5:=Ou y5;clear y5;obtain⟨wx,hwx⟩:∃wx,wx=(w1.setRow (w.heap.size+1+1+1+1+1) (NC (2*y) false)).setCell ⟨w.heap.size+1+1+1+1+1,0,none⟩ (.bool x):=⟨_,rfl⟩
   have x5:wx.heap[w.heap.size+1+1+1+1+1]? = some (.cells (NC r false) 169 (0,0)):=by rw[hwx,Hr.out];exact Cu (JP Y5.out)
   have x1:wx.heap[w.heap.size+1]? = some (.cells (NC b t) 169 (0,0)):=by rw[hwx];exact JD (by(exact zf3)) (Zc Oz y1.out)
   have x0:Hid (wx.heap[w.heap.size]? = some (.cells (NC a s) 169 (0,0))):=by show _=_;rw[hwx];exact JD (by(exact zf3)) (Zc Oz y0.out)
   have x2:Hid (wx.heap[w.heap.size+1+1]? = some (.cells (NC 0 false) 169 (0,0))):=by show _=_;rw[hwx];exact JD (by(exact zf3)) (Zc Oz y2.out)
   have x3:Hid (wx.heap[w.heap.size+1+1+1]? = some (.cells (NC 0 false) 169 (0,0))):=by show _=_;rw[hwx];exact JD (by(exact zf3)) (Zc Oz y3.out)
   have x4:Hid (wx.heap[w.heap.size+1+1+1+1]? = some (.cells (NCf (Zl (a / b).testBit (j+1)) false) 169 (0,0))):=by show _=_;rw[hwx];exact JD (by(exact zf3)) (Zc Oz y4.out)
   have xz:w.heap.size+6<=wx.heap.size:=by rw[hwx];simp;omega
   have xB:Ok w wx:=by rw[hwx];(exact zf1)
   have y5:=Y5.out;subst hwx;go_wp2_with (first|((with_reducible apply Js);rfl;rfl;rfl;rfl;(exact zf0);skip)|((with_reducible apply Q4);rfl;rfl;rfl;(exact zf0);skip))
   by_cases hbr:b<=r
   ·have Hd:Hid (false=decide (r<b)):=by show _=_;rw[Sz];omega
    have qZ:=Ou hbr;clear hbr;((with_reducible refine(YK r b _ _ false mV.out mU.out Hd.out _).mono ?_);rintro e w2 ⟨rfl,hb2⟩);have a0:Hid (w2.heap[w.heap.size]? = some (.cells (NC a s) 169 (0,0))):=(hb2.block _ (by(exact zf3))).trans x0;have a1:w2.heap[w.heap.size+1]? = some (.cells (NC b t) 169 (0,0)):=(hb2.block _ (by(exact zf3))).trans x1;have a2:Hid (w2.heap[w.heap.size+1+1]? = some (.cells (NC 0 false) 169 (0,0))):=(hb2.block _ (by(exact zf3))).trans x2;have a3:Hid (w2.heap[w.heap.size+1+1+1]? = some (.cells (NC 0 false) 169 (0,0))):=(hb2.block _ (by(exact zf3))).trans x3;have a4:Hid (w2.heap[w.heap.size+1+1+1+1]? = some (.cells (NCf (Zl (a / b).testBit (j+1)) false) 169 (0,0))):=(hb2.block _ (by(exact zf3))).trans x4
    have a5:w2.heap[w.heap.size+1+1+1+1+1]? = some (.cells (NC r false) 169 (0,0)):=(hb2.block _ (by(exact zf3))).trans x5;have az:w.heap.size+6<=w2.heap.size:=by have:=hb2.size;omega
    have aB:Ok w w2:=xB.trans (hb2.mono Oz);clear hb2 x0 x1 x2 x3 x4 x5 xz xB y0 y1 y2 y3 y4 y5 yz yB c0 c5 f5 Y5;go_wp2_with (first|((with_reducible apply Q4);rfl;rfl;rfl;(exact zf0);skip))
    ((with_reducible refine(qeC r b _ _ qZ.out _).mono ?_);rintro e w3 ⟨rfl,hb3⟩);have b0:Hid (w3.heap[w.heap.size]? = some (.cells (NC a s) 169 (0,0))):=(hb3.block _ (by(exact zf3))).trans a0;have b1:Hid (w3.heap[w.heap.size+1]? = some (.cells (NC b t) 169 (0,0))):=(hb3.block _ (by(exact zf3))).trans a1;have b2:Hid (w3.heap[w.heap.size+1+1]? = some (.cells (NC 0 false) 169 (0,0))):=(hb3.block _ (by(exact zf3))).trans a2;have b3:Hid (w3.heap[w.heap.size+1+1+1]? = some (.cells (NC 0 false) 169 (0,0))):=(hb3.block _ (by(exact zf3))).trans a3;have b4:Hid (w3.heap[w.heap.size+1+1+1+1]? = some (.cells (NCf (Zl (a / b).testBit (j+1)) false) 169 (0,0))):=(hb3.block _ (by(exact zf3))).trans a4
    have b5:w3.heap[w.heap.size+1+1+1+1+1]? = some (.cells (NC r false) 169 (0,0)):=(hb3.block _ (by(exact zf3))).trans a5;have bz:w.heap.size+6<=w3.heap.size:=by have:=hb3.size;omega
    have bB:Ok w w3:=aB.trans (hb3.mono Oz);clear hb3 a0 a1 a2 a3 a4 a5 az aB;have c4:(w3.setRow (w.heap.size+1+1+1+1+1) (NC (r-b) false)).cell? ⟨w.heap.size+1+1+1+1,j,none⟩=some (.bool (Zl (a / b).testBit (j+1) j)):=by rw[cell_of_row _ _ _ _ _ _ (Zc Oz b4.out),qeM _ _ _ _ hj]
    have f4:(w3.setRow (w.heap.size+1+1+1+1+1) (NC (r-b) false)).frozen? ⟨w.heap.size+1+1+1+1,j,none⟩=false:=frozen_of_row _ _ _ _ _ (Zc Oz b4.out);go_wp2_with (first|((with_reducible apply Js);rfl;rfl;rfl;rfl;(exact zf0);skip))
    refine⟨⟨j,by omega,rfl,?_,?_,?_,?_,?_,?_,?_,?_⟩,by simp[intOf]⟩
    ·exact JD (by(exact zf3)) (Zc Oz b0.out)
    ·exact JD (by(exact zf3)) (Zc Oz b1.out)
    ·exact JD (by(exact zf3)) (Zc Oz b2.out)
    ·exact JD (by(exact zf3)) (Zc Oz b3.out)
    ·exact qeN hj (by rw[D1.out,Sy qZ.out]) (Zc Oz b4.out)
    ·show _=_;rw[D2.out,Sx qZ.out];exact JD (by(exact zf3)) (JP b5)
    ·simp;omega
    ·(exact zf1)
   ·have Hd:Hid (true=decide (r<b)):=by show _=_;rw[Sy];omega
    have qZ:=Ou hbr;clear hbr;((with_reducible refine(YK r b _ _ true mV.out mU.out Hd.out _).mono ?_);rintro e w2 ⟨rfl,hb2⟩);have a0:Hid (w2.heap[w.heap.size]? = some (.cells (NC a s) 169 (0,0))):=(hb2.block _ (by(exact zf3))).trans x0;have a1:Hid (w2.heap[w.heap.size+1]? = some (.cells (NC b t) 169 (0,0))):=(hb2.block _ (by(exact zf3))).trans x1;have a2:Hid (w2.heap[w.heap.size+1+1]? = some (.cells (NC 0 false) 169 (0,0))):=(hb2.block _ (by(exact zf3))).trans x2;have a3:Hid (w2.heap[w.heap.size+1+1+1]? = some (.cells (NC 0 false) 169 (0,0))):=(hb2.block _ (by(exact zf3))).trans x3
    have a4:Hid (w2.heap[w.heap.size+1+1+1+1]? = some (.cells (NCf (Zl (a / b).testBit (j+1)) false) 169 (0,0))):=(hb2.block _ (by(exact zf3))).trans x4;have a5:Hid (w2.heap[w.heap.size+1+1+1+1+1]? = some (.cells (NC r false) 169 (0,0))):=(hb2.block _ (by(exact zf3))).trans x5;have az:w.heap.size+6<=w2.heap.size:=by have:=hb2.size;omega
    have aB:Ok w w2:=xB.trans (hb2.mono Oz);clear hb2 x0 x1 x2 x3 x4 x5 xz xB y0 y1 y2 y3 y4 y5 yz yB c0 c5 f5 Y5;go_wp2;refine⟨⟨j,by omega,rfl,a0,a1,a2,a3,?_,?_,az,aB⟩,by simp[intOf]⟩
    ·show _=_;rw[<-xD.out (by rw[D1.out,Sz qZ.out])];exact a4
    ·show _=_;rw[D2.out,Sw qZ.out];exact a5
  ·obtain rfl:k=0:=by omega
   rw[qeH]at h4;rw[show a / 2 ^ 0 % b=a % b by simp]at h5;have q2:=h2.out;have q3:=h3.out;have q4:=h4.out;have q5:=h5.out;go_wp2;refine wp_region_any Ow ?_;change wpAny _ _ _ _ _ _ _ (World.drew _);have FIN2:∀(a':Act) (w':World),a'.tmps.getD 4 undef=.pointer (some ⟨w.heap.size+1+1,0,none⟩)->a'.tmps.getD 5 undef=.pointer (some ⟨w.heap.size+1+1+1,0,none⟩)->a'.defers=[] ->
     w'.heap[w.heap.size+1+1]? = some (.cells (NC (a / b) false) 169 (0,0))->w'.heap[w.heap.size+1+1+1]? = some (.cells (NC (a % b) false) 169 (0,0))->Ok w w' ->
     bodyPost prog Tryz.f98 (λe w'=>e=.returned (.tuple #[.agg (NC (a / b) false),.agg (NC (a % b) false)])/\Ok w w') Exit.ret a' w':=by
    intro a' w' p4 p5 hd e2 e3 hb;exact bodyPost_ret (qeB rfl _ _ _ _ p4 p5 _ _ _ _ e2 e3) hd ⟨rfl,hb⟩
   (refine wpAny_ready (rs:=[0,1]) Ow Oy (AllReady.cons rfl (λK hK=>?_) (AllReady.cons rfl (λK hK=>?_) AllReady.nil)))
   ·((with_reducible apply KP);rfl;rfl;rfl;(exact zf0);refine hK _ _ ?_;clear hK K)
    (refine wpAny_ready (rs:=[1,2]) Ow Oy (AllReady.cons rfl (λK hK=>?_) (AllReady.cons rfl (λK hK=>?_) AllReady.nil)))
    ·((with_reducible apply KP);rfl;rfl;rfl;(exact zf0);refine hK _ _ ?_;clear hK K)
     (refine wpAny_ready (rs:=[2]) Ow Oy (AllReady.cons rfl (λK hK=>?_) AllReady.nil))
     ((with_reducible apply Ks);rfl;rfl;rfl;rfl;(exact zf0);refine hK _ _ ?_;clear hK K)
     (refine wpAny_ready (rs:=[3]) Ow Oy (AllReady.cons rfl (λK hK=>?_) AllReady.nil))
     ((with_reducible apply Ks);rfl;rfl;rfl;rfl;(exact zf0);refine hK _ _ ?_;clear hK K);refine wpAny_done Ow ?_ _;go_wp2_with ((with_reducible apply FIN2);rfl;rfl;rfl;(exact zf0);(exact zf0);(exact zf1))
    ·((with_reducible apply Ks);rfl;rfl;rfl;rfl;(exact zf0);refine hK _ _ ?_;clear hK K)
     (refine wpAny_ready (rs:=[1]) Ow Oy (AllReady.cons rfl (λK hK=>?_) AllReady.nil))
     ((with_reducible apply KP);rfl;rfl;rfl;(exact zf0);refine hK _ _ ?_;clear hK K)
     (refine wpAny_ready (rs:=[3]) Ow Oy (AllReady.cons rfl (λK hK=>?_) AllReady.nil))
     ((with_reducible apply Ks);rfl;rfl;rfl;rfl;(exact zf0);refine hK _ _ ?_;clear hK K);refine wpAny_done Ow ?_ _;go_wp2_with ((with_reducible apply FIN2);rfl;rfl;rfl;(exact zf0);(exact zf0);(exact zf1))
   ·((with_reducible apply KP);rfl;rfl;rfl;(exact zf0);refine hK _ _ ?_;clear hK K)
    (refine wpAny_ready (rs:=[0]) Ow Oy (AllReady.cons rfl (λK hK=>?_) AllReady.nil))
    ((with_reducible apply KP);rfl;rfl;rfl;(exact zf0);refine hK _ _ ?_;clear hK K)
    (refine wpAny_ready (rs:=[2]) Ow Oy (AllReady.cons rfl (λK hK=>?_) AllReady.nil))
    ((with_reducible apply Ks);rfl;rfl;rfl;rfl;(exact zf0);refine hK _ _ ?_;clear hK K)
    (refine wpAny_ready (rs:=[3]) Ow Oy (AllReady.cons rfl (λK hK=>?_) AllReady.nil))
    ((with_reducible apply Ks);rfl;rfl;rfl;rfl;(exact zf0);refine hK _ _ ?_;clear hK K);refine wpAny_done Ow ?_ _;go_wp2_with ((with_reducible apply FIN2);rfl;rfl;rfl;(exact zf0);(exact zf0);(exact zf1))
end
section
open Go.RowKit
theorem qeP (m:Nat)(hm:m<2 ^ 136)(h:∀j,64<=j->j<136->m.testBit j=false):m<2 ^ 64:=by
 apply Nat.lt_pow_two_of_testBit
 intro i hi
 by_cases h2:i<136
 ·exact h i hi h2
 ·exact Hv (Ww hm (Hu Oz Oz))
theorem qeQ (m:Nat)(hm:m<2 ^ 64)(j:Nat)(h:64<=j):m.testBit j=false :=
 Hv (Ww hm (Hu Oz h))
theorem qeR (m:Nat)(s:Bool)(hm:m<2 ^ 136)(hb:2 ^ 64<=m)(w:World) :
  Calls prog 132 #[.agg (NC m s)] w λe w'=>e=.returned (.tuple #[.int .i64 0,.bool false])/\Ok w w':=by
 have Hm:=Ou hm;clear hm
 have Hb:=Ou hb;clear hb
 go_enter func132,ntmps132
 go_wp2
 go_loop [4] (λi=>∃k:Nat,64<=k/\k<=136/\i=.int .i64 k/\(∀j,64<=j->j<k->m.testBit j=false)) (λi=>136-(intOf i).toNat)
 case atStart=>exact⟨64,by omega,by omega,rfl,λj h1 h2=>by omega⟩
 case round =>
  obtain⟨k,d8,hk,rfl,hf⟩:=hrel;have Hf:=Ou hf;clear hf;by_cases hlt:k<136
  ·have g1:=ZW m s k hlt;obtain⟨x,hx⟩:∃x,x=m.testBit k:=⟨_,rfl⟩
   rw[<-hx]at g1;have Hx:=Ou hx;clear hx
   cases x
   ·go_wp2;refine⟨⟨k+1,by omega,by omega,by go_num,λj h1 hj=>?_⟩,by simp[intOf];omega⟩;by_cases e:j=k
    ·subst e;exact Hx.out.symm
    ·exact Hf.out j h1 Oz
   ·go_wp2;go_ret2
    first|exact⟨rfl,by(exact zf1)⟩|(exact zf1)
  ·exfalso;obtain rfl:k=136:=by omega
   have:=qeP m Hm.out Hf.out;have:=Hb.out;omega
theorem Uo {v:Value}{a b:Bool}(h:a=b):Ending.returned (.tuple #[v,.bool a])=.returned (.tuple #[v,.bool b]):=by rw[h]
def qeS (x:Int)(ok:Bool)(e:Ending):Prop:=∃v,e=.returned (.tuple #[.int .i64 v,.bool ok])/\(ok=true->v=x)
theorem qeT (m j:Nat)(hm:m<2 ^ 64):m / 2 ^ j=2*(m / 2 ^ (j+1))+(if m.testBit j then 1 else 0)/\m / 2 ^ j<=18446744073709551615:=by
 constructor
 ·rw[Ko,ZX];have:m / 2 ^ j % 2=0∨m / 2 ^ j % 2=1:=by omega
  rcases this with h|h<;>simp[h]<;>omega
 ·exact Sk (Lk _ _) Oz
theorem qeU (m:Nat)(h1:0<m)(h2:m<=9223372036854775808):wrap64 (18446744073709551615-(m:Int)+1) = -(m:Int):=by
 unfold wrap64;omega
theorem qeV (m:Nat)(h2:m<9223372036854775808):wrap64 (m:Int)=(m:Int):=by
 unfold wrap64;omega
theorem qeW (m:Nat)(s:Bool)(ok:Bool)(hm:m<2 ^ 64)(hs:s=true->0<m)(hok:ok=if s then decide (m<=9223372036854775808) else decide (m<9223372036854775808))(w:World) :
  Calls prog 132 #[.agg (NC m s)] w λe w'=>qeS (if s then -(m:Int) else (m:Int)) ok e/\Ok w w':=by
 have gs:=Jb m s
 have Hm:=Ou hm;clear hm
 have Hs:=Ou hs;clear hs
 have Hok:=Ou hok;clear hok
 go_enter func132,ntmps132
 go_wp2
 go_loop [4] (λi=>∃k:Nat,64<=k/\k<=136/\i=.int .i64 k) (λi=>136-(intOf i).toNat)
 case atStart=>exact⟨64,by omega,by omega,rfl⟩
 case round =>
  obtain⟨k,d8,hk,rfl⟩:=hrel;by_cases hlt:k<136
  ·have g1:=ZW m s k hlt;rw[qeQ m Hm.out k d8]at g1;go_wp2;exact⟨⟨k+1,by omega,by omega,by go_num⟩,by simp[intOf];omega⟩
  ·obtain rfl:k=136:=by omega
   go_wp2;go_loop [5,6] (λu i=>∃k:Nat,k<=64/\i=.int .i64 ((k:Int)-1)/\u=.int .u64 ((m / 2 ^ k:Nat):Int)) (λ_ i=>(intOf i+1).toNat)
   case atStart=>exact⟨64,by omega,rfl,by rw[Lw Hm.out];rfl⟩
   case round =>
    obtain⟨k,hk,rfl,rfl⟩:=hrel;by_cases dZ:0<k
    ·obtain⟨j,rfl⟩:∃j,k=j+1:=⟨k-1,by omega⟩
     rw[show (((j+1:Nat):Int)-1)=(j:Int) by omega];have ⟨h1,h2⟩:=qeT m j Hm.out;have g1:=ZW m s j Oz;obtain⟨q,hq⟩:∃q,q=m / 2 ^ (j+1):=⟨_,rfl⟩
     rw[<-hq]at h1;rw[<-hq];have Hq:=Ou hq;clear hq;have q0:(0:Int)<=(j:Int):=by omega
     have q1:(j:Int)<64:=by omega
     generalize m.testBit j=x at *
     cases x
     ·have h3:(2*(q:Int))<=18446744073709551615:=by simp at h1;omega
      have H1:=Ou h1;clear h1 h2;go_wp2;exact⟨⟨j,by omega,rfl,by rw[H1.out];simp⟩,by simp[intOf]⟩
     ·have h3:(2*(q:Int))+1<=18446744073709551615:=by simp at h1;omega
      have H1:=Ou h1;clear h1 h2;go_wp2;exact⟨⟨j,by omega,rfl,by rw[H1.out];simp⟩,by simp[intOf]⟩
    ·obtain rfl:k=0:=by omega
     rw[show m / 2 ^ 0=m by simp];have hm':(m:Int)<=18446744073709551615:=by have:=Hm.out;omega
     have hm0:(0:Int)<=(m:Int):=by omega
     cases s
     ·have hb:decide ((m:Int)<9223372036854775808)=ok:=by rw[Hok.out];simp;omega
      have HB:=Ou hb;clear hb;go_wp2;go_ret2;exact⟨⟨wrap64 (m:Int),Uo HB.out,λh=>qeV m (by have:=HB.out;rw[h]at this;simp at this;omega)⟩,by(exact zf1)⟩
     ·have hpos:=Hs.out rfl;by_cases hle:m<=9223372036854775808
      ·have hl2:(m:Int)<=9223372036854775808:=by omega
       have e0:=qeU m hpos hle;have E0:=Ou e0;clear e0;have hp1:(1:Int)<=(m:Int):=by omega
       have hk1:ok=true:=by rw[Hok.out];simp;omega
       have wU:=Ou hk1;clear hk1;go_wp2;go_ret2;exact⟨⟨wrap64 (18446744073709551615-(m:Int)+1),Uo wU.out.symm,λ_=>E0.out⟩,by(exact zf1)⟩
      ·have hl2:(9223372036854775808:Int)<(m:Int):=by omega
       have hk1:ok=false:=by rw[Hok.out];simp;omega
       have wU:=Ou hk1;clear hk1;go_wp2;go_ret2;exact⟨⟨0,Uo wU.out.symm,λh=>by rw[wU.out]at h;cases h⟩,by(exact zf1)⟩
theorem Cv (x:Int)(hx:x.natAbs<2 ^ 136)(w:World) :
  Calls prog 103 #[.agg (NZ x)] w λe w'=>e=.returned (.tuple #[.int .i64 (tv x),.int .i64 (te x)])/\Ok w w':=by
 by_cases hbig:2 ^ 64<=x.natAbs
 ·have e1:=XX (x:=x) (by unfold InR;omega);have e2:=XZ (x:=x) (by unfold InR;omega);rw[e1,e2];clear e1 e2;have hc:=λw=>qeR x.natAbs (decide (x<0)) hx hbig w;have Hc:=Ou hc;clear hc hx hbig;unfold NZ;go_enter func103,ntmps103;go_wp2_with (first|((with_reducible apply Q4);rfl;rfl;rfl;(exact zf0);skip))
  ((with_reducible refine(Hc.out _).mono ?_);rintro e w1 ⟨rfl,hb1⟩);have hB:Ok w w1:=Below.trans (by(exact zf1)) (hb1.mono Oy);clear hb1;go_wp2;go_ret2
  first|exact⟨rfl,hB⟩|exact hB
 ·obtain⟨ok,hok⟩:∃ok,ok=if decide (x<0) then decide (x.natAbs<=9223372036854775808) else decide (x.natAbs<9223372036854775808):=⟨_,rfl⟩
  have hc:=λw=>qeW x.natAbs (decide (x<0)) ok Oz (by simp;omega) hok w;have hin:ok=true↔InR x:=by
   unfold InR;rw[hok];by_cases h:x<0<;>simp[h]<;>omega
  have hv:(if decide (x<0) then -(x.natAbs:Int) else (x.natAbs:Int))=x:=by
   by_cases h:x<0<;>simp[h]<;>omega
  rw[hv]at hc;have Hc:=Ou hc;clear hc hx hbig hok hv;unfold NZ
  cases ok
  ·have hn:¬InR x:=λh=>by have:=hin.2 h;cases this
   rw[XX hn,XZ hn];have tL:=Ou hin;clear hin hn;go_enter func103,ntmps103;go_wp2_with (first|((with_reducible apply Q4);rfl;rfl;rfl;(exact zf0);skip))
   ((with_reducible refine(Hc.out _).mono ?_);rintro e w1 ⟨⟨v,rfl,hv⟩,hb1⟩);have hB:Ok w w1:=Below.trans (by(exact zf1)) (hb1.mono Oy);clear hb1 hv;go_wp2;go_ret2
   first|exact⟨rfl,hB⟩|exact hB
  ·have hn:InR x:=hin.1 rfl;rw[Yo hn,XW hn];have tL:=Ou hin;clear hin hn;go_enter func103,ntmps103;go_wp2_with (first|((with_reducible apply Q4);rfl;rfl;rfl;(exact zf0);skip))
   ((with_reducible refine(Hc.out _).mono ?_);rintro e w1 ⟨⟨v,rfl,hv⟩,hb1⟩);obtain rfl:v=x:=hv rfl;have hB:Ok w w1:=Below.trans (by(exact zf1)) (hb1.mono Oy);clear hb1 hv;go_wp2;go_ret2
   first|exact⟨rfl,hB⟩|exact hB
end
section
open Go.RowKit
theorem YM (x:Int)(hx:InR x)(w:World) :
  Calls prog 97 #[.int .i64 x] w λe w'=>e=.returned (.agg (NZ x))/\Ok w w':=qeE x hx.1 hx.2 w
theorem qeX (x y:Int)(hx:InR x)(hy:InR y)(w:World) :
  Calls prog 96 #[.agg (NZ x),.agg (NZ y)] w λe w'=>e=.returned (.agg (NZ (x*y)))/\Ok w w' :=
 qeG x.natAbs y.natAbs (decide (x<0)) (decide (y<0)) (x*y).natAbs (decide (x*y<0)) (by unfold InR at hx;omega) (by unfold InR at hy;omega)
  (Int.natAbs_mul x y)
  (by
   by_cases h0:x=0
   ·subst h0;simp
   ·by_cases h1:y=0
    ·subst h1;simp
    ·have hne:x*y≠0:=Int.mul_ne_zero h0 h1;rcases Int.lt_or_gt_of_ne h0 with a|a<;>rcases Int.lt_or_gt_of_ne h1 with b|b
     ·have:=Int.mul_pos_of_neg_of_neg a b;simp[a,b,hne];omega
     ·have:=Int.mul_neg_of_neg_of_pos a b;simp[a,hne,show ¬y<0 by omega,this]
     ·have:=Int.mul_neg_of_pos_of_neg a b;simp[b,hne,show ¬x<0 by omega,this]
     ·have:=Int.mul_pos a b;simp[show ¬x<0 by omega,show ¬y<0 by omega];omega) w
theorem qeY {x y:Int}(hx:InR x)(hy:InR y):(x*y).natAbs<=2 ^ 126:=by
 rw[Int.natAbs_mul]
 have h1:x.natAbs<=2 ^ 63:=by unfold InR at hx;omega
 have h2:y.natAbs<=2 ^ 63:=by unfold InR at hy;omega
 exact Sk (Lt h1 h2) (by rw[<-Nat.pow_add];exact Sq _)
end
section
open Go.RowKit Go.Sort Go.Lib Go.Shelf
section
variable {ops:Array Oper}{rest:List Oper}{o:Oper}{a:Act}{w:World}{Q:Exit → Act → World → Prop}
end
theorem Cw (s a b:Int)(w:World):Calls prog 41 #[.int .i64 s,.int .i64 a,.int .i64 b] w λe w'=>e=.returned (.bool (QN s a b))/\w=w':=by
 have bM:=λw=>G8 s a b w
 by_cases h1:s=1
 ·rw[Sx h1,Sx h1]at bM;have e:QN s a b=decide (b<=a):=by unfold QN;simp[h1]
  have e1:(s==1)=true:=by simp[h1]
  rw[e1,Bool.true_or]at bM;have HA:=Ou bM;rw[e];clear bM h1 e e1;go_enter func41,ntmps41;go_wp2_with ((with_reducible refine(HA.out _).mono ?_);rintro e w' ⟨rfl,rfl⟩)
  go_ret;exact⟨rfl,rfl⟩
 rw[Sw h1,Sw h1]at bM
 by_cases h2:s=2
 ·rw[Sx h2,Sx h2]at bM;have e:QN s a b=decide (a<=b):=by unfold QN;simp[h2]
  have e1:(s==2)=true:=by simp[h2]
  rw[e1,Bool.or_true]at bM;have HA:=Ou bM;rw[e];clear bM h1 h2 e e1;go_enter func41,ntmps41;go_wp2_with ((with_reducible refine(HA.out _).mono ?_);rintro e w' ⟨rfl,rfl⟩)
  go_ret;exact⟨rfl,rfl⟩
 rw[Sw h2,Sw h2]at bM
 have e:QN s a b=false:=by unfold QN;simp[h1,h2]
 have e1:(s==1)=false:=by simp[h1]
 have e2:(s==2)=false:=by simp[h2]
 rw[e1,e2]at bM
 have HA:=Ou bM
 rw[e]
 clear bM h1 h2 e e1 e2
 go_enter func41,ntmps41
 go_wp2_with ((with_reducible refine(HA.out _).mono ?_);rintro e w' ⟨rfl,rfl⟩)
 go_ret
 exact⟨rfl,rfl⟩
theorem Cy (s a b:Int)(w:World):Calls prog 40 #[.int .i64 s,.int .i64 a,.int .i64 b] w λe w'=>e=.returned (.bool (QN s a b))/\w=w':=by
 by_cases h1:s=1
 ·have e1:(s==1)=true:=by simp[h1]
  have e2:(s==2)=false:=by simp[h1]
  by_cases hd:b<=a
  ·have e:QN s a b=true:=by unfold QN;simp[h1,hd]
   have g:=Sy hd;rw[e];clear h1 e;go_enter func40,ntmps40;go_wp2_with fail
   go_ret;exact⟨rfl,rfl⟩
  ·have e:QN s a b=false:=by unfold QN;simp[h1];omega
   have g:=Sz hd;rw[e];clear h1 e;go_enter func40,ntmps40;go_wp2_with fail
   go_ret;exact⟨rfl,rfl⟩
 have e1:(s==1)=false:=by simp[h1]
 by_cases h2:s=2
 ·have e2:(s==2)=true:=by simp[h2]
  by_cases hd:a<=b
  ·have e:QN s a b=true:=by unfold QN;simp[h2,hd]
   have g:=Sy hd;rw[e];clear h1 h2 e;go_enter func40,ntmps40;go_wp2_with fail
   go_ret;exact⟨rfl,rfl⟩
  ·have e:QN s a b=false:=by unfold QN;simp[h2];omega
   have g:=Sz hd;rw[e];clear h1 h2 e;go_enter func40,ntmps40;go_wp2_with fail
   go_ret;exact⟨rfl,rfl⟩
 have e2:(s==2)=false:=by simp[h2]
 have e:QN s a b=false:=by unfold QN;simp[h1,h2]
 rw[e]
 clear h1 h2 e
 go_enter func40,ntmps40
 go_wp2_with fail
 go_ret
 exact⟨rfl,rfl⟩
def qeZ (x:Od):Int:=if x.side<1∨2<x.side then 0 else x.side
def ofO (s:Int)(x:Od):Bool:=decide (qeZ x=s)
def fz (s:Int)(L:List Od):List (Od×Nat):=L.zipIdx.filter (λd=>ofO s d.1)
end
section
open Go.RowKit
theorem qe0 (a b c round:Int)(n d q r:Nat)(sp sc neg bW aw:Bool)(res:Int)(hx:InR a)(hy:InR b)(hz:InR c)(aI:round=1∨round=2∨round=3)(e0:(c==0)=false)
  (hneg:(sp==sc)=!neg) (gK:bW=decide (q % 2=1)) (rE:aw=Z6 round neg bW r d) (hd0:0<d) (hd:d<2 ^ 134) (hn:n<2 ^ 134) (hq:q=n / d) (hr:r=n % d)
  (hres:res=if neg then -((q+if aw then 1 else 0:Nat):Int) else ((q+if aw then 1 else 0:Nat):Int)) (hc:NZ c=NC d sc)
  (HT:Hid (∀w,Calls prog 96 #[.agg (NZ a),.agg (NZ b)] w λe w'=>e=.returned (.agg (NC n sp))/\Ok w w')) (w:World) :
  Calls prog 76 #[.int .i64 a,.int .i64 b,.int .i64 c,.int .i64 round] w λe w'=>e=.returned (.tuple #[.int .i64 (tv res),.int .i64 (te res)])/\Ok w w':=by
 have hz83:=KN
 have Hx:=Ou hx
 have Hy:=Ou hy
 have Hz:=Ou hz
 clear hx hy hz
 have HP:Hid (∀w,Calls prog 98 #[.agg (NC n sp),.agg (NC d sc)] w λe w'=>e=.returned (.tuple #[.agg (NC q false),.agg (NC r false)])/\Ok w w'):=by
  intro w;rw[hq,hr];exact qeO n d sp sc Oz hd0 hd w
 have HOc:Hid (∀w,Calls prog 97 #[.int .i64 c] w λe w'=>e=.returned (.agg (NC d sc))/\Ok w w'):=by
  intro w;rw[<-hc];exact YM c Hz.out w
 have hrd:r<d:=by rw[hr];exact Lz _ hd0
 have cG:q<=n:=by rw[hq];exact Lk _ _
 have Hq:=Ou cG;clear cG hq
 have Hn:=Ou hn;clear hn
 have Hd:=Ou hd;clear hd
 have Hrd:=Ou hrd;clear hrd hr
 have Hodd:=Ou gK;clear gK
 have xC:=Ou rE;clear rE
 have lI:=Ou hres;clear hres hc hd0
 have r1:(1:Int)<=round:=by omega
 have r2:round<=3:=by omega
 have oP:=Ou aI;clear aI
 go_enter func76,ntmps76
 go_wp2_with fail
 ((with_reducible refine(YM a Hx.out _).mono ?_);rintro e w1 ⟨rfl,hb1⟩)
 go_wp2_with fail
 ((with_reducible refine(YM b Hy.out _).mono ?_);rintro e w2 ⟨rfl,hb2⟩)
 go_wp2_with fail
 ((with_reducible refine(HT.out _).mono ?_);rintro e w3 ⟨rfl,hb3⟩)
 have B3:Hid (Ok w w3):=(hb1.trans (hb2.mono hb1.size)).trans (hb3.mono (Sk hb1.size hb2.size))
 clear hb1 hb2 hb3
 go_wp2_with (first|((with_reducible apply Q4);rfl;rfl;rfl;(exact zf0);skip)|(first|((with_reducible apply ZB);rfl;rfl;rfl;rfl;(exact zf4);skip)|((with_reducible apply ZC);rfl;rfl;rfl;rfl;(exact zf4);skip)|((with_reducible apply ZD);rfl;rfl;rfl;rfl;(exact zf4);skip)|((with_reducible apply ZE);rfl;rfl;rfl;rfl;(exact zf4);skip)|((with_reducible apply ZF);rfl;rfl;rfl;rfl;(exact zf4);skip)))
 ((with_reducible refine(HOc.out _).mono ?_);rintro e w4 ⟨rfl,hb4⟩)
 have z4:w3.heap.size<w4.heap.size:=by have:=hb4.size;simp at this;omega
 have P4:w4.heap[w3.heap.size]? = some (.cells (NC n sp) 169 (0,0)):=by rw[hb4.block _ (by simp)];(exact zf0)
 have B4:Hid (Ok w w4):=Below.trans (Below.alloc B3.out B3.out.size _) (hb4.mono (by have:=B3.out.size;simp;omega))
 clear hb4 B3
 go_wp2_with (first|((with_reducible apply Q4);rfl;rfl;rfl;(exact zf0);skip)|(first|((with_reducible apply ZB);rfl;rfl;rfl;rfl;(exact zf4);skip)|((with_reducible apply ZC);rfl;rfl;rfl;rfl;(exact zf4);skip)|((with_reducible apply ZD);rfl;rfl;rfl;rfl;(exact zf4);skip)|((with_reducible apply ZE);rfl;rfl;rfl;rfl;(exact zf4);skip)|((with_reducible apply ZF);rfl;rfl;rfl;rfl;(exact zf4);skip)))
 ((with_reducible refine(HP.out _).mono ?_);rintro e w5 ⟨rfl,dH⟩)
 have z5:w4.heap.size<w5.heap.size:=by have:=dH.size;simp at this;omega
 have P5:w5.heap[w3.heap.size]? = some (.cells (NC n sp) 169 (0,0)):=by rw[dH.block _ (by simp;omega)];(exact zf0)
 have C5:w5.heap[w4.heap.size]? = some (.cells (NC d sc) 169 (0,0)):=by rw[dH.block _ (by simp)];(exact zf0)
 have B5:Hid (Ok w w5):=Below.trans (Below.alloc B4.out B4.out.size _) (dH.mono (by have:=B4.out.size;simp;omega))
 clear dH B4 P4
 have cP:((w5.alloc (.cells (NC q false) 169)).alloc (.cells (NC r false) 169)).cell? ⟨w3.heap.size,136,none⟩=some (.bool sp):=KG (Zz (by simp;omega) (Zz Oz P5)) (Jb _ _)
 have cC:((w5.alloc (.cells (NC q false) 169)).alloc (.cells (NC r false) 169)).cell? ⟨w4.heap.size,136,none⟩=some (.bool sc):=KG (Zz (by simp;omega) (Zz Oz C5)) (Jb _ _)
 obtain⟨b0,hb0⟩:∃b0,b0=decide (r=0):=⟨_,rfl⟩
 have qY:=Ou hb0;clear hb0
 go_wp2_with (first|((with_reducible apply Q4);rfl;rfl;rfl;(exact zf0);skip)|(first|((with_reducible apply ZB);rfl;rfl;rfl;rfl;(exact zf4);skip)|((with_reducible apply ZC);rfl;rfl;rfl;rfl;(exact zf4);skip)|((with_reducible apply ZD);rfl;rfl;rfl;rfl;(exact zf4);skip)|((with_reducible apply ZE);rfl;rfl;rfl;rfl;(exact zf4);skip)|((with_reducible apply ZF);rfl;rfl;rfl;rfl;(exact zf4);skip)))
 ((with_reducible refine(Un r false b0 (by have:=Hrd.out;have:=Hd.out;omega) qY.out _).mono ?_);rintro e w6 ⟨rfl,rG⟩)
 have z6:w5.heap.size+2<=w6.heap.size:=by have:=rG.size;simp at this;omega
 have C6:w6.heap[w4.heap.size]? = some (.cells (NC d sc) 169 (0,0)):=by rw[rG.block _ (by simp;omega)];(exact zf0)
 have Q6:w6.heap[w5.heap.size]? = some (.cells (NC q false) 169 (0,0)):=by rw[rG.block _ (by simp;omega)];(exact zf0)
 have R6:w6.heap[w5.heap.size+1]? = some (.cells (NC r false) 169 (0,0)):=by rw[rG.block _ (by simp)];(exact zf0)
 have B6:Hid (Ok w w6):=Below.trans (Below.alloc (Below.alloc B5.out B5.out.size _) (by have:=B5.out.size;simp;omega) _) (rG.mono (by have:=B5.out.size;simp;omega))
 have BR:=B5.out.size
 clear rG cP cC B5 P5 C5
 go_upto_if 45 with fail
 go_cut [15,16] (λmD i7 wx=>mD=.bool aw/\Ok w6 wx)
 case first =>
  cases b0
  ·have fV:¬r=0:=by have:=qY.out;simpa using this
   rcases oP.out with rfl|rfl|rfl
   ·have ha1:aw=neg:=by rw[xC.out,Z6,Sw fV];simp
    clear fV;go_wp2_with fail
    go_meet
    case rel=>exact⟨by rw[ha1],Below.refl _ _⟩
   ·have ha1:aw=!neg:=by rw[xC.out,Z6,Sw fV];simp
    clear fV;go_wp2_with fail
    go_meet
    case rel=>exact⟨by rw[ha1],Below.refl _ _⟩
   ·have ha1:Hid (aw=(decide (d<2*r)||(decide (2*r=d)&&bW))):=by show _=_;rw[xC.out,Z6,Sw fV];simp
    clear fV;go_wp2_with (first|((with_reducible apply Q4);rfl;rfl;rfl;(exact zf0);skip)|(first|((with_reducible apply ZB);rfl;rfl;rfl;rfl;(exact zf4);skip)|((with_reducible apply ZC);rfl;rfl;rfl;rfl;(exact zf4);skip)|((with_reducible apply ZD);rfl;rfl;rfl;rfl;(exact zf4);skip)|((with_reducible apply ZE);rfl;rfl;rfl;rfl;(exact zf4);skip)|((with_reducible apply ZF);rfl;rfl;rfl;rfl;(exact zf4);skip)))
    ((with_reducible refine(YL _ _ _).mono ?_);rintro e w7 ⟨rfl,uH⟩);have z7:w6.heap.size<=w7.heap.size:=uH.size;have C7:w7.heap[w4.heap.size]? = some (.cells (NC d sc) 169 (0,0)):=by rw[uH.block _ (by omega)];exact C6
    have Q7:w7.heap[w5.heap.size]? = some (.cells (NC q false) 169 (0,0)):=by rw[uH.block _ (by omega)];exact Q6
    have B7:=Ou uH;clear uH C6 Q6 R6;obtain⟨b1,hb1⟩:∃b1,b1=decide (d<2*r):=⟨_,rfl⟩
    have mS:=Ou hb1;clear hb1;go_wp2_with (first|((with_reducible apply Q4);rfl;rfl;rfl;(exact zf0);skip)|(first|((with_reducible apply ZB);rfl;rfl;rfl;rfl;(exact zf4);skip)|((with_reducible apply ZC);rfl;rfl;rfl;rfl;(exact zf4);skip)|((with_reducible apply ZD);rfl;rfl;rfl;rfl;(exact zf4);skip)|((with_reducible apply ZE);rfl;rfl;rfl;rfl;(exact zf4);skip)|((with_reducible apply ZF);rfl;rfl;rfl;rfl;(exact zf4);skip)))
    ((with_reducible refine(YK d (2*r) sc false b1 (by have:=Hd.out;omega) (by have:=Hrd.out;have:=Hd.out;omega) mS.out _).mono ?_);rintro e w8 ⟨rfl,jJ⟩);have z8:w7.heap.size+1<=w8.heap.size:=by have:=jJ.size;simp at this;omega
    have C8:w8.heap[w4.heap.size]? = some (.cells (NC d sc) 169 (0,0)):=by rw[jJ.block _ (by simp;omega)];(exact zf0)
    have Q8:w8.heap[w5.heap.size]? = some (.cells (NC q false) 169 (0,0)):=by rw[jJ.block _ (by simp;omega)];(exact zf0)
    have T8:w8.heap[w7.heap.size]? = some (.cells (NC (2*r) false) 169 (0,0)):=by rw[jJ.block _ (by simp)];(exact zf0)
    have B8:Hid (Ok w6 w8):=Below.trans (Below.alloc B7.out B7.out.size _) (jJ.mono (by simp;omega));clear jJ B7 C7 Q7
    cases b1
    ·obtain⟨b2,hb2⟩:∃b2,b2=decide (2*r<d):=⟨_,rfl⟩
     have Hb2:=Ou hb2;clear hb2;go_wp2_with (first|((with_reducible apply Q4);rfl;rfl;rfl;(exact zf0);skip)|(first|((with_reducible apply ZB);rfl;rfl;rfl;rfl;(exact zf4);skip)|((with_reducible apply ZC);rfl;rfl;rfl;rfl;(exact zf4);skip)|((with_reducible apply ZD);rfl;rfl;rfl;rfl;(exact zf4);skip)|((with_reducible apply ZE);rfl;rfl;rfl;rfl;(exact zf4);skip)|((with_reducible apply ZF);rfl;rfl;rfl;rfl;(exact zf4);skip)))
     ((with_reducible refine(YK (2*r) d false sc b2 (by have:=Hrd.out;have:=Hd.out;omega) (by have:=Hd.out;omega) Hb2.out _).mono ?_);rintro e w9 ⟨rfl,gI⟩);have Q9:w9.heap[w5.heap.size]? = some (.cells (NC q false) 169 (0,0)):=by rw[gI.block _ (by omega)];exact Q8
     have c9:w9.cell? ⟨w5.heap.size,0,none⟩=some (.bool bW):=by
      rw[cell_of_row _ _ _ _ _ _ Q9,ZW _ _ _ Oz,Hodd.out]
      congr 2
      rw[Nat.testBit_zero]
     have B9:Hid (Ok w6 w9):=B8.out.trans (gI.mono Oz);clear gI C8 Q8 T8 B8
     cases b2
     ·have hao:aw=bW:=by
       have h1:=mS.out;have h2:=Hb2.out;have e3:2*r=d:=by simp at h1 h2;omega
       rw[ha1.out,<-h1];simp[e3]
      go_wp2_with fail
      go_meet
      case rel=>exact⟨by rw[hao],B9.out⟩
     ·have hao:aw=false:=by
       have h1:=mS.out;have h2:=Hb2.out;have e3:¬2*r=d:=by simp at h2;omega
       rw[ha1.out,<-h1];simp[e3]
      go_wp2_with fail
      go_meet
      case rel=>exact⟨by rw[hao],B9.out⟩
    ·have hao:aw=true:=by
      have h1:=mS.out;rw[ha1.out,<-h1];rfl
     go_wp2_with fail
     go_meet
     case rel=>exact⟨by rw[hao],B8.out⟩
  ·have fV:r=0:=by have:=qY.out;simpa using this
   have ha1:aw=false:=by rw[xC.out,Z6,Sx fV]
   clear fV;go_wp2_with fail
   go_meet
   case rel=>exact⟨by rw[ha1],Below.refl _ _⟩
 case rest =>
  obtain⟨rfl,n9⟩:=hcut;have zx:w6.heap.size<=wc.heap.size:=n9.size;have Qx:wc.heap[w5.heap.size]? = some (.cells (NC q false) 169 (0,0)):=by rw[n9.block _ (by omega)];exact Q6
  have Bx:Hid (Ok w wc):=B6.out.trans (n9.mono B6.out.size);clear n9 C6 Q6 R6 B6;have z9:w5.heap.size<wc.heap.size:=by omega
  have O1:Hid (∀w,Calls prog 97 #[.int .i64 1] w λe w'=>e=.returned (.agg (NC 1 false))/\Ok w w'):=by
   intro w;exact YM 1 (by unfold InR;omega) w
  obtain⟨m,hm⟩:∃m,m=q+if aw then 1 else 0:=⟨_,rfl⟩
  have Hm:=Ou hm;clear hm;have xE:Hid (res=if neg then -(m:Int) else (m:Int)):=by show _=_;rw[Hm.out];exact lI.out
  have hmb:Hid (m<2 ^ 135):=by show _<_;have:=Hm.out;have:=Hq.out;have:=Hn.out;cases aw<;>simp at*<;> omega
  clear lI;go_upto_if 70 with fail
  go_cut [16] (λ_ wx=>Hid (wx.heap[w5.heap.size]? = some (.cells (NC m false) 169 (0,0)))/\Hid (Ok w wx))
  case first =>
   cases aw
   ·have xX:m=q:=by have:=Hm.out;simpa using this
    go_wp2_with fail
    go_meet
    case rel=>exact⟨by rw[xX];exact Qx,Bx⟩
   ·have xX:q+1=m:=by have:=Hm.out;simp at this;omega
    have Hmq:=Ou xX;clear xX;go_wp2_with fail
    refine wp_region_any Ow ?_;change wpAny _ _ _ _ _ _ _ (World.drew _)
    (refine wpAny_ready (rs:=[0,1]) Ow Oy (AllReady.cons rfl (λK hK=>?_) (AllReady.cons rfl (λK hK=>?_) AllReady.nil)))
    ·((with_reducible apply KP);rfl;rfl;rfl;(exact zf0);refine hK _ _ ?_;clear hK K)
     (refine wpAny_ready (rs:=[1]) Ow Oy (AllReady.cons rfl (λK hK=>?_) AllReady.nil))
     go_simp;((with_reducible refine(O1.out _).mono ?_);rintro e w7 ⟨rfl,b7⟩);refine hK _ _ ?_;clear hK K;have s7:=b7.size;have Q7:w7.heap[w5.heap.size]? = some (.cells (NC q false) 169 (0,0)):=by rw[b7.block _ (by first|omega|(simp;omega))];(exact zf0)
     have B7:Hid (Ok w w7):=Below.trans (Below.drew Bx.out) (b7.mono (by first|omega|(simp;omega)));clear b7
     (refine wpAny_ready (rs:=[2]) Ow Oy (AllReady.cons rfl (λK hK=>?_) AllReady.nil))
     go_simp;((with_reducible refine(Um _ _ _ _ _).mono ?_);rintro e w8 ⟨rfl,b8⟩);rw[Hmq.out];refine hK _ _ ?_;clear hK K;have s8:=b8.size;have Q8:w8.heap[w5.heap.size]? = some (.cells (NC q false) 169 (0,0)):=by rw[b8.block _ (by first|omega|(simp at s7;omega))];exact Q7
     have B8:Ok w w8:=B7.out.trans (b8.mono (by first|omega|(simp at s7;omega)));clear b8 B7 Q7
     (refine wpAny_ready (rs:=[3]) Ow Oy (AllReady.cons rfl (λK hK=>?_) AllReady.nil))
     ((with_reducible apply Ks);rfl;rfl;rfl;rfl;(exact zf0);refine hK _ _ ?_;clear hK K);refine wpAny_done Ow ?_ _;go_wp2_with fail
     go_meet
     case rel=>exact⟨JP Q8,by show Below _ _ _;(exact zf1)⟩
    ·go_simp;((with_reducible refine(O1.out _).mono ?_);rintro e w7 ⟨rfl,b7⟩);refine hK _ _ ?_;clear hK K;have s7:=b7.size;have Q7:w7.heap[w5.heap.size]? = some (.cells (NC q false) 169 (0,0)):=by rw[b7.block _ (by first|omega|(simp;omega))];(exact zf0)
     have B7:Hid (Ok w w7):=Below.trans (Below.drew Bx.out) (b7.mono (by first|omega|(simp;omega)));clear b7
     (refine wpAny_ready (rs:=[0]) Ow Oy (AllReady.cons rfl (λK hK=>?_) AllReady.nil))
     ((with_reducible apply KP);rfl;rfl;rfl;(exact zf0);refine hK _ _ ?_;clear hK K)
     (refine wpAny_ready (rs:=[2]) Ow Oy (AllReady.cons rfl (λK hK=>?_) AllReady.nil))
     go_simp;((with_reducible refine(Um _ _ _ _ _).mono ?_);rintro e w8 ⟨rfl,b8⟩);rw[Hmq.out];refine hK _ _ ?_;clear hK K;have s8:=b8.size;have Q8:w8.heap[w5.heap.size]? = some (.cells (NC q false) 169 (0,0)):=by rw[b8.block _ (by first|omega|(simp at s7;omega))];exact Q7
     have B8:Ok w w8:=B7.out.trans (b8.mono (by first|omega|(simp at s7;omega)));clear b8 B7 Q7
     (refine wpAny_ready (rs:=[3]) Ow Oy (AllReady.cons rfl (λK hK=>?_) AllReady.nil))
     ((with_reducible apply Ks);rfl;rfl;rfl;rfl;(exact zf0);refine hK _ _ ?_;clear hK K);refine wpAny_done Ow ?_ _;go_wp2_with fail
     go_meet
     case rel=>exact⟨JP Q8,by show Below _ _ _;(exact zf1)⟩
  case rest =>
   obtain⟨Qw,Bw⟩:=hcut;have kF:=Qw.out;have hlt:w5.heap.size<wc.heap.size:=by
    rcases Av w5.heap.size wc.heap.size with h|h
    ·exact h
    ·rw[Array.getElem?_eq_none h]at kF;cases kF
   have fS:wc.frozen? ⟨w5.heap.size,136,none⟩=false:=frozen_of_row _ _ _ _ _ kF;have cS:wc.cell? ⟨w5.heap.size,136,none⟩=some (.bool false):=KG kF (Jb _ _)
   cases neg
   ·have hrs:res=(m:Int):=by have:=xE.out;simpa using this
    have TL:Hid (∀w,Calls prog 103 #[.agg (NC m false)] w λe w'=>e=.returned (.tuple #[.int .i64 (tv res),.int .i64 (te res)])/\Ok w w'):=by
     intro w;rw[hrs];have:=Cv (m:Int) (by have:=hmb.out;omega) w;unfold NZ at this;have e1:decide ((m:Int)<0)=false:=by simp
     rw[e1,Int.natAbs_natCast]at this;exact this
    clear hrs xE;go_wp2_with (first|((with_reducible apply Q4);rfl;rfl;rfl;(exact zf0);skip)|(first|((with_reducible apply ZB);rfl;rfl;rfl;rfl;(exact zf4);skip)|((with_reducible apply ZC);rfl;rfl;rfl;rfl;(exact zf4);skip)|((with_reducible apply ZD);rfl;rfl;rfl;rfl;(exact zf4);skip)|((with_reducible apply ZE);rfl;rfl;rfl;rfl;(exact zf4);skip)|((with_reducible apply ZF);rfl;rfl;rfl;rfl;(exact zf4);skip)))
    ((with_reducible refine(TL.out _).mono ?_);rintro e w9 ⟨rfl,b9⟩);have B9:Ok w w9:=Below.trans (by have:=Bw.out;(exact zf1)) (b9.mono (by have:=Bw.out.size;first|omega|(simp;omega)));clear b9;go_wp2_with fail
    go_ret2
    first|exact⟨rfl,B9⟩|exact B9
   ·have hrs:res = -(m:Int):=by have:=xE.out;simpa using this
    obtain⟨b3,hb3⟩:∃b3,b3=decide (m=0):=⟨_,rfl⟩
    have TL:Hid (∀w,Calls prog 103 #[.agg (NC m (!b3))] w λe w'=>e=.returned (.tuple #[.int .i64 (tv res),.int .i64 (te res)])/\Ok w w'):=by
     intro w;rw[hrs];have:=Cv (-(m:Int)) (by have:=hmb.out;omega) w;unfold NZ at this;have e1:decide (-(m:Int)<0)=!b3:=by rw[hb3];by_cases h:m=0<;>simp[h]<;>omega
     rw[e1,Int.natAbs_neg,Int.natAbs_natCast]at this;exact this
    have Hb3:=Ou hb3;clear hrs xE hb3;go_wp2_with (first|((with_reducible apply Q4);rfl;rfl;rfl;(exact zf0);skip)|(first|((with_reducible apply ZB);rfl;rfl;rfl;rfl;(exact zf4);skip)|((with_reducible apply ZC);rfl;rfl;rfl;rfl;(exact zf4);skip)|((with_reducible apply ZD);rfl;rfl;rfl;rfl;(exact zf4);skip)|((with_reducible apply ZE);rfl;rfl;rfl;rfl;(exact zf4);skip)|((with_reducible apply ZF);rfl;rfl;rfl;rfl;(exact zf4);skip)))
    ((with_reducible refine(Un m false b3 (by have:=hmb.out;omega) Hb3.out _).mono ?_);rintro e w8 ⟨rfl,b8⟩);have s8:=b8.size;have Q8:w8.heap[w5.heap.size]? = some (.cells (NC m false) 169 (0,0)):=by rw[b8.block _ hlt];exact Qw.out
    have B8:Hid (Ok w w8):=Bw.out.trans (b8.mono Bw.out.size);have fS8:w8.frozen? ⟨w5.heap.size,136,none⟩=false:=frozen_of_row _ _ _ _ _ Q8;have cS8:w8.cell? ⟨w5.heap.size,136,none⟩=some (.bool false):=KG Q8 (Jb _ _);clear b8 fS cS kF;have z8:w5.heap.size<w8.heap.size:=by omega
    go_wp2_with (first|((with_reducible apply Q4);rfl;rfl;rfl;(exact zf0);skip)|(first|((with_reducible apply ZB);rfl;rfl;rfl;rfl;(exact zf4);skip)|((with_reducible apply ZC);rfl;rfl;rfl;rfl;(exact zf4);skip)|((with_reducible apply ZD);rfl;rfl;rfl;rfl;(exact zf4);skip)|((with_reducible apply ZE);rfl;rfl;rfl;rfl;(exact zf4);skip)|((with_reducible apply ZF);rfl;rfl;rfl;rfl;(exact zf4);skip)))
    ((with_reducible refine(TL.out _).mono ?_);rintro e w9 ⟨rfl,b9⟩);have B9:Ok w w9:=Below.trans (by have:=B8.out;(exact zf1)) (b9.mono (by have:=B8.out.size;first|omega|(simp;omega)));clear b9;go_wp2_with fail
    go_ret2
    first|exact⟨rfl,B9⟩|exact B9
theorem qe1 (a b c round:Int)(aI:¬(round=1∨round=2∨round=3))(w:World) :
  Calls prog 76 #[.int .i64 a,.int .i64 b,.int .i64 c,.int .i64 round] w λe w'=>e=.returned (.tuple #[.int .i64 0,.int .i64 2])/\Ok w w':=by
 by_cases h:round<1
 ·clear aI;go_enter func76,ntmps76;go_wp2_with fail
  go_ret2
  first|exact⟨rfl,Below.refl _ _⟩|exact Below.refl _ _
 ·have h1:1<=round:=by omega
  have h3:3<round:=by omega
  clear aI h;go_enter func76,ntmps76;go_wp2_with fail
  go_ret2
  first|exact⟨rfl,Below.refl _ _⟩|exact Below.refl _ _
theorem qe2 (a b round:Int)(h1:1<=round)(h3:round<=3)(w:World) :
  Calls prog 76 #[.int .i64 a,.int .i64 b,.int .i64 0,.int .i64 round] w λe w'=>e=.returned (.tuple #[.int .i64 0,.int .i64 11])/\Ok w w':=by
 go_enter func76,ntmps76
 go_wp2_with fail
 go_ret2
 first|exact⟨rfl,Below.refl _ _⟩|exact Below.refl _ _
theorem Cz (a b c round:Int)(ha:InR a)(hb:InR b)(hc:InR c)(w:World) :
  Calls prog 76 #[.int .i64 a,.int .i64 b,.int .i64 c,.int .i64 round] w λe w'=>e=.returned (.tuple #[.int .i64 (dv a b c round),.int .i64 (de a b c round)])/\Ok w w':=by
 by_cases aI:round=1∨round=2∨round=3
 ·have hnn:¬ ¬(round=1∨round=2∨round=3):=λh=>h aI;by_cases hc0:c=0
  ·rw[dv,de,Sw hnn,Sw hnn,Sx hc0,Sx hc0,hc0];exact qe2 a b round Oz Oz w
  ·rw[dv,de,Sw hnn,Sw hnn,Sw hc0,Sw hc0];have hm:=qeY ha hb;refine qe0 a b c round (a*b).natAbs c.natAbs _ _ (decide (a*b<0)) (decide (c<0)) (decide (a*b<0) != decide (c<0)) (decide ((a*b).natAbs / c.natAbs % 2=1)) _ (Jd a b c round) ha hb hc aI (by simp[hc0]) ?_ rfl rfl Oz (by unfold InR at hc;omega) Oz rfl rfl (X9 a b c round _ _ rfl rfl) rfl ?_ w
   ·cases decide (a*b<0)<;>cases decide (c<0)<;>rfl
   ·show ∀w,_;intro w;exact qeX a b ha hb w
 ·rw[dv,de,Sx aI,Sx aI];exact qe1 a b c round aI w
end
end Go.Proofs.YtikapeaodobkjaaGreat
