/- What the laws lean on, in a few texts (by shake.py): number 1 of 16. -/
import Derived.Test.YtikapeaodobkjaaGreatRows
import Derived.WalkKit
import Derived.Laws.Bits64b
import Derived.Test.YtikapeaodobkjaaGreatProg
import Derived.Test.YtikapeaodobkjaaGreatChecked
import Derived.WalkSpells
import Derived.WalkLawsBesides
import Derived.Handy
import Derived.BigQuiet
import Derived.Deep.QuietTactic
import Derived.Maps.AppendAt
import Derived.Deep.Draws
import Derived.Lib.IndexBytes
import Derived.OwnWalk
import Derived.Deep.RegionHeld3
import Derived.Deep.RegionLaw
import Derived.Deep.AppendLies
import Derived.Lib.ConvBytes
import Derived.Lib.Hide
import Derived.OpenShut
import Derived.Deep.Slices
import Derived.Deep.Fields
import Derived.ChangeSame
import Derived.Deep.RegionWith
import Derived.Lib.BitFns
import Derived.Deep.DeepCutAuto
import Derived.Deep.CutBlock
import Derived.Shelf.Small.Bits
import Derived.Shelf.Strconv.Itoa0
import Derived.Shelf.Bits.Mul64
import Derived.Ground.SlgnProg
import Derived.Shelf.SlicesE.Compact
import Derived.Ground.SlgfProg
import Derived.Shelf.SlicesE.IndexFunc
import Derived.Shelf.SlicesE.DeleteFunc
import Derived.Deep.LoopGhost
import Derived.Deep.OwnRows
import Derived.OrdersHeld
import Derived.OrdersIn

namespace Go.Proofs.YtikapeaodobkjaaGreat
open _root_.Go.Proofs.Tryz
section
open Go.RowKit Go.Lib
theorem Ot (n:Nat):n<=n:=Nat.le_refl n
theorem Oq (n:Nat)(w:World):Below n w w:=Below.refl _ _
abbrev Ok (w w':World):Prop:=Below w.heap.size w w'
abbrev Sz:=@decide_eq_false
abbrev Sy:=@decide_eq_true
abbrev Sx:=@if_pos
abbrev Sw:=@if_neg
abbrev Sv:=@And.intro
abbrev Su:=@List.length_append
abbrev St:=@List.append_assoc
abbrev Ss:=@Calls.quiet_of_same
abbrev Sq:=@Nat.le_refl
abbrev Sk:=@Nat.le_trans
abbrev Sj:=@getElem!_pos
abbrev Wz:=@IntKind.wrap_i64
abbrev Wy:=@List.length_take
abbrev Wx:=@List.mem_append_right
abbrev Ww:=@Nat.lt_of_lt_of_le
abbrev Wv:=@List.flatMap_append
abbrev Wu:=@List.size_toArray
abbrev Wt:=@List.getElem_mem
abbrev Ws:=@List.mem_append_left
abbrev Wq:=@List.length_cons
abbrev Wk:=@List.length_set
abbrev Az:=@List.length_drop
abbrev Ay:=@Nat.lt_irrefl
abbrev Ax:=@Nat.not_lt_zero
abbrev Aw:=@List.pairwise_append
theorem Ou {p:Prop}(h:p):Hid p:=Lib.hid h
end
section
section
variable {P:Program}{ops:Array Oper}{Q:Exit → Act → World → Prop}{md:Region.Mode}{S:World → Prop}
theorem tkH (i:Nat)(v:Value){d:Option Tmp}{op:Go.Op}{ty:TypeId}{pos:String}{af:Array Edge}{g:Option (Nat×Bool)}{fuel:Nat}{listed:Array Bool}{a:Act}{w:World}
  (hy:∀w,S w->(execOp a.eval ⟨d,op,ty,pos,af,g⟩).run P w=.ok (.value v) w) (hS:S w) (h:wpAnyH P md ops Q S fuel (listed.setIfInBounds i true) (a.put d v) w)
  (hi:ops[i]? = some ⟨d,op,ty,pos,af,g⟩:=by rfl) (hs:Region.noSelect ops=true:=by kernel_rfl) (hf:Region.free md ops listed i=true:=by kernel_rfl) (hr:(Region.ready md ops listed).contains i=true:=by kernel_rfl)
  (hQ:∀c a w,Q (.panic c) (a.put d v) w->Q (.panic c) a w:=by exact λ_ _ _ h=>h) (hw:Region.wanted ⟨d,op,ty,pos,af,g⟩ (yielded ops a.tmps)=true:=by kernel_rfl):wpAnyH P md ops Q S (fuel+1) listed a w :=
 wpAnyH_take hi hs hf hr hQ (Or.inl ⟨hw,hy⟩) hS h
theorem Oz {p:Prop}(h:p:=by omega):p:=h
theorem Oy {p:Prop}(h:p:=by simp):p:=h
theorem Ox {p:Prop}(h:p:=by decide):p:=h
theorem Ow {p:Prop}(h:p:=by kernel_rfl):p:=h
theorem Ov {p:Prop}(h:p:=by assumption):p:=h
theorem zf5 {p:Prop}(h:p:=by((repeat' (first|(with_reducible assumption)|((with_reducible refine ZX ?_);(exact zf3))|((with_reducible refine Zx ?_ ?_);(exact zf3))|(with_reducible refine G9 ?_)|(with_reducible refine qcB ?_)));(first|done|fail));(first|done|fail)):p:=h
theorem zf4 {p:Prop}(h:p:=by(simp;(first|done|fail));(first|done|fail)):p:=h
theorem zf3 {p:Prop}(h:p:=by(first|(simp;(first|done|fail))|omega|(simp;omega));(first|done|fail)):p:=h
theorem zf2 {p:Prop}(h:p:=by((repeat' (first|(with_reducible assumption)|((with_reducible refine Qe ?_);(focus (first|(simp;(first|done|fail))|omega|(simp;omega))))|((with_reducible refine Qp ?_ ?_);(focus (first|(simp;(first|done|fail))|omega|(simp;omega))))|(with_reducible refine Qk ?_)));(first|done|fail));(first|done|fail)):p:=h
theorem zf1 {p:Prop}(h:p:=by((repeat' (first|(with_reducible exact Below.refl _ _)|(with_reducible assumption)|(with_reducible refine Below.alloc ?_ ?_ _)|(with_reducible refine Below.setCell ?_ ?_ _)|(with_reducible refine Below.row ?_ ?_ _)|(with_reducible refine Below.drew ?_)|(with_reducible refine QI ?_ _)|(focus (first|(simp;(first|done|fail))|omega|(simp;omega)))));(first|done|fail));(first|done|fail)):p:=h
theorem zf0 {p:Prop}(h:p:=by((repeat' (first|(with_reducible assumption)|((with_reducible refine ZX ?_);(focus (first|(simp;(first|done|fail))|omega|(simp;omega))))|((with_reducible refine Zx ?_ ?_);(focus (first|(simp;(first|done|fail))|omega|(simp;omega))))|(with_reducible apply qep)|(with_reducible apply JO)|(with_reducible apply Cn)|((with_reducible refine JD ?_ ?_);(focus (first|(simp;(first|done|fail))|omega|(simp;omega))))|((with_reducible refine Zc ?_ ?_);(focus (first|(simp;(first|done|fail))|omega|(simp;omega))))|(with_reducible refine G9 ?_)));(first|done|fail));(first|done|fail)):p:=h
theorem tkA (i:Nat){v:Value}{d:Option Tmp}{op:Go.Op}{ty:TypeId}{pos:String}{af:Array Edge}{g:Option (Nat×Bool)}{fuel:Nat}{listed:Array Bool}{a:Act}{w:World}
  (h:wpAnyH P md ops Q S fuel (listed.setIfInBounds i true) (a.put d v) w) (hS:S w:=by first|assumption|trivial) (hi:ops[i]? = some ⟨d,op,ty,pos,af,g⟩:=by rfl) (hs:Region.noSelect ops=true:=by kernel_rfl) (hf:Region.free md ops listed i=true:=by kernel_rfl) (hr:(Region.ready md ops listed).contains i=true:=by kernel_rfl)
  (hQ:∀c a w,Q (.panic c) (a.put d v) w->Q (.panic c) a w:=by exact λ_ _ _ h=>h) (hw:Region.wanted ⟨d,op,ty,pos,af,g⟩ (yielded ops a.tmps)=true:=by kernel_rfl) (hy:∀w,S w->(execOp a.eval ⟨d,op,ty,pos,af,g⟩).run P w=.ok (.value v) w:=by intro w hSw;(try dsimp only at hSw);go_simp;try with_reducible rfl):wpAnyH P md ops Q S (fuel+1) listed a w :=
 wpAnyH_take hi hs hf hr hQ (Or.inl ⟨hw,hy⟩) hS h
end
section
variable {P:Program}{ops:Array Oper}{Q:Exit → Act → World → Prop}{md:Region.Mode}{S:World → Prop}
theorem rdH (i:Nat){d:Option Tmp}{op:Go.Op}{ty:TypeId}{pos:String}{af:Array Edge}{g:Option (Nat×Bool)}{fuel:Nat}{listed:Array Bool}{a:Act}{w:World}
  (h:∀K':Act->World->Prop,Shut (∀a w,S w->(S w->wpAnyH P md ops Q S fuel (listed.setIfInBounds i true) a w)->K' a w)->if Region.wanted ⟨d,op,ty,pos,af,g⟩ (yielded ops a.tmps)=true then Oper.wp P ⟨d,op,ty,pos,af,g⟩ a w K' Q else K' (a.put d undef) w)
  (ho:ops[i]? = some ⟨d,op,ty,pos,af,g⟩:=by rfl) (hr:Region.ready md ops listed=[i]:=by kernel_rfl):wpAnyH P md ops Q S (fuel+1) listed a w :=
 wpAnyH_ready hr Oy (AllReadyH.cons ho h AllReadyH.nil)
end
section
variable {F:Fence}{n:Nat}{P:Program}{ops:Array Oper}{Q:Exit → Act → World → Prop}{md:Region.Mode}
theorem tkI (i:Nat)(v:Value){d:Option Tmp}{op:Go.Op}{ty:TypeId}{pos:String}{af:Array Edge}{g:Option (Nat×Bool)}{fuel:Nat}{listed:Array Bool}{a:Act}{w:World}
  (hy:∀w,(execOp a.eval ⟨d,op,ty,pos,af,g⟩).run P w=.ok (.value v) w) (h:wpAnyIn F n P md ops Q fuel (listed.setIfInBounds i true) (a.put d v) w) (hro:F.round=none:=by rfl)
  (hi:ops[i]? = some ⟨d,op,ty,pos,af,g⟩:=by rfl) (hs:Region.noSelect ops=true:=by kernel_rfl) (hf:Region.free md ops listed i=true:=by kernel_rfl) (hr:(Region.ready md ops listed).contains i=true:=by kernel_rfl)
  (hQ:∀c a w,Q (.panic c) (a.put d v) w->Q (.panic c) a w:=by exact λ_ _ _ h=>h) (hw:Region.wanted ⟨d,op,ty,pos,af,g⟩ (yielded ops a.tmps)=true:=by kernel_rfl) (hb:∀w,(⟨d,op,ty,pos,af,g⟩:Oper).about P w a.eval=none:=by exact λ_=>rfl):wpAnyIn F n P md ops Q (fuel+1) listed a w :=
 wpAnyIn_take hro hi hs hf hr hQ ⟨Or.inl ⟨hw,hy⟩,hb⟩ h
theorem tkU (i:Nat){d:Option Tmp}{op:Go.Op}{ty:TypeId}{pos:String}{af:Array Edge}{g:Option (Nat×Bool)}{fuel:Nat}{listed:Array Bool}{a:Act}{w:World}
  (h:wpAnyIn F n P md ops Q fuel (listed.setIfInBounds i true) (a.put d undef) w) (hro:F.round=none:=by rfl)
  (hi:ops[i]? = some ⟨d,op,ty,pos,af,g⟩:=by rfl) (hs:Region.noSelect ops=true:=by kernel_rfl) (hf:Region.free md ops listed i=true:=by kernel_rfl) (hr:(Region.ready md ops listed).contains i=true:=by kernel_rfl)
  (hQ:∀c a w,Q (.panic c) (a.put d undef) w->Q (.panic c) a w:=by exact λ_ _ _ h=>h) (hw:Region.wanted ⟨d,op,ty,pos,af,g⟩ (yielded ops a.tmps)=false:=by kernel_rfl) (hb:∀w,(⟨d,op,ty,pos,af,g⟩:Oper).about P w a.eval=none:=by exact λ_=>rfl):wpAnyIn F n P md ops Q (fuel+1) listed a w :=
 wpAnyIn_take hro hi hs hf hr hQ ⟨Or.inr ⟨hw,rfl⟩,hb⟩ h
end
theorem zz:((∀(a:Act) (d:Tmp) (v:Value),a.put (some d) v={ a with tmps:=a.tmps.setIfInBounds d v })/\(∀(a:Act) (v:Value),a.put none v=a))/\(∀(l:List Value) (i:Nat) (a:Value),l.toArray.setIfInBounds i a=(l.set i a).toArray)/\(∀(x:Value) (xs:List Value) (i:Nat) (a:Value),(x :: xs).set (i+1) a=x :: xs.set i a)/\(∀(x:Value) (xs:List Value) (a:Value),(x :: xs).set 0 a=a :: xs) :=
 ⟨⟨λ_ _ _=>rfl,λ_ _=>rfl⟩,λl i a=>List.setIfInBounds_toArray l i a,λ_ _ _ _=>List.set_cons_succ,λ_ _ _=>List.set_cons_zero⟩
end
end Go.Proofs.YtikapeaodobkjaaGreat
set_option maxHeartbeats 16000000
set_option maxRecDepth 1000000
set_option linter.unusedVariables false
set_option linter.unusedSimpArgs false
namespace Go.Proofs.YtikapeaodobkjaaGreat
open _root_.Go.Proofs.Tryz
section
open Go.RowKit
theorem Qc {w:World}{g:Nat}{o:Obj}(h:w.heap[g]? = some o):g<w.heap.size:=by
 rcases Nat.lt_or_ge g w.heap.size with h'|h'
 ·exact h'
 ·rw[Array.getElem?_eq_none h']at h;cases h
theorem QK {w:World}{g k:Nat}{v:Value}{cs:Array Value}{t:TypeId}(h:w.heap[g]? = some (.cells cs t (0,0))):(w.setCell ⟨g,k,none⟩ v).heap[g]? = some (.cells (cs.setIfInBounds k v) t (0,0)) :=
 heap_setCell_same _ _ _ _ _ _ h
theorem QJ {w:World}{a:Addr}{v:Value}{k:Nat}(h:k≠a.block):(w.setCell a v).heap[k]? = w.heap[k]?:=Below.heap_setCell w a v k h
def Tch (g:Nat)(w w':World):Prop:=w.grownBy w' (some g)
theorem Tch.size {g:Nat}{a b:World}(h:Tch g a b):a.heap.size<=b.heap.size:=World.grownBy.size h
structure Fr (S:Nat->Prop) (w w':World):Prop where
 os:w'.os=w.os
 tape:w'.tape=w.tape
 output:w'.output=w.output
 size:w.heap.size<=w'.heap.size
 block:∀k,k<w.heap.size->¬S k->w'.heap[k]? = w.heap[k]?
theorem Fr.refl (S:Nat->Prop)(w:World):Fr S w w:=⟨rfl,rfl,rfl,Sq _,λ_ _ _=>rfl⟩
theorem Fr.trans {S S':Nat->Prop}{a b c:World}(h:Fr S a b)(k:Fr S' b c)(hs:∀k,S' k->S k∨a.heap.size<=k):Fr S a c :=
 ⟨k.os.trans h.os,k.tape.trans h.tape,k.output.trans h.output,Sk h.size k.size,λi hi hn =>
  (k.block i (Ww hi h.size) (λhS=>by rcases hs i hS with h1|h1;exact hn h1;omega)).trans (h.block i hi hn)⟩
theorem Fr.drew {S:Nat->Prop}{a b:World}(h:Fr S a b):Fr S a b.drew:=⟨h.os,h.tape,h.output,h.size,h.block⟩
theorem Fr.drewN {S:Nat->Prop}{a b:World}(h:Fr S a b)(n:Nat):Fr S a (b.drewN n):=⟨h.os,h.tape,h.output,h.size,h.block⟩
theorem Fr.alloc {S:Nat->Prop}{a b:World}(h:Fr S a b)(o:Obj):Fr S a (b.alloc o) :=
 ⟨h.os,h.tape,h.output,Sk h.size Oy,λk hk hn=>(Below.heap_alloc b o k (Ww hk h.size)).trans (h.block k hk hn)⟩
theorem Fr.set {S:Nat->Prop}{a b:World}(h:Fr S a b){p:Addr}(hp:S p.block∨a.heap.size<=p.block)(v:Value):Fr S a (b.setCell p v) :=
 ⟨h.os,h.tape,h.output,by simpa [World.setCell] using h.size,λk hk hn=>(QJ (λe=>by rcases hp with h1|h1;exact hn (e ▸ h1);omega)).trans (h.block k hk hn)⟩
theorem Fr.grown {S:Nat->Prop}{a b c:World}{row:Option Nat}(h:Fr S a b)(k:b.grownBy c row)(hr:∀j,row=some j->S j∨a.heap.size<=j):Fr S a c :=
 ⟨k.os.trans h.os,k.tape.trans h.tape,k.output.trans h.output,Sk h.size k.size,λi hi hn =>
  (k.block i (Ww hi h.size) (λe=>by rcases hr i e.symm with h1|h1;exact hn h1;omega)).trans (h.block i hi hn)⟩
theorem Fr.below {S:Nat->Prop}{B:Nat}{a b:World}(h:Fr S a b)(hS:∀k,S k->B<=k)(hB:B<=a.heap.size):Below B a b :=
 ⟨h.os,h.tape,h.output,h.size,λk hk=>h.block k Oz (λhk'=>by have:=hS k hk';omega)⟩
theorem Fr.of_below {S:Nat->Prop}{a b:World}(h:Ok a b):Fr S a b:=⟨h.os,h.tape,h.output,h.size,λk hk _=>h.block k hk⟩
theorem Fr.mono {S S':Nat->Prop}{a b:World}(h:Fr S a b)(hs:∀k,S k->S' k∨a.heap.size<=k):Fr S' a b:=(Fr.refl S' a).trans h hs
theorem Fr.blk {S:Nat->Prop}{a b:World}{k:Nat}{o:Obj}(h:Fr S a b)(ho:a.heap[k]? = some o)(hn:¬S k):b.heap[k]? = some o:=(h.block k (Qc ho) hn).trans ho
theorem QN (b off j:Nat):(⟨b,off,none⟩:Addr).add j=⟨b,off+j,none⟩:=by unfold Addr.add;split<;>simp_all
theorem Qn {w:World}{base g n size:Nat}{e t:TypeId}{v:Value}{xs:List Value}{cs:Array Value}(h:w.ownsRow base e size v n xs)(hg:w.heap[g]? = some (.cells cs t (0,0)))(hne:e≠t):v.ownBlock≠some g:=by
 rcases h.2 with ⟨rfl,_⟩ | ⟨k,cap,cur,rfl,_,hk,_⟩
 ·simp[Value.ownBlock]
 ·intro he;simp[Value.ownBlock]at he;subst he;rw[hk]at hg;injection hg with hg;injection hg with _ hg;exact hne hg
theorem Zr {w:World}{g g':Nat}{e t:TypeId}{cs cs':Array Value}(h:w.heap[g]? = some (.cells cs e (0,0)))(h':w.heap[g']? = some (.cells cs' t (0,0)))(hne:e≠t):g≠g':=by
 rintro rfl
 rw[h]at h'
 injection h' with h'
 injection h' with _ h'
 exact hne h'
theorem Qh {S:Nat->Prop}{w w':World}{base n:Nat}{v:Value}{xs:List Value}{e:TypeId}{size:Nat}(h:w.ownsRow base e size v n xs)(hf:Fr S w w')(hv:∀k,v.ownBlock=some k->¬S k):w'.ownsRow base e size v n xs:=by
 obtain⟨h1,h2⟩:=h
 refine⟨h1,?_⟩
 rcases h2 with hn | ⟨k,cap,cur,rfl,hb,hk,rest⟩
 ·exact .inl hn
 ·exact .inr ⟨k,cap,cur,rfl,hb,hf.blk hk (hv k rfl),rest⟩
theorem Zs {w:World}{base n:Nat}{v:Value}{xs:List Value}{e:TypeId}{size:Nat}(h:w.ownsRow base e size v n xs):∀k,v.ownBlock=some k->base<=k/\k<w.heap.size:=h.lt
def Bx (T:TypeId)(w:World)(c:Nat)(v:Value):Prop:=w.heap[c]? = some (.cells #[v] T (0,0))
theorem Bx.c0 {T:TypeId}{w:World}{c:Nat}{v:Value}(h:Bx T w c v):w.cell? ⟨c,0,none⟩=some v:=by rw[cell_of_row _ _ _ _ _ _ h];rfl
theorem Bx.f0 {T:TypeId}{w:World}{c:Nat}{v:Value}(h:Bx T w c v):w.frozen? ⟨c,0,none⟩=false:=frozen_of_row _ _ _ _ _ h
theorem Bx.set {T:TypeId}{w:World}{c:Nat}{v:Value}(h:Bx T w c v)(u:Value):Bx T (w.setCell ⟨c,0,none⟩ u) c u:=by unfold Bx at h ⊢;rw[QK h];rfl
theorem Bx.alloc {T:TypeId}{w:World}{c:Nat}{v:Value}(h:Bx T w c v)(o:Obj):Bx T (w.alloc o) c v:=(Below.heap_alloc w o c (Qc h)).trans h
def rkN (s:Int):Int:=if s=1 then 0 else if s=2 then 1 else 2
theorem JI (s:Int)(w:World):Calls prog 77 #[.int .i64 s] w λe w'=>e=.returned (.int .i64 (rkN s))/\w=w':=by
 unfold rkN
 by_cases h1:s=1
 ·rw[Sx h1];have e1:(s==1)=true:=by simp[h1]
  clear h1;go_enter func77,ntmps77;go_wp2_with fail
  go_ret;exact⟨rfl,rfl⟩
 rw[Sw h1]
 have e1:(s==1)=false:=by simp[h1]
 by_cases h2:s=2
 ·rw[Sx h2];have e2:(s==2)=true:=by simp[h2]
  clear h1 h2;go_enter func77,ntmps77;go_wp2_with fail
  go_ret;exact⟨rfl,rfl⟩
 rw[Sw h2]
 have e2:(s==2)=false:=by simp[h2]
 clear h1 h2
 go_enter func77,ntmps77
 go_wp2_with fail
 go_ret
 exact⟨rfl,rfl⟩
def Qf (s a b:Int):Bool:=(s==1&&decide (b<a))||(s==2&&decide (a<b))
def Zf (s a b:Int):Bool:=(s==1&&decide (b<=a))||(s==2&&decide (a<=b))
theorem GV (s a b:Int)(w:World):Calls prog 64 #[.int .i64 s,.int .i64 a,.int .i64 b] w λe w'=>e=.returned (.tuple #[.int .i64 (if s=1 then a else if s=2 then b else 0),.int .i64 (if s=1 then b else if s=2 then a else 0),.bool (s==1||s==2)])/\w=w':=by
 by_cases h1:s=1
 ·rw[Sx h1,Sx h1];have e1:(s==1)=true:=by simp[h1]
  have e2:(s==2)=false:=by simp[h1]
  rw[e1,e2];clear h1;go_enter func64,ntmps64;go_wp2_with fail
  go_ret3;exact⟨rfl,rfl⟩
 rw[Sw h1,Sw h1]
 have e1:(s==1)=false:=by simp[h1]
 by_cases h2:s=2
 ·rw[Sx h2,Sx h2];have e2:(s==2)=true:=by simp[h2]
  rw[e1,e2];clear h1 h2;go_enter func64,ntmps64;go_wp2_with fail
  go_ret3;exact⟨rfl,rfl⟩
 rw[Sw h2,Sw h2]
 have e2:(s==2)=false:=by simp[h2]
 rw[e1,e2]
 clear h1 h2
 go_enter func64,ntmps64
 go_wp2_with fail
 go_ret3
 exact⟨rfl,rfl⟩
theorem XQ (s a b:Int)(w:World):Calls prog 85 #[.int .i64 s,.int .i64 a,.int .i64 b] w λe w'=>e=.returned (.bool (Qf s a b))/\w=w':=by
 have bN:=λw=>GV s a b w
 by_cases h1:s=1
 ·rw[Sx h1,Sx h1]at bN;have e:Qf s a b=decide (b<a):=by unfold Qf;simp[h1]
  have e1:(s==1)=true:=by simp[h1]
  rw[e1,Bool.true_or]at bN;have HA:=Ou bN;rw[e];clear bN h1 e e1;go_enter func85,ntmps85;go_wp2_with ((with_reducible refine(HA.out _).mono ?_);rintro e w' ⟨rfl,rfl⟩)
  go_ret;exact⟨rfl,rfl⟩
 rw[Sw h1,Sw h1]at bN
 by_cases h2:s=2
 ·rw[Sx h2,Sx h2]at bN;have e:Qf s a b=decide (a<b):=by unfold Qf;simp[h2]
  have e1:(s==2)=true:=by simp[h2]
  rw[e1,Bool.or_true]at bN;have HA:=Ou bN;rw[e];clear bN h1 h2 e e1;go_enter func85,ntmps85;go_wp2_with ((with_reducible refine(HA.out _).mono ?_);rintro e w' ⟨rfl,rfl⟩)
  go_ret;exact⟨rfl,rfl⟩
 rw[Sw h2,Sw h2]at bN
 have e:Qf s a b=false:=by unfold Qf;simp[h1,h2]
 have e1:(s==1)=false:=by simp[h1]
 have e2:(s==2)=false:=by simp[h2]
 rw[e1,e2]at bN
 have HA:=Ou bN
 rw[e]
 clear bN h1 h2 e e1 e2
 go_enter func85,ntmps85
 go_wp2_with ((with_reducible refine(HA.out _).mono ?_);rintro e w' ⟨rfl,rfl⟩)
 go_ret
 exact⟨rfl,rfl⟩
def Z3 (a b:Int):Int:=if a<b then -1 else if b<a then 1 else 0
theorem GX (a:Int)(w:World):Calls prog 138 #[.int .u64 a] w λe w'=>e=.returned (.bool false)/\w=w':=by
 go_enter func138,ntmps138
 go_wp2_with fail
 go_ret
 exact⟨rfl,rfl⟩
theorem GY (a b:Int)(w:World):Calls prog 117 #[.int .u64 a,.int .u64 b] w λe w'=>e=.returned (.int .i64 (Z3 a b))/\w=w':=by
 have HN:=Ou GX
 unfold Z3
 by_cases h1:a<b
 ·rw[Sx h1];go_enter func117,ntmps117;go_wp2_with ((with_reducible refine(HN.out _ _).mono ?_);rintro e w' ⟨rfl,rfl⟩)
  go_ret;exact⟨rfl,rfl⟩
 rw[Sw h1]
 have g1:decide (a<b)=false:=Sz h1
 by_cases h2:b<a
 ·rw[Sx h2];clear h1;go_enter func117,ntmps117;go_wp2_with ((with_reducible refine(HN.out _ _).mono ?_);rintro e w' ⟨rfl,rfl⟩)
  go_ret;exact⟨rfl,rfl⟩
 rw[Sw h2]
 have g2:decide (b<a)=false:=Sz h2
 clear h1 h2
 go_enter func117,ntmps117
 go_wp2_with ((with_reducible refine(HN.out _ _).mono ?_);rintro e w' ⟨rfl,rfl⟩)
 go_ret
 exact⟨rfl,rfl⟩
theorem qb3 (a b:Int)(g:Nat)(w:World)(hg:w.heap[g]? = some (.cells #[.int .i64 a,.int .i64 b] 3 (0,0))) :
  Calls prog 116 #[.slice (some ⟨g,0,none⟩) 2 2] w λe w'=>e=.returned (.int .i64 (if a=0 then b else a))/\w=w':=by
 have c0:w.cell? ⟨g,0,none⟩=some (.int .i64 a):=by rw[cell_of_row _ _ _ _ _ _ hg];rfl
 have c1:w.cell? ⟨g,1,none⟩=some (.int .i64 b):=by rw[cell_of_row _ _ _ _ _ _ hg];rfl
 clear hg
 by_cases h0:a=0
 ·rw[Sx h0];have e0:(a != 0)=false:=by simp[h0]
  clear h0;by_cases h1:b=0
  ·have e1:(b != 0)=false:=by simp[h1]
   have e2:Ending.returned (.int .i64 0)=Ending.returned (.int .i64 b):=by rw[h1]
   have E2:=Ou e2;clear h1 e2;go_enter func116,ntmps116;go_wp2_with fail
   go_loop [8] (λi=>∃k:Nat,k<=2/\i=.int .i64 k) (λi=>2-(intOf i).toNat)
   case atStart=>exact⟨0,by omega,rfl⟩
   case round =>
    obtain⟨k,hk,rfl⟩:=hrel;have e:k=0∨k=1∨k=2:=by omega
    rcases e with rfl|rfl|rfl
    ·go_wp2_with fail
     exact⟨⟨1,by omega,rfl⟩,by simp[intOf]⟩
    ·go_wp2_with fail
     exact⟨⟨2,by omega,rfl⟩,by simp[intOf]⟩
    ·go_wp2_with fail
     go_ret;exact⟨E2.out,rfl⟩
  ·have e1:(b != 0)=true:=by simp[h1]
   clear h1;go_enter func116,ntmps116;go_wp2_with fail
   go_loop [8] (λi=>∃k:Nat,k<=1/\i=.int .i64 k) (λi=>2-(intOf i).toNat)
   case atStart=>exact⟨0,by omega,rfl⟩
   case round =>
    obtain⟨k,hk,rfl⟩:=hrel;have e:k=0∨k=1:=by omega
    rcases e with rfl|rfl
    ·go_wp2_with fail
     exact⟨⟨1,by omega,rfl⟩,by simp[intOf]⟩
    ·go_wp2_with fail
     go_ret;exact⟨rfl,rfl⟩
 ·rw[Sw h0];have e0:(a != 0)=true:=by simp[h0]
  clear h0;go_enter func116,ntmps116;go_wp2_with fail
  go_loop [8] (λi=>i=.int .i64 0) (λi=>2-(intOf i).toNat)
  case atStart=>rfl
  case round =>
   subst hrel;go_wp2_with fail
   go_ret;exact⟨rfl,rfl⟩
end
section
open Go.RowKit Go.ChangeShapes Go.WideShapes Go.Deep
structure Od where
 id:Int
 acc:Int
 side:Int
 price:Int
 qty:Int
 seq:Int
instance : Inhabited Od := ⟨⟨0, 0, 0, 0, 0, 0⟩⟩
def Od.ok (w:World)(x:Od):Prop:=(0<=x.id/\x.id<=18446744073709551615)/\(-9223372036854775808<=x.acc/\x.acc<=9223372036854775807)/\(-9223372036854775808<=x.side/\x.side<=9223372036854775807)/\(-9223372036854775808<=x.price/\x.price<=9223372036854775807)/\(-9223372036854775808<=x.qty/\x.qty<=9223372036854775807)/\(0<=x.seq/\x.seq<=18446744073709551615)
def Od.val (x:Od):Value:=.agg #[(.int .u64 x.id),(.int .i64 x.acc),(.int .i64 x.side),(.int .i64 x.price),(.int .i64 x.qty),(.int .u64 x.seq)]
def Od.at (x:Od)(w:World)(b o:Nat):Prop:=w.cell? ⟨b,o,none⟩=some (.int .u64 x.id)/\w.cell? ⟨b,o+1,none⟩=some (.int .i64 x.acc)/\w.cell? ⟨b,o+2,none⟩=some (.int .i64 x.side)/\w.cell? ⟨b,o+3,none⟩=some (.int .i64 x.price)/\w.cell? ⟨b,o+4,none⟩=some (.int .i64 x.qty)/\w.cell? ⟨b,o+5,none⟩=some (.int .u64 x.seq)
theorem Od.ok_below {w w':World}{x:Od}(h:x.ok w)(hb:Ok w w'):x.ok w':=by
 exact h
theorem Od.at_below {w w':World}{x:Od}{b o:Nat}(h:x.at w b o)(hl:b<w.heap.size)(hb:Ok w w'):x.at w' b o:=by
 unfold Od.at at h ⊢
 simpa only[hb.cell (p:=⟨b,o,none⟩) hl,hb.cell (p:=⟨b,o+1,none⟩) hl,hb.cell (p:=⟨b,o+2,none⟩) hl,hb.cell (p:=⟨b,o+3,none⟩) hl,hb.cell (p:=⟨b,o+4,none⟩) hl,hb.cell (p:=⟨b,o+5,none⟩) hl] using h
def Ods (w:World)(a:Option Addr)(len:Nat)(its:List Od):Prop :=
 its.length=len/\len<=9223372036854775807/\(∀x∈its,x.ok w)/\(len=0∨∃b off,a=some ⟨b,off,none⟩/\b<w.heap.size/\∀i,i<len->(its[i]!).at w b (off+i*6))
theorem Ods.below {w w':World}{a:Option Addr}{len:Nat}{its:List Od}(h:Ods w a len its)(hb:Ok w w'):Ods w' a len its:=by
 obtain⟨h1,hle,h2,h3⟩:=h
 refine⟨h1,hle,λx hx=>Od.ok_below (h2 x hx) hb,?_⟩
 rcases h3 with h0 | ⟨b,off,rfl,hlt,hc⟩
 ·exact .inl h0
 ·exact .inr ⟨b,off,rfl,Ww hlt hb.size,λi hi=>Od.at_below (hc i hi) hlt hb⟩
theorem qb4:oneCellFields prog (match prog.underlying 38 with|some (.struct fs)=>fs|_=>#[])=true:=by kernel_rfl
theorem qb5:prog.cellsOf 38=6:=by kernel_rfl
theorem qb6 {H:Type}{enc:TypeId×Value->H}{w:World}{fuel:Nat}{cs:List Value}{y:DataW H×List MemPlace}(hl:cs.length=6)(h:DataW.trod enc prog w 0 (λ_=>true) true fuel 38 cs=some y) :
  ∃x:Od,x.ok w/\cs[0]? = some (.int .u64 x.id)/\cs[1]? = some (.int .i64 x.acc)/\cs[2]? = some (.int .i64 x.side)/\cs[3]? = some (.int .i64 x.price)/\cs[4]? = some (.int .i64 x.qty)/\cs[5]? = some (.int .u64 x.seq):=by
 obtain⟨xs,n',_,_,_,hxl,hg⟩:=DataW.trod_struct underlying38 h
 have fone:=qb4
 rw[underlying38]at fone
 have at_:∀(j:Nat) (f:Field),j<6->f.offset=j/\prog.cellsOf f.type=1->DataW.trod enc prog w 0 (λ_=>true) true n' f.type ((cs.drop f.offset).take (prog.cellsOf f.type))=xs[j]? ->
   ∃v y,cs[j]? = some v/\DataW.trod enc prog w 0 (λ_=>true) true n' f.type [v]=some y:=by
  intro j f hj ⟨ho,hk⟩ htr;rw[ho,hk]at htr;have hjl:j<cs.length:=by omega
  have e1:(cs.drop j).take 1=[cs[j]]:=by
   rw[List.drop_eq_getElem_cons hjl];rfl
  rw[e1]at htr;have vP:j<xs.length:=by rw[hxl];exact hj
  rw[List.getElem?_eq_getElem vP]at htr;exact⟨_,_,List.getElem?_eq_getElem hjl,htr⟩
 obtain⟨v0,y0,p0,q0⟩:=at_ 0 _ Oz (hone_of fone 0 _ rfl) (hg 0 _ rfl)
 obtain⟨v1,y1,p1,q1⟩:=at_ 1 _ Oz (hone_of fone 1 _ rfl) (hg 1 _ rfl)
 obtain⟨v2,y2,p2,q2⟩:=at_ 2 _ Oz (hone_of fone 2 _ rfl) (hg 2 _ rfl)
 obtain⟨v3,y3,p3,q3⟩:=at_ 3 _ Oz (hone_of fone 3 _ rfl) (hg 3 _ rfl)
 obtain⟨v4,y4,p4,q4⟩:=at_ 4 _ Oz (hone_of fone 4 _ rfl) (hg 4 _ rfl)
 obtain⟨v5,y5,p5,q5⟩:=at_ 5 _ Oz (hone_of fone 5 _ rfl) (hg 5 _ rfl)
 obtain⟨k0,e0,_,w0⟩:=DataW.trod_int underlying35 q0
 obtain⟨k1,e1,_,w1⟩:=DataW.trod_int underlying3 q1
 obtain⟨k2,e2,_,w2⟩:=DataW.trod_int underlying3 q2
 obtain⟨k3,e3,_,w3⟩:=DataW.trod_int underlying2 q3
 obtain⟨k4,e4,_,w4⟩:=DataW.trod_int underlying2 q4
 obtain⟨k5,e5,_,w5⟩:=DataW.trod_int underlying35 q5
 injection e0 with e0;injection e1 with e1;injection e2 with e2;injection e3 with e3;injection e4 with e4;injection e5 with e5
 subst e0;subst e1;subst e2;subst e3;subst e4;subst e5
 exact⟨⟨k0,k1,k2,k3,k4,k5⟩,⟨bounds_u64 w0,bounds_i64 w1,bounds_i64 w2,bounds_i64 w3,bounds_i64 w4,bounds_u64 w5⟩,p0,p1,p2,p3,p4,p5⟩
theorem qb7 {H:Type}{enc:TypeId×Value->H}{w:World}{a:Option Addr}{len cap:Nat}{d:DataW H}{p:List MemPlace}
  (h:DataW.Trod enc prog w 0 (λ_=>true) true 22 (.slice a len cap) d p):∃its,Ods w a len its/\len<=cap/\cap<=maxLen:=by
 obtain⟨fuel,hf⟩:=h
 have hlt:=DataW.trod_lt _ _ _ _ hf
 rcases open_slice underlying22 hf with ⟨hcs,_⟩ | ⟨x,l,c,m,n,D,Pl,hcs,_,hl,hm,hmm,hx,hi⟩
 ·simp[Value.cells]at hcs;obtain⟨rfl,rfl,rfl⟩:=hcs;exact⟨[],⟨rfl,by omega,by simp,.inl rfl⟩,Sq _,Nat.zero_le _⟩
 ·simp[Value.cells]at hcs;obtain⟨rfl,rfl,rfl⟩:=hcs;rw[Sx rfl]at hmm;subst hmm;have one:∀i,i<len->∃y:Od,y.ok w/\w.cell? ((x.add (i*6)).add 0)=some (.int .u64 y.id)/\w.cell? ((x.add (i*6)).add 1)=some (.int .i64 y.acc)/\w.cell? ((x.add (i*6)).add 2)=some (.int .i64 y.side)/\w.cell? ((x.add (i*6)).add 3)=some (.int .i64 y.price)/\w.cell? ((x.add (i*6)).add 4)=some (.int .i64 y.qty)/\w.cell? ((x.add (i*6)).add 5)=some (.int .u64 y.seq):=by
   intro i hil;obtain⟨cs',hc,ht⟩:=hi i Oz;rw[qb5]at hc;obtain⟨_,hlen,hcell⟩:=World.cells?_some hc;obtain⟨y,hy,p0,p1,p2,p3,p4,p5⟩:=qb6 hlen ht;exact⟨y,hy,by rw[hcell 0 Oz,p0],by rw[hcell 1 Oz,p1],by rw[hcell 2 Oz,p2],by rw[hcell 3 Oz,p3],by rw[hcell 4 Oz,p4],by rw[hcell 5 Oz,p5]⟩
  refine⟨(List.range len).map λi=>if h:i<len then Classical.choose (one i h) else default,⟨by simp,by unfold maxLen at hm;omega,λz hz=>?_,?_⟩,hl,hm⟩
  ·obtain⟨i,hi1,rfl⟩:=List.mem_map.1 hz;have hil:i<len:=by simpa using hi1
   rw[dif_pos hil];exact(Classical.choose_spec (one i hil)).1
  ·by_cases h0:len=0
   ·exact .inl h0
   obtain⟨b,off,spot⟩:=x;obtain⟨y,_,hy,_⟩:=one 0 Oz;have hspot:spot=none:=by simpa [Addr.add] using World.cell?_spot hy
   subst hspot;have hb:b<w.heap.size:=World.block_lt_of_cell? w ⟨b,off+0*6+0,none⟩ (by simpa only[QN] using hy);refine .inr ⟨b,off,rfl,hb,λi hil=>?_⟩;have e:((List.range len).map λi=>if h:i<len then Classical.choose (one i h) else (default:Od))[i]! = Classical.choose (one i hil):=by
    rw[List.getElem!_eq_getElem?_getD,List.getElem?_map,List.getElem?_range hil];simp[hil]
   have hs:=(Classical.choose_spec (one i hil)).2;rw[e];unfold Od.at;simpa only[QN,<-Nat.add_assoc,Nat.add_zero] using hs
end
section
open Go.RowKit
def NCf (f:Nat->Bool)(s:Bool):Array Value:=((List.range 136).map (λi=>Value.bool (f i))++[Value.bool s]).toArray
theorem Kj (f:Nat->Bool)(s:Bool):(NCf f s).size=137:=by simp[NCf]
theorem Jn (f:Nat->Bool)(s:Bool)(i:Nat)(h:i<136):(NCf f s)[i]? = some (.bool (f i)):=by
 unfold NCf
 rw[List.getElem?_toArray,List.getElem?_append_left (by simpa using h)]
 simp[h]
theorem VA (f:Nat->Bool)(s:Bool):(NCf f s)[136]? = some (.bool s):=by
 unfold NCf
 rw[List.getElem?_toArray,List.getElem?_append_right (by simp)]
 simp
theorem GZ {x y:Array Value}(hx:x.size=137)(hy:y.size=137)(h:∀i,i<136->x[i]? = y[i]?)(hs:x[136]? = y[136]?):x=y:=by
 apply Array.ext_getElem?
 intro j
 by_cases h1:j<136
 ·exact h j h1
 ·by_cases h2:j=136
  ·subst h2;exact hs
  ·rw[Array.getElem?_eq_none Oz,Array.getElem?_eq_none (by omega)]
theorem VB (f:Nat->Bool)(s:Bool)(i:Nat)(v:Bool)(h:i<136):(NCf f s).setIfInBounds i (.bool v)=NCf (λj=>if j=i then v else f j) s:=by
 apply GZ (by simp[Kj]) (Kj _ _)
 ·intro j hj;rw[Array.getElem?_setIfInBounds,Kj,Jn _ _ _ hj,Jn _ _ _ hj];by_cases e:i=j
  ·subst e;rw[Sx rfl,Sx Oz,Sx rfl]
  ·rw[Sw e,Sw (λe'=>e e'.symm)]
 ·rw[Array.getElem?_setIfInBounds,Kj,VA,VA,Sw (by omega)]
theorem qb8 (f:Nat->Bool)(s t:Bool):(NCf f s).setIfInBounds 136 (.bool t)=NCf f t:=by
 apply GZ (by simp[Kj]) (Kj _ _)
 ·intro j hj;rw[Array.getElem?_setIfInBounds,Jn _ _ _ hj,Jn _ _ _ hj,Sw (by omega)]
 ·rw[Array.getElem?_setIfInBounds,Kj,VA,Sx rfl,Sx Oz,VA]
theorem qb9 (f:Nat->Bool)(s:Bool):(NCf f s).all (·.oneCell')=true:=by
 rw[Array.all_eq_true_iff_forall_mem]
 intro v hv
 simp[NCf]at hv
 rcases hv with ⟨i,_,rfl⟩|rfl<;>rfl
theorem Jo (f g:Nat->Bool)(s:Bool)(h:∀i,i<136->f i=g i):NCf f s=NCf g s:=by
 unfold NCf;congr 2;apply List.map_congr_left;intro i hi;rw[h i (by simpa using hi)]
def NC (m:Nat)(s:Bool):Array Value:=NCf m.testBit s
theorem ZV (m:Nat)(s:Bool)(i:Nat)(h:i<136):(NC m s)[i]? = some (.bool (m.testBit i)):=Jn _ _ _ h
theorem Z9 (m:Nat)(s:Bool):(NC m s)[136]? = some (.bool s):=VA _ _
theorem VC (m:Nat)(s:Bool):(NC m s).size=137:=Kj _ _
theorem G4 (m:Nat)(s:Bool):(NC m s).all (·.oneCell')=true:=qb9 _ _
theorem XR (m:Nat)(s t:Bool):(NC m s).setIfInBounds 136 (.bool t)=NC m t:=qb8 _ _ _
theorem ZW (m i:Nat):m.testBit i=decide (m / 2 ^ i % 2=1):=by rw[Nat.testBit_eq_decide_div_mod_eq]
theorem XS (m i:Nat):m % 2 ^ (i+1)=m % 2 ^ i+2 ^ i*(if m.testBit i then 1 else 0):=by
 rw[Nat.pow_succ,Nat.mod_mul,ZW]
 have:m / 2 ^ i % 2=0∨m / 2 ^ i % 2=1:=by omega
 rcases this with h|h<;>simp[h]
theorem qca (m:Nat)(hm:m<2 ^ 136):m=0↔∀i,i<136->m.testBit i=false:=by
 constructor
 ·rintro rfl i _;simp
 ·intro h;apply Nat.eq_of_testBit_eq;intro i;by_cases hi:i<136
  ·rw[h i hi];simp
  ·rw[Nat.testBit_lt_two_pow (Ww hm (Nat.pow_le_pow_right Oz Oz))];simp
def ZF (a b k:Nat):Bool:=decide (2 ^ k<=a % 2 ^ k+b % 2 ^ k)
theorem G5 (a b:Nat):ZF a b 0=false:=by simp[ZF,Nat.mod_one]
theorem G6 (a b k:Nat):(a+b).testBit k=(a.testBit k ^^ b.testBit k ^^ ZF a b k) /\
  ZF a b (k+1)=(a.testBit k&&b.testBit k||a.testBit k&&ZF a b k||b.testBit k&&ZF a b k):=by
 have hp:0<2 ^ k:=Nat.two_pow_pos k
 have ha:=Nat.mod_lt a hp
 have hb:=Nat.mod_lt b hp
 have e:(a+b) / 2 ^ k=a / 2 ^ k+b / 2 ^ k+if 2 ^ k<=a % 2 ^ k+b % 2 ^ k then 1 else 0:=Nat.add_div hp
 constructor
 ·rw[ZW,ZW a,ZW b,e,ZF];generalize a / 2 ^ k=x;generalize b / 2 ^ k=y;have hx:x % 2=0∨x % 2=1:=by omega
  have hy:y % 2=0∨y % 2=1:=by omega
  by_cases hc:2 ^ k<=a % 2 ^ k+b % 2 ^ k<;>rcases hx with hx|hx<;>rcases hy with hy|hy<;>simp[hc,hx,hy]<;>omega
 ·unfold ZF;rw[XS a k,XS b k,Nat.pow_succ];generalize a % 2 ^ k=x at *;generalize b % 2 ^ k=y at *;generalize 2 ^ k=p at *
  cases a.testBit k<;>cases b.testBit k<;>simp<;>omega
def below (f:Nat->Bool)(k:Nat):Nat->Bool:=λj=>decide (j<k)&&f j
theorem K7 (f:Nat->Bool)(s:Bool)(k:Nat)(v:Bool)(h:k<136)(hv:v=f k) :
  (NCf (below f k) s).setIfInBounds k (.bool v)=NCf (below f (k+1)) s:=by
 subst hv
 rw[VB _ _ _ _ h]
 apply Jo
 intro j _
 unfold below
 by_cases e:j=k
 ·subst e;simp
 ·rw[Sw e];by_cases h1:j<k
  ·simp[h1,show j<k+1 by omega]
  ·simp[h1,show ¬j<k+1 by omega]
theorem Yk (f:Nat->Bool)(s:Bool):NCf (below f 0) s=NC 0 s:=by
 apply Jo;intro j _;simp[below]
theorem G7 (m:Nat)(s:Bool):NCf (below m.testBit 136) s=NC m s:=by
 apply Jo;intro j hj;simp[below,hj]
theorem qcb (a b k:Nat)(h:b<=a):(a-b).testBit k=(a.testBit k ^^ b.testBit k ^^ ZF b (a-b) k) /\
  ZF b (a-b) (k+1)=(!a.testBit k&&b.testBit k||!a.testBit k&&ZF b (a-b) k||b.testBit k&&ZF b (a-b) k):=by
 have ⟨h1,h2⟩:=G6 b (a-b) k
 rw[show b+(a-b)=a by omega]at h1
 rw[h2,h1]
 cases b.testBit k<;>cases (a-b).testBit k<;>cases ZF b (a-b) k<;>simp
def b2i:Bool->Int|true=>1|false=>0
theorem Kk (a j:Nat):a / 2 ^ (j+1)=a / 2 ^ j / 2:=by rw[Nat.pow_succ,Nat.div_div_eq_div_mul]
theorem qcc (a b j:Nat)(h:a / 2 ^ (j+1)=b / 2 ^ (j+1)) :
  (a.testBit j=b.testBit j->a / 2 ^ j=b / 2 ^ j)/\(a.testBit j≠b.testBit j->(a<b↔b.testBit j=true)):=by
 rw[Kk,Kk]at h
 rw[ZW,ZW]
 have hp:0<2 ^ j:=Nat.two_pow_pos j
 constructor
 ·intro e;simp only[decide_eq_decide]at e;omega
 ·intro e;simp only[ne_eq,decide_eq_decide,decide_eq_true_eq]at e ⊢;constructor
  ·intro hl;have:=Nat.div_le_div_right (c:=2 ^ j) (Nat.le_of_lt hl);omega
  ·intro hb;have h1:a / 2 ^ j<b / 2 ^ j:=by omega
   rcases Nat.lt_or_ge a b with h2|h2
   ·exact h2
   ·have:=Nat.div_le_div_right (c:=2 ^ j) h2;omega
theorem qcd (a b:Nat)(ha:a<2 ^ 136)(hb:b<2 ^ 136):a / 2 ^ 136=b / 2 ^ 136:=by
 rw[Nat.div_eq_of_lt ha,Nat.div_eq_of_lt hb]
def up (f:Nat->Bool)(k:Nat):Nat->Bool:=λj=>if k<j then f (j-1) else f j
theorem qce (f:Nat->Bool)(s:Bool)(k:Nat)(hk:k+1<136)(v:Bool)(hv:v=f k):(NCf (up f (k+1)) s).setIfInBounds (k+1) (.bool v)=NCf (up f k) s:=by
 subst hv
 rw[VB _ _ _ _ hk]
 apply Jo
 intro j _
 unfold up
 by_cases e:j=k+1
 ·subst e;simp
 ·rw[Sw e];by_cases h1:k+1<j
  ·rw[Sx h1,Sx (by omega)]
  ·rw[Sw h1,Sw (by omega)]
theorem qcf (m:Nat)(s:Bool):NCf (up m.testBit 135) s=NC m s:=by
 apply Jo;intro j hj;simp[up,show ¬135<j by omega]
theorem qcg (m j:Nat):(2*m).testBit j=if j=0 then false else m.testBit (j-1):=by
 cases j with
 | zero=>simp
 | succ j=>simp[ZW,Kk,show 2*m / 2 ^ j / 2=m / 2 ^ j by rw[<-Kk,Nat.pow_succ,Nat.mul_comm (2 ^ j) 2,Nat.mul_div_mul_left _ _ (by omega)]]
theorem qch (m:Nat)(s:Bool):(NCf (up m.testBit 0) s).setIfInBounds 0 (.bool false)=NC (2*m) s:=by
 rw[VB _ _ _ _ (by omega)]
 apply Jo
 intro j _
 rw[qcg]
 by_cases e:j=0
 ·simp[e]
 ·rw[Sw e,Sw e];simp[up,show 0<j by omega]
theorem qci (m:Nat)(s v:Bool):(NC (2*m) s).setIfInBounds 0 (.bool v)=NC (2*m+if v then 1 else 0) s:=by
 unfold NC
 rw[VB _ _ _ _ (by omega)]
 apply Jo
 intro j _
 by_cases e:j=0
 ·subst e;cases v<;>simp[ZW]<;>omega
 ·rw[Sw e,ZW,ZW];obtain⟨i,rfl⟩:∃i,j=i+1:=⟨j-1,by omega⟩
  have hp:2 ^ (i+1)=2*2 ^ i:=by rw[Nat.pow_succ,Nat.mul_comm]
  rw[hp,<-Nat.div_div_eq_div_mul,<-Nat.div_div_eq_div_mul];have:2*m / 2=(2*m+if v=true then 1 else 0) / 2:=by cases v<;>simp<;>omega
  rw[this]
theorem G8 (m:Nat)(s:Bool)(h:m<2 ^ 64):NCf (below m.testBit 64) s=NC m s:=by
 apply Jo
 intro j _
 unfold below
 by_cases e:j<64
 ·simp[e]
 ·rw[Nat.testBit_lt_two_pow (Ww h (Nat.pow_le_pow_right Oz Oz))];simp
attribute [irreducible] NCf NC
def InR (x:Int):Prop:=-9223372036854775808<=x/\x<=9223372036854775807
def tv (x:Int):Int:=if -9223372036854775808<=x/\x<=9223372036854775807 then x else 0
def te (x:Int):Int:=if -9223372036854775808<=x/\x<=9223372036854775807 then 0 else 10
theorem Yl {x:Int}(h:InR x):tv x=x:=Sx h
theorem XT {x:Int}(h:InR x):te x=0:=Sx h
theorem XU {x:Int}(h:¬InR x):tv x=0:=Sw h
theorem XV {x:Int}(h:¬InR x):te x=10:=Sw h
theorem JJ {a b:Bool}(h:a=b):Ending.returned (.bool a)=.returned (.bool b):=by rw[h]
theorem ZX {w:World}{o:Obj}{n:Nat}(h:n=w.heap.size):(w.alloc o).heap[n]? = some o:=by subst h;exact heap_alloc_new w o
theorem Zx {w:World}{o p:Obj}{n:Nat}(h:n<w.heap.size)(hp:w.heap[n]? = some p):(w.alloc o).heap[n]? = some p:=(heap_alloc_old (w:=w) (o:=o) h).trans hp
theorem G9 {w:World}{g:Nat}{p:Obj}(h:w.heap[g]? = some p):w.drew.heap[g]? = some p:=h
theorem KD {w:World}{g j:Nat}{cs:Array Value}{t:TypeId}{v:Value}(h:w.heap[g]? = some (.cells cs t (0,0)))(hv:cs[j]? = some v):w.cell? ⟨g,j,none⟩=some v:=by
 rw[cell_of_row w g j cs t (0,0) h];exact hv
def Qg (x:Int):Int:=x / 18446744073709551616
def Ql (x:Int):Int:=x % 18446744073709551616
abbrev PV (x:Int):Value:=.agg #[.int .i64 (Qg x),.int .u64 (Ql x)]
abbrev PC (x:Int):Obj:=.cells #[.int .i64 (Qg x),.int .u64 (Ql x)] 195
def Rm (x:Int):Prop:=-170141183460469231731687303715884105728<=x/\x<170141183460469231731687303715884105728
theorem Kl {x:Int}(h:Rm x):-9223372036854775808<=Qg x/\Qg x<=9223372036854775807:=by unfold Rm at h;unfold Qg;omega
theorem Ja (x:Int):0<=Ql x/\Ql x<=18446744073709551615:=by unfold Ql;omega
theorem J1 (x:Int):x=Qg x*18446744073709551616+Ql x:=by unfold Qg Ql;omega
theorem qcj (n:Int)(h0:-9223372036854775808<=n)(h1:n<=9223372036854775807):n / 9223372036854775808=Qg n:=by unfold Qg;omega
theorem qck (n:Int):IntKind.u64.wrap n=Ql n:=by unfold Ql;rw[IntKind.wrap_u64]
theorem Da (x y c:Int)(hx:0<=x)(hy:0<=y)(hc0:0<=c)(hc:c<=1)(w:World) :
  (callFunc 145 #[.int .u64 x,.int .u64 y,.int .u64 c]).run prog w=.ok (.value (.tuple #[.int .u64 ((x+y+c) % 18446744073709551616),.int .u64 ((x+y+c) / 18446744073709551616)])) w:=by
 rw[run_callFunc_extern func145 Ow Ow Ow (e:=add64Entry) Ow,run_add64 x y c hx hy hc0 hc]
 rfl
def Db:Array Value->Sem Value:=λargs=>do
 let (x,y,b) <-Extern.MathBitsCarry.three "Sub64" args
 pure (Extern.MathBitsCarry.pair ((x+Extern.MathBitsCarry.m64-y-b) % Extern.MathBitsCarry.m64) (if x<y+b then 1 else 0))
theorem qcl {P:Program}(x y b:Nat)(hb:b<=1)(w:World) :
  (Db #[.int .u64 x,.int .u64 y,.int .u64 b]).run P w =
   .ok (.tuple #[.int .u64 (((x+18446744073709551616-y-b) % 18446744073709551616:Nat):Int),.int .u64 ((if x<y+b then 1 else 0:Nat):Int)]) w:=by
 have:b=0∨b=1:=by omega
 rcases this with rfl|rfl<;>rfl
theorem Dc (x y c:Int)(hx:0<=x)(hx1:x<=18446744073709551615)(hy:0<=y)(hy1:y<=18446744073709551615)(hc0:0<=c)(hc:c<=1)(w:World) :
  (callFunc 146 #[.int .u64 x,.int .u64 y,.int .u64 c]).run prog w=.ok (.value (.tuple #[.int .u64 ((x-y-c) % 18446744073709551616),.int .u64 (-((x-y-c) / 18446744073709551616))])) w:=by
 obtain⟨X,rfl⟩:=Int.eq_ofNat_of_zero_le hx
 obtain⟨Y,rfl⟩:=Int.eq_ofNat_of_zero_le hy
 obtain⟨C,rfl⟩:=Int.eq_ofNat_of_zero_le hc0
 have e1:(((X+18446744073709551616-Y-C) % 18446744073709551616:Nat):Int)=((X:Int)-Y-C) % 18446744073709551616:=by omega
 have e2:((if X<Y+C then 1 else 0:Nat):Int) = -(((X:Int)-Y-C) / 18446744073709551616):=by split<;>omega
 rw[run_callFunc_extern func146 Ow Ow Ow (e:=Db) Ow,qcl X Y C Oz,e1,e2]
 rfl
theorem KE (n:Int)(h0:-9223372036854775808<=n)(h1:n<=9223372036854775807)(w:World) :
  Calls prog 123 #[.int .i64 n] w λe w'=>e=.returned (PV n)/\w.alloc (PC n)=w':=by
 have e1:=qcj n h0 h1
 have e2:=qck n
 go_enter func123,ntmps123
 go_wp2
 go_returns
 exact⟨rfl,rfl⟩
theorem qcm (x y lo c hi:Int)(hz:Rm (x+y))(hlo:lo=(Ql x+Ql y+0) % 18446744073709551616)(hc:c=(Ql x+Ql y+0) / 18446744073709551616)
  (hhi:hi=(IntKind.u64.wrap (Qg x)+IntKind.u64.wrap (Qg y)+c) % 18446744073709551616):wrap64 hi=Qg (x+y)/\lo=Ql (x+y):=by
 have h1:=J1 x
 have h2:=J1 y
 have h3:=Ja x
 have h4:=Ja y
 unfold Rm at hz
 simp only[IntKind.wrap_u64]at hhi
 generalize Qg x=a at *
 generalize Qg y=b at *
 generalize Ql x=p at *
 generalize Ql y=q at *
 unfold wrap64 Qg Ql
 subst h1 h2 hlo hc hhi
 constructor<;>omega
theorem qcn (x y lo c hi:Int)(hz:Rm (x-y))(hlo:lo=(Ql x-Ql y-0) % 18446744073709551616)(hc:c = -((Ql x-Ql y-0) / 18446744073709551616))
  (hhi:hi=(IntKind.u64.wrap (Qg x)-IntKind.u64.wrap (Qg y)-c) % 18446744073709551616):wrap64 hi=Qg (x-y)/\lo=Ql (x-y):=by
 have h1:=J1 x
 have h2:=J1 y
 have h3:=Ja x
 have h4:=Ja y
 unfold Rm at hz
 simp only[IntKind.wrap_u64]at hhi
 generalize Qg x=a at *
 generalize Qg y=b at *
 generalize Ql x=p at *
 generalize Ql y=q at *
 unfold wrap64 Qg Ql
 subst h1 h2 hlo hc hhi
 constructor<;>omega
theorem Jp (z:Int):0<=IntKind.u64.wrap z/\IntKind.u64.wrap z<=18446744073709551615:=by simp only[IntKind.wrap_u64];omega
theorem qco (x y:Int)(hx:Rm x)(hy:Rm y)(hz:Rm (x+y))(w:World) :
  Calls prog 126 #[PV x,PV y] w λe w'=>e=.returned (PV (x+y))/\((w.alloc (PC x)).alloc (PC y)).alloc (PC (x+y))=w':=by
 have ⟨x1,x2⟩:=Kl hx
 have ⟨x3,x4⟩:=Ja x
 have ⟨y1,y2⟩:=Kl hy
 have ⟨y3,y4⟩:=Ja y
 obtain⟨lo,hlo⟩:∃lo,lo=(Ql x+Ql y+0) % 18446744073709551616:=⟨_,rfl⟩
 obtain⟨c,hc⟩:∃c,c=(Ql x+Ql y+0) / 18446744073709551616:=⟨_,rfl⟩
 obtain⟨hi,hhi⟩:∃hi,hi=(IntKind.u64.wrap (Qg x)+IntKind.u64.wrap (Qg y)+c) % 18446744073709551616:=⟨_,rfl⟩
 obtain⟨c2,hc2⟩:∃c2,c2=(IntKind.u64.wrap (Qg x)+IntKind.u64.wrap (Qg y)+c) / 18446744073709551616:=⟨_,rfl⟩
 have c0:0<=c:=by omega
 have c1:c<=1:=by omega
 have r1:=Da (Ql x) (Ql y) 0 x3 y3 Oz Oz
 rw[<-hlo,<-hc]at r1
 have r2:=Da (IntKind.u64.wrap (Qg x)) (IntKind.u64.wrap (Qg y)) c (Jp _).1 (Jp _).1 c0 c1
 rw[<-hhi,<-hc2]at r2
 obtain⟨m1,m2⟩:=qcm x y lo c hi hz hlo hc hhi
 clear hlo hc hhi hc2
 go_enter func126,ntmps126
 go_wp2
 go_returns
 exact⟨rfl,rfl⟩
theorem qcp (x y:Int)(hx:Rm x)(hy:Rm y)(hz:Rm (x-y))(w:World) :
  Calls prog 127 #[PV x,PV y] w λe w'=>e=.returned (PV (x-y))/\((w.alloc (PC x)).alloc (PC y)).alloc (PC (x-y))=w':=by
 have ⟨x1,x2⟩:=Kl hx
 have ⟨x3,x4⟩:=Ja x
 have ⟨y1,y2⟩:=Kl hy
 have ⟨y3,y4⟩:=Ja y
 obtain⟨lo,hlo⟩:∃lo,lo=(Ql x-Ql y-0) % 18446744073709551616:=⟨_,rfl⟩
 obtain⟨c,hc⟩:∃c,c = -((Ql x-Ql y-0) / 18446744073709551616):=⟨_,rfl⟩
 obtain⟨hi,hhi⟩:∃hi,hi=(IntKind.u64.wrap (Qg x)-IntKind.u64.wrap (Qg y)-c) % 18446744073709551616:=⟨_,rfl⟩
 obtain⟨c2,hc2⟩:∃c2,c2 = -((IntKind.u64.wrap (Qg x)-IntKind.u64.wrap (Qg y)-c) / 18446744073709551616):=⟨_,rfl⟩
 have c0:0<=c:=by omega
 have c1:c<=1:=by omega
 have r1:=Dc (Ql x) (Ql y) 0 x3 x4 y3 y4 Oz Oz
 rw[<-hlo,<-hc]at r1
 have r2:=Dc (IntKind.u64.wrap (Qg x)) (IntKind.u64.wrap (Qg y)) c (Jp _).1 (Jp _).2 (Jp _).1 (Jp _).2 c0 c1
 rw[<-hhi,<-hc2]at r2
 obtain⟨m1,m2⟩:=qcn x y lo c hi hz hlo hc hhi
 clear hlo hc hhi hc2
 go_enter func127,ntmps127
 go_wp2
 go_returns
 exact⟨rfl,rfl⟩
end
section
open Go.RowKit
theorem pv_eq {x y:Int}:(Qg x=Qg y/\Ql x=Ql y)↔x=y:=by
 constructor
 ·rintro ⟨a,b⟩;rw[J1 x,J1 y,a,b]
 ·rintro rfl;exact⟨rfl,rfl⟩
theorem qcq (x:Int)(hx:Rm x)(w:World) :
  Calls prog 128 #[PV x] w λe w'=>e=.returned (.tuple #[.int .i64 (tv x),.int .i64 (te x)])/\Ok w w':=by
 have ⟨x3,x4⟩:=Ja x
 have ⟨x5,x6⟩:=Kl hx
 by_cases hin:InR x
 ·rw[Yl hin,XT hin];have h0:=hin.1;have h1:=hin.2;have e1:wrap64 (Ql x)=x:=by unfold wrap64 Ql;omega
  clear hin hx;go_enter func128,ntmps128;go_wp2_with fail
  go_region_with (go_at_call 123;refine(KE _ h0 h1 _).mono ?_;rintro e w' ⟨rfl,rfl⟩)
  all_goals
   go_wp2;go_ret2
   first|exact⟨rfl,by go_grown⟩|go_grown
 ·rw[XU hin,XV hin];obtain⟨n,hn⟩:∃n,n=wrap64 (Ql x):=⟨_,rfl⟩
  have h0:-9223372036854775808<=n:=by rw[hn];unfold wrap64;omega
  have h1:n<=9223372036854775807:=by rw[hn];unfold wrap64;omega
  have hl:Ql n=Ql x:=by rw[hn];unfold wrap64 Ql;omega
  have hne:(Qg x==Qg n)=false:=by
   simp only[beq_eq_false_iff_ne];intro h;have:=pv_eq.1 ⟨h,hl.symm⟩;exact hin (by rw[this];exact⟨h0,h1⟩)
  have e1:=hn.symm;have Hl:=Ou hl;clear hl hn hin hx;go_enter func128,ntmps128;go_wp2_with fail
  go_region_with (go_at_call 123;refine(KE _ h0 h1 _).mono ?_;rintro e w' ⟨rfl,rfl⟩)
  all_goals
   go_wp2;go_ret2
   first|exact⟨rfl,by go_grown⟩|go_grown
theorem qcr {n:Int}(h:InR n):Rm n:=by unfold InR at h;unfold Rm;omega
theorem De (x:Int)(hx:Rm x)(hn:Rm (-x))(w:World) :
  Calls prog 122 #[PV x] w λe w'=>e=.returned (PV (x.natAbs:Int))/\Ok w w':=by
 have ⟨x3,x4⟩:=Ja x
 have ⟨x5,x6⟩:=Kl hx
 by_cases hneg:x<0
 ·have hh:Qg x<0:=by unfold Qg;omega
  rw[show ((x.natAbs:Nat):Int) = -x by omega];have Hm:Hid (Rm (0-x)):=by show Rm _;rw[show 0-x = -x by omega];exact hn
  have Hx:=Ou hx;have H0:Hid (Rm 0):=by show Rm 0;unfold Rm;omega
  clear hx hn hneg;go_enter func122,ntmps122;go_wp2_with fail
  go_region_with (first|(go_at_call 123;refine(KE 0 Oz Oz _).mono ?_;rintro e w' ⟨rfl,rfl⟩)|(go_at_call 127;refine(qcp 0 x H0.out Hx.out Hm.out _).mono ?_;rintro e w' ⟨rfl,rfl⟩))
  all_goals
   go_wp2;go_returns
   first|exact⟨rfl,by go_grown⟩|go_grown
 ·have hh:¬Qg x<0:=by unfold Qg;omega
  rw[show ((x.natAbs:Nat):Int)=x by omega];clear hx hn hneg;go_enter func122,ntmps122;go_wp2;go_returns
  first|exact⟨rfl,by go_grown⟩|go_grown
end
section
open Go.RowKit
theorem Df {k k':IntKind}{a b c d:Int}(h:a=b)(h':c=d):Ending.returned (.tuple #[.int k a,.int k' c])=.returned (.tuple #[.int k b,.int k' d]):=by rw[h,h']
theorem qcs (x y:Int)(x0:0<=x)(x1:x<=18446744073709551615)(y0:0<=y)(y1:y<=18446744073709551615)(w:World) :
  Calls prog 142 #[.int .u64 x,.int .u64 y] w λe w'=>e=.returned (.tuple #[.int .u64 (x*y / 18446744073709551616),.int .u64 (x*y % 18446744073709551616)])/\w=w':=by
 have e1:=and_low32 x x0 Oz
 have e2:=and_low32 y y0 Oz
 go_enter func142,ntmps142
 go_wp2
 go_ret2
 refine⟨Df ?_ (IntKind.wrap_u64 _),rfl⟩
 rw[and_low32 _ (Jp _).1 (by have:=(Jp (IntKind.u64.wrap (x / 4294967296*(y % 4294967296))+IntKind.u64.wrap (x % 4294967296*(y % 4294967296)) / 4294967296)).2;omega)]
 simp only[IntKind.wrap_u64]
 exact mul64_arith x y x0 Oz y0 Oz
theorem Dg {a b:Int}(ha:InR a)(hb:InR b):Rm (a*b):=by
 have h1:a.natAbs<=2 ^ 63:=by unfold InR at ha;omega
 have h2:b.natAbs<=2 ^ 63:=by unfold InR at hb;omega
 have h:=Nat.mul_le_mul h1 h2
 rw[<-Int.natAbs_mul]at h
 unfold Rm
 omega
theorem qct {a b:Int}(ha:InR a)(hb:InR b):Rm (-(a*b)):=by
 have h1:a.natAbs<=2 ^ 63:=by unfold InR at ha;omega
 have h2:b.natAbs<=2 ^ 63:=by unfold InR at hb;omega
 have h:=Nat.mul_le_mul h1 h2
 rw[<-Int.natAbs_mul]at h
 unfold Rm
 omega
theorem qcu (a b:Int)(ha:InR a)(hb:InR b)(h l:Int)(hh:h=IntKind.u64.wrap a*IntKind.u64.wrap b / 18446744073709551616)(hl:l=IntKind.u64.wrap a*IntKind.u64.wrap b % 18446744073709551616) :
  l=Ql (a*b) /\
  (0<=a->0<=b->wrap64 h=Qg (a*b))/\(a<0->0<=b->wrap64 (wrap64 h-b)=Qg (a*b)) /\
  (0<=a->b<0->wrap64 (wrap64 h-a)=Qg (a*b))/\(a<0->b<0->wrap64 (wrap64 (wrap64 h-b)-a)=Qg (a*b)):=by
 have hr:=Dg ha hb
 have hb':=Kl hr
 have hz:=J1 (a*b)
 have hlo:=Ja (a*b)
 have wa:IntKind.u64.wrap a=if a<0 then a+18446744073709551616 else a:=by rw[IntKind.wrap_u64];unfold InR at ha;split<;>omega
 have wb:IntKind.u64.wrap b=if b<0 then b+18446744073709551616 else b:=by rw[IntKind.wrap_u64];unfold InR at hb;split<;>omega
 rw[wa,wb]at hh hl
 clear wa wb
 have key:(if a<0 then a+18446744073709551616 else a)*(if b<0 then b+18446744073709551616 else b)=a*b+18446744073709551616*((if a<0 then b else 0)+(if b<0 then a else 0)+(if a<0 then (if b<0 then 18446744073709551616 else 0) else 0)):=by
  split<;>split<;>grind
 rw[key]at hh hl
 clear key hr
 generalize Qg (a*b)=H at *
 generalize Ql (a*b)=L at *
 generalize a*b=p at *
 unfold InR at ha hb
 unfold wrap64
 refine⟨?_,?_,?_,?_,?_⟩
 ·omega
 ·intro h1 h2;rw[Sw Oz,Sw Oz,Sw (by omega)]at hh;omega
 ·intro h1 h2;rw[Sx h1,Sw Oz,Sx h1,Sw (by omega)]at hh;omega
 ·intro h1 h2;rw[Sw Oz,Sx h2,Sw (by omega)]at hh;omega
 ·intro h1 h2;rw[Sx h1,Sx h2,Sx h1,Sx h2]at hh;omega
theorem qcv (a b:Int)(ha:InR a)(hb:InR b)(w:World) :
  Calls prog 121 #[.int .i64 a,.int .i64 b] w λe w'=>e=.returned (PV (a*b))/\Ok w w':=by
 obtain⟨h,hh⟩:∃h,h=IntKind.u64.wrap a*IntKind.u64.wrap b / 18446744073709551616:=⟨_,rfl⟩
 obtain⟨l,hl⟩:∃l,l=IntKind.u64.wrap a*IntKind.u64.wrap b % 18446744073709551616:=⟨_,rfl⟩
 obtain⟨m0,m1,m2,m3,m4⟩:=qcu a b ha hb h l hh hl
 have hc:=λw=>qcs (IntKind.u64.wrap a) (IntKind.u64.wrap b) (Jp _).1 (Jp _).2 (Jp _).1 (Jp _).2 w
 rw[<-hh,<-hl,m0]at hc
 have a0:=ha.1
 have a1:=ha.2
 have b0:=hb.1
 have b1:=hb.2
 clear hh hl m0 ha hb
 have Hc:=Ou hc;clear hc
 by_cases sa:a<0
 ·by_cases sb:b<0
  ·have e:=m4 sa sb;clear m1 m2 m3 m4;go_enter func121,ntmps121;go_wp2_with (go_at_call 142;(with_reducible refine(Hc.out _).mono ?_);rintro e w' ⟨rfl,rfl⟩)
   go_returns
   first|exact⟨rfl,by go_grown⟩|go_grown
  ·have e:=m2 sa Oz;rw[show IntKind.u64.wrap b=b by rw[IntKind.wrap_u64];omega]at Hc;clear m1 m2 m3 m4;go_enter func121,ntmps121;go_wp2_with (go_at_call 142;(with_reducible refine(Hc.out _).mono ?_);rintro e w' ⟨rfl,rfl⟩)
   go_returns
   first|exact⟨rfl,by go_grown⟩|go_grown
 ·by_cases sb:b<0
  ·have e:=m3 Oz sb;rw[show IntKind.u64.wrap a=a by rw[IntKind.wrap_u64];omega]at Hc;clear m1 m2 m3 m4;go_enter func121,ntmps121;go_wp2_with (go_at_call 142;(with_reducible refine(Hc.out _).mono ?_);rintro e w' ⟨rfl,rfl⟩)
   go_returns
   first|exact⟨rfl,by go_grown⟩|go_grown
  ·have e:=m1 Oz Oz;rw[show IntKind.u64.wrap a=a by rw[IntKind.wrap_u64];omega,show IntKind.u64.wrap b=b by rw[IntKind.wrap_u64];omega]at Hc;clear m1 m2 m3 m4;go_enter func121,ntmps121;go_wp2_with (go_at_call 142;(with_reducible refine(Hc.out _).mono ?_);rintro e w' ⟨rfl,rfl⟩)
   go_returns
   first|exact⟨rfl,by go_grown⟩|go_grown
end
section
open Go.RowKit
theorem qcw (x y:Int):(x<y↔(Qg x<Qg y∨Qg x=Qg y/\Ql x<Ql y)):=by
 have h1:=J1 x
 have h2:=J1 y
 have h3:=Ja x
 have h4:=Ja y
 omega
theorem XW (x y:Int)(b:Bool)(hb:b=decide (x<y))(w:World) :
  Calls prog 144 #[PV x,PV y] w λe w'=>e=.returned (.bool b)/\(w.alloc (PC x)).alloc (PC y)=w':=by
 have hm:=qcw x y
 have Hb:=Ou hb;clear hb
 by_cases he:Qg x=Qg y
 ·have e1:(Qg x==Qg y)=true:=by simp[he]
  have hd:decide (Ql x<Ql y)=b:=by rw[Hb.out];simp only[decide_eq_decide];omega
  have Hd:=Ou hd;clear hd;have He:=Ou he;clear he;have Hm:=Ou hm;clear hm;have e2:(Qg x != Qg y)=false:=by simp[He.out]
  go_enter func144,ntmps144;go_wp2;go_ret;exact⟨JJ Hd.out,rfl⟩
 ·have e1:(Qg x==Qg y)=false:=by simp[he]
  have hd:decide (Qg x<Qg y)=b:=by rw[Hb.out];simp only[decide_eq_decide];omega
  have Hd:=Ou hd;clear hd;have He:=Ou he;clear he;have Hm:=Ou hm;clear hm;have e2:(Qg x != Qg y)=true:=by simp[He.out]
  go_enter func144,ntmps144;go_wp2;go_ret;exact⟨JJ Hd.out,rfl⟩
end
section
open Go.RowKit
def Z4 (round:Int)(neg bW:Bool)(r d:Nat):Bool :=
 if r=0 then false else if round=2 then !neg else if round=1 then neg else decide (d<2*r)||(decide (2*r=d)&&bW)
theorem qcx (round:Int)(neg bW:Bool)(r d:Nat)(h0:r=0)(w:World) :
  Calls prog 125 #[.int .i64 round,.bool neg,.bool bW,PV (r:Int),PV (d:Int)] w λe w'=>e=.returned (.bool false)/\Ok w w':=by
 subst h0
 go_enter func125,ntmps125
 go_wp2_with fail
 go_region_with (go_at_call 123;refine(KE 0 Oz Oz _).mono ?_;rintro e w' ⟨rfl,rfl⟩)
 all_goals
  go_wp2;go_ret
  first|exact⟨rfl,by go_grown⟩|go_grown
theorem Dh (round:Int)(neg bW:Bool)(r d:Nat)(hr:r<2 ^ 64)(fV:r≠0)(b:Bool)(h:round=2/\b=(!neg)∨round=1/\b=neg)(w:World) :
  Calls prog 125 #[.int .i64 round,.bool neg,.bool bW,PV (r:Int),PV (d:Int)] w λe w'=>e=.returned (.bool b)/\Ok w w':=by
 have e0:(Qg (r:Int)==Qg 0)=true:=by unfold Qg;simp;omega
 have e1:(Ql (r:Int)==Ql 0)=false:=by unfold Ql;simp;omega
 clear hr fV
 rcases h with ⟨rfl,rfl⟩ | ⟨rfl,rfl⟩
 all_goals
  go_enter func125,ntmps125;go_wp2_with fail
  go_region_with (go_at_call 123;refine(KE 0 Oz Oz _).mono ?_;rintro e w' ⟨rfl,rfl⟩)
  all_goals
   go_wp2;go_ret
   first|exact⟨rfl,by go_grown⟩|go_grown
theorem qcy (neg bW:Bool)(r d:Nat)(hr:r<2 ^ 64)(hd:d<2 ^ 64)(fV:r≠0)(b:Bool)(hb:b=(decide (d<2*r)||(decide (2*r=d)&&bW)))(w:World) :
  Calls prog 125 #[.int .i64 3,.bool neg,.bool bW,PV (r:Int),PV (d:Int)] w λe w'=>e=.returned (.bool b)/\Ok w w':=by
 have e0:(Qg (r:Int)==Qg 0)=true:=by unfold Qg;simp;omega
 have e1:(Ql (r:Int)==Ql 0)=false:=by unfold Ql;simp;omega
 have R1:Hid (Rm (r:Int)):=by show Rm _;unfold Rm;omega
 have R2:Hid (Rm ((r:Int)+r)):=by show Rm _;unfold Rm;omega
 have Hd:=Ou hd
 clear hr fV hd
 have Hb:=Ou hb;clear hb
 go_enter func125,ntmps125
 go_wp2_with fail
 go_region_held3 (λw'=>w'.cell? ⟨w.heap.size,0,none⟩=some (.int .i64 (Qg (r:Int)))/\w'.cell? ⟨w.heap.size,1,none⟩=some (.int .u64 (Ql (r:Int)))) (go_keep) (first|(go_at_call 123;refine(KE 0 Oz Oz _).mono ?_;rintro e w' ⟨rfl,rfl⟩))
 go_wp2_with fail
 go_region_held3 (λw'=>w'.cell? ⟨w.heap.size,0,none⟩=some (.int .i64 (Qg (r:Int)))/\w'.cell? ⟨w.heap.size,1,none⟩=some (.int .u64 (Ql (r:Int)))/\w'.cell? ⟨w.heap.size+1,0,none⟩=some (.int .i64 (Qg (d:Int)))/\w'.cell? ⟨w.heap.size+1,1,none⟩=some (.int .u64 (Ql (d:Int)))) (first|(refine⟨?_,?_,?_,?_⟩<;>(focus ((with_reducible apply KD);(exact zf5);rfl)))|go_keep) (first|(go_at_call 126;refine(qco _ _ R1.out R1.out R2.out _).mono ?_;rintro e w' ⟨rfl,rfl⟩))
 all_goals
  go_wp2_with fail
  rcases Nat.lt_trichotomy d (2*r) with h|h|h
  ·have H:Hid (true=decide ((d:Int)<(r:Int)+r)):=by show _=_;simp;omega
   ((with_reducible refine(XW (d:Int) ((r:Int)+r) true H.out _).mono ?_);rintro e w' ⟨rfl,rfl⟩);have hb:b=true:=by rw[Hb.out];simp[h]
   have HB:=Ou hb;clear hb h;go_wp2_with fail
   go_ret;exact⟨JJ HB.out.symm,by go_grown⟩
  ·have H:Hid (false=decide ((d:Int)<(r:Int)+r)):=by show _=_;simp;omega
   ((with_reducible refine(XW (d:Int) ((r:Int)+r) false H.out _).mono ?_);rintro e w' ⟨rfl,rfl⟩);have hb:b=bW:=by rw[Hb.out,h];simp
   have k1:(Qg ((r:Int)+r)==Qg (d:Int))=true:=by rw[show (r:Int)+r=(d:Int) by omega];simp
   have k2:(Ql ((r:Int)+r)==Ql (d:Int))=true:=by rw[show (r:Int)+r=(d:Int) by omega];simp
   have HB:=Ou hb;clear hb h;go_wp2_with fail
   go_ret;exact⟨JJ HB.out.symm,by go_grown⟩
  ·have H:Hid (false=decide ((d:Int)<(r:Int)+r)):=by show _=_;simp;omega
   ((with_reducible refine(XW (d:Int) ((r:Int)+r) false H.out _).mono ?_);rintro e w' ⟨rfl,rfl⟩);have hb:b=false:=by rw[Hb.out];simp;omega
   have k1:(Qg ((r:Int)+r)==Qg (d:Int))=true:=by have:=Hd.out;unfold Qg;simp;omega
   have k2:(Ql ((r:Int)+r)==Ql (d:Int))=false:=by have:=Hd.out;unfold Ql;simp;omega
   have HB:=Ou hb;clear hb h;go_wp2_with fail
   go_ret;exact⟨JJ HB.out.symm,by go_grown⟩
theorem qcz (round:Int)(neg bW:Bool)(r d:Nat)(hr:r<2 ^ 64)(hd:d<2 ^ 64)(h:round=1∨round=2∨round=3)(b:Bool)(hb:b=Z4 round neg bW r d)(w:World) :
  Calls prog 125 #[.int .i64 round,.bool neg,.bool bW,PV (r:Int),PV (d:Int)] w λe w'=>e=.returned (.bool b)/\Ok w w':=by
 subst hb
 unfold Z4
 by_cases h0:r=0
 ·rw[Sx h0];exact qcx round neg bW r d h0 w
 ·rw[Sw h0];rcases h with h|h|h
  ·rw[Sw Oz,Sx h];exact Dh round neg bW r d hr h0 neg (Or.inr ⟨h,rfl⟩) w
  ·rw[Sx h];exact Dh round neg bW r d hr h0 (!neg) (Or.inl ⟨h,rfl⟩) w
  ·rw[Sw Oz,Sw (by omega)];subst h;exact qcy neg bW r d hr hd h0 _ rfl w
end
section
open Go.RowKit
def Jb (a b c round:Int):Int :=
 let n:=(a*b).natAbs
 let d:=c.natAbs
 let neg:=decide (a*b<0) != decide (c<0)
 let q:=n / d+if Z4 round neg (decide (n / d % 2=1)) (n % d) d then 1 else 0
 if neg then -(q:Int) else (q:Int)
theorem qcA (q:Nat)(_h:q<18446744073709551616):(bits BinOp.and IntKind.u64 (q:Int) 1==1)=decide (q % 2=1):=by
 rw[and_one_u64 (q:Int) Oz (by omega)]
 rw[Bool.eq_iff_iff];simp;omega
theorem Di (q:Nat)(h:q<2 ^ 64):Qg (q:Int)=0:=by unfold Qg;omega
theorem XX (q:Nat)(h:q<2 ^ 64):Ql (q:Int)=(q:Int):=by unfold Ql;omega
theorem qcB {w:World}{g n:Nat}{p:Obj}(h:w.heap[g]? = some p):(w.drewN n).heap[g]? = some p:=h
end
section
open Go.RowKit
end
section
open Go.RowKit
end
section
open Go.RowKit
end
section
open Go.RowKit
theorem qcC (lo y:Nat)(hl:lo<2 ^ 64)(hy:0<y)(hy2:y<2 ^ 64)(w:World) :
  Calls prog 124 #[.int .u64 0,.int .u64 (lo:Int),.int .u64 (y:Int)] w λe w'=>e=.returned (.tuple #[.int .u64 ((lo / y:Nat):Int),.int .u64 ((lo % y:Nat):Int)])/\∃nq,w.drewN nq=w':=by
 have e0:((y:Int)==0)=false:=by simp;omega
 have e1:¬(y:Int)<=0:=by omega
 have b0:(0:Int)<=(lo:Int):=by omega
 have b1:(lo:Int)<=18446744073709551615:=by omega
 have b2:(1:Int)<=(y:Int):=by omega
 have b3:(y:Int)<=18446744073709551615:=by omega
 go_enter func124,ntmps124
 go_wp2
 go_quiet (fail)
 go_wp2
 go_ret2
 refine⟨Df ?_ ?_,_,rfl⟩
 ·rw[IntKind.wrap_u64,<-Int.natCast_ediv];have:=Nat.div_le_self lo y;generalize lo / y=k at *;omega
 ·rw[<-Int.natCast_emod]
end
section
structure Digit (y1 y0 u u1 q r:Nat):Prop where
 sum:u=q*y1+r
 least:(u*4294967296+u1) / (y1*4294967296+y0)<=q
 most:q<=4294967297
 small:r<4294967296
 edge:q=4294967297->r+y1<4294967296
structure DigitIn (y1 y0 u u1:Nat):Prop where
 a:2147483648<=y1
 b:y1<4294967296
 c:y0<4294967296
 d:u1<4294967296
 e:u<y1*4294967296+y0
theorem Dj {y1 y0 u u1:Nat}(h:DigitIn y1 y0 u u1):Digit y1 y0 u u1 (u / y1) (u % y1):=by
 obtain⟨a,b,c,d,e⟩:=h
 have hp:0<y1:=by omega
 have hm:=Nat.mod_lt u hp
 have hs:=Nat.div_add_mod u y1
 have hc:y1*(u / y1)=u / y1*y1:=Nat.mul_comm _ _
 have hq:u / y1<=4294967297:=by
  have:u / y1<4294967298:=by
   rw[Nat.div_lt_iff_lt_mul hp];omega
  omega
 refine⟨by omega,?_,hq,by omega,?_⟩
 ·rw[Nat.le_div_iff_mul_le hp];have h1:=Nat.div_mul_le_self (u*4294967296+u1) (y1*4294967296+y0);generalize (u*4294967296+u1) / (y1*4294967296+y0)=t at *;rw[Nat.mul_add,<-Nat.mul_assoc]at h1;generalize t*y1=p at *;omega
 ·intro h1;rw[h1]at hc hs;omega
theorem Dk {y1 y0 u u1 q r:Nat}(h:DigitIn y1 y0 u u1)(s:Digit y1 y0 u u1 q r)(hn:q*y0<=4294967296*r+u1) :
  q=(u*4294967296+u1) / (y1*4294967296+y0):=by
 have hp:0<y1*4294967296+y0:=by have:=h.a;omega
 have hl:=s.least
 have:q<=(u*4294967296+u1) / (y1*4294967296+y0):=by
  rw[Nat.le_div_iff_mul_le hp,Nat.mul_add,<-Nat.mul_assoc];have:=s.sum;generalize q*y1=p at *;generalize q*y0=p0 at *;omega
 omega
theorem XZ {y1 y0 u u1:Nat}(h:DigitIn y1 y0 u u1):(u*4294967296+u1) / (y1*4294967296+y0)<4294967296:=by
 have hp:0<y1*4294967296+y0:=by have:=h.a;omega
 rw[Nat.div_lt_iff_lt_mul hp]
 have:=h.e
 have:=h.d
 omega
theorem Ym {y1 y0 u u1 q r:Nat}(h:DigitIn y1 y0 u u1)(s:Digit y1 y0 u u1 q r)(hn:4294967296<=q∨4294967296*r+u1<q*y0) :
  0<q/\u=(q-1)*y1+(r+y1)/\(u*4294967296+u1) / (y1*4294967296+y0)<=q-1:=by
 have hp:0<y1*4294967296+y0:=by have:=h.a;omega
 have hq:(u*4294967296+u1) / (y1*4294967296+y0)<q:=by
  rcases hn with hn|hn
  ·have:=XZ h;omega
  ·rw[Nat.div_lt_iff_lt_mul hp,Nat.mul_add,<-Nat.mul_assoc];have:=s.sum;generalize q*y1=p at *;generalize q*y0=p0 at *;omega
 generalize (u*4294967296+u1) / (y1*4294967296+y0)=t at *
 refine⟨by omega,?_,by omega⟩
 have h1:=s.sum
 have h2:q*y1=(q-1)*y1+y1:=by
  obtain⟨k,rfl⟩:∃k,q=k+1:=⟨q-1,by omega⟩
  rw[Nat.add_mul];simp
 generalize q*y1=p at *
 generalize (q-1)*y1=p' at *
 omega
theorem Dl {y1 y0 u u1 q r:Nat}(h:DigitIn y1 y0 u u1)(s:Digit y1 y0 u u1 q r)(hn:4294967296<=q∨4294967296*r+u1<q*y0)(hr:r+y1<4294967296) :
  Digit y1 y0 u u1 (q-1) (r+y1):=by
 obtain⟨h0,h1,h2⟩:=Ym h s hn
 exact⟨h1,h2,by have:=s.most;omega,hr,λe=>by have:=s.most;omega⟩
theorem Dm {y1 y0 u u1 q r:Nat}(h:DigitIn y1 y0 u u1)(s:Digit y1 y0 u u1 q r)(hn:4294967296<=q∨4294967296*r+u1<q*y0)(hr:4294967296<=r+y1) :
  q-1=(u*4294967296+u1) / (y1*4294967296+y0):=by
 obtain⟨h0,h1,h2⟩:=Ym h s hn
 have hp:0<y1*4294967296+y0:=by have:=h.a;omega
 have hb:q-1<=4294967295:=by
  have:=s.most;by_cases e:q=4294967297
  ·have:=s.edge e;omega
  ·omega
 have:q-1<=(u*4294967296+u1) / (y1*4294967296+y0):=by
  rw[Nat.le_div_iff_mul_le hp,Nat.mul_add,<-Nat.mul_assoc];have h3:(q-1)*y0<=4294967295*4294967295:=Nat.mul_le_mul hb (by have:=h.c;omega);generalize (q-1)*y1=p at *;generalize (q-1)*y0=p0 at *;omega
 omega
end
section
theorem JK (x:Int):∃c:Nat,IntKind.u64.wrap x=(c:Int)/\(c:Int)=x % 18446744073709551616/\c<18446744073709551616:=by
 refine⟨(x % 18446744073709551616).toNat,?_,?_,?_⟩
 ·rw[IntKind.wrap_u64];omega
 ·omega
 ·omega
theorem Dn {y1 y0 u u1 c1 c2 c3 c4 Y t:Nat}(h:DigitIn y1 y0 u u1)(hY:Y=y1*4294967296+y0)(ht:t=(u*4294967296+u1) / Y)(kZ:Y<18446744073709551616)
  (h1:(c1:Int)=((u:Int)*4294967296) % 18446744073709551616) (h2:(c2:Int)=((c1:Int)+u1) % 18446744073709551616) (h3:(c3:Int)=((t:Int)*Y) % 18446744073709551616) (h4:(c4:Int)=((c2:Int)-c3) % 18446744073709551616) :
  c4=(u*4294967296+u1) % Y:=by
 have hp:0<Y:=by have:=h.a;omega
 have hm:=Nat.mod_lt (u*4294967296+u1) hp
 have hd:=Nat.div_add_mod (u*4294967296+u1) Y
 rw[<-ht,Nat.mul_comm Y t]at hd
 generalize (u*4294967296+u1) % Y=m at *
 have e:(t:Int)*(Y:Int)=((t*Y:Nat):Int):=(Int.natCast_mul _ _).symm
 rw[e]at h3
 generalize t*Y=p at *
 omega
theorem qcD {y1 y0 u u1 u0:Nat}(h:DigitIn y1 y0 u u1)(h0:u0<4294967296):DigitIn y1 y0 ((u*4294967296+u1) % (y1*4294967296+y0)) u0 :=
 ⟨h.a,h.b,h.c,h0,Nat.mod_lt _ (by have:=h.a;omega)⟩
theorem qcE {hi lo y s Y u v u1 u0 t1 m t0 m0:Nat}(hY:Y=y*2 ^ s)(hp:0<y)
  (hu:u=(hi*18446744073709551616+lo)*2 ^ s / 18446744073709551616) (hv:v=(hi*18446744073709551616+lo)*2 ^ s % 18446744073709551616)
  (h1:u1=v / 4294967296) (h0:u0=v % 4294967296)
  (ht1:t1=(u*4294967296+u1) / Y) (hm:m=(u*4294967296+u1) % Y) (ht0:t0=(m*4294967296+u0) / Y) (hm0:m0=(m*4294967296+u0) % Y) :
  t1*4294967296+t0=(hi*18446744073709551616+lo) / y/\m0 / 2 ^ s=(hi*18446744073709551616+lo) % y:=by
 have hq:0<2 ^ s:=Nat.two_pow_pos s
 have hYp:0<Y:=by rw[hY];exact Nat.mul_pos hp hq
 obtain⟨n,hn⟩:∃n,n=hi*18446744073709551616+lo:=⟨_,rfl⟩
 rw[<-hn]at hu hv ⊢
 have e1:=Nat.div_add_mod (n*2 ^ s) 18446744073709551616
 have e2:=Nat.div_add_mod (u*4294967296+u1) Y
 have e3:=Nat.div_add_mod (m*4294967296+u0) Y
 have l3:=Nat.mod_lt (m*4294967296+u0) hYp
 rw[<-ht1,<-hm]at e2
 rw[<-ht0,<-hm0]at e3
 rw[<-hm0]at l3
 rw[<-hu,<-hv]at e1
 have key:n*2 ^ s=Y*(t1*4294967296+t0)+m0:=by
  rw[Nat.mul_add,<-Nat.mul_assoc];generalize Y*t1=p1 at *;generalize Y*t0=p0 at *;omega
 have dq:(n*2 ^ s) / Y=t1*4294967296+t0:=by
  rw[key,Nat.mul_add_div hYp,Nat.div_eq_of_lt l3,Nat.add_zero]
 have dm:(n*2 ^ s) % Y=m0:=by
  rw[key,Nat.mul_add_mod,Nat.mod_eq_of_lt l3]
 rw[hY,Nat.mul_div_mul_right _ _ hq]at dq
 rw[hY,Nat.mul_mod_mul_right]at dm
 exact⟨dq.symm,by rw[<-dm,Nat.mul_div_cancel _ hq]⟩
theorem Do:∀f x:Nat,x<2 ^ f->x≠0->0<Lib.bitLenAux f x/\2 ^ (Lib.bitLenAux f x-1)<=x/\x<2 ^ Lib.bitLenAux f x
 | 0,x=>λh h0=>by simp at h;omega
 | f+1,x=>λh h0=>by
  simp only[Lib.bitLenAux,Sw h0];by_cases h1:x / 2=0
  ·have:x=1:=by omega
   subst this
   cases f<;>simp[Lib.bitLenAux]
  ·obtain⟨a,b,c⟩:=Do f (x / 2) (by rw[Nat.pow_succ]at h;omega) h1;generalize Lib.bitLenAux f (x / 2)=k at *;obtain⟨j,rfl⟩:∃j,k=j+1:=⟨k-1,by omega⟩
   have e:1+(j+1)-1=j+1:=by omega
   have e2:1+(j+1)=(j+1)+1:=by omega
   rw[e,e2,Nat.pow_succ 2 (j+1),Nat.pow_succ 2 j];rw[Nat.pow_succ]at c;simp only[Nat.add_sub_cancel]at b;generalize 2 ^ j=p at *;omega
theorem qcF {y s:Nat}(hp:0<y)(hy:y<2 ^ 64)(hs:s=64-Lib.bitLen y):s<64/\2 ^ 63<=y*2 ^ s/\y*2 ^ s<2 ^ 64:=by
 obtain⟨a,b,c⟩:=Do 64 y hy Oz
 have hl:=Lib.bitLen_le y 64 Oz hy
 have hs':s=64-Lib.bitLenAux 64 y:=hs
 have hl':Lib.bitLenAux 64 y<=64:=hl
 clear hs hl
 generalize Lib.bitLenAux 64 y=k at *
 refine⟨by omega,?_,?_⟩
 ·have:2 ^ 63=2 ^ (k-1)*2 ^ s:=by rw[<-Nat.pow_add];congr 1;omega
  rw[this];exact Nat.mul_le_mul_right _ b
 ·have:2 ^ 64=2 ^ k*2 ^ s:=by rw[<-Nat.pow_add];congr 1;omega
  rw[this];exact Nat.mul_lt_mul_of_pos_right c (Nat.two_pow_pos s)
theorem Dp {v:Nat}(hv:v<18446744073709551616):bits .and .u64 (v:Int) 4294967295=((v % 4294967296:Nat):Int):=by
 have:=bits_and_u64_nat v 4294967295 hv Oz
 rw[show ((4294967295:Nat):Int)=4294967295 from rfl]at this
 rw[this]
 have e:=Nat.and_two_pow_sub_one_eq_mod v 32
 rw[show (2:Nat) ^ 32-1=4294967295 from rfl,show (2:Nat) ^ 32=4294967296 from rfl]at e
 rw[e]
theorem qcG {hi lo s:Nat}(hs:s<64)(hlo:lo<18446744073709551616)(hh:hi*2 ^ s<18446744073709551616) :
  bits .or .u64 ((hi*2 ^ s:Nat):Int) ((lo / 2 ^ (64-s):Nat):Int)=(((hi*18446744073709551616+lo)*2 ^ s / 18446744073709551616:Nat):Int):=by
 have hq:0<2 ^ s:=Nat.two_pow_pos s
 have hr:0<2 ^ (64-s):=Nat.two_pow_pos _
 have hB:18446744073709551616=2 ^ (64-s)*2 ^ s:=by
  rw[<-Nat.pow_add,show 64-s+s=64 by omega]
 have hL:lo / 2 ^ (64-s)<2 ^ s:=by
  rw[Nat.div_lt_iff_lt_mul hr,Nat.mul_comm,<-hB];exact hlo
 have hL2:lo / 2 ^ (64-s)<18446744073709551616:=Nat.lt_of_le_of_lt (Nat.div_le_self _ _) hlo
 rw[bits_or_u64_nat _ _ hh hL2]
 congr 1
 rw[Nat.mul_comm hi,<-Nat.two_pow_add_eq_or_of_lt hL hi]
 have e1:(hi*18446744073709551616+lo)*2 ^ s=18446744073709551616*(2 ^ s*hi)+lo*2 ^ s:=by
  rw[Nat.add_mul,Nat.mul_comm hi,Nat.mul_assoc,Nat.mul_comm hi]
 rw[e1,Nat.mul_add_div (by omega)]
 congr 1
 rw[hB,Nat.mul_div_mul_right _ _ hq]
theorem qcH {hi lo s:Nat}:lo*2 ^ s % 18446744073709551616=(hi*18446744073709551616+lo)*2 ^ s % 18446744073709551616:=by
 have e1:(hi*18446744073709551616+lo)*2 ^ s=18446744073709551616*(2 ^ s*hi)+lo*2 ^ s:=by
  rw[Nat.add_mul,Nat.mul_comm hi,Nat.mul_assoc,Nat.mul_comm hi]
 rw[e1,Nat.mul_add_mod]
end
section
open Go.RowKit
theorem Z5 {a b:Int}(h:a=b):Value.int .u64 a=.int .u64 b:=by rw[h]
theorem Dq {q y0 p:Nat}(hp:p=q*y0)(hq:q<=4294967297)(h0:y0<4294967296):IntKind.u64.wrap ((q:Int)*(y0:Int))=(p:Int):=by
 rw[IntKind.wrap_u64,<-Int.natCast_mul,<-hp]
 have h1:q*y0<=4294967297*4294967295:=Nat.mul_le_mul hq Oz
 omega
theorem qcI (hi lo y s Y y1 y0 H L u v u1 u0 g gy r t1 c1 c2 c3 m g2 gy2 r2 t0 d0 d1 d2 d3 d4 d5 m0:Nat)(h0:0<hi)(hlt:hi<y)(hy:y<2 ^ 64)(hlo:lo<2 ^ 64)(hs:s<64)
  (E1:IntKind.u64.wrap ((y:Int)*2 ^ s)=(Y:Int)) (E2:(Y:Int) / 4294967296=(y1:Int)) (E3:bits .and .u64 (Y:Int) 4294967295=(y0:Int))
  (E4:IntKind.u64.wrap ((hi:Int)*2 ^ s)=(H:Int)) (E5:(lo:Int) / 2 ^ (64-s)=(L:Int)) (E6:bits .or .u64 (H:Int) (L:Int)=(u:Int))
  (E7:IntKind.u64.wrap ((lo:Int)*2 ^ s)=(v:Int)) (E8:(v:Int) / 4294967296=(u1:Int)) (E9:bits .and .u64 (v:Int) 4294967295=(u0:Int))
  (E10:(u:Int) / (y1:Int)=(g:Int)) (E11:IntKind.u64.wrap (g:Int)=(g:Int)) (E12:IntKind.u64.wrap ((g:Int)*(y1:Int))=(gy:Int)) (E13:IntKind.u64.wrap ((u:Int)-(gy:Int))=(r:Int))
  (D1:DigitIn y1 y0 u u1) (S1:Digit y1 y0 u u1 g r) (T1:t1=(u*4294967296+u1) / (y1*4294967296+y0))
  (E14:IntKind.u64.wrap ((u:Int)*4294967296)=(c1:Int)) (E15:IntKind.u64.wrap ((c1:Int)+(u1:Int))=(c2:Int)) (E16:IntKind.u64.wrap ((t1:Int)*(Y:Int))=(c3:Int)) (E17:IntKind.u64.wrap ((c2:Int)-(c3:Int))=(m:Int))
  (E18:(m:Int) / (y1:Int)=(g2:Int)) (E19:IntKind.u64.wrap (g2:Int)=(g2:Int)) (E20:IntKind.u64.wrap ((g2:Int)*(y1:Int))=(gy2:Int)) (E21:IntKind.u64.wrap ((m:Int)-(gy2:Int))=(r2:Int))
  (D2:DigitIn y1 y0 m u0) (S2:Digit y1 y0 m u0 g2 r2) (T2:t0=(m*4294967296+u0) / (y1*4294967296+y0))
  (E22:IntKind.u64.wrap ((t1:Int)*4294967296)=(d0:Int)) (E23:IntKind.u64.wrap ((d0:Int)+(t0:Int))=(d1:Int))
  (E24:IntKind.u64.wrap ((m:Int)*4294967296)=(d2:Int)) (E25:IntKind.u64.wrap ((d2:Int)+(u0:Int))=(d3:Int)) (E26:IntKind.u64.wrap ((t0:Int)*(Y:Int))=(d4:Int)) (E27:IntKind.u64.wrap ((d3:Int)-(d4:Int))=(d5:Int)) (E28:(d5:Int) / 2 ^ s=(m0:Int))
  (hu:u<18446744073709551616) (hm:m<18446744073709551616)
  (HZ:∀w,Calls prog 143 #[.int .u64 (y:Int)] w λe w'=>e=.returned (.int .i64 (s:Int))/\w=w') (w:World) :
  Calls prog 124 #[.int .u64 (hi:Int),.int .u64 (lo:Int),.int .u64 (y:Int)] w λe w'=>e=.returned (.tuple #[.int .u64 (d1:Int),.int .u64 (m0:Int)])/\w=w':=by
 have HZ':=Ou HZ;clear HZ
 have D1':=Ou D1
 have D2':=Ou D2
 have S1':=Ou S1;clear S1
 have S2':=Ou S2;clear S2
 have T1':=Ou T1;clear T1
 have T2':=Ou T2;clear T2
 have e0:((y:Int)==0)=false:=by simp;omega
 have e1:((hi:Int)==0)=false:=by simp;omega
 have e2:((y1:Int)==0)=false:=by have:=D1.a;simp;omega
 have b0:(1:Int)<=(hi:Int):=by omega
 have b1:(hi:Int)<(y:Int):=by omega
 have b2:(y:Int)<=18446744073709551615:=by omega
 have b3:(lo:Int)<=18446744073709551615:=by omega
 have b4:(0:Int)<=(lo:Int):=by omega
 have b5:(s:Int)<64:=by omega
 have b6:(2147483648:Int)<=y1:=by have:=D1.a;omega
 have b7:(y1:Int)<=4294967295:=by have:=D1.b;omega
 have b8:(u:Int)<=18446744073709551615:=by omega
 have b9:(y0:Int)<=4294967295:=by have:=D1.c;omega
 have b10:(u1:Int)<=4294967295:=by have:=D1.d;omega
 have b11:(u0:Int)<=4294967295:=by have:=D2.d;omega
 have b12:(m:Int)<=18446744073709551615:=by omega
 have c0:y0<4294967296:=D1.c
 clear D1 D2
 go_enter func124,ntmps124
 go_upto_block 0 with (first|(go_at_call 143;refine(HZ'.out _).mono ?_;rintro e w' ⟨rfl,rfl⟩))
 go_cut [15,16] (λqC i9 wx=>qC=.int .u64 (t1:Int)/\wx=w)
 case first =>
  go_wp2_with fail
  go_loop [15,16] (λa b=>∃q r:Nat,a=.int .u64 (q:Int)/\b=.int .u64 (r:Int)/\Digit y1 y0 u u1 q r) (λa _=>(intOf a).toNat)
  case atStart=>exact⟨g,r,rfl,rfl,S1'.out⟩
  case round =>
   obtain⟨q,r,rfl,rfl,hq⟩:=hrel;obtain⟨p,hp⟩:∃p:Nat,p=q*y0:=⟨_,rfl⟩
   have P1:IntKind.u64.wrap ((q:Int)*(y0:Int))=(p:Int):=Dq hp hq.most c0;have c1:(r:Int)<=4294967295:=by have:=hq.small;omega
   have c2:(q:Int)<=4294967297:=by have:=hq.most;omega
   have HQ:=Ou hq;clear hq;have HP:=Ou hp;clear hp;by_cases hA:4294967296<=q∨4294967296*r+u1<q*y0
   ·have hA':=Ou hA;have hl:=(Ym D1'.out HQ.out hA).1;have c3:(1:Int)<=(q:Int):=by omega
    rw[<-HP.out]at hA;by_cases hR:r+y1<4294967296
    ·have c4:decide ((4294967296:Int)<=(r:Int)+(y1:Int))=false:=Sz Oz;have NX:=Ou (Dl D1'.out HQ.out hA'.out hR);clear hR hl;by_cases hB:4294967296<=q
     ·have c5:(4294967296:Int)<=(q:Int):=by omega
      clear hA;go_wp2_with fail
      go_round
      case rel=>exact⟨q-1,r+y1,Z5 Oz,Z5 Oz,NX.out⟩
      case measure=>simp[intOf];omega
     ·have c5:(q:Int)<4294967296:=by omega
      have c6:4294967296*(r:Int)+(u1:Int)<(p:Int):=by omega
      clear hA;go_wp2_with fail
      go_round
      case rel=>exact⟨q-1,r+y1,Z5 Oz,Z5 Oz,NX.out⟩
      case measure=>simp[intOf];omega
    ·have c4:(4294967296:Int)<=(r:Int)+(y1:Int):=by omega
     have NX:=Ou (Dm D1'.out HQ.out hA'.out Oz);clear hR hl;by_cases hB:4294967296<=q
     ·have c5:(4294967296:Int)<=(q:Int):=by omega
      clear hA;go_wp2_with fail
      go_meet
      case rel=>exact⟨Z5 (by have:=NX.out;rw[T1'.out];omega),rfl⟩
     ·have c5:(q:Int)<4294967296:=by omega
      have c6:4294967296*(r:Int)+(u1:Int)<(p:Int):=by omega
      clear hA;go_wp2_with fail
      go_meet
      case rel=>exact⟨Z5 (by have:=NX.out;rw[T1'.out];omega),rfl⟩
   ·have c5:decide ((4294967296:Int)<=(q:Int))=false:=Sz Oz;have c6:decide (4294967296*(r:Int)+(u1:Int)<(p:Int))=false:=Sz (by have:=HP.out;omega);have NX:=Ou (Dk D1'.out HQ.out Oz);clear hA;go_wp2_with fail
    go_meet
    case rel=>exact⟨Z5 (by rw[T1'.out,<-NX.out]),rfl⟩
 case rest =>
  obtain⟨rfl,rfl⟩:=hcut;go_upto_block 2 with fail
  go_cut [18,16] (λs18 i9 wx=>s18=.int .u64 (t0:Int)/\wx=wc)
  case first =>
   go_wp2_with fail
   go_loop [18,16] (λa b=>∃q r:Nat,a=.int .u64 (q:Int)/\b=.int .u64 (r:Int)/\Digit y1 y0 m u0 q r) (λa _=>(intOf a).toNat)
   case atStart=>exact⟨g2,r2,rfl,rfl,S2'.out⟩
   case round =>
    obtain⟨q,r,rfl,rfl,hq⟩:=hrel;obtain⟨p,hp⟩:∃p:Nat,p=q*y0:=⟨_,rfl⟩
    have P1:IntKind.u64.wrap ((q:Int)*(y0:Int))=(p:Int):=Dq hp hq.most c0;have c1:(r:Int)<=4294967295:=by have:=hq.small;omega
    have c2:(q:Int)<=4294967297:=by have:=hq.most;omega
    have HQ:=Ou hq;clear hq;have HP:=Ou hp;clear hp;by_cases hA:4294967296<=q∨4294967296*r+u0<q*y0
    ·have hA':=Ou hA;have hl:=(Ym D2'.out HQ.out hA).1;have c3:(1:Int)<=(q:Int):=by omega
     rw[<-HP.out]at hA;by_cases hR:r+y1<4294967296
     ·have c4:decide ((4294967296:Int)<=(r:Int)+(y1:Int))=false:=Sz Oz;have NX:=Ou (Dl D2'.out HQ.out hA'.out hR);clear hR hl;by_cases hB:4294967296<=q
      ·have c5:(4294967296:Int)<=(q:Int):=by omega
       clear hA;go_wp2_with fail
       go_round
       case rel=>exact⟨q-1,r+y1,Z5 Oz,Z5 Oz,NX.out⟩
       case measure=>simp[intOf];omega
      ·have c5:(q:Int)<4294967296:=by omega
       have c6:4294967296*(r:Int)+(u0:Int)<(p:Int):=by omega
       clear hA;go_wp2_with fail
       go_round
       case rel=>exact⟨q-1,r+y1,Z5 Oz,Z5 Oz,NX.out⟩
       case measure=>simp[intOf];omega
     ·have c4:(4294967296:Int)<=(r:Int)+(y1:Int):=by omega
      have NX:=Ou (Dm D2'.out HQ.out hA'.out Oz);clear hR hl;by_cases hB:4294967296<=q
      ·have c5:(4294967296:Int)<=(q:Int):=by omega
       clear hA;go_wp2_with fail
       go_meet
       case rel=>exact⟨Z5 (by have:=NX.out;rw[T2'.out];omega),rfl⟩
      ·have c5:(q:Int)<4294967296:=by omega
       have c6:4294967296*(r:Int)+(u0:Int)<(p:Int):=by omega
       clear hA;go_wp2_with fail
       go_meet
       case rel=>exact⟨Z5 (by have:=NX.out;rw[T2'.out];omega),rfl⟩
    ·have c5:decide ((4294967296:Int)<=(q:Int))=false:=Sz Oz;have c6:decide (4294967296*(r:Int)+(u0:Int)<(p:Int))=false:=Sz (by have:=HP.out;omega);have NX:=Ou (Dk D2'.out HQ.out Oz);clear hA;go_wp2_with fail
     go_meet
     case rel=>exact⟨Z5 (by rw[T2'.out,<-NX.out]),rfl⟩
  case rest =>
   obtain⟨rfl,rfl⟩:=hcut;go_wp2_with fail
   go_ret2;exact⟨rfl,rfl⟩
end
end Go.Proofs.YtikapeaodobkjaaGreat
namespace Go.Proofs
open _root_.Go.Proofs.YtikapeaodobkjaaGreat
open Go.Shelf
def Tryz.lays134_ren:Go.Shelf.Ren:=⟨fun|134=>143|129=>114|n=>n,fun|53=>35|3=>3|4=>4|46=>148|5=>5|9=>9|n=>n,fun|n=>n⟩
theorem Tryz.lays134:Go.Proofs.Lays.n134 prog Tryz.lays134_ren:={
 mixed:=by kernel_rfl
 f129:=func114.trans (congrArg some Ow)
 f134:=func143.trans (congrArg some Ow)
 t3:=underlying3
 a3:=Tryz.isAgg3
 z3:=Tryz.sizeOf3
 v3:=Tryz.zeroValue3
 t4:=underlying4
 a4:=Tryz.isAgg4
 z4:=Tryz.sizeOf4
 v4:=Tryz.zeroValue4
 t5:=underlying5
 a5:=Tryz.isAgg5
 z5:=Tryz.sizeOf5
 v5:=Tryz.zeroValue5
 t9:=underlying9
 a9:=Tryz.isAgg9
 z9:=Tryz.sizeOf9
 v9:=Tryz.zeroValue9
 t46:=underlying148
 a46:=Tryz.isAgg148
 z46:=Tryz.sizeOf148
 v46:=Tryz.zeroValue148
 t53:=underlying35
 a53:=Tryz.isAgg35
 z53:=Tryz.sizeOf35
 v53:=Tryz.zeroValue35 }
theorem Tryz.bits_LeadingZeros64 (x:Int)(w:World)(h0:0<=x)(h1:x<=18446744073709551615) :
  Calls prog 143 #[.int .u64 x] w λe w'=>e=.returned (.int .i64 (64-(Lib.bitLen x.toNat:Int)))/\w'=w:=Any.bits_LeadingZeros64 Tryz.lays134 x w h0 h1
end Go.Proofs
namespace Go.Proofs.YtikapeaodobkjaaGreat
open _root_.Go.Proofs.Tryz
section
open Go.RowKit
theorem VE (s:Nat):((2:Int) ^ s)=((2 ^ s:Nat):Int):=by simp
theorem Dr {n:Nat}(h:n<18446744073709551616):IntKind.u64.wrap (n:Int)=(n:Int):=by rw[IntKind.wrap_u64];omega
theorem qcJ (hi lo y:Nat)(h0:0<hi)(hlt:hi<y)(hy:y<2 ^ 64)(hlo:lo<2 ^ 64)(w:World) :
  Calls prog 124 #[.int .u64 (hi:Int),.int .u64 (lo:Int),.int .u64 (y:Int)] w λe w'=>e=.returned (.tuple #[.int .u64 (((hi*18446744073709551616+lo) / y:Nat):Int),.int .u64 (((hi*18446744073709551616+lo) % y:Nat):Int)])/\∃nq,w.drewN nq=w':=by
 obtain⟨s,hs⟩:∃s,s=64-Lib.bitLen y:=⟨_,rfl⟩
 obtain⟨uZ,mP,kZ⟩:=qcF Oz hy hs
 have hbl:=Lib.bitLen_le y 64 Oz hy
 have HZ:∀w,Calls prog 143 #[.int .u64 (y:Int)] w λe w'=>e=.returned (.int .i64 (s:Int))/\w=w':=by
  intro w;refine(Tryz.bits_LeadingZeros64 (y:Int) w Oz Oz).mono ?_;rintro e w' ⟨rfl,rfl⟩;refine⟨?_,rfl⟩;rw[Int.toNat_natCast,hs]
  congr 2
  omega
 clear hs
 obtain⟨Y,hY⟩:∃Y,Y=y*2 ^ s:=⟨_,rfl⟩
 rw[<-hY]at mP kZ
 obtain⟨n,hn⟩:∃n,n=hi*18446744073709551616+lo:=⟨_,rfl⟩
 have hq:0<2 ^ s:=Nat.two_pow_pos s
 have hHY:hi*2 ^ s<Y:=by rw[hY];exact Nat.mul_lt_mul_of_pos_right hlt hq
 obtain⟨u,hu⟩:∃u,u=n*2 ^ s / 18446744073709551616:=⟨_,rfl⟩
 obtain⟨v,hv⟩:∃v,v=n*2 ^ s % 18446744073709551616:=⟨_,rfl⟩
 obtain⟨y1,hy1⟩:∃y1,y1=Y / 4294967296:=⟨_,rfl⟩
 obtain⟨y0,hy0⟩:∃y0,y0=Y % 4294967296:=⟨_,rfl⟩
 obtain⟨u1,hu1⟩:∃u1,u1=v / 4294967296:=⟨_,rfl⟩
 obtain⟨u0,hu0⟩:∃u0,u0=v % 4294967296:=⟨_,rfl⟩
 have p9:Y=y1*4294967296+y0:=by omega
 have huY:u<Y:=by
  rw[hu,Nat.div_lt_iff_lt_mul Oz,hY,hn];have e:y*2 ^ s*18446744073709551616=(y*18446744073709551616)*2 ^ s:=by rw[Nat.mul_right_comm]
  rw[e];exact Nat.mul_lt_mul_of_pos_right Oz hq
 have D1:DigitIn y1 y0 u u1:=⟨by omega,by omega,by omega,by omega,by omega⟩
 have S1:=Dj D1
 obtain⟨t1,ht1⟩:∃t1,t1=(u*4294967296+u1) / Y:=⟨_,rfl⟩
 obtain⟨m,hm⟩:∃m,m=(u*4294967296+u1) % Y:=⟨_,rfl⟩
 have D2:DigitIn y1 y0 m u0:=by rw[hm,p9];exact qcD D1 Oz
 have S2:=Dj D2
 obtain⟨t0,ht0⟩:∃t0,t0=(m*4294967296+u0) / Y:=⟨_,rfl⟩
 obtain⟨m0,hm0⟩:∃m0,m0=(m*4294967296+u0) % Y:=⟨_,rfl⟩
 have l1:=XZ D1
 have l0:=XZ D2
 rw[<-p9,<-ht1]at l1
 rw[<-p9,<-ht0]at l0
 obtain⟨c1,e14,p14,_⟩:=JK ((u:Int)*4294967296)
 obtain⟨c2,e15,p15,_⟩:=JK ((c1:Int)+(u1:Int))
 obtain⟨c3,e16,p16,_⟩:=JK ((t1:Int)*(Y:Int))
 obtain⟨c4,e17,p17,_⟩:=JK ((c2:Int)-(c3:Int))
 have hc4:c4=m:=by rw[hm];exact Dn D1 p9 ht1 Oz p14 p15 p16 p17
 obtain⟨d2,e24,p24,_⟩:=JK ((m:Int)*4294967296)
 obtain⟨d3,e25,p25,_⟩:=JK ((d2:Int)+(u0:Int))
 obtain⟨d4,e26,p26,_⟩:=JK ((t0:Int)*(Y:Int))
 obtain⟨d5,e27,p27,_⟩:=JK ((d3:Int)-(d4:Int))
 have hd5:d5=m0:=by rw[hm0];exact Dn D2 p9 ht0 Oz p24 p25 p26 p27
 obtain⟨d0,e22,p22,_⟩:=JK ((t1:Int)*4294967296)
 obtain⟨d1,e23,p23,_⟩:=JK ((d0:Int)+(t0:Int))
 have hd1:d1=t1*4294967296+t0:=by omega
 have both:=qcE (hi:=hi) (lo:=lo) hY Oz (by rw[<-hn];exact hu) (by rw[<-hn];exact hv) hu1 hu0 ht1 hm ht0 hm0
 have hmY:m<Y:=by rw[hm];exact Nat.mod_lt _ Oz
 have hym:0<y1:=by omega
 have q1:u / y1*y1+u % y1=u:=by have:=S1.sum;omega
 have q2:m / y1*y1+m % y1=m:=by have:=S2.sum;omega
 have q3:u / y1<=u:=Nat.div_le_self _ _
 have q4:m / y1<=m:=Nat.div_le_self _ _
 have core:=qcI hi lo y s Y y1 y0 (hi*2 ^ s) (lo / 2 ^ (64-s)) u v u1 u0 (u / y1) (u / y1*y1) (u % y1) t1 c1 c2 c3 m (m / y1) (m / y1*y1) (m % y1) t0 d0 d1 d2 d3 d4 d5 (m0 / 2 ^ s) h0 hlt hy hlo uZ
  (by rw[IntKind.wrap_u64,VE,<-Int.natCast_mul,<-hY];omega) Oz (by rw[hy0];exact Dp Oz)
  (by rw[IntKind.wrap_u64,VE,<-Int.natCast_mul];omega) (by rw[VE,<-Int.natCast_ediv]) (by rw[qcG uZ hlo Oz,<-hn,<-hu])
  (by rw[IntKind.wrap_u64,VE,<-Int.natCast_mul,hv,hn,<-qcH];omega) Oz (by rw[hu0];exact Dp Oz)
  (by rw[<-Int.natCast_ediv]) (Dr (Nat.lt_of_le_of_lt q3 Oz)) (by rw[IntKind.wrap_u64,<-Int.natCast_mul];omega) (by rw[IntKind.wrap_u64];omega)
  D1 S1 (by rw[<-p9];exact ht1) e14 e15 e16 (by rw[e17,hc4])
  (by rw[<-Int.natCast_ediv]) (Dr (Nat.lt_of_le_of_lt q4 Oz)) (by rw[IntKind.wrap_u64,<-Int.natCast_mul];omega) (by rw[IntKind.wrap_u64];omega)
  D2 S2 (by rw[<-p9];exact ht0) e22 e23 e24 e25 e26 e27 (by rw[VE,<-Int.natCast_ediv,hd5]) Oz Oz HZ w
 refine core.mono ?_
 rintro e w' ⟨rfl,rfl⟩
 refine⟨?_,0,rfl⟩
 rw[hd1,both.1,both.2]
theorem qcK (hi lo y:Nat)(hlt:hi<y)(hy:y<2 ^ 64)(hlo:lo<2 ^ 64)(w:World) :
  Calls prog 124 #[.int .u64 (hi:Int),.int .u64 (lo:Int),.int .u64 (y:Int)] w λe w'=>e=.returned (.tuple #[.int .u64 (((hi*18446744073709551616+lo) / y:Nat):Int),.int .u64 (((hi*18446744073709551616+lo) % y:Nat):Int)])/\∃nq,w.drewN nq=w':=by
 by_cases h0:hi=0
 ·subst h0;have:=qcC lo y hlo Oz hy w;simpa using this
 ·exact qcJ hi lo y Oz hlt hy hlo w
def dv (a b c round:Int):Int:=if ¬(round=1∨round=2∨round=3) then 0 else if c=0 then 0 else tv (Jb a b c round)
def de (a b c round:Int):Int:=if ¬(round=1∨round=2∨round=3) then 2 else if c=0 then 11 else te (Jb a b c round)
end
section
theorem X6 (a b c round:Int)(neg:Bool)(q:Nat)(hneg:neg=(decide (a*b<0) != decide (c<0)))(hq:q=(a*b).natAbs / c.natAbs) :
  Jb a b c round=if neg then -((q+if Z4 round neg (decide (q % 2=1)) ((a*b).natAbs % c.natAbs) c.natAbs then 1 else 0:Nat):Int) else ((q+if Z4 round neg (decide (q % 2=1)) ((a*b).natAbs % c.natAbs) c.natAbs then 1 else 0:Nat):Int):=by
 rw[hneg,hq];rfl
end
section
def Ds (last band:Int):Prop:=last<0∨1099511627776<last∨band<0∨1000000<band
instance (last band : Int) : Decidable (Ds last band) := by unfold Ds; exact inferInstance
def Qi (lot qty:Int):Int:=if lot<1∨qty<1 then 0 else qty / lot*lot
theorem X7 {lot qty:Int}(h1:1<=lot)(h2:1<=qty):0<=Qi lot qty/\Qi lot qty<=qty/\Qi lot qty % lot=0/\qty-Qi lot qty<lot/\Qi lot qty=qty-qty % lot:=by
 unfold Qi
 rw[Sw (by omega)]
 have e:=Int.mul_ediv_add_emod qty lot
 have e1:=Int.emod_nonneg qty (show lot≠0 by omega)
 have e2:=Int.emod_lt_of_pos qty (show 0<lot by omega)
 have e3:0<=qty / lot*lot:=Int.mul_nonneg (Int.ediv_nonneg Oz Oz) Oz
 have e4:qty / lot*lot % lot=0:=Int.mul_emod_left _ _
 rw[Int.mul_comm]at e
 generalize qty / lot*lot=x at *
 generalize qty % lot=y at *
 omega
structure Ti where
 f:Int
 m:Int
 k:Int
instance : Inhabited Ti := ⟨⟨0, 0, 0⟩⟩
def TF (t:List Ti)(i:Nat):Int:=(t.getD i ⟨0,0,0⟩).f
def TM (t:List Ti)(i:Nat):Int:=(t.getD i ⟨0,0,0⟩).m
def TK (t:List Ti)(i:Nat):Int:=(t.getD i ⟨0,0,0⟩).k
def Dt (t:List Ti)(i:Nat):Int:=if i=0 then -1 else TF t (i-1)
def okT (t:List Ti)(i:Nat):Prop:=Dt t i<TF t i/\TF t i<=4611686018427387904/\0<=TM t i/\TM t i<=100000/\0<=TK t i/\TK t i<=100000
instance (t : List Ti) (i : Nat) : Decidable (okT t i) := by unfold okT; exact inferInstance
def GoodT (t:List Ti):Prop:=1<=t.length/\t.length<=8/\TF t 0=0/\∀i,i<t.length->okT t i
instance (t : List Ti) : Decidable (GoodT t) := by unfold GoodT; exact inferInstance
theorem GoodT.inc {t:List Ti}(h:GoodT t){i:Nat}(hi:i+1<t.length):TF t i<TF t (i+1):=by
 have:=(h.2.2.2 (i+1) hi).1
 simpa [Dt] using this
theorem GoodT.mono {t:List Ti}(h:GoodT t):∀(d i:Nat),i+d+1<t.length->TF t i<TF t (i+d+1)
 | 0,i,hi=>h.inc hi
 | d+1,i,hi=>Int.lt_trans (h.mono d i Oz) (by have:=h.inc (i:=i+d+1) Oz;simpa [Nat.add_assoc] using this)
def Du (notional parts round:Int):Prop:=0<=notional/\notional<=4611686018427387904/\0<=parts/\parts<=100000/\(round=1∨round=2∨round=3)
instance (a b c : Int) : Decidable (Du a b c) := by unfold Du; exact inferInstance
def Dv (_t:List Ti)(v role:Int):Prop:=0<=v/\(role=1∨role=2)
instance (t : List Ti) (v role : Int) : Decidable (Dv t v role) := by unfold Dv; exact inferInstance
end
section
theorem qcL {lot q:Int}(h:lot<1∨q<1):Qi lot q=0:=Sx h
theorem ZG {lot q:Int}(h:1<=lot)(hq:0<=q):0<=Qi lot q/\Qi lot q<=q/\q-Qi lot q<lot:=by
 by_cases h1:q<1
 ·rw[qcL (.inr h1)];omega
 ·have:=X7 (lot:=lot) (qty:=q) h Oz;omega
def OkQ (Q:List Int):Prop:=∀q∈Q,0<=q/\q<=1099511627776
instance (Q : List Int) : Decidable (OkQ Q) := by unfold OkQ; infer_instance
def Qd (lot:Int):List Int->Int
 | []=>0
 | q :: Q=>Qi lot q+Qd lot Q
theorem Dw (lot:Int)(A B:List Int):Qd lot (A++B)=Qd lot A+Qd lot B:=by
 induction A with
 | nil=>simp[Qd]
 | cons a A ih=>simp only[List.cons_append,Qd,ih];omega
theorem Yn {lot:Int}(h:1<=lot){Q:List Int}(hQ:OkQ Q):0<=Qd lot Q/\Qd lot Q<=1099511627776*Q.length:=by
 induction Q with
 | nil=>simp[Qd]
 | cons q Q ih =>
  have h1:=ih (λx hx=>hQ x (List.mem_cons_of_mem _ hx));have h2:=hQ q List.mem_cons_self;have h3:=ZG (lot:=lot) h h2.1;simp only[Qd,Wq];omega
def Zy (Q:List Int)(lot:Int):Int:=if lot<1∨1099511627776<lot∨64<Q.length∨¬OkQ Q then 0 else Qd lot Q
theorem qcM (Q:List Int)(lot:Int):0<=Zy Q lot/\Zy Q lot<=70368744177664:=by
 unfold Zy
 split
 ·omega
 ·rename_i h
  have:=Yn (lot:=lot) Oz (Q:=Q) (Classical.byContradiction λhh=>h (.inr (.inr (.inr hh))));omega
theorem X8 {a t T:Int}(h1:0<=a)(h2:0<=t)(h3:0<T)(h4:t<=T)(h5:a<=4611686018427387904):dv a t T 1=a*t / T/\de a t T 1=0/\0<=a*t / T/\a*t / T<=a:=by
 have hp:0<=a*t:=Int.mul_nonneg h1 h2
 have hq:a*t / T<=a:=by
  apply Int.ediv_le_of_le_mul h3;exact Int.mul_le_mul_of_nonneg_left h4 h1
 have hq0:0<=a*t / T:=Int.ediv_nonneg hp Oz
 have e:Jb a t T 1=a*t / T:=by
  rw[X6 a t T 1 false _ (by rw[Sz Oz,Sz (by omega)];rfl) rfl];have e1:(a*t).natAbs=(a*t).toNat:=by omega
  have e2:T.natAbs=T.toNat:=by omega
  rw[Sw (show ¬(false=true) by decide),e1,e2];unfold Z4;have e3:∀(x:Nat) (b:Bool),(if (if x=0 then false else if (1:Int)=2 then !false else if (1:Int)=1 then false else b)=true then 1 else 0)=(0:Nat):=by intro x b;simp
  rw[e3,Nat.add_zero,Int.natCast_ediv,Int.toNat_of_nonneg hp,Int.toNat_of_nonneg (by omega)]
 have hi:InR (Jb a t T 1):=by rw[e];unfold InR;omega
 rw[dv,de,Sw (not_not_intro (.inl rfl)),Sw (not_not_intro (.inl rfl)),Sw Oz,Sw Oz,Yl hi,XT hi,e]
 exact⟨rfl,rfl,hq0,hq⟩
def p1 (mode all T lot q:Int):Int:=if mode=2 then Qi lot (all*Qi lot q / T) else 0
def Zk (lot qty T:Int):Int:=min (Qi lot qty) T
def Qs (mode all T lot:Int)(Q:List Int):Nat->Int
 | 0=>all
 | k+1=>Qs mode all T lot Q k-p1 mode all T lot (Q.getD k 0)
def QD (mode all T lot:Int)(Q:List Int):Nat->Int
 | 0=>Qs mode all T lot Q Q.length
 | k+1=>QD mode all T lot Q k-min (QD mode all T lot Q k) (Qi lot (Q.getD k 0)-p1 mode all T lot (Q.getD k 0))
def QA (mode all T lot:Int)(Q:List Int)(k:Nat):Int :=
 p1 mode all T lot (Q.getD k 0)+min (QD mode all T lot Q k) (Qi lot (Q.getD k 0)-p1 mode all T lot (Q.getD k 0))
theorem K8 (lot:Int)(Q:List Int)(k:Nat)(h:k<Q.length):Qd lot (Q.take (k+1))=Qd lot (Q.take k)+Qi lot (Q.getD k 0):=by
 rw[List.take_succ_eq_append_getElem h,Dw,List.getD_eq_getElem?_getD,List.getElem?_eq_getElem h];simp[Qd]
theorem X9 {lot:Int}(h:1<=lot){Q:List Int}(hQ:OkQ Q)(k:Nat):Qd lot (Q.take k)<=Qd lot Q:=by
 have e:=Dw lot (Q.take k) (Q.drop k)
 rw[List.take_append_drop]at e
 have:=(Yn (lot:=lot) h (Q:=Q.drop k) (λx hx=>hQ x (List.mem_of_mem_drop hx))).1
 omega
theorem JA {Q:List Int}(hQ:OkQ Q)(k:Nat):0<=Q.getD k 0/\Q.getD k 0<=1099511627776:=by
 by_cases hk:k<Q.length
 ·rw[List.getD_eq_getElem?_getD,List.getElem?_eq_getElem hk];exact hQ _ (Wt hk)
 ·rw[List.getD_eq_getElem?_getD,List.getElem?_eq_none (by omega)];simp
theorem Yo {lot:Int}(h:1<=lot){Q:List Int}(hQ:OkQ Q)(k:Nat)(hk:k<Q.length):Qi lot (Q.getD k 0)<=Qd lot Q:=by
 have h1:=K8 lot Q k hk
 have h2:=X9 h hQ (k+1)
 have h3:=(Yn (lot:=lot) h (Q:=Q.take k) (λx hx=>hQ x (List.mem_of_mem_take hx))).1
 omega
theorem KF {mode all lot:Int}{Q:List Int}(hl:1<=lot)(hQ:OkQ Q)(ha:0<=all)(aR:all<=Qd lot Q)(hT:0<Qd lot Q) :
  ∀k,k<=Q.length->(0<=Qs mode all (Qd lot Q) lot Q k/\Qs mode all (Qd lot Q) lot Q k<=all/\(all-Qs mode all (Qd lot Q) lot Q k)*Qd lot Q<=all*Qd lot (Q.take k)) /\
   (k<Q.length->0<=p1 mode all (Qd lot Q) lot (Q.getD k 0)/\p1 mode all (Qd lot Q) lot (Q.getD k 0)<=Qs mode all (Qd lot Q) lot Q k/\p1 mode all (Qd lot Q) lot (Q.getD k 0)<=Qi lot (Q.getD k 0)/\p1 mode all (Qd lot Q) lot (Q.getD k 0)*Qd lot Q<=all*Qi lot (Q.getD k 0)):=by
 have hp:∀k,k<Q.length->0<=p1 mode all (Qd lot Q) lot (Q.getD k 0)/\p1 mode all (Qd lot Q) lot (Q.getD k 0)<=Qi lot (Q.getD k 0)/\p1 mode all (Qd lot Q) lot (Q.getD k 0)*Qd lot Q<=all*Qi lot (Q.getD k 0):=by
  intro k hk;have hq:=JA hQ k;have ht:=ZG hl hq.1;have hts:=Yo hl hQ k hk;unfold p1;by_cases hm:mode=2
  ·rw[Sx hm];have hnn:0<=all*Qi lot (Q.getD k 0) / Qd lot Q:=Int.ediv_nonneg (Int.mul_nonneg ha ht.1) Oz;have h1:=ZG hl hnn;have h2:all*Qi lot (Q.getD k 0) / Qd lot Q*Qd lot Q<=all*Qi lot (Q.getD k 0):=Int.ediv_mul_le _ Oz;have h3:all*Qi lot (Q.getD k 0) / Qd lot Q<=Qi lot (Q.getD k 0):=by
    apply Int.ediv_le_of_le_mul hT;rw[Int.mul_comm];exact Int.mul_le_mul_of_nonneg_left aR ht.1
   have h4:=Int.mul_le_mul_of_nonneg_right h1.2.1 (Int.le_of_lt hT);exact⟨h1.1,by omega,by omega⟩
  ·rw[Sw hm];have:=Int.mul_nonneg ha ht.1;exact⟨Int.le_refl _,ht.1,by rw[Int.zero_mul];exact this⟩
 intro k
 have main:k<=Q.length->0<=Qs mode all (Qd lot Q) lot Q k/\Qs mode all (Qd lot Q) lot Q k<=all/\(all-Qs mode all (Qd lot Q) lot Q k)*Qd lot Q<=all*Qd lot (Q.take k):=by
  induction k with
  | zero=>intro _;simp[Qs,Qd,ha]
  | succ k ih =>
   intro hk;obtain⟨i1,i2,i3⟩:=ih Oz;obtain⟨j1,j2,j3⟩:=hp k Oz;have e:=K8 lot Q k Oz;have hle:=X9 hl hQ (k+1);rw[e]at hle ⊢;show 0<=Qs mode all (Qd lot Q) lot Q k-p1 mode all (Qd lot Q) lot (Q.getD k 0)/\Qs mode all (Qd lot Q) lot Q k-p1 mode all (Qd lot Q) lot (Q.getD k 0)<=all/\(all-(Qs mode all (Qd lot Q) lot Q k-p1 mode all (Qd lot Q) lot (Q.getD k 0)))*Qd lot Q<=all*(Qd lot (Q.take k)+Qi lot (Q.getD k 0));have key:(all-(Qs mode all (Qd lot Q) lot Q k-p1 mode all (Qd lot Q) lot (Q.getD k 0)))*Qd lot Q<=all*(Qd lot (Q.take k)+Qi lot (Q.getD k 0)):=by
    rw[show all-(Qs mode all (Qd lot Q) lot Q k-p1 mode all (Qd lot Q) lot (Q.getD k 0))=(all-Qs mode all (Qd lot Q) lot Q k)+p1 mode all (Qd lot Q) lot (Q.getD k 0) by omega,Int.add_mul,Int.mul_add];omega
   have top:all*(Qd lot (Q.take k)+Qi lot (Q.getD k 0))<=all*Qd lot Q:=Int.mul_le_mul_of_nonneg_left hle ha;have hd:all-(Qs mode all (Qd lot Q) lot Q k-p1 mode all (Qd lot Q) lot (Q.getD k 0))<=all:=Int.le_of_mul_le_mul_right (Int.le_trans key top) hT;exact⟨by omega,by omega,key⟩
 intro hk
 refine⟨main hk,λhlt=>?_⟩
 obtain⟨m1,m2,m3⟩:=main hk
 obtain⟨j1,j2,j3⟩:=hp k hlt
 refine⟨j1,?_,j2,j3⟩
 have e:=K8 lot Q k hlt
 have hle:=X9 hl hQ (k+1)
 rw[e]at hle
 have key:(all-(Qs mode all (Qd lot Q) lot Q k-p1 mode all (Qd lot Q) lot (Q.getD k 0)))*Qd lot Q<=all*(Qd lot (Q.take k)+Qi lot (Q.getD k 0)):=by
  rw[show all-(Qs mode all (Qd lot Q) lot Q k-p1 mode all (Qd lot Q) lot (Q.getD k 0))=(all-Qs mode all (Qd lot Q) lot Q k)+p1 mode all (Qd lot Q) lot (Q.getD k 0) by omega,Int.add_mul,Int.mul_add];omega
 have top:all*(Qd lot (Q.take k)+Qi lot (Q.getD k 0))<=all*Qd lot Q:=Int.mul_le_mul_of_nonneg_left hle ha
 have hd:all-(Qs mode all (Qd lot Q) lot Q k-p1 mode all (Qd lot Q) lot (Q.getD k 0))<=all:=Int.le_of_mul_le_mul_right (Int.le_trans key top) hT
 omega
end
section
set_option linter.unusedSectionVars false
set_option linter.unusedSimpArgs false
def Jc (mode all T lot:Int)(Q:List Int):Nat->Int
 | 0=>0
 | k+1=>Jc mode all T lot Q k+QA mode all T lot Q k
section
variable {mode all lot:Int}{Q:List Int} (hl:1 ≤ lot) (hQ:OkQ Q) (ha:0 ≤ all) (aR:all ≤ Qd lot Q) (hT:0 < Qd lot Q)
include hl hQ ha aR hT
theorem J2 (k:Nat)(hk:k<Q.length):0<=p1 mode all (Qd lot Q) lot (Q.getD k 0)/\p1 mode all (Qd lot Q) lot (Q.getD k 0)<=Qi lot (Q.getD k 0):=by
 have h:=(KF (mode:=mode) hl hQ ha aR hT k Oz).2 hk
 exact⟨h.1,h.2.2.1⟩
theorem J3 (k:Nat)(hk:k<=Q.length):0<=QD mode all (Qd lot Q) lot Q k/\QD mode all (Qd lot Q) lot Q k<=all:=by
 induction k with
 | zero=>have h:=(KF (mode:=mode) hl hQ ha aR hT Q.length Oz).1;exact⟨h.1,h.2.1⟩
 | succ k ih =>
  have h:=ih Oz;have hp:=J2 (mode:=mode) hl hQ ha aR hT k Oz;simp only[QD];omega
theorem Dx (k:Nat)(hk:k<Q.length):0<=QA mode all (Qd lot Q) lot Q k/\QA mode all (Qd lot Q) lot Q k<=Qi lot (Q.getD k 0)/\p1 mode all (Qd lot Q) lot (Q.getD k 0)<=QA mode all (Qd lot Q) lot Q k:=by
 have h:=J3 (mode:=mode) hl hQ ha aR hT k Oz
 have hp:=J2 (mode:=mode) hl hQ ha aR hT k hk
 unfold QA
 omega
theorem qcN (k:Nat)(hk:k<=Q.length):QD mode all (Qd lot Q) lot Q k+Jc mode all (Qd lot Q) lot Q k=Qs mode all (Qd lot Q) lot Q Q.length+(all-Qs mode all (Qd lot Q) lot Q k):=by
 induction k with
 | zero=>simp[QD,Jc,Qs]
 | succ k ih =>
  have h:=ih Oz;simp only[QD,Jc,Qs,QA];omega
theorem qcO (k:Nat)(hk:k<=Q.length):QD mode all (Qd lot Q) lot Q k=0∨Jc mode all (Qd lot Q) lot Q k=Qd lot (Q.take k):=by
 induction k with
 | zero=>right;simp[Jc,Qd]
 | succ k ih =>
  have hp:=J2 (mode:=mode) hl hQ ha aR hT k Oz;have h2:=J3 (mode:=mode) hl hQ ha aR hT k Oz;have e:=K8 lot Q k Oz;rcases ih Oz with h|h
  ·left
   simp only[QD,h];omega
  ·simp only[QD,Jc,QA,h,e];omega
theorem qcP:Jc mode all (Qd lot Q) lot Q Q.length=all:=by
 have h1:=qcN (mode:=mode) hl hQ ha aR hT Q.length (Sq _)
 have h2:=J3 (mode:=mode) hl hQ ha aR hT Q.length (Sq _)
 rcases qcO (mode:=mode) hl hQ ha aR hT Q.length (Sq _) with h|h
 ·omega
 ·rw[List.take_length]at h;omega
theorem qcQ (k:Nat)(hk:k<=Q.length):0<=Jc mode all (Qd lot Q) lot Q k/\Jc mode all (Qd lot Q) lot Q k<=Qd lot (Q.take k):=by
 induction k with
 | zero=>simp[Jc,Qd]
 | succ k ih =>
  have h:=ih Oz;have ho:=Dx (mode:=mode) hl hQ ha aR hT k Oz;have e:=K8 lot Q k Oz;simp only[Jc,e];omega
end
end
section
open Go.RowKit
theorem KG (lot qty:Int)(hq:InR qty)(hl:InR lot)(w:World) :
  Calls prog 93 #[.int .i64 lot,.int .i64 qty] w λe w'=>e=.returned (.int .i64 (Qi lot qty))/\w=w':=by
 by_cases h1:lot<1
 ·have h:Hid (Qi lot qty=0):=by show _=_;unfold Qi;rw[Sx (.inl h1)]
  go_enter func93,ntmps93;go_wp2_with fail
  go_ret;rw[h.out];exact⟨rfl,rfl⟩
 by_cases h2:qty<1
 ·have h:Hid (Qi lot qty=0):=by show _=_;unfold Qi;rw[Sx (.inr h2)]
  go_enter func93,ntmps93;go_wp2_with fail
  go_ret;rw[h.out];exact⟨rfl,rfl⟩
 have ht:=X7 (lot:=lot) (qty:=qty) Oz Oz
 obtain⟨t,vF⟩:∃t,t=Qi lot qty:=⟨_,rfl⟩
 rw[<-vF]at ht ⊢
 obtain⟨t0,t1,_,_,t4⟩:=ht
 obtain⟨m,hm⟩:∃m,m=qty % lot:=⟨_,rfl⟩
 have hm':qty % lot=m:=hm.symm
 rw[<-hm]at t4
 have e1:IntKind.i64.wrap (qty-m)=t:=by unfold InR at hq hl;rw[Wz];omega
 have e2:qty-m=t:=by omega
 have g1:1<=lot:=by omega
 have g3:1<=qty:=by omega
 have g5:(lot==0)=false:=by simp;omega
 have g6:0<=qty:=by omega
 have g7:qty<=9223372036854775807:=hq.2
 have g8:lot<=9223372036854775807:=hl.2
 clear h1 h2 hq hl vF hm t4
 go_enter func93,ntmps93
 go_wp2_with fail
 go_ret
 exact⟨rfl,rfl⟩
end
section
open Go.RowKit Go.Lib
def qs (L:List Od):List Int:=L.map (·.qty)
theorem Zt (L:List Od):(qs L).length=L.length:=List.length_map ..
theorem JB (L:List Od)(k:Nat)(h:k<L.length):(qs L).getD k 0=L[k]!.qty:=by
 unfold qs
 rw[List.getD_eq_getElem?_getD,List.getElem?_map,List.getElem?_eq_getElem h,Sj L k h];rfl
theorem Dy {Q:List Int}{k:Nat}(h:OkQ (Q.take k))(hk:k<Q.length)(hq:0<=Q.getD k 0/\Q.getD k 0<=1099511627776):OkQ (Q.take (k+1)):=by
 intro q hm
 rw[List.take_succ_eq_append_getElem hk,List.mem_append]at hm
 rcases hm with hm|hm
 ·exact h q hm
 ·rw[List.mem_singleton.1 hm];rw[List.getD_eq_getElem?_getD,List.getElem?_eq_getElem hk]at hq;exact hq
theorem Yp {Q:List Int}{lot:Int}{k:Nat}(hk:k<Q.length)(hq:¬(0<=Q.getD k 0/\Q.getD k 0<=1099511627776)):Zy Q lot=0:=by
 unfold Zy
 refine Sx (.inr (.inr (.inr λh=>hq ?_)))
 rw[List.getD_eq_getElem?_getD,List.getElem?_eq_getElem hk]
 exact h _ (Wt hk)
theorem Dz {Q:List Int}{lot:Int}(h1:1<=lot)(h2:lot<=1099511627776)(h3:Q.length<=64)(hq:OkQ Q):Zy Q lot=Qd lot Q:=by
 unfold Zy
 exact Sw (λh=>by rcases h with h|h|h|h;omega;omega;omega;exact h hq)
theorem DC {lot:Int}{Q:List Int}{k:Nat}(h1:1<=lot)(hk:k<Q.length)(hl:Q.length<=64)(ho:OkQ (Q.take k))(hq:0<=Q.getD k 0/\Q.getD k 0<=1099511627776) :
  (0<=Qd lot (Q.take k)/\Qd lot (Q.take k)<=70368744177664)/\(0<=Qi lot (Q.getD k 0)/\Qi lot (Q.getD k 0)<=1099511627776)/\Qd lot (Q.take (k+1))=Qd lot (Q.take k)+Qi lot (Q.getD k 0):=by
 have a:=Yn h1 ho
 have b:=ZG h1 hq.1
 have c:(Q.take k).length<=64:=by simp;omega
 refine⟨⟨a.1,by omega⟩,⟨b.1,by omega⟩,K8 lot Q k hk⟩
theorem qcR (A:Option Addr)(n c:Nat)(L:List Od)(lot:Int)(aD:InR lot)(w:World)(H:Ods w A n L)(hn:n<=1000) :
  Calls prog 129 #[.slice A n c,.int .i64 lot] w λe w'=>e=.returned (.int .i64 (Zy (qs L) lot))/\Ok w w':=by
 have HO:Aside (Ods w A n L):=H
 have aN:=Ou H.1
 clear H
 obtain⟨T,hT⟩:∃T,T=Zy (qs L) lot:=⟨_,rfl⟩
 rw[<-hT]
 have HT:=Ou hT
 clear hT
 by_cases h1:lot<1
 ·have h:Hid (T=0):=Ou (HT.out.trans (Sx (.inl h1)));clear HT;go_enter func129,ntmps129;go_wp2_with fail
  go_ret;rw[h.out];exact⟨rfl,Below.refl _ _⟩
 by_cases h2:1099511627776<lot
 ·have h:Hid (T=0):=Ou (HT.out.trans (Sx (.inr (.inl h2))));clear HT;go_enter func129,ntmps129;go_wp2_with fail
  go_ret;rw[h.out];exact⟨rfl,Below.refl _ _⟩
 by_cases h3:64<n
 ·have h:Hid (T=0):=Ou (HT.out.trans (Sx (.inr (.inr (.inl (by rw[Zt,aN.out];exact h3))))));clear HT;have h3I:(64:Int)<(n:Int):=by omega
  go_enter func129,ntmps129;go_wp2_with fail
  go_ret;rw[h.out];exact⟨rfl,Below.refl _ _⟩
 have g1:1<=lot:=by omega
 have g2:lot<=1099511627776:=by omega
 have g3:¬(64:Int)<(n:Int):=by omega
 have g4:n<=64:=by omega
 clear h1 h2 h3
 go_enter func129,ntmps129
 go_wp2_with fail
 go_loopg [5,21] n (λkx s5 qD wr=>∃k:Nat,qD=.int .i64 k/\k<=n/\n-k<=kx/\s5=.int .i64 (Qd lot ((qs L).take k))/\Hid (OkQ ((qs L).take k))/\Hid (Ok w wr))
 case atStart=>exact⟨0,rfl,by omega,by omega,rfl,Ou (λq h=>by simp at h),Ou (Oq _ _)⟩
 case round =>
  obtain⟨k,rfl,hk,aM,rfl,hok,hd⟩:=hrel;by_cases hlt:k<n
  ·have aF:(k:Int)<(n:Int):=by omega
   have h1:=(HO.out.below hd.out).2.2.2;rcases h1 with h1 | ⟨b,off,rfl,_,hc⟩
   ·omega
   have hx:=hc k hlt;clear hc;have hxk:=(HO.out.below hd.out).2.2.1;have HQ:=Ou (JB L k (by rw[aN.out];exact hlt));obtain⟨x,ex⟩:∃x,L[k]! = x:=⟨_,rfl⟩
   rw[ex]at hx HQ;clear ex hxk;obtain⟨x0,x1,x2,x3,x4,x5⟩:=hx;have hsz:=hd.out.size;by_cases q1:x.qty<0
   ·have h:Hid (T=0):=Ou (HT.out.trans (Yp (k:=k) (by rw[Zt,aN.out];exact hlt) (by rw[HQ.out];omega)));have hB:Hid (Ok w (wr.alloc (Obj.cells #[.int .u64 x.id,.int .i64 x.acc,.int .i64 x.side,.int .i64 x.price,.int .i64 x.qty,.int .u64 x.seq] 38))):=Ou (hd.out.alloc hsz _);clear hok HT HQ hd;go_wp2_with fail
    go_ret;rw[h.out];exact⟨rfl,hB.out⟩
   by_cases q2:1099511627776<x.qty
   ·have h:Hid (T=0):=Ou (HT.out.trans (Yp (k:=k) (by rw[Zt,aN.out];exact hlt) (by rw[HQ.out];omega)));have hB:Hid (Ok w (wr.alloc (Obj.cells #[.int .u64 x.id,.int .i64 x.acc,.int .i64 x.side,.int .i64 x.price,.int .i64 x.qty,.int .u64 x.seq] 38))):=Ou (hd.out.alloc hsz _);clear hok HT HQ hd;go_wp2_with fail
    go_ret;rw[h.out];exact⟨rfl,hB.out⟩
   have q3:0<=x.qty:=by omega
   have q4:x.qty<=1099511627776:=by omega
   have hst:=DC (lot:=lot) (Q:=qs L) (k:=k) g1 (by rw[Zt,aN.out];exact hlt) (by rw[Zt,aN.out];exact g4) hok.out (by rw[HQ.out];exact⟨q3,q4⟩);rw[HQ.out]at hst;obtain⟨⟨s1,s2⟩,⟨t1,t2⟩,hs⟩:=hst;have pW:Hid (OkQ ((qs L).take (k+1))):=Ou (Dy hok.out (by rw[Zt,aN.out];exact hlt) (by rw[HQ.out];exact⟨q3,q4⟩));have cL:Hid (∀w,Calls prog 93 #[.int .i64 lot,.int .i64 x.qty] w λe w'=>e=.returned (.int .i64 (Qi lot x.qty))/\w=w'):=Ou (λw=>KG lot x.qty ⟨by omega,by omega⟩ aD w);generalize Qd lot ((qs L).take k)=S at *;generalize Qi lot x.qty=t at *;have HS:=Ou hs
   have hB:Hid (Ok w (wr.alloc (Obj.cells #[.int .u64 x.id,.int .i64 x.acc,.int .i64 x.side,.int .i64 x.price,.int .i64 x.qty,.int .u64 x.seq] 38))):=Ou (hd.out.alloc hsz _);clear hok HQ hd hs aD;go_wp2_with ((with_reducible refine(cL.out _).mono ?_);rintro e w' ⟨rfl,rfl⟩)
   go_roundg (n-(k+1))
   case measure=>omega
   case rel=>exact⟨k+1,by go_num,by omega,by omega,by rw[HS.out],pW,hB⟩
  ·have aF:¬(k:Int)<(n:Int):=by omega
   obtain rfl:k=n:=by omega
   have h:Hid (T=Qd lot ((qs L).take k)):=by
    have e:(qs L).take k=qs L:=List.take_of_length_le (by rw[Zt,aN.out];exact Sq _);have ho:=hok.out;rw[e]at ho ⊢;exact Ou (HT.out.trans (Dz g1 g2 (by rw[Zt,aN.out];exact g4) ho))
   generalize Qd lot ((qs L).take k)=S at *;clear hok HT;go_wp2_with fail
   go_ret;rw[h.out];exact⟨rfl,hd.out⟩
structure Hst (w:World) (lB tB pB fB aB:Nat) (A:Option Addr) (n c:Nat) (lot left:Int) (f:Nat->Int):Prop where
 l:Bx 22 w lB (.slice A n c)
 t:Bx 2 w tB (.int .i64 lot)
 p:Bx 60 w pB (.slice (some ⟨aB,0,none⟩) n n)
 e:Bx 2 w fB (.int .i64 left)
 a:w.rowIs aB 2 n (λi=>.int .i64 (f i))
def Yq (w:World)(aB fB i:Nat)(v left:Int)(e:Ending)(w':World):Prop :=
 e=.returned (.tuple #[])/\∃q,w'=((w.drewN q).setCell ⟨aB,i,none⟩ (.int .i64 v)).setCell ⟨fB,0,none⟩ (.int .i64 left)
theorem Ua (lB tB pB fB aB:Nat)(A:Option Addr)(n c:Nat)(L:List Od)(lot left:Int)(f:Nat->Int)(i:Nat)(m d z t:Int)(w:World)
  (H:Hst w lB tB pB fB aB A n c lot left f) (HO:Ods w A n L) (hi:i<n) (hn:n<=1000) (aD:InR lot) (hz:z=f i)
  (hq:InR L[i]!.qty) (ht:t=Qi lot L[i]!.qty) (h0:0<=z/\z<=t) (h1:t<=1099511627776) (h2:0<=left/\left<=70368744177664) (h3:0<=m/\m<=70368744177664) (hd:d=min m (min left (t-z))) (hne:fB≠aB) :
  Calls prog 130 #[.int .i64 i,.int .i64 m,.pointer (some ⟨fB,0,none⟩),.pointer (some ⟨tB,0,none⟩),.pointer (some ⟨lB,0,none⟩),.pointer (some ⟨pB,0,none⟩)] w (Yq w aB fB i (z+d) (left-d)):=by
 obtain⟨b,off,rfl,hb,hc⟩:∃b off,A=some ⟨b,off,none⟩/\b<w.heap.size/\∀i,i<n->(L[i]!).at w b (off+i*6):=by
  rcases HO.2.2.2 with h|h
  ·omega
  ·exact h
 have kq:=(hc i hi).2.2.2.2.1
 have k1:=H.l.c0
 have k2:=H.t.c0
 have k3:=H.p.c0
 have k4:=H.e.c0
 have k5:w.cell? ⟨aB,i,none⟩=some (.int .i64 z):=by rw[hz];exact H.a.cell hi
 have f4:=H.e.f0
 have HE:Aside (Bx 2 w fB (.int .i64 left)):=H.e
 have f5:=H.a.frozen i
 have HT:Hid (∀w,Calls prog 93 #[.int .i64 lot,.int .i64 L[i]!.qty] w λe w'=>e=.returned (.int .i64 t)/\w'=w):=Ou (λw=>by rw[ht];exact(KG lot _ hq aD w).mono λ_ _ h=>⟨h.1,h.2.symm⟩)
 have HD:=Ou hd
 generalize L[i]!.qty=q at *
 have jK:(i:Int)<(n:Int):=by omega
 have hi0:(0:Int)<=(i:Int):=by omega
 clear H HO hz ht hd hc aD hq
 go_enter func130,ntmps130
 go_wp2_with fail
 go_quiet (((with_reducible exact Ss (HT.out _))))
 have e:(if t-z<if left<m then left else m then t-z else if left<m then left else m)=d:=by
  rw[HD.out]
  split<;>split<;>omega
 rw[e]
 have d0:0<=d/\d<=t-z/\d<=left:=by rw[HD.out];omega
 obtain⟨d1,d2,d3⟩:=d0
 clear e HD HT kq k1 k2
 have k6:((w.drewN nq).setCell ⟨aB,i,none⟩ (.int .i64 (z+d))).cell? ⟨fB,0,none⟩=some (.int .i64 left):=by
  have h:Bx 2 ((w.drewN nq).setCell ⟨aB,i,none⟩ (.int .i64 (z+d))) fB (.int .i64 left):=(QJ hne).trans HE.out;exact h.c0
 have f6:((w.drewN nq).setCell ⟨aB,i,none⟩ (.int .i64 (z+d))).frozen? ⟨fB,0,none⟩=false:=by
  have h:Bx 2 ((w.drewN nq).setCell ⟨aB,i,none⟩ (.int .i64 (z+d))) fB (.int .i64 left):=(QJ hne).trans HE.out;exact h.f0
 go_wp2_with fail
 go_end0
 exact⟨rfl,nq,rfl⟩
theorem Hst.handed {w:World}{lB tB pB fB aB:Nat}{A:Option Addr}{n c:Nat}{lot left:Int}{f:Nat->Int}(H:Hst w lB tB pB fB aB A n c lot left f)(q i:Nat)(v l2:Int)(g:Nat->Int)
  (hg:∀j,j<n->g j=if j=i then v else f j) (d1:lB≠aB) (d2:lB≠fB) (d3:tB≠aB) (d4:tB≠fB) (d5:pB≠aB) (d6:pB≠fB) (d7:fB≠aB) :
  Hst (((w.drewN q).setCell ⟨aB,i,none⟩ (.int .i64 v)).setCell ⟨fB,0,none⟩ (.int .i64 l2)) lB tB pB fB aB A n c lot l2 g:=by
 refine⟨(QJ d2).trans ((QJ d1).trans H.l),(QJ d4).trans ((QJ d3).trans H.t),(QJ d6).trans ((QJ d5).trans H.p),Bx.set ((QJ d7).trans H.e) _,?_⟩
 have h:(w.drewN q).rowIs aB 2 n (λi=>.int .i64 (f i)):=H.a
 refine((h.set i (.int .i64 v)).setOther (Ne.symm d7) _).congr (λj hj=>?_)
 rw[hg j hj]
 show (if j=i then Value.int .i64 v else .int .i64 (f j))=_
 split<;>rfl
theorem Hst.below {w w':World}{lB tB pB fB aB:Nat}{A:Option Addr}{n c:Nat}{lot left:Int}{f:Nat->Int}(H:Hst w lB tB pB fB aB A n c lot left f)(hb:Ok w w'):Hst w' lB tB pB fB aB A n c lot left f :=
 ⟨(hb.block _ (Qc H.l)).trans H.l,(hb.block _ (Qc H.t)).trans H.t,(hb.block _ (Qc H.p)).trans H.p,(hb.block _ (Qc H.e)).trans H.e,H.a.of_block (hb.block _ H.a.lt)⟩
theorem QI {B:Nat}{a w:World}(h:Below B a w)(n:Nat):Below B a (w.drewN n):=⟨h.os,h.tape,h.output,h.size,h.block⟩
def Jd (mode:Int)(Q:List Int)(qty lot:Int):Prop:=¬(mode=1∨mode=2)∨Zy Q lot=0∨qty<1∨4611686018427387904<qty
theorem Ub {wr w:World}{A:Option Addr}{n c:Nat}{L:List Od}{lot:Int}(aD:InR lot)(HO:Ods w A n L)(hn:n<=1000) :
  ∀wr,Ok w wr->Calls prog 129 #[.slice A n c,.int .i64 lot] wr λe w'=>e=.returned (.int .i64 (Zy (qs L) lot))/\Ok wr w' :=
 λwr hb=>qcR A n c L lot aD wr (HO.below hb) hn
theorem qcS (mode:Int)(A:Option Addr)(n c:Nat)(L:List Od)(qty lot:Int)(aD:InR lot)(w:World)(HO:Ods w A n L)(hn:n<=1000)(hno:Jd mode (qs L) qty lot) :
  Calls prog 94 #[.int .i64 mode,.slice A n c,.int .i64 qty,.int .i64 lot] w λe w'=>e=.returned (.slice none 0 0)/\Ok w w':=by
 obtain⟨T,hT⟩:∃T,T=Zy (qs L) lot:=⟨_,rfl⟩
 have aO:Hid (∀wr,Ok w wr->Calls prog 129 #[.slice A n c,.int .i64 lot] wr λe w'=>e=.returned (.int .i64 T)/\Ok wr w'):=Ou (by rw[hT];exact Ub (wr:=w) aD HO hn)
 have hb0:Ok w ((w.alloc (.cells #[.slice A n c] 22)).alloc (.cells #[.int .i64 lot] 2)):=((Oq _ _).alloc (Sq _) _).alloc Oy _
 unfold Jd at hno
 rw[<-hT]at hno
 clear HO aD hT
 by_cases m1:mode=1
 ·subst m1;by_cases z:T=0
  ·subst z;clear hno;go_enter func94,ntmps94;go_wp2_with fail
   ((with_reducible refine(aO.out _ hb0).mono ?_);rintro e w2 ⟨rfl,b2⟩);have hB:=hb0.trans (b2.mono hb0.size);go_wp2_with fail
   go_ret;exact⟨rfl,hB⟩
  have z1:(T==0)=false:=by simp[z]
  by_cases q1:qty<1
  ·clear hno z;have q2:decide (qty<1)=true:=Sy q1;go_enter func94,ntmps94;go_wp2_with fail
   ((with_reducible refine(aO.out _ hb0).mono ?_);rintro e w2 ⟨rfl,b2⟩);have hB:=hb0.trans (b2.mono hb0.size);go_wp2_with fail
   go_ret;exact⟨rfl,hB⟩
  have q3:4611686018427387904<qty:=by omega
  have q4:decide (qty<1)=false:=Sz q1;have q5:decide (4611686018427387904<qty)=true:=Sy q3;clear hno z;go_enter func94,ntmps94;go_wp2_with fail
  ((with_reducible refine(aO.out _ hb0).mono ?_);rintro e w2 ⟨rfl,b2⟩);have hB:=hb0.trans (b2.mono hb0.size);go_wp2_with fail
  go_ret;exact⟨rfl,hB⟩
 by_cases m2:mode=2
 ·subst m2;by_cases z:T=0
  ·subst z;clear hno;go_enter func94,ntmps94;go_wp2_with fail
   ((with_reducible refine(aO.out _ hb0).mono ?_);rintro e w2 ⟨rfl,b2⟩);have hB:=hb0.trans (b2.mono hb0.size);go_wp2_with fail
   go_ret;exact⟨rfl,hB⟩
  have z1:(T==0)=false:=by simp[z]
  by_cases q1:qty<1
  ·clear hno z;have q2:decide (qty<1)=true:=Sy q1;go_enter func94,ntmps94;go_wp2_with fail
   ((with_reducible refine(aO.out _ hb0).mono ?_);rintro e w2 ⟨rfl,b2⟩);have hB:=hb0.trans (b2.mono hb0.size);go_wp2_with fail
   go_ret;exact⟨rfl,hB⟩
  have q3:4611686018427387904<qty:=by omega
  have q4:decide (qty<1)=false:=Sz q1;have q5:decide (4611686018427387904<qty)=true:=Sy q3;clear hno z;go_enter func94,ntmps94;go_wp2_with fail
  ((with_reducible refine(aO.out _ hb0).mono ?_);rintro e w2 ⟨rfl,b2⟩);have hB:=hb0.trans (b2.mono hb0.size);go_wp2_with fail
  go_ret;exact⟨rfl,hB⟩
 have e1:(mode==1)=false:=by simp[m1]
 have e2:(mode != 1)=true:=by simp[m1]
 have e3:(mode==2)=false:=by simp[m2]
 have e4:(mode != 2)=true:=by simp[m2]
 clear hno m1 m2
 go_enter func94,ntmps94
 go_wp2_with fail
 ((with_reducible refine(aO.out _ hb0).mono ?_);rintro e w2 ⟨rfl,b2⟩)
 have hB:=hb0.trans (b2.mono hb0.size)
 go_wp2_with fail
 go_ret
 exact⟨rfl,hB⟩
structure St1 (w wr:World) (m:Nat) (A:Option Addr) (n c:Nat) (lot mode all T:Int) (Q:List Int) (k:Nat):Prop where
 s:Hst wr w.heap.size (w.heap.size+1) (m+1) (m+2) m A n c lot (Qs mode all T lot Q k) (λj=>if j<k then p1 mode all T lot (Q.getD j 0) else 0)
 b:Ok w wr
 m:w.heap.size+2<=m
structure St2 (w wr:World) (m:Nat) (A:Option Addr) (n c:Nat) (lot mode all T:Int) (Q:List Int) (k:Nat):Prop where
 s:Hst wr w.heap.size (w.heap.size+1) (m+1) (m+2) m A n c lot (QD mode all T lot Q k) (λj=>if j<k then QA mode all T lot Q j else p1 mode all T lot (Q.getD j 0))
 b:Ok w wr
 m:w.heap.size+2<=m
theorem St1.next {w wr:World}{m n c k:Nat}{A:Option Addr}{lot mode all T:Int}{Q:List Int}(h:St1 w wr m A n c lot mode all T Q k){w1:World}(hb:Ok wr w1)(q:Nat)(d:Int)(hd:d=p1 mode all T lot (Q.getD k 0)) :
  St1 w (((w1.drewN q).setCell ⟨m,k,none⟩ (.int .i64 (0+d))).setCell ⟨m+2,0,none⟩ (.int .i64 (Qs mode all T lot Q k-d))) m A n c lot mode all T Q (k+1):=by
 have hm:=h.m
 refine⟨?_,((QI (h.b.trans (hb.mono h.b.size)) q).setCell (by show w.heap.size<=m;omega) _).setCell (by show w.heap.size<=m+2;omega) _,hm⟩
 have e:Qs mode all T lot Q (k+1)=Qs mode all T lot Q k-d:=by rw[hd];rfl
 rw[e]
 refine(h.s.below hb).handed q k (0+d) (Qs mode all T lot Q k-d) _ (λj hj=>?_) Oz Oz Oz Oz Oz Oz Oz
 by_cases e1:j=k
 ·subst e1;rw[Sx Oz,Sx rfl,hd];omega
 ·rw[Sw e1];by_cases e2:j<k
  ·rw[Sx Oz,Sx e2]
  ·rw[Sw Oz,Sw e2]
theorem St2.next {w wr:World}{m n c k:Nat}{A:Option Addr}{lot mode all T:Int}{Q:List Int}(h:St2 w wr m A n c lot mode all T Q k)(q:Nat)(z d:Int)(hz:z=p1 mode all T lot (Q.getD k 0))(hd:d=min (QD mode all T lot Q k) (Qi lot (Q.getD k 0)-z)) :
  St2 w (((wr.drewN q).setCell ⟨m,k,none⟩ (.int .i64 (z+d))).setCell ⟨m+2,0,none⟩ (.int .i64 (QD mode all T lot Q k-d))) m A n c lot mode all T Q (k+1):=by
 have hm:=h.m
 refine⟨?_,((QI h.b q).setCell (by show w.heap.size<=m;omega) _).setCell (by show w.heap.size<=m+2;omega) _,hm⟩
 have e:QD mode all T lot Q (k+1)=QD mode all T lot Q k-d:=by rw[hd,hz];rfl
 rw[e]
 refine h.s.handed q k (z+d) (QD mode all T lot Q k-d) _ (λj hj=>?_) Oz Oz Oz Oz Oz Oz Oz
 by_cases e1:j=k
 ·subst e1;rw[Sx Oz,Sx rfl,hd,hz];rfl
 ·rw[Sw e1];by_cases e2:j<k
  ·rw[Sx Oz,Sx e2]
  ·rw[Sw Oz,Sw e2]
theorem St1.st2 {w wr:World}{m n c:Nat}{A:Option Addr}{lot mode all T:Int}{Q:List Int}(h:St1 w wr m A n c lot mode all T Q n)(hn:Q.length=n):St2 w wr m A n c lot mode all T Q 0:=by
 refine⟨⟨h.s.l,h.s.t,h.s.p,?_,h.s.a.congr (λj hj=>?_)⟩,h.b,h.m⟩
 ·have e:QD mode all T lot Q 0=Qs mode all T lot Q n:=by show Qs mode all T lot Q Q.length=_;rw[hn]
  rw[e];exact h.s.e
 ·show Value.int .i64 (if j<n then _ else 0)=.int .i64 (if j<0 then _ else _);rw[Sx hj,Sw (by omega)]
theorem DD (w w2:World)(A:Option Addr)(n c:Nat)(lot mode all T:Int)(Q:List Int)(hb:Below (w.heap.size+2) ((w.alloc (.cells #[.slice A n c] 22)).alloc (.cells #[.int .i64 lot] 2)) w2) :
  St1 w (((w2.alloc (.cells (madeCells #[.int .i64 0] n) 2)).alloc (.cells #[.slice (some ⟨w2.heap.size,0,none⟩) n n] 60)).alloc (.cells #[.int .i64 all] 2)) w2.heap.size A n c lot mode all T Q 0:=by
 have hs:=hb.size
 simp at hs
 have b0:Ok w w2:=(((Oq _ _).alloc (Sq _) _).alloc Oy _).trans (hb.mono Oz)
 have k0:w2.heap[w.heap.size]? = some (.cells #[.slice A n c] 22 (0,0)):=(hb.block _ Oz).trans (Zx Oy (ZX rfl))
 have k1:w2.heap[w.heap.size+1]? = some (.cells #[.int .i64 lot] 2 (0,0)):=(hb.block _ Oz).trans (ZX Oy)
 refine⟨⟨Bx.alloc (Bx.alloc (Bx.alloc k0 _) _) _,Bx.alloc (Bx.alloc (Bx.alloc k1 _) _) _,Bx.alloc (ZX Oy) _,ZX Oy,?_⟩,((b0.alloc b0.size _).alloc (by simp;omega) _).alloc (by simp;omega) _,by omega⟩
 exact((World.rowIs_made w2 (.int .i64 0) n _).alloc _).alloc _ |>.congr (λj hj=>by simp)
theorem qcT (a b c round p:Int)(n d q r:Nat)(neg bW aw:Bool)(c1:-9223372036854775808<=c)(c2:c<=9223372036854775807)(e0:(c==0)=false)(aI:round=1)
  (gL:Rm p) (hneg:neg=(decide (p<0) != decide (c<0))) (gK:(bits BinOp.and IntKind.u64 (q:Int) 1==1)=bW) (hq:q<2 ^ 64) (hr:r<2 ^ 64) (hhi:Qg (n:Int)<Ql (d:Int)) (pH:0<=Qg (n:Int)) (pI:Qg (n:Int)<=9223372036854775807)
  (HT:Hid (∀w,Calls prog 121 #[.int .i64 a,.int .i64 b] w λe w'=>e=.returned (PV p)/\Ok w w'))
  (HS:Hid (∀w,Calls prog 122 #[PV p] w λe w'=>e=.returned (PV (n:Int))/\Ok w w'))
  (jY:Hid (∀w,Calls prog 122 #[PV c] w λe w'=>e=.returned (PV (d:Int))/\Ok w w'))
  (HO:Hid (∀w,Calls prog 125 #[.int .i64 round,.bool neg,.bool bW,.agg #[.int .i64 0,.int .u64 (r:Int)],PV (d:Int)] w λe w'=>e=.returned (.bool aw)/\Ok w w'))
  (HD:Hid (∀w,Calls prog 124 #[.int .u64 (Qg (n:Int)),.int .u64 (Ql (n:Int)),.int .u64 (Ql (d:Int))] w λe w'=>e=.returned (.tuple #[.int .u64 (q:Int),.int .u64 (r:Int)])/\∃nq,w.drewN nq=w'))
  (m:Nat) (hm:m=q+if aw then 1 else 0) (res:Int) (hres:res=if neg then -(m:Int) else (m:Int)) (hn0:neg=false) (ha0:aw=false) (w:World) :
  Calls prog 92 #[.int .i64 a,.int .i64 b,.int .i64 c,.int .i64 round] w λe w'=>e=.returned (.tuple #[.int .i64 (tv res),.int .i64 (te res)])/\Ok w w':=by
 have HN0:=Ou hn0
 have bN:=Ou ha0
 clear hn0 ha0
 have Hpr:=Ou gL
 have hsgn:Qg p<0↔p<0:=by unfold Qg;omega
 have Rq:Hid (Rm (q:Int)):=by show Rm _;unfold Rm;omega
 have Rq1:Hid (Rm ((q:Int)+1)):=by show Rm _;unfold Rm;omega
 have R1:Hid (Rm 1):=by show Rm _;unfold Rm;omega
 have R0:Hid (Rm 0):=by show Rm _;unfold Rm;omega
 have Rm1:Hid (Rm (m:Int)):=by show Rm _;rw[hm];unfold Rm;split<;>omega
 have Rm2:Hid (Rm (0-(m:Int))):=by show Rm _;rw[hm];unfold Rm;split<;>omega
 have hq64':(q:Int)<=18446744073709551615:=by omega
 have hr64':(r:Int)<=18446744073709551615:=by omega
 have q00:(0:Int)<=(q:Int):=by omega
 have r00:(0:Int)<=(r:Int):=by omega
 have Hq0:=Ou (Di q hq)
 have wU:=Ou (XX q hq)
 clear gL hq hr
 have hng:(decide (p<0)==decide (c<0))=!neg:=by rw[hneg];cases decide (p<0)<;>cases decide (c<0)<;>rfl
 clear hneg
 have kY:=Ou hres;clear hres
 have Hm:=Ou hm;clear hm
 subst aI
 go_enter func92,ntmps92
 go_wp2_with fail
 ((with_reducible refine(HT.out _).mono ?_);rintro e w1 ⟨rfl,hb1⟩)
 have mK:=Ou hb1;clear hb1
 go_wp2_with fail
 ((with_reducible refine(HS.out _).mono ?_);rintro e w2 ⟨rfl,hb2⟩)
 go_wp2_with fail
 ((with_reducible refine(KE c c1 c2 _).mono ?_);rintro e w' ⟨rfl,rfl⟩)
 have z2:w1.heap.size+1<=w2.heap.size:=by have:=hb2.size;simp at this;omega
 have B2:Hid (Ok w w2):=by
  show Below _ _ _;have s1:=mK.out.size;exact Below.trans (Below.alloc mK.out s1 _) (hb2.mono (by simp;omega))
 clear hb2
 go_wp2_with fail
 ((with_reducible refine(jY.out _).mono ?_);rintro e w3 ⟨rfl,hb3⟩)
 have B3:Hid (Ok w w3):=by
  show Below _ _ _;have s1:=B2.out.size;exact Below.trans (Below.alloc B2.out s1 _) (hb3.mono (by simp;omega))
 clear hb3 B2 z2 mK
 go_wp2_with fail
 ((with_reducible refine(HD.out _).mono ?_);rintro e w' ⟨rfl,nq,rfl⟩)
 go_wp2_with fail
 ((with_reducible refine(HO.out _).mono ?_);rintro e w4 ⟨rfl,hb4⟩)
 have z4:w3.heap.size+4<=w4.heap.size:=by have:=hb4.size;simp at this;omega
 have hB:Ok w w4:=by
  have s1:=B3.out.size;have b3:=B3.out;exact Below.trans (by(exact zf1)) (hb4.mono (by simp;omega))
 have y:w4.heap[w3.heap.size+1+1]? = some (PC (q:Int)):=by
  rw[hb4.block (w3.heap.size+1+1) (by simp)];show _=some (Obj.cells #[.int .i64 (Qg (q:Int)),.int .u64 (Ql (q:Int))] 195);rw[Hq0.out,wU.out]
  (exact zf5)
 have qlt:w3.heap.size+1+1<w4.heap.size:=by omega
 have hz4:w.heap.size<=w4.heap.size:=hB.size
 clear hb4 z4 hng hsgn hhi pH pI gK
 have hn0:=HN0.out
 have ha0:=bN.out
 clear HN0 bN
 subst hn0 ha0
 have hm:m=q:=by have:=Hm.out;simp at this;omega
 clear Hm
 subst hm
 clear Hq0 wU
 have k0:w4.cell? ⟨w3.heap.size+1+1,0,none⟩=some (.int .i64 (Qg (m:Int))):=KD y rfl
 have k1:w4.cell? ⟨w3.heap.size+1+1,1,none⟩=some (.int .u64 (Ql (m:Int))):=KD y rfl
 have f0:w4.frozen? ⟨w3.heap.size+1+1,0,none⟩=false:=frozen_of_row _ _ _ _ _ y
 have f1:w4.frozen? ⟨w3.heap.size+1+1,1,none⟩=false:=frozen_of_row _ _ _ _ _ y
 have qle:w.heap.size<=w3.heap.size+1+1:=by have:=B3.out.size;omega
 have hzV:w.heap.size<=w4.heap.size:=hB.size
 have HF:=Ou y
 clear y
 have hm0:(m:Int)=res:=by have:=kY.out;simp at this;omega
 have HN:Hid (∀w,Calls prog 128 #[PV (m:Int)] w λe w'=>e=.returned (.tuple #[.int .i64 (tv res),.int .i64 (te res)])/\Ok w w'):=by
  intro w;rw[<-hm0];exact qcq _ Rm1.out w
 clear hm0
 go_wp2_with fail
 ((with_reducible refine(HN.out _).mono ?_);rintro e w5 ⟨rfl,fT⟩)
 have hB5:Ok w w5:=Below.trans (by first|exact hB|exact hB.drew) (fT.mono (by first|exact hzV|(simp;omega)))
 clear fT
 go_wp2_with fail
 go_ret2
 first|exact⟨rfl,hB5⟩|exact hB5
theorem qcU (a b c round:Int)(hp0:0<=a*b)(hc1:1<=c)(ha:InR a)(hb:InR b)(hc:InR c)(hc0:c≠0)(hr1:round=1)(n d:Nat)(hn:n=(a*b).natAbs)(hd:d=c.natAbs)(hlt:n / 18446744073709551616<d)
  (D64:∀w,Calls prog 124 #[.int .u64 (Qg (n:Int)),.int .u64 (Ql (n:Int)),.int .u64 (Ql (d:Int))] w λe w'=>e=.returned (.tuple #[.int .u64 ((n / d:Nat):Int),.int .u64 ((n % d:Nat):Int)])/\∃nq,w.drewN nq=w') (w:World) :
  Calls prog 92 #[.int .i64 a,.int .i64 b,.int .i64 c,.int .i64 round] w λe w'=>e=.returned (.tuple #[.int .i64 (tv (Jb a b c round)),.int .i64 (te (Jb a b c round))])/\Ok w w':=by
 have aI:round=1∨round=2∨round=3:=.inl hr1
 have mV:0<d:=by omega
 have uA:d<2 ^ 64:=by rw[hd];unfold InR at hc;omega
 have lS:n % d<2 ^ 64:=by have:=Nat.mod_lt n mV;omega
 have hq64:n / d<2 ^ 64:=by
  rw[Nat.div_lt_iff_lt_mul mV];have h1:=Nat.div_add_mod n 18446744073709551616;have h2:=Nat.mod_lt n (show 0<18446744073709551616 by omega);have h3:n / 18446744073709551616+1<=d:=hlt;have h4:=Nat.mul_le_mul_left 18446744073709551616 h3;omega
 have gL:=Dg ha hb
 have pX:=qct ha hb
 obtain⟨p,hp⟩:∃p,p=a*b:=⟨_,rfl⟩
 rw[<-hp]at gL pX hn
 obtain⟨neg,hneg⟩:∃neg,neg=(decide (p<0) != decide (c<0)):=⟨_,rfl⟩
 obtain⟨bW,gK⟩:∃bW,bW=decide (n / d % 2=1):=⟨_,rfl⟩
 obtain⟨aw,rA⟩:∃aw,aw=Z4 round neg bW (n % d) d:=⟨_,rfl⟩
 have hres:Jb a b c round=if neg then -((n / d+if aw then 1 else 0:Nat):Int) else ((n / d+if aw then 1 else 0:Nat):Int):=by
  rw[rA,hneg,gK,hn,hd,hp];rfl
 have nC:=qcA (n / d) Oz
 rw[<-gK]at nC
 have HO:Hid (∀w,Calls prog 125 #[.int .i64 round,.bool neg,.bool bW,.agg #[.int .i64 0,.int .u64 ((n % d:Nat):Int)],PV (d:Int)] w λe w'=>e=.returned (.bool aw)/\Ok w w'):=by
  intro w;have:=qcz round neg bW (n % d) d lS uA aI aw rA w;unfold PV at this ⊢;rw[Di _ lS,XX _ lS]at this;exact this
 have hhi:Qg (n:Int)<Ql (d:Int):=by unfold Qg Ql;omega
 have pH:0<=Qg (n:Int):=by unfold Qg;omega
 have pI:Qg (n:Int)<=9223372036854775807:=(Kl (x:=(n:Int)) (by rw[hn];unfold Rm at gL pX ⊢;omega)).2
 have HT:Hid (∀w,Calls prog 121 #[.int .i64 a,.int .i64 b] w λe w'=>e=.returned (PV p)/\Ok w w'):=by
  intro w;rw[hp];exact qcv a b ha hb w
 have HS:Hid (∀w,Calls prog 122 #[PV p] w λe w'=>e=.returned (PV (n:Int))/\Ok w w'):=by
  intro w;rw[hn];exact De p gL pX w
 have jY:Hid (∀w,Calls prog 122 #[PV c] w λe w'=>e=.returned (PV (d:Int))/\Ok w w'):=by
  intro w;rw[hd];exact De c (qcr hc) (by unfold InR at hc;unfold Rm;omega) w
 have hn0:neg=false:=by rw[hneg,hp,Sz Oz,Sz (by omega)];rfl
 have ha0:aw=false:=by rw[rA,hn0,hr1];unfold Z4;simp
 exact qcT a b c round p n d (n / d) (n % d) neg bW aw hc.1 hc.2 (by simp[hc0]) hr1 gL hneg nC hq64 lS hhi pH pI HT HS jY HO D64 _ rfl _ hres hn0 ha0 w
theorem qcV (a b c round:Int)(hp0:0<=a*b)(hc1:1<=c)(ha:InR a)(hb:InR b)(hc:InR c)(hc0:c≠0)(aI:round=1)(hlt:(a*b).natAbs / 18446744073709551616<c.natAbs)(w:World) :
  Calls prog 92 #[.int .i64 a,.int .i64 b,.int .i64 c,.int .i64 round] w λe w'=>e=.returned (.tuple #[.int .i64 (tv (Jb a b c round)),.int .i64 (te (Jb a b c round))])/\Ok w w':=by
 refine qcU a b c round hp0 hc1 ha hb hc hc0 aI _ _ rfl rfl hlt (λw=>?_) w
 have h1:c.natAbs<2 ^ 64:=by unfold InR at hc;omega
 generalize (a*b).natAbs=n at *
 rw[XX _ h1]
 have e1:Qg (n:Int)=((n / 18446744073709551616:Nat):Int):=by unfold Qg;omega
 have e2:Ql (n:Int)=((n % 18446744073709551616:Nat):Int):=by unfold Ql;omega
 rw[e1,e2]
 have h:=qcK (n / 18446744073709551616) (n % 18446744073709551616) c.natAbs hlt h1 Oz w
 have e3:n / 18446744073709551616*18446744073709551616+n % 18446744073709551616=n:=by omega
 rw[e3]at h
 exact h
theorem qcW {a b c:Int}(h0:0<=a)(h1:a<=c)(h2:0<=b)(h3:b<=70368744177664)(h4:1<=c):(a*b).natAbs / 18446744073709551616<c.natAbs:=by
 have h:=Int.mul_le_mul h1 h3 h2 Oz
 have hn:=Int.mul_nonneg h0 h2
 generalize a*b=p at *
 refine Nat.div_lt_of_lt_mul ?_
 omega
theorem DE (a b c:Int)(ha:InR a)(hb:InR b)(hc:InR c)(hp0:0<=a*b)(hc1:1<=c)(hlt:(a*b).natAbs / 18446744073709551616<c.natAbs)(w:World) :
  Calls prog 92 #[.int .i64 a,.int .i64 b,.int .i64 c,.int .i64 1] w λe w'=>e=.returned (.tuple #[.int .i64 (dv a b c 1),.int .i64 (de a b c 1)])/\Ok w w':=by
 have hnn:¬ ¬((1:Int)=1∨(1:Int)=2∨(1:Int)=3):=λh=>h (.inl rfl)
 rw[dv,de,Sw hnn,Sw hnn,Sw Oz,Sw (by omega)]
 exact qcV a b c 1 hp0 hc1 ha hb hc Oz rfl hlt w
def Shd (w:World)(n:Nat)(g:Nat->Int)(e:Ending)(w':World):Prop :=
 ∃b,e=.returned (.slice (some ⟨b,0,none⟩) n n)/\w.heap.size<=b/\Ok w w'/\w'.rowIs b 2 n (λi=>.int .i64 (g i))
theorem Yr:(prog.info? 2).map (λi=>(i.zero,i.size,i.bytes))=some (some (.int .i64 0),1,8):=by kernel_rfl
structure ShOk (Q:List Int) (qty lot:Int):Prop where
 l1:1<=lot
 l2:lot<=1099511627776
 n:Q.length<=64
 q:OkQ Q
 t:Zy Q lot=Qd lot Q
 t1:0<Qd lot Q
 t2:Qd lot Q<=70368744177664
 y1:1<=qty
 y2:qty<=4611686018427387904
theorem VF {mode qty lot:Int}{Q:List Int}(h:¬Jd mode Q qty lot):(mode=1∨mode=2)/\ShOk Q qty lot:=by
 unfold Jd at h
 have h1:Zy Q lot≠0:=λe=>h (.inr (.inl e))
 have hb:=qcM Q lot
 have hc:¬(lot<1∨1099511627776<lot∨64<Q.length∨¬OkQ Q):=λe=>h1 (Sx e)
 have ht:Zy Q lot=Qd lot Q:=Sw hc
 refine⟨Classical.byContradiction λe=>h (.inl e),?_,?_,?_,Classical.byContradiction λe=>hc (.inr (.inr (.inr e))),ht,?_,?_,?_,?_⟩<;>omega
theorem Ys {Q:List Int}{qty lot:Int}(h:ShOk Q qty lot):0<=Zk lot qty (Qd lot Q)/\Zk lot qty (Qd lot Q)<=Qd lot Q:=by
 have:=ZG (lot:=lot) (q:=qty) h.l1 (by have:=h.y1;omega)
 have:=h.t1
 unfold Zk
 omega
theorem qcX {wr w' w3:World}{h b o:Nat}{v:Value}{lot q:Int}(hb:Ok w' w3)(H:Ok wr w'/\w'.cell? ⟨h,0,none⟩=some v/\w'.cell? ⟨h+1,0,none⟩=some (.int .i64 lot)/\w'.cell? ⟨b,o,none⟩=some (.int .i64 q)) :
  Ok wr w3/\w3.cell? ⟨h,0,none⟩=some v/\w3.cell? ⟨h+1,0,none⟩=some (.int .i64 lot)/\w3.cell? ⟨b,o,none⟩=some (.int .i64 q):=by
 obtain⟨h0,h1,h2,h3⟩:=H
 exact⟨h0.trans (hb.mono h0.size),(hb.cell (p:=⟨h,0,none⟩) (block_lt_of_cell h1)).trans h1,(hb.cell (p:=⟨h+1,0,none⟩) (block_lt_of_cell h2)).trans h2,(hb.cell (p:=⟨b,o,none⟩) (block_lt_of_cell h3)).trans h3⟩
theorem DF (all T lot:Int)(Q:List Int)(k:Nat):Qs 1 all T lot Q k=all:=by
 induction k with
 | zero=>rfl
 | succ k ih=>show Qs 1 all T lot Q k-p1 1 all T lot (Q.getD k 0)=all;rw[ih];unfold p1;rw[Sw (by omega)];omega
theorem qcY {w wr:World}{m n c:Nat}{A:Option Addr}{lot all T:Int}{Q:List Int}(h:St1 w wr m A n c lot 1 all T Q 0):St2 w wr m A n c lot 1 all T Q 0:=by
 refine⟨⟨h.s.l,h.s.t,h.s.p,?_,h.s.a.congr (λj hj=>?_)⟩,h.b,h.m⟩
 ·have e:QD 1 all T lot Q 0=Qs 1 all T lot Q 0:=by show Qs 1 all T lot Q Q.length=_;rw[DF,DF]
  rw[e];exact h.s.e
 ·show Value.int .i64 (if j<0 then _ else 0)=.int .i64 (if j<0 then _ else p1 1 all T lot (Q.getD j 0));rw[Sw Oz,Sw (by omega)];unfold p1;rw[Sw (by omega)]
theorem qcZ (A:Option Addr)(n c:Nat)(L:List Od)(qty lot:Int)(aD:InR lot)(w:World)(HO:Ods w A n L)(hn:n<=1000)(hok:ShOk (qs L) qty lot) :
  Calls prog 94 #[.int .i64 1,.slice A n c,.int .i64 qty,.int .i64 lot] w (Shd w n (QA 1 (Zk lot qty (Qd lot (qs L))) (Qd lot (qs L)) lot (qs L))):=by
 have aU:(qs L).length=n:=by rw[Zt];exact HO.1
 obtain⟨T,hT⟩:∃T,T=Qd lot (qs L):=⟨_,rfl⟩
 obtain⟨tq,gM⟩:∃t,t=Qi lot qty:=⟨_,rfl⟩
 obtain⟨all,hall⟩:∃a,a=Zk lot qty T:=⟨_,rfl⟩
 have aO:Hid (∀wr,Ok w wr->Calls prog 129 #[.slice A n c,.int .i64 lot] wr λe w'=>e=.returned (.int .i64 T)/\Ok wr w'):=Ou (by rw[hT,<-hok.t];exact Ub (wr:=w) aD HO hn)
 have hb0:Ok w ((w.alloc (.cells #[.slice A n c] 22)).alloc (.cells #[.int .i64 lot] 2)):=((Oq _ _).alloc (Sq _) _).alloc Oy _
 have hab:=Ys hok
 rw[<-hT,<-hall]at hab
 have gB:Hid (∀w,Calls prog 93 #[.int .i64 lot,.int .i64 qty] w λe w'=>e=.returned (.int .i64 tq)/\w=w'):=Ou (λw=>by rw[gM];exact KG lot qty ⟨by have:=hok.y1;omega,by have:=hok.y2;omega⟩ aD w)
 have dC:min tq T=all:=by rw[hall,gM];rfl
 have aJ:Hid (ShOk (qs L) qty lot):=Ou hok
 have HQ:Hid (T=Qd lot (qs L)/\all=Zk lot qty T/\(qs L).length=n):=Ou ⟨hT,hall,aU⟩
 have h64:n<=64:=by have:=hok.n;omega
 have hz1:(T==0)=false:=by have:=hok.t1;simp;omega
 have hz2:decide (qty<1)=false:=Sz (by have:=hok.y1;omega)
 have hz3:decide (4611686018427387904<qty)=false:=Sz (by have:=hok.y2;omega)
 have fE:0<T/\T<=70368744177664:=by rw[hT];exact⟨hok.t1,hok.t2⟩
 have iM:Aside (Ods w A n L):=HO
 rw[<-hT,<-hall]
 clear hT gM hall aU hok HO
 have hmk:=run_make_row' (P:=prog) 60 2 (.int .i64 0) 8 underlying60 Yr rfl .i64 .i64 n Oz Oz
 go_enter func94,ntmps94
 go_wp2_with fail
 ((with_reducible refine(aO.out _ hb0).mono ?_);rintro e w2 ⟨rfl,b2⟩)
 have hs1:=b2.size
 simp only[World.size_alloc]at hs1
 have k0:w2.cell? ⟨w.heap.size,0,none⟩=some (.slice A n c):=by
  have h:Bx 22 w2 w.heap.size (.slice A n c):=(b2.block _ (by simp;omega)).trans (Zx Oy (ZX rfl));exact h.c0
 have k1:w2.cell? ⟨w.heap.size+1,0,none⟩=some (.int .i64 lot):=by
  have h:Bx 2 w2 (w.heap.size+1) (.int .i64 lot):=(b2.block _ Oy).trans (ZX Oy);exact h.c0
 have kW:Hid (St1 w (((w2.alloc (.cells (madeCells #[.int .i64 0] n) 2)).alloc (.cells #[.slice (some ⟨w2.heap.size,0,none⟩) n n] 60)).alloc (.cells #[.int .i64 all] 2)) w2.heap.size A n c lot 1 all T (qs L) 0):=Ou (DD w w2 A n c lot 1 all T (qs L) (b2.mono Oy))
 have j0:=kW.out.s.l.c0
 have j1:=kW.out.s.t.c0
 clear b2 hb0 aO
 go_wp2_with ((with_reducible refine(gB.out _).mono ?_);rintro e w' ⟨rfl,rfl⟩)
 clear gB
 have j4:Hid (St2 w (((w2.alloc (.cells (madeCells #[.int .i64 0] n) 2)).alloc (.cells #[.slice (some ⟨w2.heap.size,0,none⟩) n n] 60)).alloc (.cells #[.int .i64 all] 2)) w2.heap.size A n c lot 1 all T (qs L) 0):=Ou (qcY kW.out)
 clear kW
 go_loopg [78] n (λkx s78 wr=>∃k:Nat,s78=.int .i64 k/\k<=n/\n-k<=kx/\Hid (St2 w wr w2.heap.size A n c lot 1 all T (qs L) k))
 case atStart=>exact⟨0,rfl,by omega,by omega,j4⟩
 case round =>
  clear j4 j0 j1 k0 k1;obtain⟨k,rfl,hk,aM,HS⟩:=hrel;by_cases hlt:k<n
  ·have aF:(k:Int)<(n:Int):=by omega
   have d8:(0:Int)<=(k:Int):=by omega
   have aL:Aside (Ods wr A n L):=iM.out.below HS.out.b;have bV:InR L[k]!.qty:=by
    have:=aL.out.2.2.1 L[k]! (by rw[Sj L k (by rw[aL.out.1];exact hlt)];exact Wt _);exact this.2.2.2.2.1
   have aW:=JB L k (by rw[aL.out.1];exact hlt);have hg:=JA aJ.out.q k;have htr:=ZG (lot:=lot) aJ.out.l1 hg.1;have aR:all<=Qd lot (qs L):=by rw[<-HQ.out.1];exact hab.2
   have bA:0<Qd lot (qs L):=by rw[<-HQ.out.1];exact fE.1
   have hp:=J2 (mode:=1) (all:=all) aJ.out.l1 aJ.out.q hab.1 aR bA k (by rw[HQ.out.2.2];exact hlt);have hf:=J3 (mode:=1) (all:=all) aJ.out.l1 aJ.out.q hab.1 aR bA k (by rw[HQ.out.2.2];exact hk);rw[<-HQ.out.1]at hp hf;obtain⟨lf,aQ⟩:∃x,x=QD 1 all T lot (qs L) k:=⟨_,rfl⟩
   obtain⟨z,hz⟩:∃x,x=p1 1 all T lot ((qs L).getD k 0):=⟨_,rfl⟩
   obtain⟨t,ht⟩:∃x,x=Qi lot ((qs L).getD k 0):=⟨_,rfl⟩
   obtain⟨d,hd⟩:∃x,x=min lf (t-z):=⟨_,rfl⟩
   rw[<-aQ]at hf;rw[<-hz,<-ht]at hp;rw[<-ht]at htr;have kf:wr.cell? ⟨w2.heap.size+1+1,0,none⟩=some (.int .i64 lf):=by rw[aQ];exact HS.out.s.e.c0
   have m9:Hid (Calls prog 130 #[.int .i64 k,.int .i64 lf,.pointer (some ⟨w2.heap.size+1+1,0,none⟩),.pointer (some ⟨w.heap.size+1,0,none⟩),.pointer (some ⟨w.heap.size,0,none⟩),.pointer (some ⟨w2.heap.size+1,0,none⟩)] wr (Yq wr w2.heap.size (w2.heap.size+1+1) k (z+d) (lf-d))):=Ou (by
    rw[aQ];refine Ua w.heap.size (w.heap.size+1) (w2.heap.size+1) (w2.heap.size+2) w2.heap.size A n c L lot _ _ k _ d z t wr HS.out.s aL.out hlt hn aD ?_ bV (by rw[<-aW];exact ht) ⟨by omega,by omega⟩ Oz (by rw[<-aQ];omega) (by rw[<-aQ];omega) (by rw[<-aQ];omega) Oz;show z=if k<k then _ else _
    rw[Sw (by omega)]
    exact hz)
   have HN:Hid (∀q,St2 w (((wr.drewN q).setCell ⟨w2.heap.size,k,none⟩ (.int .i64 (z+d))).setCell ⟨w2.heap.size+1+1,0,none⟩ (.int .i64 (lf-d))) w2.heap.size A n c lot 1 all T (qs L) (k+1)):=Ou (λq=>by
    rw[aQ];exact HS.out.next q z d hz (by rw[<-aQ,<-ht];exact hd))
   clear aL bV aW hg htr aR bA hp hf aQ hz ht hd HS;go_wp2_with fail
   ((with_reducible refine m9.out.mono ?_);rintro e w4 ⟨rfl,q,rfl⟩);have HM:Hid (St2 w (((wr.drewN q).setCell ⟨w2.heap.size,k,none⟩ (.int .i64 (z+d))).setCell ⟨w2.heap.size+1+1,0,none⟩ (.int .i64 (lf-d))) w2.heap.size A n c lot 1 all T (qs L) (k+1)):=Ou (HN.out q);clear HN m9 kf;generalize (((wr.drewN q).setCell ⟨w2.heap.size,k,none⟩ (.int .i64 (z+d))).setCell ⟨w2.heap.size+1+1,0,none⟩ (.int .i64 (lf-d)))=w5 at HM ⊢;go_wp2_with fail
   go_roundg (n-(k+1))
   case measure=>omega
   case rel=>exact⟨k+1,by go_num,by omega,by omega,HM⟩
  ·have aF:¬(k:Int)<(n:Int):=by omega
   obtain rfl:k=n:=by omega
   have kp:=HS.out.s.p.c0
   have HE:Hid (Shd w k (QA 1 all T lot (qs L)) (.returned (.slice (some ⟨w2.heap.size,0,none⟩) k k)) wr):=Ou ⟨_,rfl,by have:=HS.out.m;omega,HS.out.b,HS.out.s.a.congr (λj hj=>by
    show Value.int .i64 (if j<k then _ else _)=_
    rw[Sx hj])⟩
   clear HS;go_wp2_with fail
   go_ret;exact HE.out
theorem qc0 (A:Option Addr)(n c:Nat)(L:List Od)(qty lot:Int)(aD:InR lot)(w:World)(HO:Ods w A n L)(hn:n<=1000)(hok:ShOk (qs L) qty lot) :
  Calls prog 94 #[.int .i64 2,.slice A n c,.int .i64 qty,.int .i64 lot] w (Shd w n (QA 2 (Zk lot qty (Qd lot (qs L))) (Qd lot (qs L)) lot (qs L))):=by
 have aU:(qs L).length=n:=by rw[Zt];exact HO.1
 obtain⟨T,hT⟩:∃T,T=Qd lot (qs L):=⟨_,rfl⟩
 obtain⟨tq,gM⟩:∃t,t=Qi lot qty:=⟨_,rfl⟩
 obtain⟨all,hall⟩:∃a,a=Zk lot qty T:=⟨_,rfl⟩
 have aO:Hid (∀wr,Ok w wr->Calls prog 129 #[.slice A n c,.int .i64 lot] wr λe w'=>e=.returned (.int .i64 T)/\Ok wr w'):=Ou (by rw[hT,<-hok.t];exact Ub (wr:=w) aD HO hn)
 have hb0:Ok w ((w.alloc (.cells #[.slice A n c] 22)).alloc (.cells #[.int .i64 lot] 2)):=((Oq _ _).alloc (Sq _) _).alloc Oy _
 have hab:=Ys hok
 rw[<-hT,<-hall]at hab
 have gB:Hid (∀w,Calls prog 93 #[.int .i64 lot,.int .i64 qty] w λe w'=>e=.returned (.int .i64 tq)/\w=w'):=Ou (λw=>by rw[gM];exact KG lot qty ⟨by have:=hok.y1;omega,by have:=hok.y2;omega⟩ aD w)
 have dC:min tq T=all:=by rw[hall,gM];rfl
 have aJ:Hid (ShOk (qs L) qty lot):=Ou hok
 have HQ:Hid (T=Qd lot (qs L)/\all=Zk lot qty T/\(qs L).length=n):=Ou ⟨hT,hall,aU⟩
 have h64:n<=64:=by have:=hok.n;omega
 have hz1:(T==0)=false:=by have:=hok.t1;simp;omega
 have hz2:decide (qty<1)=false:=Sz (by have:=hok.y1;omega)
 have hz3:decide (4611686018427387904<qty)=false:=Sz (by have:=hok.y2;omega)
 have fE:0<T/\T<=70368744177664:=by rw[hT];exact⟨hok.t1,hok.t2⟩
 have iM:Aside (Ods w A n L):=HO
 rw[<-hT,<-hall]
 clear hT gM hall aU hok HO
 have hmk:=run_make_row' (P:=prog) 60 2 (.int .i64 0) 8 underlying60 Yr rfl .i64 .i64 n Oz Oz
 go_enter func94,ntmps94
 go_wp2_with fail
 ((with_reducible refine(aO.out _ hb0).mono ?_);rintro e w2 ⟨rfl,b2⟩)
 have hs1:=b2.size
 simp only[World.size_alloc]at hs1
 have k0:w2.cell? ⟨w.heap.size,0,none⟩=some (.slice A n c):=by
  have h:Bx 22 w2 w.heap.size (.slice A n c):=(b2.block _ (by simp;omega)).trans (Zx Oy (ZX rfl));exact h.c0
 have k1:w2.cell? ⟨w.heap.size+1,0,none⟩=some (.int .i64 lot):=by
  have h:Bx 2 w2 (w.heap.size+1) (.int .i64 lot):=(b2.block _ Oy).trans (ZX Oy);exact h.c0
 have kW:Hid (St1 w (((w2.alloc (.cells (madeCells #[.int .i64 0] n) 2)).alloc (.cells #[.slice (some ⟨w2.heap.size,0,none⟩) n n] 60)).alloc (.cells #[.int .i64 all] 2)) w2.heap.size A n c lot 2 all T (qs L) 0):=Ou (DD w w2 A n c lot 2 all T (qs L) (b2.mono Oy))
 have j0:=kW.out.s.l.c0
 have j1:=kW.out.s.t.c0
 clear b2 hb0 aO
 go_wp2_with ((with_reducible refine(gB.out _).mono ?_);rintro e w' ⟨rfl,rfl⟩)
 clear gB
 have sQ:=kW
 clear kW
 go_loopg [53] n (λkx s53 wr=>∃k:Nat,s53=.int .i64 k/\k<=n/\n-k<=kx/\Hid (St1 w wr w2.heap.size A n c lot 2 all T (qs L) k))
 case atStart=>exact⟨0,rfl,by omega,by omega,sQ⟩
 case round =>
  clear sQ j0 j1 k0 k1;obtain⟨k,rfl,hk,aM,HS⟩:=hrel;by_cases hlt:k<n
  ·have aF:(k:Int)<(n:Int):=by omega
   have d8:(0:Int)<=(k:Int):=by omega
   have aL:Aside (Ods wr A n L):=iM.out.below HS.out.b;obtain⟨b,off,rfl,hb,hc⟩:∃b off,A=some ⟨b,off,none⟩/\b<wr.heap.size/\∀i,i<n->(L[i]!).at wr b (off+i*6):=by
    rcases aL.out.2.2.2 with h|h
    ·omega
    ·exact h
   have kq:=(hc k hlt).2.2.2.2.1;have kl:=HS.out.s.l.c0;have kt:=HS.out.s.t.c0;have bV:InR L[k]!.qty:=by
    have:=aL.out.2.2.1 L[k]! (by rw[Sj L k (by rw[aL.out.1];exact hlt)];exact Wt _);exact this.2.2.2.2.1
   have aW:=JB L k (by rw[aL.out.1];exact hlt);obtain⟨q,eq⟩:∃q,q=L[k]!.qty:=⟨_,rfl⟩
   rw[<-eq]at kq bV aW;have hg:=JA aJ.out.q k;rw[aW]at hg;obtain⟨tt,ht⟩:∃t,t=Qi lot q:=⟨_,rfl⟩
   have htr:=ZG (lot:=lot) aJ.out.l1 hg.1;rw[<-ht]at htr;have hts:=Yo aJ.out.l1 aJ.out.q k (by rw[HQ.out.2.2];exact hlt);rw[aW,<-ht,<-HQ.out.1]at hts;have mW:=X8 (a:=all) (t:=tt) (T:=T) hab.1 htr.1 fE.1 hts Oz;obtain⟨pd,i4⟩:∃p,p=all*tt / T:=⟨_,rfl⟩
   rw[<-i4]at mW;obtain⟨fF,fG,uC,uD⟩:=mW;obtain⟨pp,bG⟩:∃p,p=p1 2 all T lot ((qs L).getD k 0):=⟨_,rfl⟩
   have hpe:pp=Qi lot pd:=by rw[bG,aW,i4,ht];rfl
   have hf:=KF (mode:=2) (all:=all) aJ.out.l1 aJ.out.q hab.1 (by rw[<-HQ.out.1];exact hab.2) (by rw[<-HQ.out.1];exact fE.1) k (by rw[HQ.out.2.2];exact hk);rw[<-HQ.out.1]at hf;obtain⟨⟨f1,f2,_⟩,f3⟩:=hf;obtain⟨f4,f5,f6,_⟩:=f3 (by rw[HQ.out.2.2];exact hlt);rw[<-bG]at f4 f5 f6;rw[aW,<-ht]at f6;clear f3;obtain⟨lf,aQ⟩:∃x,x=Qs 2 all T lot (qs L) k:=⟨_,rfl⟩
   rw[<-aQ]at f1 f2 f5;have cL:Hid (∀w,Calls prog 93 #[.int .i64 lot,.int .i64 q] w λe w'=>e=.returned (.int .i64 tt)/\w=w'):=Ou (λw=>by rw[ht];exact KG lot q bV aD w);have j6:Hid (∀w,Calls prog 93 #[.int .i64 lot,.int .i64 pd] w λe w'=>e=.returned (.int .i64 pp)/\w=w'):=Ou (λw=>by rw[hpe];exact KG lot pd ⟨by omega,by omega⟩ aD w)
   have jV:Hid (∀w,Calls prog 92 #[.int .i64 all,.int .i64 tt,.int .i64 T,.int .i64 1] w λe w'=>e=.returned (.tuple #[.int .i64 pd,.int .i64 0])/\Ok w w'):=Ou (λw=>by
    have h:=DE all tt T ⟨by omega,by omega⟩ ⟨by omega,by omega⟩ ⟨by omega,by omega⟩ (Int.mul_nonneg hab.1 htr.1) Oz (qcW hab.1 hab.2 htr.1 Oz Oz) w;rw[fF,fG]at h
    exact h)
   have m9:Hid (∀w3,Ok wr w3->Calls prog 130 #[.int .i64 k,.int .i64 pp,.pointer (some ⟨w2.heap.size+1+1,0,none⟩),.pointer (some ⟨w.heap.size+1,0,none⟩),.pointer (some ⟨w.heap.size,0,none⟩),.pointer (some ⟨w2.heap.size+1,0,none⟩)] w3 (Yq w3 w2.heap.size (w2.heap.size+1+1) k (0+pp) (lf-pp))):=Ou (λw3 h3=>by
    rw[aQ];refine Ua w.heap.size (w.heap.size+1) (w2.heap.size+1) (w2.heap.size+2) w2.heap.size _ n c L lot _ _ k pp pp 0 tt w3 (HS.out.s.below h3) (aL.out.below h3) hlt hn aD ?_ (by rw[<-eq];exact bV) (by rw[<-eq];exact ht) ⟨by omega,by omega⟩ Oz (by rw[<-aQ];omega) ⟨by omega,by omega⟩ (by rw[<-aQ];omega) Oz;show 0=if k<k then _ else 0
    rw[Sw (by omega)])
   have HN:Hid (∀w3,Ok wr w3->∀q,St1 w (((w3.drewN q).setCell ⟨w2.heap.size,k,none⟩ (.int .i64 (0+pp))).setCell ⟨w2.heap.size+1+1,0,none⟩ (.int .i64 (lf-pp))) w2.heap.size (some ⟨b,off,none⟩) n c lot 2 all T (qs L) (k+1)):=Ou (λw3 h3 q=>by
    rw[aQ];exact HS.out.next h3 q pp bG)
   clear hc bV aW eq hg ht htr hts i4 fF fG bG hpe f1 f2 f4 f5 f6 aQ aL HS;have bd:Ok wr wr.drew:=⟨rfl,rfl,rfl,Sq _,λ_ _=>rfl⟩
   go_wp2_with fail
   go_region_held3 (λw'=>Ok wr w'/\w'.cell? ⟨w.heap.size,0,none⟩=some (.slice (some ⟨b,off,none⟩) n c)/\w'.cell? ⟨w.heap.size+1,0,none⟩=some (.int .i64 lot)/\w'.cell? ⟨b,off+k*6+4,none⟩=some (.int .i64 q)) (first|exact⟨bd,kl,kt,kq⟩|(refine qcX b3 ?_;first|(with_reducible assumption)|(refine⟨?_,?_,?_,?_⟩<;>(with_reducible assumption)))) (first|((with_reducible refine(cL.out _).mono ?_);rintro e w' ⟨rfl,rfl⟩)|((with_reducible refine(jV.out _).mono ?_);rintro e w3 ⟨rfl,b3⟩)|fail)
   have g0:Ok wr w3:=by(first|assumption|exact(by assumption:Ok wr w3/\_).1)
   go_wp2_with ((with_reducible refine(j6.out _).mono ?_);rintro e w' ⟨rfl,rfl⟩)
   ((with_reducible refine(m9.out _ g0).mono ?_);rintro e w4 ⟨rfl,q2,rfl⟩);have HM:Hid (St1 w (((w3.drewN q2).setCell ⟨w2.heap.size,k,none⟩ (.int .i64 (0+pp))).setCell ⟨w2.heap.size+1+1,0,none⟩ (.int .i64 (lf-pp))) w2.heap.size (some ⟨b,off,none⟩) n c lot 2 all T (qs L) (k+1)):=Ou (HN.out _ g0 q2);clear HN m9 g0;generalize (((w3.drewN q2).setCell ⟨w2.heap.size,k,none⟩ (.int .i64 (0+pp))).setCell ⟨w2.heap.size+1+1,0,none⟩ (.int .i64 (lf-pp)))=w5 at HM ⊢;go_wp2_with fail
   go_roundg (n-(k+1))
   case measure=>omega
   case rel=>exact⟨k+1,by go_num,by omega,by omega,HM⟩
  ·have aF:¬(k:Int)<(n:Int):=by omega
   have gV:k=n:=by omega
   have j4:Hid (St2 w wr w2.heap.size A n c lot 2 all T (qs L) 0):=Ou ((gV ▸ HS.out:St1 w wr w2.heap.size A n c lot 2 all T (qs L) n).st2 HQ.out.2.2);have j0:=j4.out.s.l.c0;clear HS hlt gV;go_wp2_with fail
   go_loopg [78] n (λkx s78 wr=>∃k:Nat,s78=.int .i64 k/\k<=n/\n-k<=kx/\Hid (St2 w wr w2.heap.size A n c lot 2 all T (qs L) k))
   case atStart=>exact⟨0,rfl,by omega,by omega,j4⟩
   case round =>
    clear j4 j0;obtain⟨k,rfl,hk,aM,HS⟩:=hrel;by_cases hlt:k<n
    ·have aF:(k:Int)<(n:Int):=by omega
     have d8:(0:Int)<=(k:Int):=by omega
     have aL:Aside (Ods wr A n L):=iM.out.below HS.out.b;have bV:InR L[k]!.qty:=by
      have:=aL.out.2.2.1 L[k]! (by rw[Sj L k (by rw[aL.out.1];exact hlt)];exact Wt _);exact this.2.2.2.2.1
     have aW:=JB L k (by rw[aL.out.1];exact hlt);have hg:=JA aJ.out.q k;have htr:=ZG (lot:=lot) aJ.out.l1 hg.1;have aR:all<=Qd lot (qs L):=by rw[<-HQ.out.1];exact hab.2
     have bA:0<Qd lot (qs L):=by rw[<-HQ.out.1];exact fE.1
     have hp:=J2 (mode:=2) (all:=all) aJ.out.l1 aJ.out.q hab.1 aR bA k (by rw[HQ.out.2.2];exact hlt);have hf:=J3 (mode:=2) (all:=all) aJ.out.l1 aJ.out.q hab.1 aR bA k (by rw[HQ.out.2.2];exact hk);rw[<-HQ.out.1]at hp hf;obtain⟨lf,aQ⟩:∃x,x=QD 2 all T lot (qs L) k:=⟨_,rfl⟩
     obtain⟨z,hz⟩:∃x,x=p1 2 all T lot ((qs L).getD k 0):=⟨_,rfl⟩
     obtain⟨t,ht⟩:∃x,x=Qi lot ((qs L).getD k 0):=⟨_,rfl⟩
     obtain⟨d,hd⟩:∃x,x=min lf (t-z):=⟨_,rfl⟩
     rw[<-aQ]at hf;rw[<-hz,<-ht]at hp;rw[<-ht]at htr;have kf:wr.cell? ⟨w2.heap.size+1+1,0,none⟩=some (.int .i64 lf):=by rw[aQ];exact HS.out.s.e.c0
     have m9:Hid (Calls prog 130 #[.int .i64 k,.int .i64 lf,.pointer (some ⟨w2.heap.size+1+1,0,none⟩),.pointer (some ⟨w.heap.size+1,0,none⟩),.pointer (some ⟨w.heap.size,0,none⟩),.pointer (some ⟨w2.heap.size+1,0,none⟩)] wr (Yq wr w2.heap.size (w2.heap.size+1+1) k (z+d) (lf-d))):=Ou (by
      rw[aQ];refine Ua w.heap.size (w.heap.size+1) (w2.heap.size+1) (w2.heap.size+2) w2.heap.size A n c L lot _ _ k _ d z t wr HS.out.s aL.out hlt hn aD ?_ bV (by rw[<-aW];exact ht) ⟨by omega,by omega⟩ Oz (by rw[<-aQ];omega) (by rw[<-aQ];omega) (by rw[<-aQ];omega) Oz;show z=if k<k then _ else _
      rw[Sw (by omega)]
      exact hz)
     have HN:Hid (∀q,St2 w (((wr.drewN q).setCell ⟨w2.heap.size,k,none⟩ (.int .i64 (z+d))).setCell ⟨w2.heap.size+1+1,0,none⟩ (.int .i64 (lf-d))) w2.heap.size A n c lot 2 all T (qs L) (k+1)):=Ou (λq=>by
      rw[aQ];exact HS.out.next q z d hz (by rw[<-aQ,<-ht];exact hd))
     clear aL bV aW hg htr aR bA hp hf aQ hz ht hd HS;go_wp2_with fail
     ((with_reducible refine m9.out.mono ?_);rintro e w4 ⟨rfl,q,rfl⟩);have HM:Hid (St2 w (((wr.drewN q).setCell ⟨w2.heap.size,k,none⟩ (.int .i64 (z+d))).setCell ⟨w2.heap.size+1+1,0,none⟩ (.int .i64 (lf-d))) w2.heap.size A n c lot 2 all T (qs L) (k+1)):=Ou (HN.out q);clear HN m9 kf;generalize (((wr.drewN q).setCell ⟨w2.heap.size,k,none⟩ (.int .i64 (z+d))).setCell ⟨w2.heap.size+1+1,0,none⟩ (.int .i64 (lf-d)))=w5 at HM ⊢;go_wp2_with fail
     go_roundg (n-(k+1))
     case measure=>omega
     case rel=>exact⟨k+1,by go_num,by omega,by omega,HM⟩
    ·have aF:¬(k:Int)<(n:Int):=by omega
     obtain rfl:k=n:=by omega
     have kp:=HS.out.s.p.c0
     have HE:Hid (Shd w k (QA 2 all T lot (qs L)) (.returned (.slice (some ⟨w2.heap.size,0,none⟩) k k)) wr):=Ou ⟨_,rfl,by have:=HS.out.m;omega,HS.out.b,HS.out.s.a.congr (λj hj=>by
      show Value.int .i64 (if j<k then _ else _)=_
      rw[Sx hj])⟩
     clear HS;go_wp2_with fail
     go_ret;exact HE.out
end
end Go.Proofs.YtikapeaodobkjaaGreat
