/- What the laws lean on, in a few texts (by shake.py): number 3 of 16. -/
import Derived.Test.YtikapeaodobkjaaGreatZq1
import Derived.Test.YtikapeaodobkjaaGreatZq2

set_option maxHeartbeats 16000000
set_option maxRecDepth 1000000
set_option linter.unusedVariables false
set_option linter.unusedSimpArgs false
namespace Go.Proofs.YtikapeaodobkjaaGreat
open _root_.Go.Proofs.Tryz
section
open Go.RowKit Go.Sort Go.Lib Go.Shelf
def ol (L:List Od):List Value:=L.flatMap Qo
theorem Je (L:List Od):(ol L).length=L.length*6:=by
 induction L with
 | nil=>rfl
 | cons x l ih=>rw[ol,List.flatMap_cons,Su,<-ol,ih,Wq];show 6+_=_;omega
theorem Km:∀(L:List Od) (i c:Nat),i<L.length->c<6->(ol L)[i*6+c]? = (Qo L[i]!)[c]?
 | [],i,c,hi,_=>by simp at hi
 | x :: l,0,c,_,hc=>by
  rw[ol,List.flatMap_cons,List.getElem?_append_left (by show _<6;omega),Nat.zero_mul,Nat.zero_add];rfl
 | x :: l,i+1,c,hi,hc=>by
  rw[ol,List.flatMap_cons,List.getElem?_append_right (by show 6<=_;omega),<-ol];have:(i+1)*6+c-(Qo x).length=i*6+c:=by show _-6=_;omega
  rw[this,Km l i c (by simpa using hi) hc];rfl
theorem Kn (L:List Od):∀u∈ol L,u.oneCell'=true:=by
 intro u hu
 obtain⟨x,_,hx⟩:=List.mem_flatMap.1 hu
 exact Uc (x,0) u hx
theorem qdC {w:World}{x:Od}{b o c:Nat}{u:Value}(h:x.at w b o)(hc:(Qo x)[c]? = some u):w.cell? ⟨b,o+c,none⟩=some u:=by
 obtain⟨h0,h1,h2,h3,h4,h5⟩:=h
 match c,hc with
 | 0,hc=>rw[<-hc];exact h0
 | 1,hc=>rw[<-hc];exact h1
 | 2,hc=>rw[<-hc];exact h2
 | 3,hc=>rw[<-hc];exact h3
 | 4,hc=>rw[<-hc];exact h4
 | 5,hc=>rw[<-hc];exact h5
theorem qdD {w:World}{x:Od}{b o:Nat}(h:∀c u,(Qo x)[c]? = some u->w.cell? ⟨b,o+c,none⟩=some u):x.at w b o :=
 ⟨h 0 _ rfl,h 1 _ rfl,h 2 _ rfl,h 3 _ rfl,h 4 _ rfl,h 5 _ rfl⟩
theorem qdE (x:Od)(c:Nat)(hc:c<6):(Qo x)[c]? = some (Qo x)[c]!:=by
 rw[List.getElem?_eq_getElem (by show _<6;exact hc),Sj (Qo x) c (by show _<6;exact hc)]
theorem qdF {w:World}{b off len:Nat}{L:List Od}(hl:L.length=len)(h:∀i,i<len->(L[i]!).at w b (off+i*6)):∀j u,(ol L)[j]? = some u->w.cell? ⟨b,off+j,none⟩=some u:=by
 intro j u hu
 have hj:=(List.getElem?_eq_some_iff.1 hu).1
 rw[Je]at hj
 have e:j=j / 6*6+j % 6:=by omega
 rw[e,Km L (j / 6) (j % 6) Oz (by omega)]at hu
 have:=qdC (h (j / 6) Oz) hu
 rw[show off+j / 6*6+j % 6=off+j by omega]at this
 exact this
theorem DT (L:List Od)(i:Nat)(hi:i<L.length):(L.zipIdx.toArray[i]!)=(L[i]!,i):=by
 rw[Sj L.zipIdx.toArray i (by simpa using hi),Sj L i hi]
 simp
theorem qdG {w:World}{base n:Nat}{v:Value}{L:List Od}(h:w.ownsRow base 38 6 v n (ol L))(hv:v≠.slice none 0 0) :
  L.length=n/\∃k cap,v=.slice (some ⟨k,0,none⟩) n cap/\n<=cap/\base<=k/\k<w.heap.size/\HoldsK JL 6 w k 0 L.zipIdx.toArray:=by
 obtain⟨h1,h2⟩:=h
 rw[Je]at h1
 have hl:L.length=n:=by omega
 rcases h2 with ⟨h0,_⟩ | ⟨k,cap,cur,hv',hb,hk,hc,hm,hs,ht⟩
 ·exact absurd h0 hv
 ·refine⟨hl,k,cap,hv',hc,hb,Qc hk,λj hj=>?_⟩;rw[size_flatK]at hj;have hz:L.zipIdx.toArray.size=n:=by simp[hl]
  rw[hz]at hj;refine⟨?_,frozen_of_row _ _ _ _ _ hk⟩;rw[get_flatK _ _ _ _ (by rw[hz];exact hj),DT L (j / 6) (by omega)];have hx:(ol L)[j]? = some (Qo L[j / 6]!)[j % 6]!:=by
   have e:j=j / 6*6+j % 6:=by omega
   conv=>lhs;rw[e]
   rw[Km L (j / 6) (j % 6) Oz (by omega)];exact qdE _ _ Oz
  rw[Nat.zero_add,cell_of_row _ _ _ _ _ _ hk];rw[<-ht,List.getElem?_take,Sx Oz,Array.getElem?_toList]at hx;exact hx
theorem qdH {w0 w:World}{blk:Nat}{d:Array Dd}{B:Nat}(S:SW6 w0 blk d w)(hB:B<=blk)(hs:B<=w0.heap.size):Below B w0 w/\w0.drawn<=w.drawn:=by
 obtain⟨n,os,rfl⟩:=S
 refine⟨⟨rfl,rfl,rfl,?_,λj hj=>?_⟩,Nat.le_add_right _ _⟩
 ·unfold sortWorldK;rw[size_grow,size_putRowK];exact Nat.le_add_right _ _
 ·unfold sortWorldK;rw[heap_grow_old _ _ (by rw[size_putRowK];show j<w0.heap.size;omega)];unfold putRowK putRow mapBlock;show (w0.heap.modify blk _)[j]? = _;rw[Array.getElem?_modify,Sw (by omega)]
theorem qdI {w0 w:World}{blk n:Nat}{d0 d:Array Dd}{L:List Od}(S:SW6 w0 blk d w)(R:Rw6 w0 blk d0)(hs:d.size=d0.size)(hn:d.size=n)(h9:n<=9223372036854775807)(hL:d.toList.map Prod.fst=L)(hok:∀x∈L,Od.ok w x):Ods w (some ⟨blk,0,none⟩) n L:=by
 have hl:L.length=n:=by rw[<-hL];simp[hn]
 refine⟨hl,h9,hok,.inr ⟨blk,0,rfl,S.lt R.hblk,λi hi=>qdD λc u hu=>?_⟩⟩
 have h:=HoldsK.cells (S.holds R.hblk R.hH hs) R.hk (show i<d.size by omega) c u (by
  have e:L[i]! = (d[i]!).1:=by
   rw[Sj L i Oz,Sj d i (by omega)];simp[<-hL]
  rw[<-hu,e];rfl)
 rw[QN]at h
 exact h
theorem YA:(prog.info? 38).map (λi=>(i.zero,i.size,i.bytes))=some (some (.agg #[.int .u64 0,.int .i64 0,.int .i64 0,.int .i64 0,.int .i64 0,.int .u64 0]),6,48):=by kernel_rfl
theorem DU (b off n c:Nat)(L:List Od)(w:World)(hl:L.length=n)(hn:n<=1000)(hc:∀i,i<n->(L[i]!).at w b (off+i*6)) :
  Calls prog 49 #[.slice (some ⟨b,off,none⟩) n c] w λe w'=>∃v',e=.returned v'/\w'.ownsRow w.heap.size 38 6 v' n (ol L)/\v'≠.slice none 0 0/\Ok w w':=by
 cases hi:prog.info? 38 with
 | none=>have:=YA;rw[hi]at this;cases this
 | some i0 =>
  have:=YA;rw[hi]at this;simp only[Option.map_some,Option.some.injEq,Prod.mk.injEq]at this;obtain⟨h1,h2,h3⟩:=this;exact AnyE.slices_Clone (ρ:=Tryz.cloneL_ren) Tryz.cloneL i0 _ 6 48 hi h1 h2 h3 rfl Oz Tryz.sizeOf38 b off n c (ol L) w (by rw[Je,hl]) (by unfold maxLen;omega) Oz (qdF hl hc) (Kn L)
theorem DV (n c:Nat)(w:World):Calls prog 49 #[.slice none n c] w λe w'=>e=.returned (.slice none 0 0)/\w'=w :=
 AnyE.slices_Clone_nil (ρ:=Tryz.cloneL_ren) Tryz.cloneL n c w
theorem qdJ (a:Addr)(c:Nat)(w:World) :
  Calls prog 49 #[.slice (some a) 0 c] w λe w'=>∃v',e=.returned v'/\w'.ownsRow w.heap.size 38 6 v' 0 []/\v'≠.slice none 0 0/\Ok w w':=by
 have mixed:prog.follows .mixedOrders=true:=by kernel_rfl
 have q22:∀(w:World) (a:Option Addr) (n c n' c':Nat),(binOp .eql 22 (.slice a n c) (.slice none n' c')).run prog w=.ok (.bool a.isNone) w:=λw a n c n' c'=>Lib.run_eql_slice_nil w _ _ a n c n' c' underlying22
 cases hi:prog.info? 38 with
 | none=>have:=YA;rw[hi]at this;cases this
 | some i0 =>
  have:=YA;rw[hi]at this;simp only[Option.map_some,Option.some.injEq,Prod.mk.injEq]at this;obtain⟨h1,h2,h3⟩:=this;have HI:Hid (prog.info? 38=some i0/\i0.zero=some (.agg #[.int .u64 0,.int .i64 0,.int .i64 0,.int .i64 0,.int .i64 0,.int .u64 0])/\i0.size=6/\i0.bytes=48):=⟨hi,h1,h2,h3⟩
  clear hi h1 h2 h3;go_enter func49,ntmps49;go_wp2_with (at_builtin;refine wpList_append_own _ rfl _ _ 22 rfl w.heap.size 38 i0 (.agg #[.int .u64 0,.int .i64 0,.int .i64 0,.int .i64 0,.int .i64 0,.int .u64 0]) 6 48 underlying22 HI.out.1 HI.out.2.1 HI.out.2.2.1 HI.out.2.2.2 rfl Oz _ _ _ rfl (World.ownsRow_made w #[] 0 (Sq _) (Nat.zero_le _) Oy) a 0 c [] rfl ?qc1 ?qc2 ?qc3 ?qc4 ?qc5 ?qc6 ?_)
  case qc1=>rfl
  case qc2=>intro j u hj;simp at hj
  case qc3=>intro u hu;simp at hu
  case qc4=>unfold maxLen;omega
  case qc5=>omega
  case qc6=>simp
  intro v' w1 hown hgrow hnil;go_wp2;go_ret;refine⟨v',rfl,by simpa using hown,?_,?_⟩
  ·exact hnil
  ·exact((Below.refl _ w).alloc (Sq _) _).grown hgrow Oy (by intro k hk;simp[Value.ownBlock]at hk;omega)
theorem qdK:∀args w,(callFunc 81 args).run prog w=.ok (.enter 81 args) w:=enters_of func81 Ow rfl
theorem qdL (blk size:Nat)(w:World):CmpLays prog 81 #[] JL 6 (λx y=>Va x.1 y.1) blk 0 size w:=λ_ _ _ _ x y =>
 (qdp x.1 y.1 _).mono λ_ _ ⟨h1,h2⟩=>⟨h1,h2.grow⟩
theorem qdM (c:Nat)(f:Value)(w:World):Calls prog 139 #[.slice none 0 c,.int .i64 0,.int .i64 0,f] w λe w'=>e=.returned (.tuple #[])/\w=w':=by
 go_enter func139,ntmps139
 go_wp2
 go_loop [8] (λs=>s=.int .i64 1) (λ_=>0)
 case atStart=>rfl
 case round =>
  subst hrel;go_wp2;go_end0;exact⟨rfl,rfl⟩
theorem qdN (c:Nat)(f:Value)(w:World):Calls prog 115 #[.slice none 0 c,.int .i64 0,f] w λe w'=>e=.returned (.tuple #[])/\w=w':=by
 have HI:=Ou (qdM c f)
 go_enter func115,ntmps115
 go_wp2
 go_loop [7,8] (λs t=>s=.int .i64 0/\t=.int .i64 20) (λ_ _=>0)
 case atStart=>exact⟨rfl,rfl⟩
 case round =>
  obtain⟨rfl,rfl⟩:=hrel;go_wp2_with ((with_reducible refine(HI.out _).mono ?_);rintro e w' ⟨rfl,rfl⟩)
  go_loop [6] (λs=>s=.int .i64 20) (λ_=>0)
  case atStart=>rfl
  case round =>
   subst hrel;go_wp2;go_end0;exact⟨rfl,rfl⟩
theorem qdO (c:Nat)(f:Value)(w:World):Calls prog 80 #[.slice none 0 c,f] w λe w'=>e=.returned (.tuple #[])/\w=w':=by
 have HI:=Ou (qdN c f)
 go_enter func80,ntmps80
 go_wp2_with ((with_reducible refine(HI.out _).mono ?_);rintro e w' ⟨rfl,rfl⟩)
 go_end0
 exact⟨rfl,rfl⟩
def Uf (w:World)(L:List Od)(n:Nat)(e:Ending)(w':World):Prop:=∃A c,e=.returned (.slice A n c)/\n<=c/\Ods w' A n (QY L)/\Ok w w'
theorem qdP (c:Nat)(w:World):Calls prog 69 #[.slice none 0 c] w (Uf w [] 0):=by
 have HC:=Ou (DV 0 c)
 have HS:=Ou qdO
 have HF:Hid (0<=0/\Ods w none 0 (QY [])/\Ok w w):=⟨Sq _,⟨DS [],by omega,(by rw[List.eq_nil_of_length_eq_zero (DS [])];intro x hx;cases hx),.inl rfl⟩,Below.refl _ _⟩
 go_enter func69,ntmps69
 go_wp2_with (first|((with_reducible refine(HC.out _).mono ?_);rintro e w' ⟨rfl,rfl⟩)|((with_reducible refine(HS.out _ _ _).mono ?_);rintro e w' ⟨rfl,rfl⟩))
 go_ret
 exact⟨_,_,rfl,HF.out⟩
end
end Go.Proofs.YtikapeaodobkjaaGreat
