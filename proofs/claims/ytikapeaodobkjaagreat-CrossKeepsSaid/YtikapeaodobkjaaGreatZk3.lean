/- What the laws lean on, in a few texts (by shake.py): number 3 of 16. -/
import Derived.Test.YtikapeaodobkjaaGreatZk1
import Derived.Test.YtikapeaodobkjaaGreatZk2

set_option maxHeartbeats 16000000
set_option maxRecDepth 1000000
set_option linter.unusedVariables false
namespace Go.Proofs.YtikapeaodobkjaaGreat
open Go.RowKit Go.Sort Go.Lib Go.Shelf

def ol (L:List Od):List Value:=L.flatMap encO
theorem ol_len (L:List Od):(ol L).length = L.length * 6:=by
 induction L with
 | nil=>rfl
 | cons x l ih=>rw [ol,List.flatMap_cons,List.length_append,← ol,ih,List.length_cons];show 6 + _ = _;omega
theorem ol_get:∀ (L:List Od) (i c:Nat),i < L.length → c < 6 → (ol L)[i * 6 + c]? = (encO L[i]!)[c]?
 | [],i,c,hi,_=>by simp at hi
 | x :: l,0,c,_,hc=>by
  rw [ol,List.flatMap_cons,List.getElem?_append_left (by show _ < 6;omega),Nat.zero_mul,Nat.zero_add];rfl
 | x :: l,i + 1,c,hi,hc=>by
  rw [ol,List.flatMap_cons,List.getElem?_append_right (by show 6≤_;omega),← ol]
  have:(i + 1) * 6 + c - (encO x).length = i * 6 + c:=by show _ - 6 = _;omega
  rw [this,ol_get l i c (by simpa using hi) hc]
  rfl
theorem ol_one (L:List Od):∀ u ∈ ol L,u.oneCell' = true:=by
 intro u hu
 obtain ⟨x,_,hx⟩:=List.mem_flatMap.1 hu
 exact encD_one (x,0) u hx
theorem at_cell {w:World} {x:Od} {b o c:Nat} {u:Value} (h:x.at w b o) (hc:(encO x)[c]? = some u):w.cell? ⟨b,o + c,none⟩ = some u:=by
 obtain ⟨h0,h1,h2,h3,h4,h5⟩:=h
 match c,hc with
 | 0,hc=>rw [← hc];exact h0
 | 1,hc=>rw [← hc];exact h1
 | 2,hc=>rw [← hc];exact h2
 | 3,hc=>rw [← hc];exact h3
 | 4,hc=>rw [← hc];exact h4
 | 5,hc=>rw [← hc];exact h5
theorem at_of {w:World} {x:Od} {b o:Nat} (h:∀ c u,(encO x)[c]? = some u → w.cell? ⟨b,o + c,none⟩ = some u):x.at w b o :=
 ⟨h 0 _ rfl,h 1 _ rfl,h 2 _ rfl,h 3 _ rfl,h 4 _ rfl,h 5 _ rfl⟩
theorem enc_some (x:Od) (c:Nat) (hc:c < 6):(encO x)[c]? = some (encO x)[c]!:=by
 rw [List.getElem?_eq_getElem (by show _ < 6;exact hc),getElem!_pos (encO x) c (by show _ < 6;exact hc)]
theorem ods_cells {w:World} {b off len:Nat} {L:List Od} (hl:L.length = len) (h:∀ i,i < len → (L[i]!).at w b (off + i * 6)):∀ j u,(ol L)[j]? = some u → w.cell? ⟨b,off + j,none⟩ = some u:=by
 intro j u hu
 have hj:=(List.getElem?_eq_some_iff.1 hu).1
 rw [ol_len] at hj
 have e:j = j / 6 * 6 + j % 6:=by omega
 rw [e,ol_get L (j / 6) (j % 6) (by omega) (by omega)] at hu
 have:=at_cell (h (j / 6) (by omega)) hu
 rw [show off + j / 6 * 6 + j % 6 = off + j by omega] at this
 exact this
theorem zip_fst (L:List Od) (i:Nat) (hi:i < L.length):(L.zipIdx.toArray[i]!) = (L[i]!,i):=by
 rw [getElem!_pos L.zipIdx.toArray i (by simpa using hi),getElem!_pos L i hi]
 simp
theorem own_holds {w:World} {base n:Nat} {v:Value} {L:List Od} (h:w.ownsRow base 38 6 v n (ol L)) (hv:v ≠ .slice none 0 0) :
  L.length = n∧∃ k cap,v = .slice (some ⟨k,0,none⟩) n cap∧n≤cap∧base≤k∧k < w.heap.size∧HoldsK encD 6 w k 0 L.zipIdx.toArray:=by
 obtain ⟨h1,h2⟩:=h
 rw [ol_len] at h1
 have hl:L.length = n:=by omega
 rcases h2 with ⟨h0,_⟩ | ⟨k,cap,cur,hv',hb,hk,hc,hm,hs,ht⟩
 ·exact absurd h0 hv
 ·refine ⟨hl,k,cap,hv',hc,hb,blk_lt hk,fun j hj=>?_⟩
  rw [size_flatK] at hj
  have hz:L.zipIdx.toArray.size = n:=by simp [hl]
  rw [hz] at hj
  refine ⟨?_,frozen_of_row _ _ _ _ _ hk⟩
  rw [get_flatK _ _ _ _ (by rw [hz];exact hj),zip_fst L (j / 6) (by omega)]
  have hx:(ol L)[j]? = some (encO L[j / 6]!)[j % 6]!:=by
   have e:j = j / 6 * 6 + j % 6:=by omega
   conv=>lhs;rw [e]
   rw [ol_get L (j / 6) (j % 6) (by omega) (by omega)]
   exact enc_some _ _ (by omega)
  rw [Nat.zero_add,cell_of_row _ _ _ _ _ _ hk]
  rw [← ht,List.getElem?_take,if_pos (by omega),Array.getElem?_toList] at hx
  exact hx
theorem sw_gw {w0 w:World} {blk:Nat} {d:Array Dd} {B:Nat} (S:SW6 w0 blk d w) (hB:B≤blk) (hs:B≤w0.heap.size):Below B w0 w∧w0.drawn≤w.drawn:=by
 obtain ⟨n,os,rfl⟩:=S
 refine ⟨⟨rfl,rfl,rfl,?_,fun j hj=>?_⟩,Nat.le_add_right _ _⟩
 ·unfold sortWorldK;rw [size_grow,size_putRowK];exact Nat.le_add_right _ _
 ·unfold sortWorldK
  rw [heap_grow_old _ _ (by rw [size_putRowK];show j < w0.heap.size;omega)]
  unfold putRowK putRow mapBlock
  show (w0.heap.modify blk _)[j]? = _
  rw [Array.getElem?_modify,if_neg (by omega)]
theorem ods_of_sort {w0 w:World} {blk n:Nat} {d0 d:Array Dd} {L:List Od} (S:SW6 w0 blk d w) (R:Rw6 w0 blk d0) (hs:d.size = d0.size) (hn:d.size = n) (h9:n≤9223372036854775807) (hL:d.toList.map Prod.fst = L) (hok:∀ x ∈ L,Od.ok w x):Ods w (some ⟨blk,0,none⟩) n L:=by
 have hl:L.length = n:=by rw [← hL];simp [hn]
 refine ⟨hl,h9,hok,.inr ⟨blk,0,rfl,S.lt R.hblk,fun i hi=>at_of fun c u hu=>?_⟩⟩
 have h:=HoldsK.cells (S.holds R.hblk R.hH hs) R.hk (show i < d.size by omega) c u (by
  have e:L[i]! = (d[i]!).1:=by
   rw [getElem!_pos L i (by omega),getElem!_pos d i (by omega)]
   simp [← hL]
  rw [← hu,e];rfl)
 rw [addr_add] at h
 exact h
theorem info_od:(Tryz.prog.info? 38).map (fun i=>(i.zero,i.size,i.bytes)) = some (some (.agg #[.int .u64 0,.int .i64 0,.int .i64 0,.int .i64 0,.int .i64 0,.int .u64 0]),6,48):=by kernel_rfl
theorem clone_c (b off n c:Nat) (L:List Od) (w:World) (hl:L.length = n) (hn:n≤1000) (hc:∀ i,i < n → (L[i]!).at w b (off + i * 6)) :
  Calls Tryz.prog 49 #[.slice (some ⟨b,off,none⟩) n c] w fun e w'=>∃ v',e = .returned v'∧w'.ownsRow w.heap.size 38 6 v' n (ol L)∧v' ≠ .slice none 0 0∧Below w.heap.size w w':=by
 cases hi:Tryz.prog.info? 38 with
 | none=>have:=info_od;rw [hi] at this;cases this
 | some i0 =>
  have:=info_od
  rw [hi] at this
  simp only [Option.map_some,Option.some.injEq,Prod.mk.injEq] at this
  obtain ⟨h1,h2,h3⟩:=this
  exact AnyE.slices_Clone (ρ:=Tryz.cloneL_ren) Tryz.cloneL i0 _ 6 48 hi h1 h2 h3 rfl (by omega) Tryz.sizeOf38 b off n c (ol L) w (by rw [ol_len,hl]) (by unfold maxLen;omega) (by omega) (ods_cells hl hc) (ol_one L)
theorem clone_nil (n c:Nat) (w:World):Calls Tryz.prog 49 #[.slice none n c] w fun e w'=>e = .returned (.slice none 0 0)∧w' = w :=
 AnyE.slices_Clone_nil (ρ:=Tryz.cloneL_ren) Tryz.cloneL n c w

theorem clone0_c (a:Addr) (c:Nat) (w:World) :
  Calls Tryz.prog 49 #[.slice (some a) 0 c] w fun e w'=>∃ v',e = .returned v'∧w'.ownsRow w.heap.size 38 6 v' 0 []∧v' ≠ .slice none 0 0∧Below w.heap.size w w':=by
 have mixed:Tryz.prog.follows .mixedOrders = true:=by kernel_rfl
 have q22:∀ (w:World) (a:Option Addr) (n c n' c':Nat),(binOp .eql 22 (.slice a n c) (.slice none n' c')).run Tryz.prog w = .ok (.bool a.isNone) w:=fun w a n c n' c'=>Lib.run_eql_slice_nil w _ _ a n c n' c' Tryz.underlying22
 cases hi:Tryz.prog.info? 38 with
 | none=>have:=info_od;rw [hi] at this;cases this
 | some i0 =>
  have:=info_od
  rw [hi] at this
  simp only [Option.map_some,Option.some.injEq,Prod.mk.injEq] at this
  obtain ⟨h1,h2,h3⟩:=this
  have HI:Hid (Tryz.prog.info? 38 = some i0∧i0.zero = some (.agg #[.int .u64 0,.int .i64 0,.int .i64 0,.int .i64 0,.int .i64 0,.int .u64 0])∧i0.size = 6∧i0.bytes = 48):=⟨hi,h1,h2,h3⟩
  clear hi h1 h2 h3
  go_enter Tryz.func49,Tryz.ntmps49
  go_wp2_with (at_builtin;refine wpList_append_own _ rfl _ _ 22 rfl w.heap.size 38 i0 (.agg #[.int .u64 0,.int .i64 0,.int .i64 0,.int .i64 0,.int .i64 0,.int .u64 0]) 6 48 Tryz.underlying22 HI.out.1 HI.out.2.1 HI.out.2.2.1 HI.out.2.2.2 rfl (by omega) _ _ _ rfl (World.ownsRow_made w #[] 0 (Nat.le_refl _) (Nat.zero_le _) (by simp)) a 0 c [] rfl ?qc1 ?qc2 ?qc3 ?qc4 ?qc5 ?qc6 ?_)
  case qc1=>rfl
  case qc2=>intro j u hj;simp at hj
  case qc3=>intro u hu;simp at hu
  case qc4=>unfold maxLen;omega
  case qc5=>omega
  case qc6=>simp
  intro v' w1 hown hgrow hnil
  go_wp2
  go_ret
  refine ⟨v',rfl,by simpa using hown,?_,?_⟩
  ·exact hnil
  ·exact ((Below.refl _ w).alloc (Nat.le_refl _) _).grown hgrow (by simp) (by intro k hk;simp [Value.ownBlock] at hk;omega)
theorem eg_c:∀ args w,(callFunc 81 args).run Tryz.prog w = .ok (.enter 81 args) w:=enters_of Tryz.func81 (by kernel_rfl) rfl
theorem lays_c (blk size:Nat) (w:World):CmpLays Tryz.prog 81 #[] encD 6 (fun x y=>cmpO x.1 y.1) blk 0 size w:=fun _ _ _ _ x y =>
 (closure_c x.1 y.1 _).mono fun _ _ ⟨h1,h2⟩=>⟨h1,h2.grow⟩
theorem insNil_c (c:Nat) (f:Value) (w:World):Calls Tryz.prog 139 #[.slice none 0 c,.int .i64 0,.int .i64 0,f] w fun e w'=>e = .returned (.tuple #[])∧w = w':=by
 go_enter Tryz.func139,Tryz.ntmps139
 go_wp2
 go_loop [8] (fun s=>s = .int .i64 1) (fun _=>0)
 case atStart=>rfl
 case round =>
  subst hrel
  go_wp2
  go_end0
  exact ⟨rfl,rfl⟩
theorem stableNil_c (c:Nat) (f:Value) (w:World):Calls Tryz.prog 115 #[.slice none 0 c,.int .i64 0,f] w fun e w'=>e = .returned (.tuple #[])∧w = w':=by
 have HI:=Lib.hid (insNil_c c f)
 go_enter Tryz.func115,Tryz.ntmps115
 go_wp2
 go_loop [7,8] (fun s t=>s = .int .i64 0∧t = .int .i64 20) (fun _ _=>0)
 case atStart=>exact ⟨rfl,rfl⟩
 case round =>
  obtain ⟨rfl,rfl⟩:=hrel
  go_wp2_with ((with_reducible refine (HI.out _).mono ?_);rintro e w' ⟨rfl,rfl⟩)
  go_loop [6] (fun s=>s = .int .i64 20) (fun _=>0)
  case atStart=>rfl
  case round =>
   subst hrel
   go_wp2
   go_end0
   exact ⟨rfl,rfl⟩
theorem sortNil_c (c:Nat) (f:Value) (w:World):Calls Tryz.prog 80 #[.slice none 0 c,f] w fun e w'=>e = .returned (.tuple #[])∧w = w':=by
 have HI:=Lib.hid (stableNil_c c f)
 go_enter Tryz.func80,Tryz.ntmps80
 go_wp2_with ((with_reducible refine (HI.out _).mono ?_);rintro e w' ⟨rfl,rfl⟩)
 go_end0
 exact ⟨rfl,rfl⟩
def SortedIs (w:World) (L:List Od) (n:Nat) (e:Ending) (w':World):Prop:=∃ A c,e = .returned (.slice A n c)∧n≤c∧Ods w' A n (sortO L)∧Below w.heap.size w w'
theorem sortedNil_c (c:Nat) (w:World):Calls Tryz.prog 69 #[.slice none 0 c] w (SortedIs w [] 0):=by
 have HC:=Lib.hid (clone_nil 0 c)
 have HS:=Lib.hid sortNil_c
 have HF:Hid (0≤0∧Ods w none 0 (sortO [])∧Below w.heap.size w w):=⟨Nat.le_refl _,⟨sortO_len [],by omega,(by rw [List.eq_nil_of_length_eq_zero (sortO_len [])];intro x hx;cases hx),.inl rfl⟩,Below.refl _ _⟩
 go_enter Tryz.func69,Tryz.ntmps69
 go_wp2_with (first | ((with_reducible refine (HC.out _).mono ?_);rintro e w' ⟨rfl,rfl⟩) | ((with_reducible refine (HS.out _ _ _).mono ?_);rintro e w' ⟨rfl,rfl⟩))
 go_ret
 exact ⟨_,_,rfl,HF.out⟩
end Go.Proofs.YtikapeaodobkjaaGreat
