/- What the laws lean on, in a few texts (by shake.py): number 7 of 16. -/
import Derived.Test.YtikapeaodobkjaaGreatZk1
import Derived.Test.YtikapeaodobkjaaGreatZk2
import Derived.Test.YtikapeaodobkjaaGreatZk4
import Derived.Test.YtikapeaodobkjaaGreatZk5
import Derived.Test.YtikapeaodobkjaaGreatZk3

set_option maxHeartbeats 16000000
set_option maxRecDepth 1000000
set_option linter.unusedVariables false
namespace Go.Proofs.YtikapeaodobkjaaGreat
open Go.RowKit Go.Sort Go.Lib Go.Shelf

section
variable {ops : Array Oper} {rest : List Oper} {o : Oper} {a : Act} {w : World} {Q : Exit → Act → World → Prop}
end
theorem book_c (A:Option Addr) (n c:Nat) (L:List Od) (w:World) (H:Ods w A n L) (h64:n≤64) (hS:SortsU n):Calls Tryz.prog 43 #[.slice A n c] w (BookIs w (bookO L)):=by
 have mixed:Tryz.prog.follows .mixedOrders = true:=by kernel_rfl
 have hl:=H.1
 cases hi:Tryz.prog.info? 35 with
 | none=>have:=info_u64;rw [hi] at this;cases this
 | some i0 =>
  have:=info_u64
  rw [hi] at this
  simp only [Option.map_some,Option.some.injEq,Prod.mk.injEq] at this
  obtain ⟨h1,h2,h3⟩:=this
  have HIn:Hid (Tryz.prog.info? 35 = some i0∧i0.zero = some (.int .u64 0)∧i0.size = 1∧i0.bytes = 8):=⟨hi,h1,h2,h3⟩
  have HO:Aside (Ods w A n L):=H
  have HLn:=Lib.hid hl
  have HS:Aside (SortsU n):=hS
  have HG:Aside (∀ (x:Od) (w:World),Calls Tryz.prog 65 #[.agg (OC x)] w fun e w'=>e = .returned (.bool (goodO x))∧Gw w w'):=good_c
  have n64:¬ (64:Int) < (n:Int):=by omega
  clear hi h1 h2 h3 H hl hS
  go_enter Tryz.func43,Tryz.ntmps43
  go_wp2_with (refine wpList_make_own _ rfl _ _ 124 rfl w.heap.size 35 i0 (.int .u64 0) 1 Tryz.underlying124 HIn.out.1 HIn.out.2.1 HIn.out.2.2.1 .i64 .i64 (n:Int) n rfl rfl rfl (by rw [HIn.out.2.2.2];omega) (by unfold maxLen;omega) (Nat.le_refl _) ?_)
  intro w1 hown1 hg1
  have B1:Hid (Below w.heap.size w w1):=Lib.hid (Below.grown (Below.refl _ _) hg1 (Nat.le_refl _) (by intro k hk;cases hk))
  clear hg1
  go_wp2_with fail
  go_loopg [3,14] n (fun kx s3 s14 wr=>∃ i:Nat,s3 = .slice (some ⟨w.heap.size,0,none⟩) i n∧s14 = .int .i64 i∧i≤n∧n - i≤kx∧wr.ownsRow w.heap.size 35 1 (.slice (some ⟨w.heap.size,0,none⟩) i n) i (idc L i)∧Hid (Below w.heap.size w wr)∧Hid (∀ j,j < i → goodO L[j]! = true))
  case atStart=>exact ⟨0,rfl,rfl,by omega,by omega,hown1,B1,Lib.hid (fun j hj=>by omega)⟩
  case round =>
   clear hown1 B1
   obtain ⟨i,rfl,rfl,hin,hkx,hown,B1,HJ⟩:=hrel
   by_cases hlt:i < n
   ·have hltz:(i:Int) < (n:Int):=by omega
    have h1:=(HO.out.below B1.out).2.2.2
    rcases h1 with h1 | ⟨b,off,rfl,_,hc⟩
    ·omega
    have hx:=hc i hlt
    clear hc
    obtain ⟨x,ex⟩:∃ x,L[i]! = x:=⟨_,rfl⟩
    rw [ex] at hx
    have EX:=Lib.hid ex
    clear ex
    obtain ⟨x0,x1,x2,x3,x4,x5⟩:=hx
    cases hg:goodO x with
    | false =>
     have HB:Hid (bookO L = false):=Lib.hid (book_bad (i:=i) (by rw [HLn.out];exact hlt) (by rw [EX.out];exact hg))
     have HGx:=Lib.hid (HG.out x)
     rw [hg] at HGx
     clear hg
     go_wp2_with ((with_reducible refine (HGx.out _).mono ?_);rintro e w2 ⟨rfl,k2⟩)
     go_ret
     rw [HB.out]
     exact ⟨rfl,(B1.out.alloc B1.out.size _).trans (k2.b.mono (by have:=B1.out.size;simp;omega))⟩
    | true =>
     have HJ2:Hid (∀ j,j < i + 1 → goodO L[j]! = true):=Lib.hid (fun j hj=>by
      by_cases e:j < i
      ·exact HJ.out j e
      ·obtain rfl:j = i:=by omega
       rw [EX.out];exact hg)
     have HGx:=Lib.hid (HG.out x)
     rw [hg] at HGx
     have HN:Hid (idc L (i + 1) = idc L i ++ [.int .u64 x.id]):=by
      have:=ids_snoc (L:=L) (i:=i) (by rw [HLn.out];exact hlt)
      rw [EX.out] at this
      exact this
     clear hg HJ
     go_wp2_with fail
     refine (HGx.out _).mono ?_
     rintro e w2 ⟨rfl,k2⟩
     have BX:Hid (Below w.heap.size w w2):=Lib.hid ((B1.out.alloc B1.out.size _).trans (k2.b.mono (by have:=B1.out.size;simp;omega)))
     have ci:w2.cell? ⟨wr.heap.size,0,none⟩ = some (.int .u64 x.id):=by
      rw [World.cell?_of_block (w:=wr.alloc (Obj.cells (OC x) 38)) (k2.b.block _ (by simp)),cell_of_row _ _ _ _ _ _ (heap_alloc_new wr _)]
      rfl
     have hown2:=own_fr (S:=fun _=>False) (hown.alloc (Obj.cells (OC x) 38)) (Fr.of_below k2.b) (fun _ _ h=>h)
     have hs2:=BX.out.size
     clear k2 hown x0 x1 x2 x3 x4 x5 B1
     go_wp2_with (at_builtin;refine wpList_append_fits _ rfl _ _ 124 rfl w.heap.size 35 i0 1 Tryz.underlying124 HIn.out.1 HIn.out.2.2.1 w.heap.size i n (idc L i) rfl (hown2.alloc _) ⟨w2.heap.size,0,none⟩ 1 1 [.int .u64 x.id] rfl rfl ?c1 ?c2 ?c3 ?_)
     case c1 =>
      intro j u hu
      rw [addr_add,cell_of_row _ _ _ _ _ _ (heap_alloc_new w2 _)]
      match j,hu with
      | 0,hu=>simpa using hu
     case c2=>exact ids_one _
     case c3=>omega
     intro w3 hown3 hg3
     have B3:Hid (Below w.heap.size w w3):=Lib.hid (Below.grown (BX.out.alloc hs2 _) hg3 (by simp;omega) (by intro k hk;injection hk with hk;omega))
     rw [← HN.out] at hown3
     clear hg3 hown2 BX hs2 ci
     go_wp2_with fail
     go_roundg (n - (i + 1))
     case measure=>omega
     case rel=>exact ⟨i + 1,rfl,by go_num,by omega,by omega,hown3,B3,HJ2⟩
   ·have hltz:¬ (i:Int) < (n:Int):=by omega
    obtain rfl:i = n:=by omega
    have e0:idc L i = (L.map Od.id).map eU:=by unfold idc;rw [List.take_of_length_le (by rw [HLn.out];exact Nat.le_refl _)]
    rw [e0] at hown
    obtain ⟨_,_,hk,hH⟩:=own_u hown
    have hz:(L.map Od.id).toArray.size = i:=by simp [HLn.out]
    have HSO:=Lib.hid (HS.out w.heap.size 0 i (L.map Od.id).toArray wr hz.symm hH hk)
    have HHo:Aside (Holds eU wr w.heap.size 0 (L.map Od.id).toArray):=hH
    have HZ:=Lib.hid hz
    clear hown e0 hH hz
    go_wp2_with fail
    refine HSO.out.mono ?_
    rintro e w2 ⟨rfl,d2,S2,P2,O2⟩
    have hd2:d2.size = i:=P2.1.trans HZ.out
    have HC:=Lib.hid (compact_c w.heap.size 0 i d2 w2 (S2.holds hk HHo.out (by rw [hd2,HZ.out])) (by omega) (by omega))
    have HCL:=Lib.hid (compact_len HZ.out P2 O2)
    have B2:Hid (Below w.heap.size w w2):=Lib.hid (B1.out.trans (su_below S2 (Nat.le_refl _) B1.out.size))
    rw [hd2] at HC
    clear P2 O2 B1 S2 HSO HHo
    go_wp2_with fail
    refine HC.out.mono ?_
    rintro e w3 ⟨rfl,d3,S3⟩
    have B3:Hid (Below w.heap.size w w3):=Lib.hid (B2.out.trans (su_below S3 (Nat.le_refl _) B2.out.size))
    have O3:Aside (Ods w3 A i L):=HO.out.below B3.out
    clear S3 B2 HC
    obtain ⟨m,hm⟩:∃ m,(compactUpTo d2 i).length = m:=⟨_,rfl⟩
    have HM:=Lib.hid hm
    rw [hm]
    clear hm
    by_cases hmn:m = i
    ·subst hmn
     have em:((m:Int) == (m:Int)) = true:=by simp
     have HE:Hid (bookO L = eqL L (sortO L)):=Lib.hid (book_else (by rw [HLn.out];exact h64) (fun j hj=>HJ.out j (by rw [HLn.out] at hj;exact hj)) (HCL.out.1 HM.out))
     have HSd:=Lib.hid (sorted_c A m c L w3 O3.out (by omega))
     go_wp2_with fail
     refine HSd.out.mono ?_
     rintro e w4 ⟨A',c',rfl,_,O4,b4⟩
     have HQ:=Lib.hid (equal_c A A' m c c' L (sortO L) w4 (O3.out.below b4) O4 (by omega))
     have B4:Hid (Below w.heap.size w w4):=Lib.hid (B3.out.trans (b4.mono B3.out.size))
     clear O4 b4 O3 B3
     go_wp2_with fail
     refine HQ.out.mono ?_
     rintro e w5 ⟨rfl,k5⟩
     have B5:Hid (Below w.heap.size w w5):=Lib.hid (B4.out.trans (k5.b.mono B4.out.size))
     clear k5 B4
     go_wp2_with fail
     go_ret
     rw [HE.out]
     exact ⟨rfl,B5.out⟩
    ·have em:((m:Int) == (i:Int)) = false:=by rw [beq_eq_false_iff_ne];omega
     have HE:Hid (bookO L = false):=Lib.hid (book_twice (fun h=>hmn (HM.out.symm.trans (HCL.out.2 h))))
     clear hmn
     go_wp2_with fail
     go_ret
     rw [HE.out]
     exact ⟨rfl,B3.out⟩
end Go.Proofs.YtikapeaodobkjaaGreat
