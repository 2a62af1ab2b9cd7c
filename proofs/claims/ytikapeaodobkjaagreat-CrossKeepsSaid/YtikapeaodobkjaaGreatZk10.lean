/- What the laws lean on, in a few texts (by shake.py): number 10 of 16. -/
import Derived.Test.YtikapeaodobkjaaGreatZk1
import Derived.Test.YtikapeaodobkjaaGreatZk2
import Derived.Test.YtikapeaodobkjaaGreatZk5
import Derived.Test.YtikapeaodobkjaaGreatZk9
import Derived.Test.YtikapeaodobkjaaGreatZk3
import Derived.Shelf.SlSortCmp.QuietGrown
import Derived.Laws.OwnMore
import Derived.Laws.AppendOwnNone

set_option maxHeartbeats 16000000
set_option maxRecDepth 1000000
set_option linter.unusedVariables false
namespace Go.Proofs.YtikapeaodobkjaaGreat
open Go.RowKit Go.Sort Go.Lib Go.Shelf

def delC (cur z:List Value) (n i k:Nat):List Value:=cur.take (i * k) ++ (cur.drop ((i + 1) * k)).take ((n - 1 - i) * k) ++ z ++ cur.drop (n * k)
theorem delC_steps {cur z:List Value} {n i k c:Nat} (hi:i < n) (hc:n≤c) (hl:cur.length = c * k) (hz:z.length = k) :
  (cur.take (i * k) ++ (cur.drop ((i + 1) * k)).take ((n - 1 - i) * k) ++ cur.drop (i * k + ((cur.drop ((i + 1) * k)).take ((n - 1 - i) * k)).length)).take ((n - 1) * k) ++ z ++
   (cur.take (i * k) ++ (cur.drop ((i + 1) * k)).take ((n - 1 - i) * k) ++ cur.drop (i * k + ((cur.drop ((i + 1) * k)).take ((n - 1 - i) * k)).length)).drop ((n - 1) * k + z.length) = delC cur z n i k:=by
 obtain ⟨m,rfl⟩:∃ m,n = i + 1 + m:=⟨n - (i + 1),by omega⟩
 have e0:i + 1 + m - 1 - i = m:=by omega
 have e1:(i + 1) * k = i * k + k:=Nat.succ_mul i k
 have e2:(i + 1 + m) * k = i * k + k + m * k:=by rw [Nat.add_mul,e1]
 have e3:(i + 1 + m - 1) * k = i * k + m * k:=by rw [show i + 1 + m - 1 = i + m by omega,Nat.add_mul]
 have h2:i * k + k + m * k≤c * k:=by rw [← e2];exact Nat.mul_le_mul_right k hc
 unfold delC
 rw [e0,e2,e3]
 have lx:((cur.drop ((i + 1) * k)).take (m * k)).length = m * k:=by rw [List.length_take,List.length_drop];omega
 have ly:(cur.take (i * k)).length = i * k:=by rw [List.length_take];omega
 rw [lx,List.take_append_of_le_length (by rw [List.length_append];omega),List.take_of_length_le (by rw [List.length_append];omega),List.drop_append,List.length_append,lx,ly]
 rw [List.drop_eq_nil_of_le («as»:=cur.take (i * k) ++ (cur.drop ((i + 1) * k)).take (m * k)) (by rw [List.length_append];omega),List.nil_append,List.drop_drop,hz]
 rw [show i * k + m * k + (i * k + m * k + k - (i * k + m * k)) = i * k + k + m * k by omega]
theorem delC_take {cur z xs:List Value} {n i k c:Nat} (hi:i < n) (hc:n≤c) (hl:cur.length = c * k) (hz:z.length = k) (hx:cur.take (n * k) = xs) :
  (delC cur z n i k).length = c * k∧(delC cur z n i k).take ((n - 1) * k) = xs.take (i * k) ++ xs.drop ((i + 1) * k):=by
 obtain ⟨m,rfl⟩:∃ m,n = i + 1 + m:=⟨n - (i + 1),by omega⟩
 have e0:i + 1 + m - 1 - i = m:=by omega
 have e1:(i + 1) * k = i * k + k:=Nat.succ_mul i k
 have e2:(i + 1 + m) * k = i * k + k + m * k:=by rw [Nat.add_mul,e1]
 have e3:(i + 1 + m - 1) * k = i * k + m * k:=by rw [show i + 1 + m - 1 = i + m by omega,Nat.add_mul]
 have h2:i * k + k + m * k≤c * k:=by rw [← e2];exact Nat.mul_le_mul_right k hc
 subst hx
 unfold delC
 rw [e0,e2,e3,e1]
 have lx:((cur.drop (i * k + k)).take (m * k)).length = m * k:=by rw [List.length_take,List.length_drop];omega
 have ly:(cur.take (i * k)).length = i * k:=by rw [List.length_take];omega
 refine ⟨?_,?_⟩
 ·simp only [List.length_append,lx,ly,hz,List.length_drop];omega
 ·rw [List.append_assoc,List.take_append_of_le_length (by rw [List.length_append];omega),List.take_of_length_le (by rw [List.length_append];omega)]
  rw [List.take_take,Nat.min_eq_left (by omega),List.drop_take,show i * k + k + m * k - (i * k + k) = m * k by omega]
theorem step_app2 {P:Program} {ops:Array Oper} {o:Oper} {a:Act} {w:World} {K:Act → World → Prop} {Q:Exit → Act → World → Prop} {E:Prop}
  (hg:o.guard = none) (s x:Operand) (t:TypeId) (hop:o.op = Op.call { callee:=Callee.builtin Builtin.append,args:=#[s,x],argTypes:=#[t,t] })
  (v u:Value) (hs:a.eval s = v) (hx:a.eval x = u) {v':Value} {w':World} (hr:(Builtin.append_ #[t,t] o.type #[v,u]).run P w = .ok v' w') (hK:K (a.put o.dst v') w') :
  if Region.wanted o (yielded ops a.tmps) = true then Oper.wp P o a w K Q else E:=by
 have hw:Region.wanted o (yielded ops a.tmps) = true:=by simp [Region.wanted,hg]
 rw [if_pos hw]
 unfold Oper.wp
 simp [execOp,hop,resolve,invoke,builtin,hs,hx,hr,Result.andThen]
 exact hK
theorem clear_R (w:World) (ty:TypeId) (g o n c:Nat) (cur:Array Value) (hn:n = 1) (hg:w.heap[g]? = some (.cells cur 247 (0,0))) (hfit:o + 2≤cur.size) :
  (Builtin.clear_ #[248] ty #[.slice (some ⟨g,o,none⟩) n c]).run Tryz.prog w = .ok (.tuple #[]) (w.setRow g (cur.toList.take o ++ (#[.int .i64 0,.slice none 0 0]:Array Value).toList ++ cur.toList.drop (o + (#[.int .i64 0,.slice none 0 0]:Array Value).toList.length)).toArray):=by
 subst hn
 have hst:=run_storeCells_at Tryz.prog g o 247 (#[.int .i64 0,.slice none 0 0]:Array Value).toList 0 cur w hg (by simpa using hfit) (by decide)
 simp only [Nat.add_zero] at hst
 have hz:(Builtin.zeroCells (Value.cells (.agg #[.int .i64 0,.slice none 0 0])) 1).toList = (#[.int .i64 0,.slice none 0 0]:Array Value).toList:=by kernel_rfl
 simp [Builtin.clear_,run_underlying Tryz.underlying248,hz,hst]
theorem del_R (w:World) (g n c i:Nat) (cur:List Value) (hg:w.heap[g]? = some (.cells cur.toArray 247 (0,0))) (hl:cur.length = c * 2) (hc:n≤c) (hi:i < n) (hcm:c≤maxLen) (h1:∀ v ∈ cur.take (n * 2),v.oneCell' = true) :
  Calls Tryz.prog 184 #[.slice (some ⟨g,0,none⟩) n c,.int .i64 i,.int .i64 ((i:Int) + 1)] w fun e w'=>e = .returned (.slice (some ⟨g,0,none⟩) (n - 1) c)∧Hid (InsIn w g 247 (delC cur (#[.int .i64 0,.slice none 0 0]:Array Value).toList n i 2) w'):=by
 have mixed:Tryz.prog.follows .mixedOrders = true:=by kernel_rfl
 obtain ⟨i0,hi0,hz0,hz1,hz2⟩:=info_parts info_R
 have hcm':c≤9223372036854775807:=by unfold maxLen at hcm;omega
 have q1:¬ ((i:Int) = (i:Int) + 1):=by omega
 have q2:(i:Int)≤(i:Int) + 1:=by omega
 have q3:(0:Int)≤(i:Int) + 1:=by omega
 have q4:(i:Int) + 1≤(n:Int):=by omega
 have q5:(n:Int)≤(c:Int):=by omega
 have q6:¬ (n = i):=by omega
 have q7:(i:Int) + 1≤(c:Int):=by omega
 have q8:(i:Int)≤(c:Int):=by omega
 have q10:((i:Int) + 1).toNat = i + 1:=by omega
 have q11:¬ (c = n - 1):=by omega
 have q12:((n - 1:Nat):Int)≤(n:Int):=by omega
 have hni:(n - 1 - i) * 2 = n * 2 - (i + 1) * 2:=by omega
 have hnc:n * 2≤c * 2:=by omega
 obtain ⟨X,eX⟩:∃ X,X = (cur.drop ((i + 1) * 2)).take ((n - 1 - i) * 2):=⟨_,rfl⟩
 have lX:X.length = (n - 1 - i) * 2:=by rw [eX,List.length_take,List.length_drop];omega
 obtain ⟨A1,e1⟩:∃ A1,A1 = (cur.take (i * 2) ++ X ++ cur.drop (i * 2 + X.length)):=⟨_,rfl⟩
 have l1:A1.length = c * 2:=by rw [e1];simp only [List.length_append,List.length_take,List.length_drop,lX];omega
 have e2:A1.take ((n - 1) * 2) ++ (#[.int .i64 0,.slice none 0 0]:Array Value).toList ++ A1.drop ((n - 1) * 2 + (#[.int .i64 0,.slice none 0 0]:Array Value).toList.length) = delC cur (#[.int .i64 0,.slice none 0 0]:Array Value).toList n i 2:=by rw [e1,eX];exact delC_steps hi hc hl rfl
 obtain ⟨A,hA,hsrc⟩:∃ A:Addr,(if c = i + 1 then some (⟨g,0,none⟩:Addr) else some ⟨g,(i + 1) * 2,none⟩) = some A∧(∀ j v,X[j]? = some v → w.drew.cell? (A.add j) = some v):=by
  by_cases h:c = i + 1
  ·refine ⟨_,if_pos h,fun j v hj=>?_⟩
   have h0:X.length = 0:=by rw [lX];omega
   rw [List.length_eq_zero_iff.1 h0] at hj
   cases hj
  ·refine ⟨_,if_neg h,fun j v hj=>?_⟩
   rw [addr_add,cell_of_row _ _ _ _ _ _ (hd_drew hg)]
   rw [eX,List.getElem?_take] at hj
   split at hj
   ·rw [List.getElem?_drop] at hj
    rw [List.getElem?_toArray];exact hj
   ·cases hj
 have C1:Hid (∀ ty,(Builtin.append_ #[248,248] ty #[.slice (some ⟨g,0,none⟩) i c,.slice (some A) (n - (i + 1)) (c - (i + 1))]).run Tryz.prog w.drew = .ok (.slice (some ⟨g,0,none⟩) (n - 1) c) (w.drew.setRow g A1.toArray)):=Lib.hid (fun ty=>by
  rw [show n - (i + 1) = n - 1 - i by omega]
  have:=run_append_room w.drew 248 ty 247 i0 Tryz.underlying248 hi0 g i c cur.toArray (hd_drew hg) A (n - 1 - i) (c - (i + 1)) X (by rw [hz1];exact lX) hsrc (fun v hv=>h1 v (by rw [eX,hni,← List.drop_take] at hv;exact List.mem_of_mem_drop hv)) (by omega) (by rw [hz1,lX];simp only [List.size_toArray];omega)
  rw [hz1,show i + (n - 1 - i) = n - 1 by omega] at this
  rw [e1]
  exact this)
 have G1:(w.drew.setRow g A1.toArray).heap[g]? = some (.cells A1.toArray 247 (0,0)):=setRow_heap _ _ _ _ _ _ (hd_drew hg)
 have C2:Hid (∀ ty m c',m = 1 → (Builtin.clear_ #[248] ty #[.slice (some ⟨g,(n - 1) * 2,none⟩) m c']).run Tryz.prog (w.drew.setRow g A1.toArray) = .ok (.tuple #[]) ((w.drew.setRow g A1.toArray).setRow g (delC cur (#[.int .i64 0,.slice none 0 0]:Array Value).toList n i 2).toArray)):=Lib.hid (fun ty m c' hm=>by
  have:=clear_R (w.drew.setRow g A1.toArray) ty g ((n - 1) * 2) m c' A1.toArray hm G1 (by simp only [List.size_toArray];omega)
  rw [← e2]
  exact this)
 have F:Hid (InsIn w g 247 (delC cur (#[.int .i64 0,.slice none 0 0]:Array Value).toList n i 2) ((w.drew.setRow g A1.toArray).setRow g (delC cur (#[.int .i64 0,.slice none 0 0]:Array Value).toList n i 2).toArray)):=insIn_trans (insIn_trans (insIn_drew hg) (insIn_set (hd_drew hg))) (insIn_set G1)
 clear eX lX e1 l1 e2 G1 hni hnc hsrc
 have HX:=Lib.hid (And.intro hl (And.intro hc (And.intro hi h1)))
 clear hg hl hc h1 hcm
 go_enter Tryz.func184,Tryz.ntmps184
 go_wp2_with fail
 refine wp_region_held_drew (S:=fun _=>True) (by kernel_rfl) (by trivial) (fun hHeld=>?_)
 refine tkH 0 ?_ ?_ (by assumption) ?_
 rotate_left
 ·(intro w hSw;(try dsimp only at hSw);go_simp;try with_reducible rfl)
 (try simp only [zz])
 refine tkH 1 ?_ ?_ (by assumption) ?_
 rotate_left
 ·(intro w hSw;(try dsimp only at hSw);go_simp;try with_reducible rfl)
 (try simp only [zz])
 refine tkH 2 ?_ ?_ (by assumption) ?_
 rotate_left
 ·(intro w hSw;(try dsimp only at hSw);go_simp;try with_reducible rfl)
 (try simp only [zz])
 refine tkH 3 ?_ ?_ (by assumption) ?_
 rotate_left
 ·(intro w hSw;(try dsimp only at hSw);go_simp;try with_reducible rfl)
 (try simp only [zz])
 refine tkH 4 ?_ ?_ (by assumption) ?_
 rotate_left
 ·(intro w hSw;(try dsimp only at hSw);go_simp;try with_reducible rfl)
 (try simp only [zz])
 refine tkH 5 ?_ ?_ (by assumption) ?_
 rotate_left
 ·(intro w hSw;(try dsimp only at hSw);go_simp;try with_reducible rfl)
 (try simp only [zz])
 refine rdH 6 (fun K hK=>?_)
 refine step_app2 rfl (.tmp 22) (.tmp 25) 248 rfl _ _ rfl (by simp [Act.eval]) (C1.out _) ?_
 refine hK.out _ _ (by trivial) (fun hHeld=>?_)
 clear hK K
 (try simp only [zz])
 refine tkH 7 ?_ ?_ (by assumption) ?_
 rotate_left
 ·(intro w hSw;(try dsimp only at hSw);go_simp;try with_reducible rfl)
 (try simp only [zz])
 refine wpAnyH_done (by kernel_rfl) ?_ _
 clear C1
 go_wp2_with fail
 rw [C2.out _ _ _ (by omega)]
 go_wp2_with fail
 go_ret
 exact ⟨rfl,F.out⟩
theorem clear_O (w:World) (ty:TypeId) (g o n c:Nat) (cur:Array Value) (hn:n = 1) (hg:w.heap[g]? = some (.cells cur 38 (0,0))) (hfit:o + 6≤cur.size) :
  (Builtin.clear_ #[22] ty #[.slice (some ⟨g,o,none⟩) n c]).run Tryz.prog w = .ok (.tuple #[]) (w.setRow g (cur.toList.take o ++ ((OC ⟨0,0,0,0,0,0⟩):Array Value).toList ++ cur.toList.drop (o + ((OC ⟨0,0,0,0,0,0⟩):Array Value).toList.length)).toArray):=by
 subst hn
 have hst:=run_storeCells_at Tryz.prog g o 38 ((OC ⟨0,0,0,0,0,0⟩):Array Value).toList 0 cur w hg (by simpa using hfit) (by decide)
 simp only [Nat.add_zero] at hst
 have hz:(Builtin.zeroCells (Value.cells (.agg (OC ⟨0,0,0,0,0,0⟩))) 1).toList = ((OC ⟨0,0,0,0,0,0⟩):Array Value).toList:=by kernel_rfl
 simp [Builtin.clear_,run_underlying Tryz.underlying22,hz,hst]
theorem del_O (w:World) (g n c i:Nat) (cur:List Value) (hg:w.heap[g]? = some (.cells cur.toArray 38 (0,0))) (hl:cur.length = c * 6) (hc:n≤c) (hi:i < n) (hcm:c≤maxLen) (h1:∀ v ∈ cur.take (n * 6),v.oneCell' = true) :
  Calls Tryz.prog 183 #[.slice (some ⟨g,0,none⟩) n c,.int .i64 i,.int .i64 ((i:Int) + 1)] w fun e w'=>e = .returned (.slice (some ⟨g,0,none⟩) (n - 1) c)∧Hid (InsIn w g 38 (delC cur ((OC ⟨0,0,0,0,0,0⟩):Array Value).toList n i 6) w'):=by
 have mixed:Tryz.prog.follows .mixedOrders = true:=by kernel_rfl
 obtain ⟨i0,hi0,hz0,hz1,hz2⟩:=info_parts info_O
 have hcm':c≤9223372036854775807:=by unfold maxLen at hcm;omega
 have q1:¬ ((i:Int) = (i:Int) + 1):=by omega
 have q2:(i:Int)≤(i:Int) + 1:=by omega
 have q3:(0:Int)≤(i:Int) + 1:=by omega
 have q4:(i:Int) + 1≤(n:Int):=by omega
 have q5:(n:Int)≤(c:Int):=by omega
 have q6:¬ (n = i):=by omega
 have q7:(i:Int) + 1≤(c:Int):=by omega
 have q8:(i:Int)≤(c:Int):=by omega
 have q10:((i:Int) + 1).toNat = i + 1:=by omega
 have q11:¬ (c = n - 1):=by omega
 have q12:((n - 1:Nat):Int)≤(n:Int):=by omega
 have hni:(n - 1 - i) * 6 = n * 6 - (i + 1) * 6:=by omega
 have hnc:n * 6≤c * 6:=by omega
 obtain ⟨X,eX⟩:∃ X,X = (cur.drop ((i + 1) * 6)).take ((n - 1 - i) * 6):=⟨_,rfl⟩
 have lX:X.length = (n - 1 - i) * 6:=by rw [eX,List.length_take,List.length_drop];omega
 obtain ⟨A1,e1⟩:∃ A1,A1 = (cur.take (i * 6) ++ X ++ cur.drop (i * 6 + X.length)):=⟨_,rfl⟩
 have l1:A1.length = c * 6:=by rw [e1];simp only [List.length_append,List.length_take,List.length_drop,lX];omega
 have e2:A1.take ((n - 1) * 6) ++ ((OC ⟨0,0,0,0,0,0⟩):Array Value).toList ++ A1.drop ((n - 1) * 6 + ((OC ⟨0,0,0,0,0,0⟩):Array Value).toList.length) = delC cur ((OC ⟨0,0,0,0,0,0⟩):Array Value).toList n i 6:=by rw [e1,eX];exact delC_steps hi hc hl rfl
 obtain ⟨A,hA,hsrc⟩:∃ A:Addr,(if c = i + 1 then some (⟨g,0,none⟩:Addr) else some ⟨g,(i + 1) * 6,none⟩) = some A∧(∀ j v,X[j]? = some v → w.drew.cell? (A.add j) = some v):=by
  by_cases h:c = i + 1
  ·refine ⟨_,if_pos h,fun j v hj=>?_⟩
   have h0:X.length = 0:=by rw [lX];omega
   rw [List.length_eq_zero_iff.1 h0] at hj
   cases hj
  ·refine ⟨_,if_neg h,fun j v hj=>?_⟩
   rw [addr_add,cell_of_row _ _ _ _ _ _ (hd_drew hg)]
   rw [eX,List.getElem?_take] at hj
   split at hj
   ·rw [List.getElem?_drop] at hj
    rw [List.getElem?_toArray];exact hj
   ·cases hj
 have C1:Hid (∀ ty,(Builtin.append_ #[22,22] ty #[.slice (some ⟨g,0,none⟩) i c,.slice (some A) (n - (i + 1)) (c - (i + 1))]).run Tryz.prog w.drew = .ok (.slice (some ⟨g,0,none⟩) (n - 1) c) (w.drew.setRow g A1.toArray)):=Lib.hid (fun ty=>by
  rw [show n - (i + 1) = n - 1 - i by omega]
  have:=run_append_room w.drew 22 ty 38 i0 Tryz.underlying22 hi0 g i c cur.toArray (hd_drew hg) A (n - 1 - i) (c - (i + 1)) X (by rw [hz1];exact lX) hsrc (fun v hv=>h1 v (by rw [eX,hni,← List.drop_take] at hv;exact List.mem_of_mem_drop hv)) (by omega) (by rw [hz1,lX];simp only [List.size_toArray];omega)
  rw [hz1,show i + (n - 1 - i) = n - 1 by omega] at this
  rw [e1]
  exact this)
 have G1:(w.drew.setRow g A1.toArray).heap[g]? = some (.cells A1.toArray 38 (0,0)):=setRow_heap _ _ _ _ _ _ (hd_drew hg)
 have C2:Hid (∀ ty m c',m = 1 → (Builtin.clear_ #[22] ty #[.slice (some ⟨g,(n - 1) * 6,none⟩) m c']).run Tryz.prog (w.drew.setRow g A1.toArray) = .ok (.tuple #[]) ((w.drew.setRow g A1.toArray).setRow g (delC cur ((OC ⟨0,0,0,0,0,0⟩):Array Value).toList n i 6).toArray)):=Lib.hid (fun ty m c' hm=>by
  have:=clear_O (w.drew.setRow g A1.toArray) ty g ((n - 1) * 6) m c' A1.toArray hm G1 (by simp only [List.size_toArray];omega)
  rw [← e2]
  exact this)
 have F:Hid (InsIn w g 38 (delC cur ((OC ⟨0,0,0,0,0,0⟩):Array Value).toList n i 6) ((w.drew.setRow g A1.toArray).setRow g (delC cur ((OC ⟨0,0,0,0,0,0⟩):Array Value).toList n i 6).toArray)):=insIn_trans (insIn_trans (insIn_drew hg) (insIn_set (hd_drew hg))) (insIn_set G1)
 clear eX lX e1 l1 e2 G1 hni hnc hsrc
 have HX:=Lib.hid (And.intro hl (And.intro hc (And.intro hi h1)))
 clear hg hl hc h1 hcm
 go_enter Tryz.func183,Tryz.ntmps183
 go_wp2_with fail
 refine wp_region_held_drew (S:=fun _=>True) (by kernel_rfl) (by trivial) (fun hHeld=>?_)
 refine tkH 0 ?_ ?_ (by assumption) ?_
 rotate_left
 ·(intro w hSw;(try dsimp only at hSw);go_simp;try with_reducible rfl)
 (try simp only [zz])
 refine tkH 1 ?_ ?_ (by assumption) ?_
 rotate_left
 ·(intro w hSw;(try dsimp only at hSw);go_simp;try with_reducible rfl)
 (try simp only [zz])
 refine tkH 2 ?_ ?_ (by assumption) ?_
 rotate_left
 ·(intro w hSw;(try dsimp only at hSw);go_simp;try with_reducible rfl)
 (try simp only [zz])
 refine tkH 3 ?_ ?_ (by assumption) ?_
 rotate_left
 ·(intro w hSw;(try dsimp only at hSw);go_simp;try with_reducible rfl)
 (try simp only [zz])
 refine tkH 4 ?_ ?_ (by assumption) ?_
 rotate_left
 ·(intro w hSw;(try dsimp only at hSw);go_simp;try with_reducible rfl)
 (try simp only [zz])
 refine tkH 5 ?_ ?_ (by assumption) ?_
 rotate_left
 ·(intro w hSw;(try dsimp only at hSw);go_simp;try with_reducible rfl)
 (try simp only [zz])
 refine rdH 6 (fun K hK=>?_)
 refine step_app2 rfl (.tmp 22) (.tmp 25) 22 rfl _ _ rfl (by simp [Act.eval]) (C1.out _) ?_
 refine hK.out _ _ (by trivial) (fun hHeld=>?_)
 clear hK K
 (try simp only [zz])
 refine tkH 7 ?_ ?_ (by assumption) ?_
 rotate_left
 ·(intro w hSw;(try dsimp only at hSw);go_simp;try with_reducible rfl)
 (try simp only [zz])
 refine wpAnyH_done (by kernel_rfl) ?_ _
 clear C1
 go_wp2_with fail
 rw [C2.out _ _ _ (by omega)]
 go_wp2_with fail
 go_ret
 exact ⟨rfl,F.out⟩
end Go.Proofs.YtikapeaodobkjaaGreat
namespace Go.Proofs.YtikapeaodobkjaaGreat
open Go.RowKit Go.Shelf Go.Sort Go.Maps

def DelOf (W4 w5:World) (qv v':Value) (n':Nat) (q':List Od):Prop :=
 w5.ownsRow 0 38 6 v' n' (ol q')∧W4.grownBy w5 qv.ownBlock∧v'.ownBlock = qv.ownBlock
theorem del_of {W4 w5:World} {qn i c g:Nat} {q:List Od} {cur:Array Value} (hq:q.length = qn) (hi:i < qn) (_hg:W4.heap[g]? = some (.cells cur 38 (0,0))) (hc:qn≤c) (hcm:c≤maxLen) (hs:cur.size = c * 6) (ht:cur.toList.take (qn * 6) = ol q)
  (h:InsIn W4 g 38 (delC cur.toList (OC ⟨0,0,0,0,0,0⟩).toList qn i 6) w5):DelOf W4 w5 (.slice (some ⟨g,0,none⟩) qn c) (.slice (some ⟨g,0,none⟩) (qn - 1) c) (qn - 1) (q.eraseIdx i):=by
 obtain ⟨h1,h2⟩:=delC_take (k:=6) (z:=(OC ⟨0,0,0,0,0,0⟩).toList) hi hc (by simpa using hs) rfl ht
 have e:ol (q.eraseIdx i) = (ol q).take (i * 6) ++ (ol q).drop ((i + 1) * 6):=by
  rw [(ol_take q i (by omega)).1,(ol_take q (i + 1) (by omega)).2,← ol_append,List.eraseIdx_eq_take_drop_succ]
 refine ⟨⟨?_,.inr ⟨g,c,_,rfl,Nat.zero_le _,h.2,by omega,hcm,by rw [List.size_toArray];exact h1,?_⟩⟩,h.1,rfl⟩
 ·rw [ol_len,List.length_eraseIdx,if_pos (by omega)];omega
 ·rw [List.toList_toArray,h2,e]
theorem del_mid {w2 W4 w5:World} {g n c n':Nat} {qv v':Value} {qn:Nat} {q q':List Od} {xs:List Value} (hR:w2.ownsRow 0 247 2 (.slice (some ⟨g,0,none⟩) n c) n xs) (hq:w2.ownsRow 0 38 6 qv qn (ol q)) (G:Gw w2 W4) (hI:DelOf W4 w5 qv v' n' q') :
  w5.ownsRow 0 247 2 (.slice (some ⟨g,0,none⟩) n c) n xs:=by
 refine own_fr hR (S:=fun j=>qv.ownBlock = some j) ?_ (fun k hk e=>?_)
 ·exact ((Fr.of_below G.b).grown hI.2.1 (fun j e=>.inl e))
 ·injection hk with hk
  subst hk
  obtain ⟨cs,hcs⟩:=own_blk hR rfl
  exact own_ne hq hcs (by decide) e
theorem del_fin {w w2 W4 w5:World} {g c n':Nat} {qv v':Value} {R:List Rw} {qn k:Nat} {q q':List Od} {p:Int} (hk:k < R.length) (hp:(R[k]!).pr = p) (hR:w2.ownsRow 0 247 2 (.slice (some ⟨g,0,none⟩) R.length c) R.length (rl R)) (hq:w2.ownsRow 0 38 6 qv qn (ol q)) (G2:Below w.heap.size w w2) (G:Gw w2 W4) (hI:DelOf W4 w5 qv v' n' q') :
  (w5.setCell ⟨g,k * 2 + 1,none⟩ v').ownsRow 0 38 6 v' n' (ol q')∧(w5.setCell ⟨g,k * 2 + 1,none⟩ v').ownsRow 0 247 2 (.slice (some ⟨g,0,none⟩) R.length c) R.length (rl (R.take k ++ ⟨p,v',q'⟩ :: R.drop (k + 1))) ∧
   Fr (fun j=>(Value.slice (some ⟨g,0,none⟩) R.length c).ownBlock = some j ∨ qv.ownBlock = some j) w (w5.setCell ⟨g,k * 2 + 1,none⟩ v'):=by
 have hR5:=del_mid hR hq G hI
 obtain ⟨cs,hcs⟩:=own_blk hR5 rfl
 refine ⟨?_,?_,?_⟩
 ·exact own_fr hI.1 (S:=fun j=>j = g) ((Fr.refl (fun j=>j = g) w5).set (p:=⟨g,k * 2 + 1,none⟩) (.inl rfl) _) (fun j hj e=>by subst e;exact own_ne hI.1 hcs (by decide) hj)
 ·rw [rl_set R k hk ⟨p,v',q'⟩ hp.symm]
  exact own_setCell hR5 rfl
 ·refine Fr.set ?_ (p:=⟨g,k * 2 + 1,none⟩) (.inl (.inl rfl)) _
  exact (Fr.of_below (G2.trans (G.b.mono G2.size))).grown hI.2.1 (fun j e=>.inl (.inr e))
theorem put6_fr (X:World) (c:Nat) (o:Od):Fr (fun k=>k = c) X (put6 X c o):=by
 unfold put6
 exact ((((((Fr.refl (fun k=>k = c) X).set (p:=⟨c,0,none⟩) (.inl rfl) _).set (p:=⟨c,1,none⟩) (.inl rfl) _).set (p:=⟨c,2,none⟩) (.inl rfl) _).set (p:=⟨c,3,none⟩) (.inl rfl) _).set (p:=⟨c,4,none⟩) (.inl rfl) _).set (p:=⟨c,5,none⟩) (.inl rfl) _
theorem take_more (p m:Nat) (s1 s2:Sd) (o:Od) (id:Int) (w:World) (H:Bk w (some ⟨p,0,none⟩) (some m) s1 s2) (hwf:(Lit.int .i64 o.side).wf = true)
  (HGet:Hid (∀ W,Below w.heap.size w W → Calls Tryz.prog 172 #[.pointer (some ⟨p,0,none⟩),.int .u64 id] W fun e w'=>e = .returned (.tuple #[optV (some o),.bool true])∧Hid (Below W.heap.size W w')))
  (R:List Rw) (hR:rsOf s1 s2 o.side = R) (hs:R.Pairwise (fun a b=>betN o.side a.pr b.pr = true))
  (hn:R.length≤1000) (k:Nat) (hk:atN o.side o.price R = k) (hkl:k < R.length) (hp:(R[k]!).pr = o.price) (hq:(R[k]!).q.Pairwise (fun x y=>ahdO x y = true)) (hql:(R[k]!).q.length≤1000) (i:Nat) (hi:plN o (R[k]!).q = i) (hil:i < (R[k]!).q.length) (h2:2≤(R[k]!).q.length) :
  Calls Tryz.prog 176 #[.pointer (some ⟨p,0,none⟩),.int .u64 id] w fun e w'=>e = .returned (.tuple #[optV (some o),.bool true])∧∃ v',Hid (w'.ownsRow 0 38 6 v' ((R[k]!).q.length - 1) (ol ((R[k]!).q.eraseIdx i)) ∧
   w'.ownsRow 0 247 2 (rowsOf s1 s2 o.side) R.length (rl (R.take k ++ ⟨o.price,v',(R[k]!).q.eraseIdx i⟩ :: R.drop (k + 1)))∧Fr (fun j=>(rowsOf s1 s2 o.side).ownBlock = some j ∨ (R[k]!).v.ownBlock = some j) w w'∧v'.ownBlock = (R[k]!).v.ownBlock):=by
 have mixed:Tryz.prog.follows .mixedOrders = true:=by kernel_rfl
 have hmem:R[k]! ∈ s1.rs ++ s2.rs:=by
  rw [getElem!_pos R k hkl]
  exact rsOf_mem (by rw [hR];exact List.getElem_mem hkl)
 obtain ⟨Q,hQd⟩:∃ Q,(R[k]!).q = Q:=⟨_,rfl⟩
 obtain ⟨V,hVd⟩:∃ V,(R[k]!).v = V:=⟨_,rfl⟩
 rw [hQd] at hq hql hi hil h2 ⊢
 rw [hVd]
 obtain ⟨qn,hqn⟩:∃ qn,Q.length = qn:=⟨_,rfl⟩
 rw [hqn] at hql hil h2 ⊢
 have hown0:=H.own o.side
 rw [hR] at hown0
 obtain ⟨g,c,hv,_,_⟩:=row_at hown0 hkl
 clear hown0
 have hqm0:=H.q _ hmem
 rw [hQd,hVd,hqn] at hqm0
 obtain ⟨g2,qc,cur,hqv,hg2⟩:∃ g2 qc cur,V = .slice (some ⟨g2,0,none⟩) qn qc∧w.heap[g2]? = some (.cells cur 38 (0,0))∧qn≤qc∧qc≤maxLen∧cur.size = qc * 6∧cur.toList.take (qn * 6) = ol Q:=by
  rcases hqm0.2 with ⟨_,h0⟩ | ⟨g2,cap,cur,e,_,h1,h2,h3,h4,h5⟩
  ·omega
  ·exact ⟨g2,cap,cur,e,h1,h2,h3,h4,h5⟩
 have hgl:g < w.heap.size:=by
  obtain ⟨A,c',hv',_,hf⟩:=H.rows o.side
  rw [hR] at hv' hf
  rw [hv] at hv'
  injection hv' with e1 e2 e3
  exact H.lt (hf g e1.symm (by omega))
 have HH:=Lib.hid H
 have HG:=Lib.hid hgl
 have HQ2:=Lib.hid hg2
 have HLK:Hid (∀ W,Below w.heap.size w W → (W.cell? ⟨p,0,none⟩ = some (.map (some m)))∧W.ownsRow 0 247 2 (.slice (some ⟨g,0,none⟩) R.length c) R.length (rl R)∧W.ownsRow 0 38 6 (.slice (some ⟨g2,0,none⟩) qn qc) qn (ol Q)∧W.cell? ⟨g,k * 2,none⟩ = some (.int .i64 o.price)∧W.cell? ⟨g,k * 2 + 1,none⟩ = some (.slice (some ⟨g2,0,none⟩) qn qc)):=fun W hW=>by
  have hB:=HH.out.below hW
  have hown:=hB.own o.side
  rw [hR] at hown
  obtain ⟨g',c',hv',hc1,hc2⟩:=row_at hown hkl
  rw [hv] at hv' hown
  injection hv' with e1 e2 e3
  injection e1 with e1;injection e1 with e1
  subst e1
  have hqm:=hB.q _ hmem
  rw [hQd,hVd,hqv,hqn] at hqm
  refine ⟨?_,hown,hqm,by rw [hc1,hp],by rw [hc2,hVd,hqv]⟩
  rcases hB.shape with ⟨h,_⟩ | ⟨pp,hb,hp⟩
  ·cases h
  ·injection hb with hb'
   injection hb' with hb''
   subst hb''
   rw [cell_of_row _ _ _ _ _ _ hp];rfl
 have HF:Hid (∀ W,Below w.heap.size w W → Calls Tryz.prog 181 #[.slice (some ⟨g,0,none⟩) R.length c,.int .i64 o.side,.int .i64 o.price] W fun e w'=>e = .returned (.tuple #[.int .i64 (k:Nat),.bool true])∧Gw W w'):=fun W hW=>by
  have:=find_c (some ⟨g,0,none⟩) R.length c R o.side o.price W ?_ hs hn
  ·rw [hk,decide_eq_true hkl,hp] at this
   simpa using this
  ·obtain ⟨A,c',hv',hr⟩:=own_rows (HLK.out W hW).2.1
   injection hv' with e1 e2 e3
   rw [e1]
   exact hr
 have HP:Hid (∀ W,Below w.heap.size w W → Calls Tryz.prog 182 #[.slice (some ⟨g2,0,none⟩) qn qc,.agg #[.int .u64 o.id,.int .i64 o.acc,.int .i64 o.side,.int .i64 o.price,.int .i64 o.qty,.int .u64 o.seq]] W fun e w'=>e = .returned (.int .i64 (i:Nat))∧Gw W w'):=fun W hW=>by
  have:=place_c (some ⟨g2,0,none⟩) qn qc Q o W ?_ hq hql
  ·rw [hi] at this;exact this
  ·obtain ⟨A,c',hv',hr⟩:=own_que (HLK.out W hW).2.2.1
   injection hv' with e1 e2 e3
   rw [e1]
   exact hr
 have HD:Hid (∀ W,Below w.heap.size w W → Calls Tryz.prog 183 #[.slice (some ⟨g2,0,none⟩) qn qc,.int .i64 i,.int .i64 ((i:Int) + 1)] W fun e w'=>e = .returned (.slice (some ⟨g2,0,none⟩) (qn - 1) qc)∧Hid (DelOf W w' (.slice (some ⟨g2,0,none⟩) qn qc) (.slice (some ⟨g2,0,none⟩) (qn - 1) qc) (qn - 1) (Q.eraseIdx i))):=fun W hW=>by
  obtain ⟨a1,a2,a3,a4,a5⟩:=HQ2.out
  have hg:=(hW.block _ (blk_lt a1)).trans a1
  refine (del_O W g2 qn qc i cur.toList (by rw [Array.toArray_toList];exact hg) (by simpa using a4) a2 hil a3 (by rw [a5];exact ol_one Q)).mono ?_
  rintro e w' ⟨rfl,h⟩
  exact ⟨rfl,Lib.hid (del_of hqn hil hg a2 a3 a4 a5 h.out)⟩
 have hlk:=fun q W (hW:Below w.heap.size w W)=>look_side ((HH.out.below (hW.trans (below_drewN ((Below.refl _ _).mono hW.size) q))).mp m rfl) HH.out.t1 HH.out.t2 o.side hwf
 rw [hv] at hlk
 have HLQ:=Lib.hid hlk
 have HV:=Lib.hid (And.intro hv (And.intro hqv (And.intro hqn hmem)))
 have HK:=Lib.hid (And.intro hkl hp)
 obtain ⟨n1,hn1⟩:∃ n1,qn - 1 = n1:=⟨_,rfl⟩
 rw [hn1] at HD ⊢
 have hn10:¬ ((n1:Int) = 0):=by omega
 have HN1:=Lib.hid hn1
 have H2N:=Lib.hid h2
 clear hn1 h2
 have HC:Hid ((rl R)[k * 2 + 1]? = some (.slice (some ⟨g2,0,none⟩) qn qc)):=by
  have:=rl_get R k 1 hkl (by omega)
  rw [this,← hqv,← hVd]
  rfl
 clear H hs hn hwf hmem hgl hg2 hlk hqm0 hk hi hq
 obtain ⟨W0,hW0⟩:∃ W0,w.alloc (.cells (OC ⟨0,0,0,0,0,0⟩) 38) = W0:=⟨_,rfl⟩
 have HB0:Hid (Below w.heap.size w W0):=by rw [← hW0];exact (Below.refl _ _).alloc (Nat.le_refl _) _
 have HC0:Hid (Cl 38 W0 w.heap.size (OC ⟨0,0,0,0,0,0⟩)):=by rw [← hW0];exact hd_last rfl
 obtain ⟨rb,hrb⟩:∃ rb,w.heap.size = rb:=⟨_,rfl⟩
 go_enter Tryz.func176,Tryz.ntmps176
 go_wp2_with ((with_reducible refine (HGet.out _ HB0.out).mono ?_);rintro e w1 ⟨rfl,hb1⟩;dsimp only [optV])
 obtain ⟨W1,hW1⟩:∃ W1,w1.alloc (.cells (OC o) 38) = W1:=⟨_,rfl⟩
 have HB1:Hid (Below w.heap.size w W1):=by rw [← hW1];exact (HB0.out.trans (hb1.out.mono HB0.out.size)).alloc (Nat.le_trans HB0.out.size hb1.out.size) _
 have hO1:Cl 38 W1 w1.heap.size (OC o):=by rw [← hW1];exact hd_last rfl
 have hZ1:Cl 38 W1 w.heap.size (OC ⟨0,0,0,0,0,0⟩):=by rw [← hW1];exact hd_prev (blk_lt ((hb1.out.block _ (blk_lt HC0.out)).trans HC0.out)) ((hb1.out.block _ (blk_lt HC0.out)).trans HC0.out)
 have HOB:Hid (w.heap.size < w1.heap.size):=Nat.lt_of_lt_of_le (blk_lt HC0.out) hb1.out.size
 rw [hW1]
 obtain ⟨ob,hob⟩:∃ ob,w1.heap.size = ob:=⟨_,rfl⟩
 rw [hob] at hO1 HOB ⊢
 rw [hrb] at hZ1 HOB
 obtain ⟨x0,x1,x2,x3,x4,x5⟩:=six_of hO1
 have hpc:=(HLK.out W1 HB1.out).1
 have hlk:=fun q=>HLQ.out q W1 HB1.out
 clear hob hW1 hb1 HGet HB0 HC0 hW0
 clear w1 W0
 go_quiet (fail)
 go_wp2_with ((with_reducible refine (HF.out _ (below_drewN HB1.out _)).mono ?_);rintro e w2 ⟨rfl,k2⟩;have HB2:Hid (Below w.heap.size w w2):=(below_drewN HB1.out _).trans (k2.b.mono (below_drewN HB1.out _).size);have hO2:Cl 38 w2 ob (OC o):=Cl.gw (X:=W1.drewN _) hO1 k2;have hZ2:Cl 38 w2 rb (OC ⟨0,0,0,0,0,0⟩):=Cl.gw (X:=W1.drewN _) hZ1 k2;clear x0 x1 x2 x3 x4 x5 hpc hlk)
 clear hO1 hZ1 k2 HB1
 clear W1
 have HO2:Hid (∀ W,Gw w2 W → Cl 38 W ob (OC o)):=fun W hW=>hO2.gw hW
 have HZ2:Hid (∀ W,Gw w2 W → Cl 38 W rb (OC ⟨0,0,0,0,0,0⟩)):=fun W hW=>hZ2.gw hW
 have HBB:Hid (∀ W,Gw w2 W → Below w.heap.size w W):=fun W hW=>HB2.out.trans (hW.b.mono HB2.out.size)
 clear hO2 hZ2
 refine wp_region_held_drew (S:=fun W=>Gw w2 W) (by kernel_rfl) (by exact ⟨(Below.refl _ _).drew,Nat.le_succ _⟩) (fun hHeld=>?_)
 refine tkH 0 ?_ ?_ (by assumption) ?_
 rotate_left
 ·(intro w hSw;(try dsimp only at hSw);go_simp;try with_reducible rfl)
 (try simp only [zz])
 refine tkH 1 ?_ ?_ (by assumption) ?_
 rotate_left
 ·(intro w hSw;(try dsimp only at hSw);go_simp;try with_reducible rfl)
 (try simp only [zz])
 refine tkH 2 ?_ ?_ (by assumption) ?_
 rotate_left
 ·(intro w hSw;(try dsimp only at hSw);go_simp;try with_reducible rfl)
 (try simp only [zz])
 refine tkH 3 ?_ ?_ (by assumption) ?_
 rotate_left
 ·(intro w hSw;have hs:=(HLK.out _ (HBB.out _ hSw)).2.2.2.2;(try dsimp only at hSw);go_simp;try with_reducible rfl)
 (try simp only [zz])
 refine tkH 4 ?_ ?_ (by assumption) ?_
 rotate_left
 ·(intro w hSw;obtain ⟨hs0,hs1,hs2,hs3,hs4,hs5⟩:=six_of (HO2.out _ hSw);(try dsimp only at hSw);go_simp;try with_reducible rfl)
 (try simp only [zz])
 refine rdH 5 (fun K hK=>?_)
 go_simp
 ((with_reducible refine (HP.out _ (HBB.out _ hHeld)).mono ?_);rintro e w3 ⟨rfl,k3⟩)
 refine hK.out _ _ (by exact hHeld.trans k3) (fun hHeld=>?_)
 clear hK K
 (try simp only [zz])
 refine tkH 6 ?_ ?_ (by assumption) ?_
 rotate_left
 ·(intro w hSw;(try dsimp only at hSw);go_simp;try with_reducible rfl)
 (try simp only [zz])
 refine wpAnyH_done (by kernel_rfl) ?_ _
 have HNE:Hid (ob ≠ g∧some ob ≠ (Value.slice (some ⟨g2,0,none⟩) qn qc).ownBlock∧rb ≠ g∧some rb ≠ (Value.slice (some ⟨g2,0,none⟩) qn qc).ownBlock):=by
  have a:=HG.out
  have b:=blk_lt HQ2.out.1
  have c:=HOB.out
  refine ⟨by omega,fun e=>?_,by omega,fun e=>?_⟩ <;> (injection e with e;(try simp only at e);omega)
 have z0:=(HLK.out _ (HBB.out _ hHeld)).2.2.2.2
 go_wp2_with ((with_reducible refine (HD.out _ (HBB.out _ hHeld)).mono ?_);rintro e w5 ⟨rfl,hI⟩;have z5:w5.cell? ⟨g,k * 2 + 1,none⟩ = some (.slice (some ⟨g2,0,none⟩) qn qc):=(own_cell (del_mid (HLK.out _ HB2.out).2.1 (HLK.out _ HB2.out).2.2.1 hHeld hI.out) rfl HC.out).1;have f5:w5.frozen? ⟨g,k * 2 + 1,none⟩ = false:=(own_cell (del_mid (HLK.out _ HB2.out).2.1 (HLK.out _ HB2.out).2.2.1 hHeld hI.out) rfl HC.out).2;have hO6:Cl 38 (w5.setCell ⟨g,k * 2 + 1,none⟩ (.slice (some ⟨g2,0,none⟩) n1 qc)) ob (OC o):=(heap_far (a:=⟨g,k * 2 + 1,none⟩) HNE.out.1).trans ((hI.out.2.1.block _ (blk_lt (HO2.out _ hHeld)) HNE.out.2.1).trans (HO2.out _ hHeld));have hZ6:Cl 38 (w5.setCell ⟨g,k * 2 + 1,none⟩ (.slice (some ⟨g2,0,none⟩) n1 qc)) rb (OC ⟨0,0,0,0,0,0⟩):=(heap_far (a:=⟨g,k * 2 + 1,none⟩) HNE.out.2.2.1).trans ((hI.out.2.1.block _ (blk_lt (HZ2.out _ hHeld)) HNE.out.2.2.2).trans (HZ2.out _ hHeld));have HZ6:=Lib.hid hZ6;have HF6:=Lib.hid (del_fin HK.out.1 HK.out.2 (HLK.out _ HB2.out).2.1 (HLK.out _ HB2.out).2.2.1 HB2.out hHeld hI.out);have c6:(w5.setCell ⟨g,k * 2 + 1,none⟩ (.slice (some ⟨g2,0,none⟩) n1 qc)).cell? ⟨g,k * 2 + 1,none⟩ = some (.slice (some ⟨g2,0,none⟩) n1 qc):=(own_cell (own_setCell (j:=k * 2 + 1) (u:=(.slice (some ⟨g2,0,none⟩) n1 qc)) (del_mid (HLK.out _ HB2.out).2.1 (HLK.out _ HB2.out).2.2.1 hHeld hI.out) rfl) rfl (List.getElem?_set_self (List.getElem?_eq_some_iff.1 HC.out).1)).1;obtain ⟨x0,x1,x2,x3,x4,x5⟩:=six_of hO6;obtain ⟨z0',z1',z2',z3',z4',z5'⟩:=six_of hZ6;have g0:=hZ6.f (k:=0);have g1:=hZ6.f (k:=1);have g2':=hZ6.f (k:=2);have g3:=hZ6.f (k:=3);have g4:=hZ6.f (k:=4);have g5:=hZ6.f (k:=5);clear z0 hI)
 have hf:=put6_cl o HZ6.out
 refine bodyPost_ret (retOt rfl _ _ _ rfl o _ hf _ rfl) rfl ?_
 refine ⟨rfl,.slice (some ⟨g2,0,none⟩) n1 qc,Lib.hid ?_⟩
 rw [HV.out.1,HV.out.2.1]
 obtain ⟨a1,a2,a3⟩:=HF6.out
 have hne:=HNE.out
 refine ⟨own_fr a1 (put6_fr _ rb o) (fun j hj e=>hne.2.2.2 (by rw [← e];exact hj.symm)),own_fr a2 (put6_fr _ rb o) (fun j hj e=>?_),a3.trans (put6_fr _ rb o) (fun j e=>.inr (by omega)),rfl⟩
 injection hj with hj
 exact hne.2.2.1 (by rw [← e,← hj])

def RowDel (W w7:World) (g c:Nat) (R:List Rw) (k:Nat):Prop :=
 w7.ownsRow 0 247 2 (.slice (some ⟨g,0,none⟩) (R.length - 1) c) (R.length - 1) (rl (R.take k ++ R.drop (k + 1)))∧W.grownBy w7 (some g)
theorem rows_of {R:List Rw} (h:∀ r ∈ R,r.v.oneCell' = true):∀ u ∈ rl R,u.oneCell' = true:=by
 intro u hu
 obtain ⟨r,hr,hu⟩:=List.mem_flatMap.1 hu
 exact row_one r u hu (h r hr)
theorem row_del {W:World} {g c k:Nat} {R:List Rw} {x:Rw} (hk:k < R.length) (ho:∀ u ∈ rl (R.take k ++ x :: R.drop (k + 1)),u.oneCell' = true) (h:W.ownsRow 0 247 2 (.slice (some ⟨g,0,none⟩) R.length c) R.length (rl (R.take k ++ x :: R.drop (k + 1)))) :
  Calls Tryz.prog 184 #[.slice (some ⟨g,0,none⟩) R.length c,.int .i64 k,.int .i64 ((k:Int) + 1)] W fun e w'=>e = .returned (.slice (some ⟨g,0,none⟩) (R.length - 1) c)∧Hid (RowDel W w' g c R k):=by
 rcases h.2 with ⟨h0,_⟩ | ⟨g',cap,cur,e,_,h1,h2,h3,h4,h5⟩
 ·cases h0
 injection e with e1 e2 e3
 injection e1 with e1;injection e1 with e1
 subst e1 e3
 have h6:cur.toList.length = c * 2:=by simpa using h4
 refine (del_R W g R.length c k cur.toList (by rw [Array.toArray_toList];exact h1) h6 h2 hk h3 (by rw [h5];exact ho)).mono ?_
 rintro e w' ⟨rfl,hi⟩
 obtain ⟨b1,b2⟩:=delC_take (k:=2) (z:=(#[.int .i64 0,.slice none 0 0]:Array Value).toList) hk h2 h6 rfl h5
 have hl:(R.take k ++ x :: R.drop (k + 1)).length = R.length:=set_len R k hk x
 have e:rl (R.take k ++ R.drop (k + 1)) = (rl (R.take k ++ x :: R.drop (k + 1))).take (k * 2) ++ (rl (R.take k ++ x :: R.drop (k + 1))).drop ((k + 1) * 2):=by
  rw [(rl_take _ k (by omega)).1,(rl_take _ (k + 1) (by omega)).2,← rl_app]
  have lk:(R.take k).length = k:=by rw [List.length_take];omega
  rw [List.take_left' lk,List.drop_append,lk,List.drop_eq_nil_of_le («as»:=R.take k) (by omega),List.nil_append,show k + 1 - k = 1 by omega]
  rfl
 refine ⟨rfl,Lib.hid ⟨⟨?_,.inr ⟨g,c,_,rfl,Nat.zero_le _,hi.out.2,by omega,h3,by rw [List.size_toArray];exact b1,?_⟩⟩,hi.out.1⟩⟩
 ·rw [rl_len,List.length_append,List.length_take,List.length_drop];omega
 ·rw [List.toList_toArray,b2,e]
theorem take_last (p m:Nat) (s1 s2:Sd) (o:Od) (id:Int) (w:World) (H:Bk w (some ⟨p,0,none⟩) (some m) s1 s2) (hwf:(Lit.int .i64 o.side).wf = true)
  (HGet:Hid (∀ W,Below w.heap.size w W → Calls Tryz.prog 172 #[.pointer (some ⟨p,0,none⟩),.int .u64 id] W fun e w'=>e = .returned (.tuple #[optV (some o),.bool true])∧Hid (Below W.heap.size W w')))
  (R:List Rw) (hR:rsOf s1 s2 o.side = R) (hs:R.Pairwise (fun a b=>betN o.side a.pr b.pr = true))
  (hn:R.length≤1000) (k:Nat) (hk:atN o.side o.price R = k) (hkl:k < R.length) (hp:(R[k]!).pr = o.price) (hq:(R[k]!).q.Pairwise (fun x y=>ahdO x y = true)) (hql:(R[k]!).q.length≤1000) (i:Nat) (hi:plN o (R[k]!).q = i) (hil:i < (R[k]!).q.length) (h2:(R[k]!).q.length = 1) :
  Calls Tryz.prog 176 #[.pointer (some ⟨p,0,none⟩),.int .u64 id] w fun e w'=>e = .returned (.tuple #[optV (some o),.bool true])∧∃ v2,Hid (w'.ownsRow 0 247 2 v2 (R.length - 1) (rl (R.take k ++ R.drop (k + 1)))∧w'.ownsMap Tryz.prog 3 RV m 3 ((mapD s1 s2).put (.int .i64 o.side) (.held v2)) ∧
   Fr (fun j=>j = m ∨ (rowsOf s1 s2 o.side).ownBlock = some j ∨ (R[k]!).v.ownBlock = some j) w w'∧v2.ownBlock = (rowsOf s1 s2 o.side).ownBlock):=by
 have mixed:Tryz.prog.follows .mixedOrders = true:=by kernel_rfl
 have hmem:R[k]! ∈ s1.rs ++ s2.rs:=by
  rw [getElem!_pos R k hkl]
  exact rsOf_mem (by rw [hR];exact List.getElem_mem hkl)
 obtain ⟨Q,hQd⟩:∃ Q,(R[k]!).q = Q:=⟨_,rfl⟩
 obtain ⟨V,hVd⟩:∃ V,(R[k]!).v = V:=⟨_,rfl⟩
 rw [hQd] at hq hql hi hil h2
 rw [hVd]
 obtain ⟨qn,hqn⟩:∃ qn,Q.length = qn:=⟨_,rfl⟩
 rw [hqn] at hql hil h2
 have hown0:=H.own o.side
 rw [hR] at hown0
 obtain ⟨g,c,hv,_,_⟩:=row_at hown0 hkl
 clear hown0
 have hqm0:=H.q _ hmem
 rw [hQd,hVd,hqn] at hqm0
 obtain ⟨g2,qc,cur,hqv,hg2⟩:∃ g2 qc cur,V = .slice (some ⟨g2,0,none⟩) qn qc∧w.heap[g2]? = some (.cells cur 38 (0,0))∧qn≤qc∧qc≤maxLen∧cur.size = qc * 6∧cur.toList.take (qn * 6) = ol Q:=by
  rcases hqm0.2 with ⟨_,h0⟩ | ⟨g2,cap,cur,e,_,h1,h2,h3,h4,h5⟩
  ·omega
  ·exact ⟨g2,cap,cur,e,h1,h2,h3,h4,h5⟩
 have hgl:g < w.heap.size:=by
  obtain ⟨A,c',hv',_,hf⟩:=H.rows o.side
  rw [hR] at hv' hf
  rw [hv] at hv'
  injection hv' with e1 e2 e3
  exact H.lt (hf g e1.symm (by omega))
 have HH:=Lib.hid H
 have HG:=Lib.hid hgl
 have HQ2:=Lib.hid hg2
 have HLK:Hid (∀ W,Below w.heap.size w W → (W.cell? ⟨p,0,none⟩ = some (.map (some m)))∧W.ownsRow 0 247 2 (.slice (some ⟨g,0,none⟩) R.length c) R.length (rl R)∧W.ownsRow 0 38 6 (.slice (some ⟨g2,0,none⟩) qn qc) qn (ol Q)∧W.cell? ⟨g,k * 2,none⟩ = some (.int .i64 o.price)∧W.cell? ⟨g,k * 2 + 1,none⟩ = some (.slice (some ⟨g2,0,none⟩) qn qc)):=fun W hW=>by
  have hB:=HH.out.below hW
  have hown:=hB.own o.side
  rw [hR] at hown
  obtain ⟨g',c',hv',hc1,hc2⟩:=row_at hown hkl
  rw [hv] at hv' hown
  injection hv' with e1 e2 e3
  injection e1 with e1;injection e1 with e1
  subst e1
  have hqm:=hB.q _ hmem
  rw [hQd,hVd,hqv,hqn] at hqm
  refine ⟨?_,hown,hqm,by rw [hc1,hp],by rw [hc2,hVd,hqv]⟩
  rcases hB.shape with ⟨h,_⟩ | ⟨pp,hb,hp⟩
  ·cases h
  ·injection hb with hb'
   injection hb' with hb''
   subst hb''
   rw [cell_of_row _ _ _ _ _ _ hp];rfl
 have HF:Hid (∀ W,Below w.heap.size w W → Calls Tryz.prog 181 #[.slice (some ⟨g,0,none⟩) R.length c,.int .i64 o.side,.int .i64 o.price] W fun e w'=>e = .returned (.tuple #[.int .i64 (k:Nat),.bool true])∧Gw W w'):=fun W hW=>by
  have:=find_c (some ⟨g,0,none⟩) R.length c R o.side o.price W ?_ hs hn
  ·rw [hk,decide_eq_true hkl,hp] at this
   simpa using this
  ·obtain ⟨A,c',hv',hr⟩:=own_rows (HLK.out W hW).2.1
   injection hv' with e1 e2 e3
   rw [e1]
   exact hr
 have HP:Hid (∀ W,Below w.heap.size w W → Calls Tryz.prog 182 #[.slice (some ⟨g2,0,none⟩) qn qc,.agg #[.int .u64 o.id,.int .i64 o.acc,.int .i64 o.side,.int .i64 o.price,.int .i64 o.qty,.int .u64 o.seq]] W fun e w'=>e = .returned (.int .i64 (i:Nat))∧Gw W w'):=fun W hW=>by
  have:=place_c (some ⟨g2,0,none⟩) qn qc Q o W ?_ hq hql
  ·rw [hi] at this;exact this
  ·obtain ⟨A,c',hv',hr⟩:=own_que (HLK.out W hW).2.2.1
   injection hv' with e1 e2 e3
   rw [e1]
   exact hr
 have HD:Hid (∀ W,Below w.heap.size w W → Calls Tryz.prog 183 #[.slice (some ⟨g2,0,none⟩) qn qc,.int .i64 i,.int .i64 ((i:Int) + 1)] W fun e w'=>e = .returned (.slice (some ⟨g2,0,none⟩) (qn - 1) qc)∧Hid (DelOf W w' (.slice (some ⟨g2,0,none⟩) qn qc) (.slice (some ⟨g2,0,none⟩) (qn - 1) qc) (qn - 1) (Q.eraseIdx i))):=fun W hW=>by
  obtain ⟨a1,a2,a3,a4,a5⟩:=HQ2.out
  have hg:=(hW.block _ (blk_lt a1)).trans a1
  refine (del_O W g2 qn qc i cur.toList (by rw [Array.toArray_toList];exact hg) (by simpa using a4) a2 hil a3 (by rw [a5];exact ol_one Q)).mono ?_
  rintro e w' ⟨rfl,h⟩
  exact ⟨rfl,Lib.hid (del_of hqn hil hg a2 a3 a4 a5 h.out)⟩
 have hlk:=fun q W (hW:Below w.heap.size w W)=>look_side ((HH.out.below (hW.trans (below_drewN ((Below.refl _ _).mono hW.size) q))).mp m rfl) HH.out.t1 HH.out.t2 o.side hwf
 rw [hv] at hlk
 have HLQ:=Lib.hid hlk
 have HV:=Lib.hid (And.intro hv (And.intro hqv (And.intro hqn hmem)))
 have HK:=Lib.hid (And.intro hkl hp)
 obtain ⟨n1,hn1⟩:∃ n1,qn - 1 = n1:=⟨_,rfl⟩
 obtain rfl:n1 = 0:=by omega
 rw [hn1] at HD
 have HWF:=Lib.hid hwf
 have HRN:=Lib.hid hn
 clear hn1 h2
 have HC:Hid ((rl R)[k * 2 + 1]? = some (.slice (some ⟨g2,0,none⟩) qn qc)):=by
  have:=rl_get R k 1 hkl (by omega)
  rw [this,← hqv,← hVd]
  rfl
 clear H hs hn hwf hmem hgl hg2 hlk hqm0 hk hi hq
 obtain ⟨W0,hW0⟩:∃ W0,w.alloc (.cells (OC ⟨0,0,0,0,0,0⟩) 38) = W0:=⟨_,rfl⟩
 have HB0:Hid (Below w.heap.size w W0):=by rw [← hW0];exact (Below.refl _ _).alloc (Nat.le_refl _) _
 have HC0:Hid (Cl 38 W0 w.heap.size (OC ⟨0,0,0,0,0,0⟩)):=by rw [← hW0];exact hd_last rfl
 obtain ⟨rb,hrb⟩:∃ rb,w.heap.size = rb:=⟨_,rfl⟩
 go_enter Tryz.func176,Tryz.ntmps176
 go_wp2_with ((with_reducible refine (HGet.out _ HB0.out).mono ?_);rintro e w1 ⟨rfl,hb1⟩;dsimp only [optV])
 obtain ⟨W1,hW1⟩:∃ W1,w1.alloc (.cells (OC o) 38) = W1:=⟨_,rfl⟩
 have HB1:Hid (Below w.heap.size w W1):=by rw [← hW1];exact (HB0.out.trans (hb1.out.mono HB0.out.size)).alloc (Nat.le_trans HB0.out.size hb1.out.size) _
 have hO1:Cl 38 W1 w1.heap.size (OC o):=by rw [← hW1];exact hd_last rfl
 have hZ1:Cl 38 W1 w.heap.size (OC ⟨0,0,0,0,0,0⟩):=by rw [← hW1];exact hd_prev (blk_lt ((hb1.out.block _ (blk_lt HC0.out)).trans HC0.out)) ((hb1.out.block _ (blk_lt HC0.out)).trans HC0.out)
 have HOB:Hid (w.heap.size < w1.heap.size):=Nat.lt_of_lt_of_le (blk_lt HC0.out) hb1.out.size
 rw [hW1]
 obtain ⟨ob,hob⟩:∃ ob,w1.heap.size = ob:=⟨_,rfl⟩
 rw [hob] at hO1 HOB ⊢
 rw [hrb] at hZ1 HOB
 obtain ⟨x0,x1,x2,x3,x4,x5⟩:=six_of hO1
 have hpc:=(HLK.out W1 HB1.out).1
 have hlk:=fun q=>HLQ.out q W1 HB1.out
 clear hob hW1 hb1 HGet HB0 HC0 hW0
 clear w1 W0
 go_quiet (fail)
 go_wp2_with ((with_reducible refine (HF.out _ (below_drewN HB1.out _)).mono ?_);rintro e w2 ⟨rfl,k2⟩;have HB2:Hid (Below w.heap.size w w2):=(below_drewN HB1.out _).trans (k2.b.mono (below_drewN HB1.out _).size);have hO2:Cl 38 w2 ob (OC o):=Cl.gw (X:=W1.drewN _) hO1 k2;have hZ2:Cl 38 w2 rb (OC ⟨0,0,0,0,0,0⟩):=Cl.gw (X:=W1.drewN _) hZ1 k2;clear x0 x1 x2 x3 x4 x5 hpc hlk)
 clear hO1 hZ1 k2 HB1
 clear W1
 have HO2:Hid (∀ W,Gw w2 W → Cl 38 W ob (OC o)):=fun W hW=>hO2.gw hW
 have HZ2:Hid (∀ W,Gw w2 W → Cl 38 W rb (OC ⟨0,0,0,0,0,0⟩)):=fun W hW=>hZ2.gw hW
 have HBB:Hid (∀ W,Gw w2 W → Below w.heap.size w W):=fun W hW=>HB2.out.trans (hW.b.mono HB2.out.size)
 clear hO2 hZ2
 refine wp_region_held_drew (S:=fun W=>Gw w2 W) (by kernel_rfl) (by exact ⟨(Below.refl _ _).drew,Nat.le_succ _⟩) (fun hHeld=>?_)
 refine tkH 0 ?_ ?_ (by assumption) ?_
 rotate_left
 ·(intro w hSw;(try dsimp only at hSw);go_simp;try with_reducible rfl)
 (try simp only [zz])
 refine tkH 1 ?_ ?_ (by assumption) ?_
 rotate_left
 ·(intro w hSw;(try dsimp only at hSw);go_simp;try with_reducible rfl)
 (try simp only [zz])
 refine tkH 2 ?_ ?_ (by assumption) ?_
 rotate_left
 ·(intro w hSw;(try dsimp only at hSw);go_simp;try with_reducible rfl)
 (try simp only [zz])
 refine tkH 3 ?_ ?_ (by assumption) ?_
 rotate_left
 ·(intro w hSw;have hs:=(HLK.out _ (HBB.out _ hSw)).2.2.2.2;(try dsimp only at hSw);go_simp;try with_reducible rfl)
 (try simp only [zz])
 refine tkH 4 ?_ ?_ (by assumption) ?_
 rotate_left
 ·(intro w hSw;obtain ⟨hs0,hs1,hs2,hs3,hs4,hs5⟩:=six_of (HO2.out _ hSw);(try dsimp only at hSw);go_simp;try with_reducible rfl)
 (try simp only [zz])
 refine rdH 5 (fun K hK=>?_)
 go_simp
 ((with_reducible refine (HP.out _ (HBB.out _ hHeld)).mono ?_);rintro e w3 ⟨rfl,k3⟩)
 refine hK.out _ _ (by exact hHeld.trans k3) (fun hHeld=>?_)
 clear hK K
 (try simp only [zz])
 refine tkH 6 ?_ ?_ (by assumption) ?_
 rotate_left
 ·(intro w hSw;(try dsimp only at hSw);go_simp;try with_reducible rfl)
 (try simp only [zz])
 refine wpAnyH_done (by kernel_rfl) ?_ _
 have HNE:Hid (ob ≠ g∧some ob ≠ (Value.slice (some ⟨g2,0,none⟩) qn qc).ownBlock∧rb ≠ g∧some rb ≠ (Value.slice (some ⟨g2,0,none⟩) qn qc).ownBlock):=by
  have a:=HG.out
  have b:=blk_lt HQ2.out.1
  have c:=HOB.out
  refine ⟨by omega,fun e=>?_,by omega,fun e=>?_⟩ <;> (injection e with e;(try simp only at e);omega)
 have z0:=(HLK.out _ (HBB.out _ hHeld)).2.2.2.2
 go_wp2_with ((with_reducible refine (HD.out _ (HBB.out _ hHeld)).mono ?_);rintro e w5 ⟨rfl,hI⟩;have z5:w5.cell? ⟨g,k * 2 + 1,none⟩ = some (.slice (some ⟨g2,0,none⟩) qn qc):=(own_cell (del_mid (HLK.out _ HB2.out).2.1 (HLK.out _ HB2.out).2.2.1 hHeld hI.out) rfl HC.out).1;have f5:w5.frozen? ⟨g,k * 2 + 1,none⟩ = false:=(own_cell (del_mid (HLK.out _ HB2.out).2.1 (HLK.out _ HB2.out).2.2.1 hHeld hI.out) rfl HC.out).2;have hO6:Cl 38 (w5.setCell ⟨g,k * 2 + 1,none⟩ (.slice (some ⟨g2,0,none⟩) 0 qc)) ob (OC o):=(heap_far (a:=⟨g,k * 2 + 1,none⟩) HNE.out.1).trans ((hI.out.2.1.block _ (blk_lt (HO2.out _ hHeld)) HNE.out.2.1).trans (HO2.out _ hHeld));have hZ6:Cl 38 (w5.setCell ⟨g,k * 2 + 1,none⟩ (.slice (some ⟨g2,0,none⟩) 0 qc)) rb (OC ⟨0,0,0,0,0,0⟩):=(heap_far (a:=⟨g,k * 2 + 1,none⟩) HNE.out.2.2.1).trans ((hI.out.2.1.block _ (blk_lt (HZ2.out _ hHeld)) HNE.out.2.2.2).trans (HZ2.out _ hHeld));have HZ6:=Lib.hid hZ6;have HF6:=Lib.hid (del_fin HK.out.1 HK.out.2 (HLK.out _ HB2.out).2.1 (HLK.out _ HB2.out).2.2.1 HB2.out hHeld hI.out);have c6:(w5.setCell ⟨g,k * 2 + 1,none⟩ (.slice (some ⟨g2,0,none⟩) 0 qc)).cell? ⟨g,k * 2 + 1,none⟩ = some (.slice (some ⟨g2,0,none⟩) 0 qc):=(own_cell (own_setCell (j:=k * 2 + 1) (u:=(.slice (some ⟨g2,0,none⟩) 0 qc)) (del_mid (HLK.out _ HB2.out).2.1 (HLK.out _ HB2.out).2.2.1 hHeld hI.out) rfl) rfl (List.getElem?_set_self (List.getElem?_eq_some_iff.1 HC.out).1)).1;clear z0 hI)
 obtain ⟨W6,hW6⟩:∃ W6,w5.setCell ⟨g,k * 2 + 1,none⟩ (.slice (some ⟨g2,0,none⟩) 0 qc) = W6:=⟨_,rfl⟩
 rw [hW6] at hO6 HZ6 HF6 c6 ⊢
 have HPg:p ≠ g∧W6.cell? ⟨p,0,none⟩ = some (.map (some m)):=by
  rcases HH.out.shape with ⟨h,_⟩ | ⟨pp,hb,hp⟩
  ·cases h
  ·injection hb with hb'
   injection hb' with hb''
   subst hb''
   have hw:=HLK.out w (Below.refl _ _)
   refine ⟨fun e=>own_ne hw.2.1 hp (by decide) (by rw [e];rfl),?_⟩
   have:=HF6.out.2.2.blk hp (fun h=>by
    rcases h with h | h
    ·exact own_ne hw.2.1 hp (by decide) h
    ·exact own_ne hw.2.2.1 hp (by decide) h)
   rw [cell_of_row _ _ _ _ _ _ this];rfl
 have HPG:=Lib.hid HPg.1
 have hp6:=HPg.2
 have HM6:Hid (W6.drew.ownsMap Tryz.prog 3 RV m 2 (mapD s1 s2)∧m ≠ g):=by
  have hw:=HLK.out w (Below.refl _ _)
  have hm:=HH.out.mp m rfl
  obtain ⟨c1,h1⟩:=own_blk hw.2.1 rfl
  obtain ⟨c2,h2⟩:=own_blk hw.2.2.1 rfl
  refine ⟨(ownsMap_fr hm HF6.out.2.2 (fun h=>?_)).drew,fun e=>map_ne hm h1 e.symm⟩
  rcases h with h | h
  ·exact map_ne hm h1 (Option.some.inj h)
  ·exact map_ne hm h2 (Option.some.inj h)
 have HOne:∀ u ∈ rl (R.take k ++ (⟨o.price,(.slice (some ⟨g2,0,none⟩) 0 qc),Q.eraseIdx i⟩:Rw) :: R.drop (k + 1)),u.oneCell' = true:=rows_of (fun r hr=>by
  have key:∀ r ∈ R,r.v.oneCell' = true:=fun r hr=>by
   obtain ⟨A,c',hv,_⟩:=own_que2 (HH.out.q r (rsOf_mem (by rw [hR];exact hr)))
   rw [hv];rfl
  rcases List.mem_append.1 hr with hr | hr
  ·exact key r (List.mem_of_mem_take hr)
  ·rcases List.mem_cons.1 hr with rfl | hr
   ·rfl
   ·exact key r (List.mem_of_mem_drop hr))
 have HDR:=Lib.hid (row_del HK.out.1 HOne (show W6.drew.ownsRow _ _ _ _ _ _ from HF6.out.2.1))
 have hkw:IntKind.i64.wrap ((k:Int) + 1) = (k:Int) + 1:=by
  rw [IntKind.wrap_i64]
  have h1:=HK.out.1
  have h2:=HRN.out
  omega
 clear HPg hW6 c6 HOne
 refine wp_region_held_drew (S:=fun W=>Cl 38 W ob (OC o)∧W.cell? ⟨p,0,none⟩ = some (.map (some m))) (by kernel_rfl) (by exact ⟨hd_drew hO6,hp6⟩) (fun hHeld=>?_)
 refine tkH 0 ?_ ?_ (by assumption) ?_
 rotate_left
 ·(intro w hSw;(try dsimp only at hSw);go_simp;try with_reducible rfl)
 (try simp only [zz])
 refine tkH 1 ?_ ?_ (by assumption) ?_
 rotate_left
 ·(intro w hSw;(try dsimp only at hSw);go_simp;try with_reducible rfl)
 (try simp only [zz])
 refine tkH 2 ?_ ?_ (by assumption) ?_
 rotate_left
 ·(intro w hSw;(try dsimp only at hSw);go_simp;try with_reducible rfl)
 (try simp only [zz])
 refine tkH 3 ?_ ?_ (by assumption) ?_
 rotate_left
 ·(intro w hSw;have hs:=hSw.2;(try dsimp only at hSw);go_simp;try with_reducible rfl)
 (try simp only [zz])
 refine tkH 4 ?_ ?_ (by assumption) ?_
 rotate_left
 ·(intro w hSw;(try dsimp only at hSw);go_simp;try with_reducible rfl)
 (try simp only [zz])
 refine tkH 5 ?_ ?_ (by assumption) ?_
 rotate_left
 ·(intro w hSw;obtain ⟨hs0,hs1,hs2,hs3,hs4,hs5⟩:=six_of hSw.1;(try dsimp only at hSw);go_simp;try with_reducible rfl)
 (try simp only [zz])
 refine tkH 6 ?_ ?_ (by assumption) ?_
 rotate_left
 ·(intro w hSw;(try dsimp only at hSw);go_simp;try with_reducible rfl)
 (try simp only [zz])
 refine tkH 7 ?_ ?_ (by assumption) ?_
 rotate_left
 ·(intro w hSw;(try dsimp only at hSw);go_simp;try with_reducible rfl)
 (try simp only [zz])
 refine tkH 8 ?_ ?_ (by assumption) ?_
 rotate_left
 ·(intro w hSw;(try dsimp only at hSw);go_simp;try with_reducible rfl)
 (try simp only [zz])
 refine tkH 9 ?_ ?_ (by assumption) ?_
 rotate_left
 ·(intro w hSw;(try dsimp only at hSw);go_simp;try with_reducible rfl)
 (try simp only [zz])
 refine rdH 10 (fun K hK=>?_)
 go_simp
 ((with_reducible refine (HDR.out).mono ?_);rintro e w7 ⟨rfl,h7⟩)
 have hO7:Cl 38 w7 ob (OC o):=(h7.out.2.block _ (blk_lt hHeld.1) (fun e=>HNE.out.1 (Option.some.inj e))).trans hHeld.1
 have hp7:w7.cell? ⟨p,0,none⟩ = some (.map (some m)):=(World.cell?_of_block (w:=W6.drew) (a:=⟨p,0,none⟩) (h7.out.2.block p (World.block_lt_of_cell? W6.drew ⟨p,0,none⟩ hHeld.2) (fun e=>HPG.out (Option.some.inj e)))).trans hHeld.2
 have hm7:w7.ownsMap Tryz.prog 3 RV m 2 (mapD s1 s2):=by
  obtain ⟨es,clock,hb,F,hs,hD⟩:=HM6.out.1
  exact ⟨es,clock,(h7.out.2.block m (blk_lt hb) (fun e=>HM6.out.2 (Option.some.inj e))).trans hb,F,hs,hD⟩
 obtain ⟨w8,hrun,hown8,hturn⟩:=hm7.store keyI Tryz.underlying130 (by decide) (keyOf_int_mk Tryz.underlying3 HWF.out) (show RV (.slice (some ⟨g,0,none⟩) (R.length - 1) c) = some (.held (.slice (some ⟨g,0,none⟩) (R.length - 1) c),[]) from rfl)
 have HT:=Lib.hid (And.intro hown8 hturn)
 clear hown8 hturn hm7
 refine hK.out _ _ (by exact ⟨hO7,hp7⟩) (fun hHeld=>?_)
 clear hK K
 (try simp only [zz])
 refine rdH 11 (fun K hK=>?_)
 go_simp
 refine hK.out _ _ (by exact ⟨turn_keep HT.out.2 hHeld.1,turn_cell HT.out.2 hHeld.2⟩) (fun hHeld=>?_)
 clear hK K
 (try simp only [zz])
 refine wpAnyH_done (by kernel_rfl) ?_ _
 have hO8:Cl 38 w8 ob (OC o):=hHeld.1
 have hZ8:Cl 38 w8 rb (OC ⟨0,0,0,0,0,0⟩):=turn_keep HT.out.2 ((h7.out.2.block _ (blk_lt HZ6.out) (fun e=>HNE.out.2.2.1 (Option.some.inj e))).trans HZ6.out)
 have HZ8:=Lib.hid hZ8
 have HB8:Hid (Fr (fun j=>j = m ∨ (Value.slice (some ⟨g,0,none⟩) R.length c).ownBlock = some j ∨ (Value.slice (some ⟨g2,0,none⟩) qn qc).ownBlock = some j) w w8):=by
  have f1:Fr (fun j=>j = m ∨ (Value.slice (some ⟨g,0,none⟩) R.length c).ownBlock = some j ∨ (Value.slice (some ⟨g2,0,none⟩) qn qc).ownBlock = some j) w W6.drew:=(HF6.out.2.2.mono (fun j h=>.inl (.inr h))).drew
  exact (f1.grown h7.out.2 (fun j e=>.inl (.inr (.inl e)))).grown HT.out.2.grown (fun j e=>.inl (.inl (Option.some.inj e).symm))
 obtain ⟨x0,x1,x2,x3,x4,x5⟩:=six_of hO8
 obtain ⟨z0',z1',z2',z3',z4',z5'⟩:=six_of hZ8
 have g0:=hZ8.f (k:=0)
 have g1:=hZ8.f (k:=1)
 have g2':=hZ8.f (k:=2)
 have g3:=hZ8.f (k:=3)
 have g4:=hZ8.f (k:=4)
 have g5:=hZ8.f (k:=5)
 clear hO8 hZ8 hHeld hp7 hO7 hrun hp6 hO6 z5 f5
 go_wp2_with fail
 have hf:=put6_cl o HZ8.out
 refine bodyPost_ret (retOt rfl _ _ _ rfl o _ hf _ rfl) rfl ?_
 refine ⟨rfl,.slice (some ⟨g,0,none⟩) (R.length - 1) c,Lib.hid ?_⟩
 (try rw [HV.out.1])
 (try rw [HV.out.2.1])
 have hne:=HNE.out
 refine ⟨own_fr (own_turn HT.out.2 h7.out.1) (put6_fr _ rb o) (fun j hj e=>?_),ownsMap_fr HT.out.1 (put6_fr _ rb o) (fun e=>?_),HB8.out.trans (put6_fr _ rb o) (fun j e=>.inr (by omega)),rfl⟩
 ·injection hj with hj
  exact hne.2.2.1 (by rw [← e,← hj])
 ·exact map_ne HT.out.1 HZ8.out e.symm

structure TurnIs (w w':World) (p m:Nat) (s1 s2 s1' s2':Sd):Prop where
 wh:Whole w' p m s1' s2'
 fr:Fr (foot (some ⟨p,0,none⟩) (some m) s1 s2) w w'
 ft:∀ k,foot (some ⟨p,0,none⟩) (some m) s1' s2' k → foot (some ⟨p,0,none⟩) (some m) s1 s2 k ∨ w.heap.size≤k
structure TakeIs (w w':World) (p m:Nat) (s1 s2 s1' s2':Sd) (o:Od):Prop where
 tu:TurnIs w w' p m s1 s2 s1' s2'
 perm:(bookL s1.rs s2.rs).Perm (o :: bookL s1'.rs s2'.rs)
 e2:o.side = 1 → s2' = s2
 e1:o.side = 2 → s1' = s1
theorem ahd_irr (x:Od):ahdO x x = false:=by
 cases h:ahdO x x with
 | false=>rfl
 | true=>have:=lt_of_ahd h;rw [lt_irr] at this;cases this
theorem bet_irr (s a:Int):betN s a a = false:=by
 cases h:betN s a a with
 | false=>rfl
 | true=>have:=(bet_iff s a a).1 h;omega
theorem que_place {o:Od} {q:List Od} (hp:q.Pairwise (fun x y=>ahdO x y = true)) (ho:o ∈ q):plN o q < q.length∧q[plN o q]! = o:=by
 obtain ⟨h1,h2⟩:=split_pw (fun x=>ahdO x o) q (que_mono hp)
 have hd:o ∈ q.drop (plN o q):=by
  have:=ho
  rw [← List.take_append_drop (plN o q) q] at this
  rcases List.mem_append.1 this with h | h
  ·have h':ahdO o o = true:=h1 o h
   rw [ahd_irr] at h';cases h'
  ·exact h
 cases e:q.drop (plN o q) with
 | nil=>rw [e] at hd;cases hd
 | cons y rest =>
  have hlt:plN o q < q.length:=by
   rcases Nat.lt_or_ge (plN o q) q.length with h | h
   ·exact h
   ·rw [List.drop_eq_nil_of_le h] at e;cases e
  refine ⟨hlt,?_⟩
  have hy:q[plN o q]! = y:=by
   rw [getElem!_pos q _ hlt]
   have:=List.drop_eq_getElem_cons hlt
   rw [e] at this
   injection this with a _
   exact a.symm
  rw [hy]
  rw [e] at hd
  rcases List.mem_cons.1 hd with h | h
  ·exact h.symm
  ·exfalso
   have hpd:(q.drop (plN o q)).Pairwise (fun x y=>ahdO x y = true):=List.Pairwise.sublist (List.drop_sublist _ _) hp
   rw [e,List.pairwise_cons] at hpd
   have a:=hpd.1 o h
   have b:ahdO y o = false:=h2 y (by show y ∈ q.drop (plN o q);rw [e];exact List.mem_cons_self)
   rw [a] at b;cases b
theorem row_place {s:Int} {o:Od} {R:List Rw} (hs:s = 1 ∨ s = 2) (h:SideOk s R) (ho:o ∈ flatR R):atN s o.price R < R.length∧(R[atN s o.price R]!).pr = o.price∧o ∈ (R[atN s o.price R]!).q:=by
 obtain ⟨r,hr,hor⟩:=List.mem_flatMap.1 ho
 have hp:r.pr = o.price:=(h.mem r hr o hor).2.symm
 obtain ⟨h1,h2,h3,h4⟩:=row_split (p:=o.price) hs h.rows
 have hd:r ∈ R.drop (atN s o.price R):=by
  have:=hr
  rw [← List.take_append_drop (atN s o.price R) R] at this
  rcases List.mem_append.1 this with h' | h'
  ·have h'':=h1 r h'
   rw [hp,bet_irr] at h'';cases h''
  ·exact h'
 cases e:R.drop (atN s o.price R) with
 | nil=>rw [e] at hd;cases hd
 | cons y rest =>
  have hlt:atN s o.price R < R.length:=by
   rcases Nat.lt_or_ge (atN s o.price R) R.length with h' | h'
   ·exact h'
   ·rw [List.drop_eq_nil_of_le h'] at e;cases e
  have hy:R[atN s o.price R]! = y:=by
   rw [getElem!_pos R _ hlt]
   have:=List.drop_eq_getElem_cons hlt
   rw [e] at this
   injection this with a _
   exact a.symm
  rw [hy]
  rw [e] at hd
  have hry:r = y:=by
   by_cases hyp:y.pr = o.price
   ·rcases List.mem_cons.1 hd with h' | h'
    ·exact h'
    ·have:=h4 y rest e hyp r h'
     rw [hp,bet_irr] at this;cases this
   ·have:=h3 y rest e hyp r hd
    rw [hp,bet_irr] at this;cases this
  rw [← hry]
  exact ⟨hlt,hp,hor⟩
theorem era_perm {q:List Od} {i:Nat} {o:Od} (h:i < q.length) (e:q[i]! = o):q.Perm (o :: q.eraseIdx i):=by
 rw [getElem!_pos q i h] at e
 have h1:q = q.take i ++ o :: q.drop (i + 1):=by
  rw [← e,← List.drop_eq_getElem_cons h,List.take_append_drop]
 rw [List.eraseIdx_eq_take_drop_succ]
 conv=>lhs;rw [h1]
 exact List.perm_middle
theorem ids_inj:∀ {L:List Od},L.Pairwise (fun x y=>¬ x.id = y.id) → ∀ {x y:Od},x ∈ L → y ∈ L → x.id = y.id → x = y
 | [],_,_,_,hx,_,_=>by cases hx
 | a :: L,h,x,y,hx,hy,e=>by
  rw [List.pairwise_cons] at h
  rcases List.mem_cons.1 hx with rfl | hx'
  ·rcases List.mem_cons.1 hy with rfl | hy'
   ·rfl
   ·exact absurd e (h.1 y hy')
  ·rcases List.mem_cons.1 hy with rfl | hy'
   ·exact absurd e.symm (h.1 x hx')
   ·exact ids_inj h.2 hx' hy' e
theorem flat_take {A B M X:List Rw} {o:Od} (h:(flatR M).Perm (o :: flatR X)):(flatR (A ++ M ++ B)).Perm (o :: flatR (A ++ X ++ B)):=by
 have e:∀ Y:List Rw,flatR (A ++ Y ++ B) = flatR A ++ flatR Y ++ flatR B:=fun Y=>by unfold flatR;rw [List.flatMap_append,List.flatMap_append]
 rw [e,e]
 refine ((h.append_left _).append_right _).trans ?_
 rw [List.append_assoc,List.cons_append]
 refine List.perm_middle.trans ?_
 rw [List.append_assoc]
theorem turn_side1 {w w':World} {p m:Nat} {s1 s2:Sd} {A B M X:List Rw} {v2:Value} (H:Whole w p m s1 s2)
  (hR:s1.rs = A ++ M ++ B) (hX:Swap w.heap.size M X) (hv2:v2.ownBlock = s1.v.ownBlock ∨ ∃ j,v2.ownBlock = some j∧w.heap.size≤j)
  (hx:∀ r ∈ X,w'.ownsRow 0 38 6 r.v r.q.length (ol r.q)) (hr:w'.ownsRow 0 247 2 v2 (A ++ X ++ B).length (rl (A ++ X ++ B))) (hm:w'.ownsMap Tryz.prog 3 RV m 2 (mapD ⟨true,v2,A ++ X ++ B⟩ s2)) (hF:Fr (TurnS m s1.v M) w w')
  (c1:SideOk 1 (A ++ X ++ B)) (hids:(bookL (A ++ X ++ B) s2.rs).Pairwise (fun x y=>¬ x.id = y.id)) (hlen:(bookL (A ++ X ++ B) s2.rs).length≤64) (hgood:∀ x ∈ bookL (A ++ X ++ B) s2.rs,Od.ok w x∧goodO x = true):TurnIs w w' p m s1 s2 ⟨true,v2,A ++ X ++ B⟩ s2:=by
 obtain ⟨b1,b2,b3⟩:=swap1 H hR hX hv2 hx hr hm hF
 refine ⟨⟨b1,c1,H.ok2,b2,b3,hids,hlen,hgood⟩,?_,?_⟩
 ·refine hF.mono (fun k hk=>.inl ?_)
  rcases hk with rfl | e | ⟨r,hr,e⟩
  ·exact .inr (.inl rfl)
  ·exact .inr (.inr (.inl e))
  ·exact .inr (.inr (.inr (.inr ⟨r,List.mem_append_left _ (by rw [hR];simp [hr]),e⟩)))
 ·intro k hk
  have hn:∀ u:Value,(u.ownBlock = s1.v.ownBlock ∨ ∃ j,u.ownBlock = some j∧w.heap.size≤j) → u.ownBlock = some k → foot (some ⟨p,0,none⟩) (some m) s1 s2 k ∨ w.heap.size≤k:=by
   intro u hu e
   rcases hu with e' | ⟨j,e',hj⟩
   ·rw [e'] at e;exact .inl (.inr (.inr (.inl e)))
   ·rw [e'] at e;injection e with e;exact .inr (by omega)
  rcases hk with e | e | e | e | ⟨r,hr,e⟩
  ·exact .inl (.inl e)
  ·exact .inl (.inr (.inl e))
  ·exact hn v2 hv2 e
  ·exact .inl (.inr (.inr (.inr (.inl e))))
  ·have hr':r ∈ X ∨ r ∈ s1.rs ++ s2.rs:=by
    have hr2:r ∈ A ++ X ++ B ++ s2.rs:=hr
    rw [hR]
    simp only [List.mem_append] at hr2 ⊢
    rcases hr2 with ((h | h) | h) | h
    ·exact .inr (.inl (.inl (.inl h)))
    ·exact .inl h
    ·exact .inr (.inl (.inr h))
    ·exact .inr (.inr h)
   rcases hr' with h | h
   ·rcases hX.2 with rfl | ⟨x,rfl,hx'⟩
    ·cases h
    ·obtain rfl:=List.mem_singleton.1 h
     rcases hx' with ⟨y,rfl,e'⟩ | ⟨j,e',hj⟩
     ·rw [e'] at e
      exact .inl (.inr (.inr (.inr (.inr ⟨y,List.mem_append_left _ (by rw [hR];simp),e⟩))))
     ·rw [e'] at e;injection e with e;exact .inr (by omega)
   ·exact .inl (.inr (.inr (.inr (.inr ⟨r,h,e⟩))))
theorem take_side1 {w w':World} {p m:Nat} {s1 s2:Sd} {A B M X:List Rw} {v2:Value} {o:Od} (H:Whole w p m s1 s2) (hs:o.side = 1)
  (hR:s1.rs = A ++ M ++ B) (hX:Swap w.heap.size M X) (hv2:v2.ownBlock = s1.v.ownBlock ∨ ∃ j,v2.ownBlock = some j∧w.heap.size≤j)
  (hx:∀ r ∈ X,w'.ownsRow 0 38 6 r.v r.q.length (ol r.q)) (hr:w'.ownsRow 0 247 2 v2 (A ++ X ++ B).length (rl (A ++ X ++ B))) (hm:w'.ownsMap Tryz.prog 3 RV m 2 (mapD ⟨true,v2,A ++ X ++ B⟩ s2)) (hF:Fr (TurnS m s1.v M) w w')
  (c1:SideOk 1 (A ++ X ++ B)) (hP:(flatR M).Perm (o :: flatR X)):TakeIs w w' p m s1 s2 ⟨true,v2,A ++ X ++ B⟩ s2 o:=by
 have hperm:(bookL s1.rs s2.rs).Perm (o :: bookL (A ++ X ++ B) s2.rs):=by
  unfold bookL
  rw [hR]
  exact (flat_take hP).append_right _
 have hids:=List.pairwise_cons.1 (ids_perm hperm.symm H.ids)
 have hl:=hperm.length_eq
 rw [List.length_cons] at hl
 refine ⟨turn_side1 H hR hX hv2 hx hr hm hF c1 hids.2 (by have:=H.len;omega) (fun x hx=>H.ok x (hperm.mem_iff.2 (List.mem_cons_of_mem _ hx))),hperm,fun _=>rfl,(fun h=>by rw [hs] at h;cases h)⟩
theorem turn_side2 {w w':World} {p m:Nat} {s1 s2:Sd} {A B M X:List Rw} {v2:Value} (H:Whole w p m s1 s2)
  (hR:s2.rs = A ++ M ++ B) (hX:Swap w.heap.size M X) (hv2:v2.ownBlock = s2.v.ownBlock ∨ ∃ j,v2.ownBlock = some j∧w.heap.size≤j)
  (hx:∀ r ∈ X,w'.ownsRow 0 38 6 r.v r.q.length (ol r.q)) (hr:w'.ownsRow 0 247 2 v2 (A ++ X ++ B).length (rl (A ++ X ++ B))) (hm:w'.ownsMap Tryz.prog 3 RV m 2 (mapD s1 ⟨true,v2,A ++ X ++ B⟩)) (hF:Fr (TurnS m s2.v M) w w')
  (c1:SideOk 2 (A ++ X ++ B)) (hids:(bookL s1.rs (A ++ X ++ B)).Pairwise (fun x y=>¬ x.id = y.id)) (hlen:(bookL s1.rs (A ++ X ++ B)).length≤64) (hgood:∀ x ∈ bookL s1.rs (A ++ X ++ B),Od.ok w x∧goodO x = true):TurnIs w w' p m s1 s2 s1 ⟨true,v2,A ++ X ++ B⟩:=by
 obtain ⟨b1,b2,b3⟩:=swap2 H hR hX hv2 hx hr hm hF
 refine ⟨⟨b1,H.ok1,c1,b2,b3,hids,hlen,hgood⟩,?_,?_⟩
 ·refine hF.mono (fun k hk=>.inl ?_)
  rcases hk with rfl | e | ⟨r,hr,e⟩
  ·exact .inr (.inl rfl)
  ·exact .inr (.inr (.inr (.inl e)))
  ·exact .inr (.inr (.inr (.inr ⟨r,List.mem_append_right _ (by rw [hR];simp [hr]),e⟩)))
 ·intro k hk
  have hn:∀ u:Value,(u.ownBlock = s2.v.ownBlock ∨ ∃ j,u.ownBlock = some j∧w.heap.size≤j) → u.ownBlock = some k → foot (some ⟨p,0,none⟩) (some m) s1 s2 k ∨ w.heap.size≤k:=by
   intro u hu e
   rcases hu with e' | ⟨j,e',hj⟩
   ·rw [e'] at e;exact .inl (.inr (.inr (.inr (.inl e))))
   ·rw [e'] at e;injection e with e;exact .inr (by omega)
  rcases hk with e | e | e | e | ⟨r,hr,e⟩
  ·exact .inl (.inl e)
  ·exact .inl (.inr (.inl e))
  ·exact .inl (.inr (.inr (.inl e)))
  ·exact hn v2 hv2 e
  ·have hr':r ∈ X ∨ r ∈ s1.rs ++ s2.rs:=by
    have hr2:r ∈ s1.rs ++ (A ++ X ++ B):=hr
    rw [hR]
    simp only [List.mem_append] at hr2 ⊢
    rcases hr2 with h | (h | h) | h
    ·exact .inr (.inl h)
    ·exact .inr (.inr (.inl (.inl h)))
    ·exact .inl h
    ·exact .inr (.inr (.inr h))
   rcases hr' with h | h
   ·rcases hX.2 with rfl | ⟨x,rfl,hx'⟩
    ·cases h
    ·obtain rfl:=List.mem_singleton.1 h
     rcases hx' with ⟨y,rfl,e'⟩ | ⟨j,e',hj⟩
     ·rw [e'] at e
      exact .inl (.inr (.inr (.inr (.inr ⟨y,List.mem_append_right _ (by rw [hR];simp),e⟩))))
     ·rw [e'] at e;injection e with e;exact .inr (by omega)
   ·exact .inl (.inr (.inr (.inr (.inr ⟨r,h,e⟩))))
theorem take_side2 {w w':World} {p m:Nat} {s1 s2:Sd} {A B M X:List Rw} {v2:Value} {o:Od} (H:Whole w p m s1 s2) (hs:o.side = 2)
  (hR:s2.rs = A ++ M ++ B) (hX:Swap w.heap.size M X) (hv2:v2.ownBlock = s2.v.ownBlock ∨ ∃ j,v2.ownBlock = some j∧w.heap.size≤j)
  (hx:∀ r ∈ X,w'.ownsRow 0 38 6 r.v r.q.length (ol r.q)) (hr:w'.ownsRow 0 247 2 v2 (A ++ X ++ B).length (rl (A ++ X ++ B))) (hm:w'.ownsMap Tryz.prog 3 RV m 2 (mapD s1 ⟨true,v2,A ++ X ++ B⟩)) (hF:Fr (TurnS m s2.v M) w w')
  (c1:SideOk 2 (A ++ X ++ B)) (hP:(flatR M).Perm (o :: flatR X)):TakeIs w w' p m s1 s2 s1 ⟨true,v2,A ++ X ++ B⟩ o:=by
 have hperm:(bookL s1.rs s2.rs).Perm (o :: bookL s1.rs (A ++ X ++ B)):=by
  unfold bookL
  rw [hR]
  exact ((flat_take hP).append_left _).trans List.perm_middle
 have hids:=List.pairwise_cons.1 (ids_perm hperm.symm H.ids)
 have hl:=hperm.length_eq
 rw [List.length_cons] at hl
 refine ⟨turn_side2 H hR hX hv2 hx hr hm hF c1 hids.2 (by have:=H.len;omega) (fun x hx=>H.ok x (hperm.mem_iff.2 (List.mem_cons_of_mem _ hx))),hperm,(fun h=>by rw [hs] at h;cases h),fun _=>rfl⟩
theorem take_w1 (p m:Nat) (s1 s2:Sd) (o:Od) (id:Int) (w:World) (H:Whole w p m s1 s2) (ho:o ∈ bookL s1.rs s2.rs) (hid:o.id = id) (hs:o.side = 1) :
  Calls Tryz.prog 176 #[.pointer (some ⟨p,0,none⟩),.int .u64 id] w fun e w'=>e = .returned (.tuple #[optV (some o),.bool true])∧∃ s1' s2',Hid (TakeIs w w' p m s1 s2 s1' s2' o):=by
 have hwf:(Lit.int .i64 o.side).wf = true:=by rw [hs];decide
 have hR:rsOf s1 s2 o.side = s1.rs:=by rw [hs];rfl
 have hv:rowsOf s1 s2 o.side = s1.v:=by rw [hs];rfl
 have hpw:s1.rs.Pairwise (fun a b=>betN o.side a.pr b.pr = true):=by rw [hs];exact H.ok1.rows
 have hn:=H.n1
 have HGet:Hid (∀ W,Below w.heap.size w W → Calls Tryz.prog 172 #[.pointer (some ⟨p,0,none⟩),.int .u64 id] W fun e w'=>e = .returned (.tuple #[optV (some o),.bool true])∧Hid (Below W.heap.size W w')):=fun W hW=>by
  refine (lGet_c _ _ s1 s2 id W (H.bk.below hW) (by omega) (by omega) (by omega)).mono ?_
  rintro e w' ⟨r,rfl,h⟩
  obtain rfl:r = some o:=by
   cases r with
   | none=>exact absurd hid (h.out.1 o ho)
   | some y=>rw [ids_inj H.ids h.out.1.1 ho (h.out.1.2.trans hid.symm)]
  exact ⟨rfl,Lib.hid h.out.2⟩
 have hfl:o ∈ flatR s1.rs:=by
  unfold bookL at ho
  rcases List.mem_append.1 ho with h | h
  ·exact h
  ·have:=flat_side H.ok2 o h;rw [hs] at this;cases this
 obtain ⟨hkl,hp,hoq⟩:=row_place (.inl rfl) H.ok1 hfl
 obtain ⟨k,hk⟩:∃ k,atN 1 o.price s1.rs = k:=⟨_,rfl⟩
 rw [hk] at hkl hp hoq
 have hk':atN o.side o.price s1.rs = k:=by rw [hs];exact hk
 have hmem:s1.rs[k]! ∈ s1.rs:=by rw [getElem!_pos s1.rs k hkl];exact List.getElem_mem hkl
 have hql:(s1.rs[k]!).q.length≤1000:=by
  have h1:(s1.rs[k]!).q.length≤lenQ (s1.rs ++ s2.rs):=lenQ_pre (x:=⟨s1.rs[k]!,List.mem_append_left _ hmem⟩)
  omega
 have hqp:=H.ok1.que _ hmem
 obtain ⟨hil,hio⟩:=que_place hqp hoq
 obtain ⟨i,hi⟩:∃ i,plN o (s1.rs[k]!).q = i:=⟨_,rfl⟩
 rw [hi] at hil hio
 have hsp:=split_at s1.rs k hkl
 have hsid:SideOk 1 (s1.rs.take k ++ [s1.rs[k]!] ++ s1.rs.drop (k + 1)):=by rw [← hsp];exact H.ok1
 have hth:s1.there = true:=(map_there H).1 (fun e=>by rw [e] at hkl;exact absurd hkl (Nat.not_lt_zero _))
 have hep:=era_perm hil hio
 have hsplit:=row_split (s:=1) (p:=o.price) (.inl rfl) H.ok1.rows
 rw [hk] at hsplit
 by_cases h2:2≤(s1.rs[k]!).q.length
 ·refine (take_more p m s1 s2 o id w H.bk hwf HGet s1.rs hR hpw (by omega) k hk' hkl hp hqp hql i hi hil h2).mono fun e w' ⟨he,v',hh⟩=>⟨he,?_⟩
  obtain ⟨h1,h2',h3,h4⟩:=hh.out
  rw [hv] at h2' h3
  have he2:s1.rs.take k ++ (⟨o.price,v',(s1.rs[k]!).q.eraseIdx i⟩:Rw) :: s1.rs.drop (k + 1) = s1.rs.take k ++ [⟨o.price,v',(s1.rs[k]!).q.eraseIdx i⟩] ++ s1.rs.drop (k + 1):=by rw [List.append_assoc];rfl
  have hmm:w'.ownsMap Tryz.prog 3 RV m 2 (mapD s1 s2):=ownsMap_fr (H.bk.mp m rfl) h3 (fun hS=>by
   rcases hS with e | e
   ·obtain ⟨cs,hcs⟩:=own_blk H.bk.r1 e
    exact map_ne (H.bk.mp m rfl) hcs rfl
   ·obtain ⟨cs,hcs⟩:=own_blk (H.bk.q _ (List.mem_append_left _ hmem)) e
    exact map_ne (H.bk.mp m rfl) hcs rfl)
  have hse:SideOk 1 (s1.rs.take k ++ (⟨o.price,v',(s1.rs[k]!).q.eraseIdx i⟩:Rw) :: s1.rs.drop (k + 1)) :=
   side_set (p:=o.price) hsplit.1 (fun b hb=>hsplit.2.2.2 _ _ (by rw [getElem!_pos s1.rs k hkl];exact List.drop_eq_getElem_cons hkl) hp b hb) hsid rfl (by intro e;have:=congrArg List.length e;rw [List.length_eraseIdx,if_pos hil] at this;simp only [List.length_nil] at this;omega)
    (fun x hx=>by rw [← hp];exact H.ok1.mem _ hmem x ((List.eraseIdx_sublist _ _).subset hx)) (hqp.sublist (List.eraseIdx_sublist _ _))
  rw [he2] at h2' hse
  refine ⟨_,_,Lib.hid (take_side1 (v2:=s1.v) H hs hsp ⟨.inr ⟨_,rfl⟩,.inr ⟨_,rfl,.inl ⟨_,rfl,h4⟩⟩⟩ (.inl rfl) (fun r hr=>?_) ?_ ?_ ?_ hse ?_)⟩
  ·rw [List.mem_singleton.1 hr]
   show w'.ownsRow 0 38 6 v' ((s1.rs[k]!).q.eraseIdx i).length _
   rw [List.length_eraseIdx,if_pos hil];exact h1
  ·rw [← he2,set_len _ _ hkl,he2];exact h2'
  ·have:mapD ⟨true,s1.v,s1.rs.take k ++ [⟨o.price,v',(s1.rs[k]!).q.eraseIdx i⟩] ++ s1.rs.drop (k + 1)⟩ s2 = mapD s1 s2:=by
    unfold mapD
    rw [hth]
   rw [this];exact hmm
  ·refine h3.mono (fun j hj=>.inl ?_)
   rcases hj with e | e
   ·exact .inr (.inl e)
   ·exact .inr (.inr ⟨_,List.mem_singleton.2 rfl,e⟩)
  ·unfold flatR
   simpa using hep
 ·have hq1:(s1.rs[k]!).q.length = 1:=by omega
  refine (take_last p m s1 s2 o id w H.bk hwf HGet s1.rs hR hpw (by omega) k hk' hkl hp hqp hql i hi hil hq1).mono fun e w' ⟨he,v2,hh⟩=>⟨he,?_⟩
  obtain ⟨h1,h2',h3,h4⟩:=hh.out
  rw [hv] at h3 h4
  rw [hs,map_put1 s1 s2 v2 (s1.rs.take k ++ [] ++ s1.rs.drop (k + 1))] at h2'
  have hnil:(s1.rs[k]!).q.eraseIdx i = []:=List.length_eq_zero_iff.1 (by rw [List.length_eraseIdx,if_pos hil];omega)
  refine ⟨_,_,Lib.hid (take_side1 (X:=[]) (v2:=v2) H hs hsp ⟨.inr ⟨_,rfl⟩,.inl rfl⟩ (.inl h4) (fun r hr=>by cases hr) ?_ (map_two h2') ?_ ?_ ?_)⟩
  ·have hln:(s1.rs.take k ++ [] ++ s1.rs.drop (k + 1)).length = s1.rs.length - 1:=by
    simp only [List.append_nil,List.length_append,List.length_take,List.length_drop];omega
   rw [hln,List.append_nil];exact h1
  ·refine h3.mono (fun j hj=>.inl ?_)
   rcases hj with e | e | e
   ·exact .inl e
   ·exact .inr (.inl e)
   ·exact .inr (.inr ⟨_,List.mem_singleton.2 rfl,e⟩)
  ·rw [List.append_nil];exact side_drop hsid
  ·rw [hnil] at hep
   unfold flatR
   simpa using hep
theorem take_w2 (p m:Nat) (s1 s2:Sd) (o:Od) (id:Int) (w:World) (H:Whole w p m s1 s2) (ho:o ∈ bookL s1.rs s2.rs) (hid:o.id = id) (hs:o.side = 2) :
  Calls Tryz.prog 176 #[.pointer (some ⟨p,0,none⟩),.int .u64 id] w fun e w'=>e = .returned (.tuple #[optV (some o),.bool true])∧∃ s1' s2',Hid (TakeIs w w' p m s1 s2 s1' s2' o):=by
 have hwf:(Lit.int .i64 o.side).wf = true:=by rw [hs];decide
 have hR:rsOf s1 s2 o.side = s2.rs:=by rw [hs];rfl
 have hv:rowsOf s1 s2 o.side = s2.v:=by rw [hs];rfl
 have hpw:s2.rs.Pairwise (fun a b=>betN o.side a.pr b.pr = true):=by rw [hs];exact H.ok2.rows
 have hn:=H.n1
 have HGet:Hid (∀ W,Below w.heap.size w W → Calls Tryz.prog 172 #[.pointer (some ⟨p,0,none⟩),.int .u64 id] W fun e w'=>e = .returned (.tuple #[optV (some o),.bool true])∧Hid (Below W.heap.size W w')):=fun W hW=>by
  refine (lGet_c _ _ s1 s2 id W (H.bk.below hW) (by omega) (by omega) (by omega)).mono ?_
  rintro e w' ⟨r,rfl,h⟩
  obtain rfl:r = some o:=by
   cases r with
   | none=>exact absurd hid (h.out.1 o ho)
   | some y=>rw [ids_inj H.ids h.out.1.1 ho (h.out.1.2.trans hid.symm)]
  exact ⟨rfl,Lib.hid h.out.2⟩
 have hfl:o ∈ flatR s2.rs:=by
  unfold bookL at ho
  rcases List.mem_append.1 ho with h | h
  ·have:=flat_side H.ok1 o h;rw [hs] at this;cases this
  ·exact h
 obtain ⟨hkl,hp,hoq⟩:=row_place (.inr rfl) H.ok2 hfl
 obtain ⟨k,hk⟩:∃ k,atN 2 o.price s2.rs = k:=⟨_,rfl⟩
 rw [hk] at hkl hp hoq
 have hk':atN o.side o.price s2.rs = k:=by rw [hs];exact hk
 have hmem:s2.rs[k]! ∈ s2.rs:=by rw [getElem!_pos s2.rs k hkl];exact List.getElem_mem hkl
 have hql:(s2.rs[k]!).q.length≤1000:=by
  have h1:(s2.rs[k]!).q.length≤lenQ (s1.rs ++ s2.rs):=lenQ_pre (x:=⟨s2.rs[k]!,List.mem_append_right _ hmem⟩)
  omega
 have hqp:=H.ok2.que _ hmem
 obtain ⟨hil,hio⟩:=que_place hqp hoq
 obtain ⟨i,hi⟩:∃ i,plN o (s2.rs[k]!).q = i:=⟨_,rfl⟩
 rw [hi] at hil hio
 have hsp:=split_at s2.rs k hkl
 have hsid:SideOk 2 (s2.rs.take k ++ [s2.rs[k]!] ++ s2.rs.drop (k + 1)):=by rw [← hsp];exact H.ok2
 have hth:s2.there = true:=(map_there H).2 (fun e=>by rw [e] at hkl;exact absurd hkl (Nat.not_lt_zero _))
 have hep:=era_perm hil hio
 have hsplit:=row_split (s:=2) (p:=o.price) (.inr rfl) H.ok2.rows
 rw [hk] at hsplit
 by_cases h2:2≤(s2.rs[k]!).q.length
 ·refine (take_more p m s1 s2 o id w H.bk hwf HGet s2.rs hR hpw (by omega) k hk' hkl hp hqp hql i hi hil h2).mono fun e w' ⟨he,v',hh⟩=>⟨he,?_⟩
  obtain ⟨h1,h2',h3,h4⟩:=hh.out
  rw [hv] at h2' h3
  have he2:s2.rs.take k ++ (⟨o.price,v',(s2.rs[k]!).q.eraseIdx i⟩:Rw) :: s2.rs.drop (k + 1) = s2.rs.take k ++ [⟨o.price,v',(s2.rs[k]!).q.eraseIdx i⟩] ++ s2.rs.drop (k + 1):=by rw [List.append_assoc];rfl
  have hmm:w'.ownsMap Tryz.prog 3 RV m 2 (mapD s1 s2):=ownsMap_fr (H.bk.mp m rfl) h3 (fun hS=>by
   rcases hS with e | e
   ·obtain ⟨cs,hcs⟩:=own_blk H.bk.r2 e
    exact map_ne (H.bk.mp m rfl) hcs rfl
   ·obtain ⟨cs,hcs⟩:=own_blk (H.bk.q _ (List.mem_append_right _ hmem)) e
    exact map_ne (H.bk.mp m rfl) hcs rfl)
  have hse:SideOk 2 (s2.rs.take k ++ (⟨o.price,v',(s2.rs[k]!).q.eraseIdx i⟩:Rw) :: s2.rs.drop (k + 1)) :=
   side_set (p:=o.price) hsplit.1 (fun b hb=>hsplit.2.2.2 _ _ (by rw [getElem!_pos s2.rs k hkl];exact List.drop_eq_getElem_cons hkl) hp b hb) hsid rfl (by intro e;have:=congrArg List.length e;rw [List.length_eraseIdx,if_pos hil] at this;simp only [List.length_nil] at this;omega)
    (fun x hx=>by rw [← hp];exact H.ok2.mem _ hmem x ((List.eraseIdx_sublist _ _).subset hx)) (hqp.sublist (List.eraseIdx_sublist _ _))
  rw [he2] at h2' hse
  refine ⟨_,_,Lib.hid (take_side2 (v2:=s2.v) H hs hsp ⟨.inr ⟨_,rfl⟩,.inr ⟨_,rfl,.inl ⟨_,rfl,h4⟩⟩⟩ (.inl rfl) (fun r hr=>?_) ?_ ?_ ?_ hse ?_)⟩
  ·rw [List.mem_singleton.1 hr]
   show w'.ownsRow 0 38 6 v' ((s2.rs[k]!).q.eraseIdx i).length _
   rw [List.length_eraseIdx,if_pos hil];exact h1
  ·rw [← he2,set_len _ _ hkl,he2];exact h2'
  ·have:mapD s1 ⟨true,s2.v,s2.rs.take k ++ [⟨o.price,v',(s2.rs[k]!).q.eraseIdx i⟩] ++ s2.rs.drop (k + 1)⟩ = mapD s1 s2:=by
    unfold mapD
    rw [hth]
   rw [this];exact hmm
  ·refine h3.mono (fun j hj=>.inl ?_)
   rcases hj with e | e
   ·exact .inr (.inl e)
   ·exact .inr (.inr ⟨_,List.mem_singleton.2 rfl,e⟩)
  ·unfold flatR
   simpa using hep
 ·have hq1:(s2.rs[k]!).q.length = 1:=by omega
  refine (take_last p m s1 s2 o id w H.bk hwf HGet s2.rs hR hpw (by omega) k hk' hkl hp hqp hql i hi hil hq1).mono fun e w' ⟨he,v2,hh⟩=>⟨he,?_⟩
  obtain ⟨h1,h2',h3,h4⟩:=hh.out
  rw [hv] at h3 h4
  rw [hs,map_put2 s1 s2 v2 (s2.rs.take k ++ [] ++ s2.rs.drop (k + 1))] at h2'
  have hnil:(s2.rs[k]!).q.eraseIdx i = []:=List.length_eq_zero_iff.1 (by rw [List.length_eraseIdx,if_pos hil];omega)
  refine ⟨_,_,Lib.hid (take_side2 (X:=[]) (v2:=v2) H hs hsp ⟨.inr ⟨_,rfl⟩,.inl rfl⟩ (.inl h4) (fun r hr=>by cases hr) ?_ (map_two h2') ?_ ?_ ?_)⟩
  ·have hln:(s2.rs.take k ++ [] ++ s2.rs.drop (k + 1)).length = s2.rs.length - 1:=by
    simp only [List.append_nil,List.length_append,List.length_take,List.length_drop];omega
   rw [hln,List.append_nil];exact h1
  ·refine h3.mono (fun j hj=>.inl ?_)
   rcases hj with e | e | e
   ·exact .inl e
   ·exact .inr (.inl e)
   ·exact .inr (.inr ⟨_,List.mem_singleton.2 rfl,e⟩)
  ·rw [List.append_nil];exact side_drop hsid
  ·rw [hnil] at hep
   unfold flatR
   simpa using hep
theorem lTake_c (p m:Nat) (s1 s2:Sd) (o:Od) (id:Int) (w:World) (H:Whole w p m s1 s2) (ho:o ∈ bookL s1.rs s2.rs) (hid:o.id = id) :
  Calls Tryz.prog 176 #[.pointer (some ⟨p,0,none⟩),.int .u64 id] w fun e w'=>e = .returned (.tuple #[optV (some o),.bool true])∧∃ s1' s2',Hid (TakeIs w w' p m s1 s2 s1' s2' o):=by
 rcases good_side (H.ok o ho).2 with h | h
 ·exact take_w1 p m s1 s2 o id w H ho hid h
 ·exact take_w2 p m s1 s2 o id w H ho hid h

def lessO (o:Od) (qty:Int):Od:=⟨o.id,o.acc,o.side,o.price,o.qty - qty,o.seq⟩
theorem ol_less {q:List Od} {i:Nat} {o:Od} {qty:Int} (h:i < q.length) (e:q[i]! = o):(ol q).set (i * 6 + 4) (.int .i64 (o.qty - qty)) = ol (q.set i (lessO o qty)):=by
 rw [getElem!_pos q i h] at e
 have e1:q = q.take i ++ o :: q.drop (i + 1):=by
  rw [← e,← List.drop_eq_getElem_cons h,List.take_append_drop]
 have e2:q.set i (lessO o qty) = q.take i ++ lessO o qty :: q.drop (i + 1):=List.set_eq_take_append_cons_drop.trans (if_pos h)
 have hl:(ol (q.take i)).length = i * 6:=by rw [ol_len,List.length_take,Nat.min_eq_left (Nat.le_of_lt h)]
 conv=>lhs;rw [e1]
 rw [e2,ol_append,ol_append,List.set_append,if_neg (by omega)]
 congr 1
 rw [hl,show i * 6 + 4 - i * 6 = 4 by omega]
 rfl
theorem cut_less (p m:Nat) (s1 s2:Sd) (o:Od) (id:Int) (w:World) (H:Bk w (some ⟨p,0,none⟩) (some m) s1 s2) (hwf:(Lit.int .i64 o.side).wf = true)
  (HGet:Hid (∀ W,Below w.heap.size w W → Calls Tryz.prog 172 #[.pointer (some ⟨p,0,none⟩),.int .u64 id] W fun e w'=>e = .returned (.tuple #[optV (some o),.bool true])∧Hid (Below W.heap.size W w')))
  (R:List Rw) (hR:rsOf s1 s2 o.side = R) (hs:R.Pairwise (fun a b=>betN o.side a.pr b.pr = true))
  (hn:R.length≤1000) (k:Nat) (hk:atN o.side o.price R = k) (hkl:k < R.length) (hp:(R[k]!).pr = o.price) (hq:(R[k]!).q.Pairwise (fun x y=>ahdO x y = true)) (hql:(R[k]!).q.length≤1000) (i:Nat) (hi:plN o (R[k]!).q = i) (hil:i < (R[k]!).q.length) (hio:((R[k]!).q)[i]! = o) (qty:Int) (hq1:¬ qty < 1) (hq2:¬ o.qty < qty) (hq3:¬ qty = o.qty) (hqw:wrap64 (o.qty - qty) = o.qty - qty) :
  Calls Tryz.prog 171 #[.pointer (some ⟨p,0,none⟩),.int .u64 id,.int .i64 qty] w fun e w'=>e = .returned (.int .i64 0)∧Hid (w'.ownsRow 0 38 6 (R[k]!).v (R[k]!).q.length (ol ((R[k]!).q.set i (lessO o qty)))∧Fr (fun j=>(R[k]!).v.ownBlock = some j) w w'):=by
 have mixed:Tryz.prog.follows .mixedOrders = true:=by kernel_rfl
 have hmem:R[k]! ∈ s1.rs ++ s2.rs:=by
  rw [getElem!_pos R k hkl]
  exact rsOf_mem (by rw [hR];exact List.getElem_mem hkl)
 obtain ⟨Q,hQd⟩:∃ Q,(R[k]!).q = Q:=⟨_,rfl⟩
 obtain ⟨V,hVd⟩:∃ V,(R[k]!).v = V:=⟨_,rfl⟩
 rw [hQd] at hq hql hi hil hio ⊢
 rw [hVd]
 obtain ⟨qn,hqn⟩:∃ qn,Q.length = qn:=⟨_,rfl⟩
 rw [hqn] at hql hil ⊢
 have hown0:=H.own o.side
 rw [hR] at hown0
 obtain ⟨g,c,hv,_,_⟩:=row_at hown0 hkl
 clear hown0
 have hqm0:=H.q _ hmem
 rw [hQd,hVd,hqn] at hqm0
 obtain ⟨g2,qc,cur,hqv,hg2⟩:∃ g2 qc cur,V = .slice (some ⟨g2,0,none⟩) qn qc∧w.heap[g2]? = some (.cells cur 38 (0,0))∧qn≤qc∧qc≤maxLen∧cur.size = qc * 6∧cur.toList.take (qn * 6) = ol Q:=by
  rcases hqm0.2 with ⟨_,h0⟩ | ⟨g2,cap,cur,e,_,h1,h2,h3,h4,h5⟩
  ·omega
  ·exact ⟨g2,cap,cur,e,h1,h2,h3,h4,h5⟩
 have hgl:g < w.heap.size:=by
  obtain ⟨A,c',hv',_,hf⟩:=H.rows o.side
  rw [hR] at hv' hf
  rw [hv] at hv'
  injection hv' with e1 e2 e3
  exact H.lt (hf g e1.symm (by omega))
 have HH:=Lib.hid H
 have HG:=Lib.hid hgl
 have HQ2:=Lib.hid hg2
 have HLK:Hid (∀ W,Below w.heap.size w W → (W.cell? ⟨p,0,none⟩ = some (.map (some m)))∧W.ownsRow 0 247 2 (.slice (some ⟨g,0,none⟩) R.length c) R.length (rl R)∧W.ownsRow 0 38 6 (.slice (some ⟨g2,0,none⟩) qn qc) qn (ol Q)∧W.cell? ⟨g,k * 2,none⟩ = some (.int .i64 o.price)∧W.cell? ⟨g,k * 2 + 1,none⟩ = some (.slice (some ⟨g2,0,none⟩) qn qc)):=fun W hW=>by
  have hB:=HH.out.below hW
  have hown:=hB.own o.side
  rw [hR] at hown
  obtain ⟨g',c',hv',hc1,hc2⟩:=row_at hown hkl
  rw [hv] at hv' hown
  injection hv' with e1 e2 e3
  injection e1 with e1;injection e1 with e1
  subst e1
  have hqm:=hB.q _ hmem
  rw [hQd,hVd,hqv,hqn] at hqm
  refine ⟨?_,hown,hqm,by rw [hc1,hp],by rw [hc2,hVd,hqv]⟩
  rcases hB.shape with ⟨h,_⟩ | ⟨pp,hb,hp⟩
  ·cases h
  ·injection hb with hb'
   injection hb' with hb''
   subst hb''
   rw [cell_of_row _ _ _ _ _ _ hp];rfl
 have HF:Hid (∀ W,Below w.heap.size w W → Calls Tryz.prog 181 #[.slice (some ⟨g,0,none⟩) R.length c,.int .i64 o.side,.int .i64 o.price] W fun e w'=>e = .returned (.tuple #[.int .i64 (k:Nat),.bool true])∧Gw W w'):=fun W hW=>by
  have:=find_c (some ⟨g,0,none⟩) R.length c R o.side o.price W ?_ hs hn
  ·rw [hk,decide_eq_true hkl,hp] at this
   simpa using this
  ·obtain ⟨A,c',hv',hr⟩:=own_rows (HLK.out W hW).2.1
   injection hv' with e1 e2 e3
   rw [e1]
   exact hr
 have HP:Hid (∀ W,Below w.heap.size w W → Calls Tryz.prog 182 #[.slice (some ⟨g2,0,none⟩) qn qc,.agg #[.int .u64 o.id,.int .i64 o.acc,.int .i64 o.side,.int .i64 o.price,.int .i64 o.qty,.int .u64 o.seq]] W fun e w'=>e = .returned (.int .i64 (i:Nat))∧Gw W w'):=fun W hW=>by
  have:=place_c (some ⟨g2,0,none⟩) qn qc Q o W ?_ hq hql
  ·rw [hi] at this;exact this
  ·obtain ⟨A,c',hv',hr⟩:=own_que (HLK.out W hW).2.2.1
   injection hv' with e1 e2 e3
   rw [e1]
   exact hr
 have hlk:=fun q W (hW:Below w.heap.size w W)=>look_side ((HH.out.below (hW.trans (below_drewN ((Below.refl _ _).mono hW.size) q))).mp m rfl) HH.out.t1 HH.out.t2 o.side hwf
 rw [hv] at hlk
 have HLQ:=Lib.hid hlk
 have HV:=Lib.hid (And.intro hv (And.intro hqv (And.intro hqn (And.intro hmem hio))))
 have HK:=Lib.hid (And.intro hkl hp)
 have HC:Hid ((rl R)[k * 2 + 1]? = some (.slice (some ⟨g2,0,none⟩) qn qc)):=by
  have:=rl_get R k 1 hkl (by omega)
  rw [this,← hqv,← hVd]
  rfl
 have HIL:=Lib.hid hil
 have HOC:Hid ((ol Q)[i * 6 + 4]? = some (.int .i64 o.qty)):=by
  rw [ol_get Q i 4 (by rw [hqn];exact hil) (by omega),hio]
  rfl
 clear H hs hn hwf hmem hgl hg2 hlk hqm0 hk hi hq hio
 have HM:=Lib.hid (made_c (some ⟨p,0,none⟩) (some m) s1 s2 w HH.out)
 have hkI:(k:Int) < (R.length:Int):=by have:=HK.out.1;omega
 have hiI:(i:Int) < (qn:Int):=by omega
 go_enter Tryz.func171,Tryz.ntmps171
 go_wp2_with (first | ((with_reducible refine HM.out.mono ?_);rintro e w1' ⟨rfl,hw1⟩;obtain rfl:w = w1':=hw1.symm;clear HM) | ((with_reducible refine (HGet.out _ (Below.refl _ _)).mono ?_);rintro e w1 ⟨rfl,hb1⟩;dsimp only [optV];clear HGet))
 obtain ⟨W1,hW1⟩:∃ W1,w1.alloc (.cells (OC o) 38) = W1:=⟨_,rfl⟩
 have HB1:Hid (Below w.heap.size w W1):=by rw [← hW1];exact hb1.out.alloc hb1.out.size _
 have hO1:Cl 38 W1 w1.heap.size (OC o):=by rw [← hW1];exact hd_last rfl
 rw [hW1]
 obtain ⟨ob,hob⟩:∃ ob,w1.heap.size = ob:=⟨_,rfl⟩
 rw [hob] at hO1 ⊢
 obtain ⟨x0,x1,x2,x3,x4,x5⟩:=six_of hO1
 have hpc:=(HLK.out W1 HB1.out).1
 have hlk:=fun q=>HLQ.out q W1 HB1.out
 clear hob hW1 hb1
 clear w1
 go_quiet (fail)
 go_wp2_with (first | ((with_reducible refine (HF.out _ (below_drewN HB1.out _)).mono ?_);rintro e w2 ⟨rfl,k2⟩;have HB2:Hid (Below w.heap.size w w2):=(below_drewN HB1.out _).trans (k2.b.mono (below_drewN HB1.out _).size);have hO2:Cl 38 w2 ob (OC o):=Cl.gw (X:=W1.drewN _) hO1 k2;have z0:=(HLK.out w2 HB2.out).2.2.2.2;obtain ⟨y0,y1,y2,y3,y4,y5⟩:=six_of hO2;clear x0 x1 x2 x3 x4 x5 hpc hlk hO1 k2 HB1 HF) | ((with_reducible refine (HP.out _ HB2.out).mono ?_);rintro e w3 ⟨rfl,k3⟩;have HB3:Hid (Below w.heap.size w w3):=HB2.out.trans (k3.b.mono HB2.out.size);have q4:w3.cell? ⟨g2,i * 6 + 4,none⟩ = some (.int .i64 o.qty):=(own_cell (HLK.out w3 HB3.out).2.2.1 rfl HOC.out).1;have f4:w3.frozen? ⟨g2,i * 6 + 4,none⟩ = false:=(own_cell (HLK.out w3 HB3.out).2.2.1 rfl HOC.out).2;clear y0 y1 y2 y3 y4 y5 hO2 HB2 HP z0 k3))
 go_ret
 refine ⟨rfl,Lib.hid ?_⟩
 rw [HV.out.2.1]
 refine ⟨?_,?_⟩
 ·rw [← HV.out.2.2.1,← ol_less (by rw [HV.out.2.2.1];exact HIL.out) HV.out.2.2.2.2,HV.out.2.2.1]
  exact own_setCell (HLK.out w3 HB3.out).2.2.1 rfl
 ·exact (Fr.of_below HB3.out:Fr (fun j=>(Value.slice (some ⟨g2,0,none⟩) qn qc).ownBlock = some j) w w3).set (p:=⟨g2,i * 6 + 4,none⟩) (.inl rfl) _

theorem set_self:∀ {l:List Value} {n:Nat} {v:Value},l[n]? = some v → l.set n v = l
 | [],_,_,h=>by cases h
 | a :: l,0,v,h=>by injection h with h;rw [← h];rfl
 | a :: l,n + 1,v,h=>by
  show a :: l.set n v = a :: l
  rw [set_self (l:=l) (n:=n) (v:=v) h]
def lessF (id qty:Int) (x:Od):Od:=if x.id = id then lessO x qty else x
theorem less_id (id qty:Int) (x:Od):(lessF id qty x).id = x.id∧(lessF id qty x).side = x.side∧(lessF id qty x).price = x.price:=by
 unfold lessF
 split <;> exact ⟨rfl,rfl,rfl⟩
theorem less_ahd (id qty:Int) (x y:Od):ahdO (lessF id qty x) (lessF id qty y) = ahdO x y:=by
 unfold lessF
 split <;> split <;> rfl
theorem less_map {P T:List Od} {o:Od} {qty:Int} (h:(P ++ o :: T).Pairwise (fun x y=>¬ x.id = y.id)):(P ++ o :: T).map (lessF o.id qty) = P ++ lessO o qty :: T:=by
 rw [List.pairwise_append,List.pairwise_cons] at h
 obtain ⟨_,⟨h2,_⟩,h3⟩:=h
 have e1:P.map (lessF o.id qty) = P:=by
  conv=>rhs;rw [← List.map_id P]
  exact List.map_congr_left (fun x hx=>if_neg (h3 x hx o List.mem_cons_self))
 have e2:T.map (lessF o.id qty) = T:=by
  conv=>rhs;rw [← List.map_id T]
  exact List.map_congr_left (fun x hx=>if_neg (fun e=>h2 x hx e.symm))
 rw [List.map_append,List.map_cons,e1,e2]
 show P ++ lessF o.id qty o :: T = _
 unfold lessF
 rw [if_pos rfl]
theorem less_good {w:World} {o:Od} {qty:Int} (h:Od.ok w o∧goodO o = true) (h1:¬ qty < 1) (h2:qty < o.qty):Od.ok w (lessO o qty)∧goodO (lessO o qty) = true:=by
 obtain ⟨ho,hg⟩:=h
 have hg':=hg
 unfold goodO at hg
 simp only [Bool.and_eq_true,decide_eq_true_eq] at hg
 obtain ⟨g1,g2,g3,g4,g5,g6,g7⟩:=hg
 unfold Od.ok at ho ⊢
 refine ⟨⟨ho.1,ho.2.1,ho.2.2.1,ho.2.2.2.1,⟨by show _≤o.qty - qty;omega,by show o.qty - qty≤_;omega⟩,ho.2.2.2.2.2⟩,?_⟩
 unfold goodO
 simp only [Bool.and_eq_true,decide_eq_true_eq]
 exact ⟨g1,g2,g3,g4,g5,by show 1≤o.qty - qty;omega,by show o.qty - qty≤_;omega⟩
structure LessIs (w w':World) (p m:Nat) (s1 s2 s1' s2':Sd) (o:Od) (qty:Int):Prop where
 tu:TurnIs w w' p m s1 s2 s1' s2'
 now:bookL s1'.rs s2'.rs = (bookL s1.rs s2.rs).map (lessF o.id qty)
 e2:o.side = 1 → s2' = s2
 e1:o.side = 2 → s1' = s1
def CutIs (w w':World) (p m:Nat) (s1 s2 s1' s2':Sd) (id qty c:Int):Prop :=
 (c = 51∧(∀ x ∈ bookL s1.rs s2.rs,¬ x.id = id)∧s1' = s1∧s2' = s2∧Below w.heap.size w w') ∨
 ∃ o ∈ bookL s1.rs s2.rs,o.id = id∧((c = 2∧(qty < 1 ∨ o.qty < qty)∧s1' = s1∧s2' = s2∧Below w.heap.size w w') ∨ (c = 0∧¬ qty < 1∧qty = o.qty∧TakeIs w w' p m s1 s2 s1' s2' o) ∨ (c = 0∧¬ qty < 1∧qty < o.qty∧LessIs w w' p m s1 s2 s1' s2' o qty))
theorem cut_w1 (p m:Nat) (s1 s2:Sd) (o:Od) (id qty:Int) (w:World) (H:Whole w p m s1 s2) (ho:o ∈ bookL s1.rs s2.rs) (hs:o.side = 1) (hq1:¬ qty < 1) (hq2:qty < o.qty)
  (HGet:Hid (∀ W,Below w.heap.size w W → Calls Tryz.prog 172 #[.pointer (some ⟨p,0,none⟩),.int .u64 id] W fun e w'=>e = .returned (.tuple #[optV (some o),.bool true])∧Hid (Below W.heap.size W w'))) :
  Calls Tryz.prog 171 #[.pointer (some ⟨p,0,none⟩),.int .u64 id,.int .i64 qty] w fun e w'=>e = .returned (.int .i64 0)∧∃ s1' s2',Hid (LessIs w w' p m s1 s2 s1' s2' o qty):=by
 have hwf:(Lit.int .i64 o.side).wf = true:=by rw [hs];decide
 have hR:rsOf s1 s2 o.side = s1.rs:=by rw [hs];rfl
 have hv:rowsOf s1 s2 o.side = s1.v:=by rw [hs];rfl
 have hpw:s1.rs.Pairwise (fun a b=>betN o.side a.pr b.pr = true):=by rw [hs];exact H.ok1.rows
 have hn:=H.n1
 have hgo:=H.ok o ho
 have hfl:o ∈ flatR s1.rs:=by
  have ho:=ho
  unfold bookL at ho
  rcases List.mem_append.1 ho with h | h
  ·exact h
  ·have:=flat_side H.ok2 o h;rw [hs] at this;cases this
 obtain ⟨hkl,hp,hoq⟩:=row_place (.inl rfl) H.ok1 hfl
 obtain ⟨k,hk⟩:∃ k,atN 1 o.price s1.rs = k:=⟨_,rfl⟩
 rw [hk] at hkl hp hoq
 have hk':atN o.side o.price s1.rs = k:=by rw [hs];exact hk
 have hmem:s1.rs[k]! ∈ s1.rs:=by rw [getElem!_pos s1.rs k hkl];exact List.getElem_mem hkl
 have hql:(s1.rs[k]!).q.length≤1000:=by
  have h1:(s1.rs[k]!).q.length≤lenQ (s1.rs ++ s2.rs):=lenQ_pre (x:=⟨s1.rs[k]!,List.mem_append_left _ hmem⟩)
  omega
 have hqp:=H.ok1.que _ hmem
 obtain ⟨hil,hio⟩:=que_place hqp hoq
 obtain ⟨i,hi⟩:∃ i,plN o (s1.rs[k]!).q = i:=⟨_,rfl⟩
 rw [hi] at hil hio
 have hsp:=split_at s1.rs k hkl
 have hsid:SideOk 1 (s1.rs.take k ++ [s1.rs[k]!] ++ s1.rs.drop (k + 1)):=by rw [← hsp];exact H.ok1
 have hth:s1.there = true:=(map_there H).1 (fun e=>by rw [e] at hkl;exact absurd hkl (Nat.not_lt_zero _))
 have hsplit:=row_split (s:=1) (p:=o.price) (.inl rfl) H.ok1.rows
 rw [hk] at hsplit
 have hqw:wrap64 (o.qty - qty) = o.qty - qty:=by
  have hg:=hgo.2
  unfold goodO at hg
  simp only [Bool.and_eq_true,decide_eq_true_eq] at hg
  have h6:=hg.2.2.2.2.2
  simp only [wrap64];omega
 -- the queue,and the book,around the order
 have hio':=hio
 rw [getElem!_pos _ i hil] at hio'
 have hQ1:(s1.rs[k]!).q = (s1.rs[k]!).q.take i ++ o :: (s1.rs[k]!).q.drop (i + 1):=by
  rw [← hio',← List.drop_eq_getElem_cons hil,List.take_append_drop]
 have hQ2:(s1.rs[k]!).q.set i (lessO o qty) = (s1.rs[k]!).q.take i ++ lessO o qty :: (s1.rs[k]!).q.drop (i + 1):=List.set_eq_take_append_cons_drop.trans (if_pos hil)
 have hidq:(s1.rs[k]!).q.Pairwise (fun x y=>¬ x.id = y.id):=by
  refine List.Pairwise.sublist ?_ H.ids
  unfold bookL
  have hs1:(s1.rs[k]!).q.Sublist (flatR s1.rs):=by
   conv=>rhs;rw [hsp]
   unfold flatR
   rw [List.flatMap_append,List.flatMap_append,List.flatMap_singleton]
   exact (List.sublist_append_right _ _).trans (List.sublist_append_left _ _)
  exact hs1.trans (List.sublist_append_left _ _)
 have hQm:(s1.rs[k]!).q.set i (lessO o qty) = (s1.rs[k]!).q.map (lessF o.id qty):=by
  rw [hQ2]
  conv=>rhs;rw [hQ1]
  exact (less_map (by rw [← hQ1];exact hidq)).symm
 have hbook:bookL (s1.rs.take k ++ [(⟨o.price,(s1.rs[k]!).v,(s1.rs[k]!).q.set i (lessO o qty)⟩:Rw)] ++ s1.rs.drop (k + 1)) s2.rs = (bookL s1.rs s2.rs).map (lessF o.id qty):=by
  have e0:∀ Y:Rw,flatR (s1.rs.take k ++ [Y] ++ s1.rs.drop (k + 1)) = flatR (s1.rs.take k) ++ Y.q ++ flatR (s1.rs.drop (k + 1)):=fun Y=>by
   unfold flatR;rw [List.flatMap_append,List.flatMap_append,List.flatMap_singleton]
  have e1:bookL s1.rs s2.rs = flatR (s1.rs.take k) ++ (s1.rs[k]!).q.take i ++ o :: ((s1.rs[k]!).q.drop (i + 1) ++ flatR (s1.rs.drop (k + 1)) ++ flatR s2.rs):=by
   unfold bookL
   conv=>lhs;rw [hsp,e0,hQ1]
   simp only [List.append_assoc,List.cons_append]
  have h2:=H.ids
  rw [e1] at h2 ⊢
  rw [less_map h2]
  unfold bookL
  rw [e0]
  show flatR (s1.rs.take k) ++ (s1.rs[k]!).q.set i (lessO o qty) ++ flatR (s1.rs.drop (k + 1)) ++ flatR s2.rs = _
  rw [hQ2]
  simp only [List.append_assoc,List.cons_append]
 refine (cut_less p m s1 s2 o id w H.bk hwf HGet s1.rs hR hpw (by omega) k hk' hkl hp hqp hql i hi hil hio qty hq1 (by omega) (by omega) hqw).mono fun e w' ⟨he,hh⟩=>⟨he,?_⟩
 obtain ⟨h1,h3⟩:=hh.out
 have hblk:∀ T (v:Value) (nn sz:Nat) (xs:List Value),w.ownsRow 0 T sz v nn xs → T ≠ 38 → ∀ j,v.ownBlock = some j → ¬ (s1.rs[k]!).v.ownBlock = some j:=fun T v nn sz xs hown hT j hj e=>by
  obtain ⟨cs,hcs⟩:=own_blk hown hj
  exact own_ne (H.bk.q _ (List.mem_append_left _ hmem)) hcs (fun e'=>hT e'.symm) e
 have hmm:w'.ownsMap Tryz.prog 3 RV m 2 (mapD s1 s2):=ownsMap_fr (H.bk.mp m rfl) h3 (fun e=>by
  obtain ⟨cs,hcs⟩:=own_blk (H.bk.q _ (List.mem_append_left _ hmem)) e
  exact map_ne (H.bk.mp m rfl) hcs rfl)
 have he2:s1.rs.take k ++ (⟨o.price,(s1.rs[k]!).v,(s1.rs[k]!).q.set i (lessO o qty)⟩:Rw) :: s1.rs.drop (k + 1) = s1.rs.take k ++ [(⟨o.price,(s1.rs[k]!).v,(s1.rs[k]!).q.set i (lessO o qty)⟩:Rw)] ++ s1.rs.drop (k + 1):=by rw [List.append_assoc];rfl
 have hrl:rl (s1.rs.take k ++ [(⟨o.price,(s1.rs[k]!).v,(s1.rs[k]!).q.set i (lessO o qty)⟩:Rw)] ++ s1.rs.drop (k + 1)) = rl s1.rs:=by
  rw [← he2]
  rw [rl_set s1.rs k hkl (⟨o.price,(s1.rs[k]!).v,(s1.rs[k]!).q.set i (lessO o qty)⟩:Rw) hp.symm]
  have:=rl_get s1.rs k 1 hkl (by omega)
  refine set_self ?_
  rw [this]
  rfl
 have hse:SideOk 1 (s1.rs.take k ++ (⟨o.price,(s1.rs[k]!).v,(s1.rs[k]!).q.set i (lessO o qty)⟩:Rw) :: s1.rs.drop (k + 1)) :=
  side_set (p:=o.price) hsplit.1 (fun b hb=>hsplit.2.2.2 _ _ (by rw [getElem!_pos s1.rs k hkl];exact List.drop_eq_getElem_cons hkl) hp b hb) hsid rfl (by show (s1.rs[k]!).q.set i (lessO o qty) ≠ [];rw [hQ2];simp)
   (fun x hx=>by
    have hx':x ∈ (s1.rs[k]!).q.set i (lessO o qty):=hx
    rw [hQm] at hx'
    obtain ⟨y,hy,rfl⟩:=List.mem_map.1 hx'
    rw [(less_id _ _ y).2.1,(less_id _ _ y).2.2,← hp]
    exact H.ok1.mem _ hmem y hy)
   (by
    show ((s1.rs[k]!).q.set i (lessO o qty)).Pairwise _
    rw [hQm]
    exact List.pairwise_map.2 (hqp.imp (fun h=>by rw [less_ahd];exact h)))
 rw [he2] at hse
 refine ⟨_,_,Lib.hid ⟨turn_side1 (M:=[s1.rs[k]!]) (X:=[(⟨o.price,(s1.rs[k]!).v,(s1.rs[k]!).q.set i (lessO o qty)⟩:Rw)]) (v2:=s1.v) H hsp ⟨.inr ⟨_,rfl⟩,.inr ⟨_,rfl,.inl ⟨_,rfl,rfl⟩⟩⟩ (.inl rfl) (fun r hr=>?_) ?_ ?_ ?_ hse ?_ ?_ ?_,hbook,fun _=>rfl,(fun h=>by rw [hs] at h;cases h)⟩⟩
 ·rw [List.mem_singleton.1 hr]
  show w'.ownsRow 0 38 6 (s1.rs[k]!).v ((s1.rs[k]!).q.set i (lessO o qty)).length _
  rw [List.length_set];exact h1
 ·rw [hrl,← he2,set_len _ _ hkl]
  exact own_fr H.bk.r1 h3 (fun j hj=>hblk _ _ _ _ _ H.bk.r1 (by decide) j hj)
 ·have:mapD ⟨true,s1.v,s1.rs.take k ++ [(⟨o.price,(s1.rs[k]!).v,(s1.rs[k]!).q.set i (lessO o qty)⟩:Rw)] ++ s1.rs.drop (k + 1)⟩ s2 = mapD s1 s2:=by
   unfold mapD
   rw [hth]
  rw [this];exact hmm
 ·exact h3.mono (fun j e=>.inl (.inr (.inr ⟨_,List.mem_singleton.2 rfl,e⟩)))
 ·rw [hbook]
  exact List.pairwise_map.2 (H.ids.imp (fun h=>by rw [(less_id _ _ _).1,(less_id _ _ _).1];exact h))
 ·rw [hbook,List.length_map];exact H.len
 ·rw [hbook]
  intro x hx
  obtain ⟨y,hy,rfl⟩:=List.mem_map.1 hx
  unfold lessF
  split
  ·rename_i hyi
   rw [ids_inj H.ids hy ho hyi]
   exact less_good hgo hq1 hq2
  ·exact H.ok y hy
theorem cut_w2 (p m:Nat) (s1 s2:Sd) (o:Od) (id qty:Int) (w:World) (H:Whole w p m s1 s2) (ho:o ∈ bookL s1.rs s2.rs) (hs:o.side = 2) (hq1:¬ qty < 1) (hq2:qty < o.qty)
  (HGet:Hid (∀ W,Below w.heap.size w W → Calls Tryz.prog 172 #[.pointer (some ⟨p,0,none⟩),.int .u64 id] W fun e w'=>e = .returned (.tuple #[optV (some o),.bool true])∧Hid (Below W.heap.size W w'))) :
  Calls Tryz.prog 171 #[.pointer (some ⟨p,0,none⟩),.int .u64 id,.int .i64 qty] w fun e w'=>e = .returned (.int .i64 0)∧∃ s1' s2',Hid (LessIs w w' p m s1 s2 s1' s2' o qty):=by
 have hwf:(Lit.int .i64 o.side).wf = true:=by rw [hs];decide
 have hR:rsOf s1 s2 o.side = s2.rs:=by rw [hs];rfl
 have hv:rowsOf s1 s2 o.side = s2.v:=by rw [hs];rfl
 have hpw:s2.rs.Pairwise (fun a b=>betN o.side a.pr b.pr = true):=by rw [hs];exact H.ok2.rows
 have hn:=H.n1
 have hgo:=H.ok o ho
 have hfl:o ∈ flatR s2.rs:=by
  have ho:=ho
  unfold bookL at ho
  rcases List.mem_append.1 ho with h | h
  ·have:=flat_side H.ok1 o h;rw [hs] at this;cases this
  ·exact h
 obtain ⟨hkl,hp,hoq⟩:=row_place (.inr rfl) H.ok2 hfl
 obtain ⟨k,hk⟩:∃ k,atN 2 o.price s2.rs = k:=⟨_,rfl⟩
 rw [hk] at hkl hp hoq
 have hk':atN o.side o.price s2.rs = k:=by rw [hs];exact hk
 have hmem:s2.rs[k]! ∈ s2.rs:=by rw [getElem!_pos s2.rs k hkl];exact List.getElem_mem hkl
 have hql:(s2.rs[k]!).q.length≤1000:=by
  have h1:(s2.rs[k]!).q.length≤lenQ (s1.rs ++ s2.rs):=lenQ_pre (x:=⟨s2.rs[k]!,List.mem_append_right _ hmem⟩)
  omega
 have hqp:=H.ok2.que _ hmem
 obtain ⟨hil,hio⟩:=que_place hqp hoq
 obtain ⟨i,hi⟩:∃ i,plN o (s2.rs[k]!).q = i:=⟨_,rfl⟩
 rw [hi] at hil hio
 have hsp:=split_at s2.rs k hkl
 have hsid:SideOk 2 (s2.rs.take k ++ [s2.rs[k]!] ++ s2.rs.drop (k + 1)):=by rw [← hsp];exact H.ok2
 have hth:s2.there = true:=(map_there H).2 (fun e=>by rw [e] at hkl;exact absurd hkl (Nat.not_lt_zero _))
 have hsplit:=row_split (s:=2) (p:=o.price) (.inr rfl) H.ok2.rows
 rw [hk] at hsplit
 have hqw:wrap64 (o.qty - qty) = o.qty - qty:=by
  have hg:=hgo.2
  unfold goodO at hg
  simp only [Bool.and_eq_true,decide_eq_true_eq] at hg
  have h6:=hg.2.2.2.2.2
  simp only [wrap64];omega
 -- the queue,and the book,around the order
 have hio':=hio
 rw [getElem!_pos _ i hil] at hio'
 have hQ1:(s2.rs[k]!).q = (s2.rs[k]!).q.take i ++ o :: (s2.rs[k]!).q.drop (i + 1):=by
  rw [← hio',← List.drop_eq_getElem_cons hil,List.take_append_drop]
 have hQ2:(s2.rs[k]!).q.set i (lessO o qty) = (s2.rs[k]!).q.take i ++ lessO o qty :: (s2.rs[k]!).q.drop (i + 1):=List.set_eq_take_append_cons_drop.trans (if_pos hil)
 have hidq:(s2.rs[k]!).q.Pairwise (fun x y=>¬ x.id = y.id):=by
  refine List.Pairwise.sublist ?_ H.ids
  unfold bookL
  have hs1:(s2.rs[k]!).q.Sublist (flatR s2.rs):=by
   conv=>rhs;rw [hsp]
   unfold flatR
   rw [List.flatMap_append,List.flatMap_append,List.flatMap_singleton]
   exact (List.sublist_append_right _ _).trans (List.sublist_append_left _ _)
  exact hs1.trans (List.sublist_append_right _ _)
 have hQm:(s2.rs[k]!).q.set i (lessO o qty) = (s2.rs[k]!).q.map (lessF o.id qty):=by
  rw [hQ2]
  conv=>rhs;rw [hQ1]
  exact (less_map (by rw [← hQ1];exact hidq)).symm
 have hbook:bookL s1.rs (s2.rs.take k ++ [(⟨o.price,(s2.rs[k]!).v,(s2.rs[k]!).q.set i (lessO o qty)⟩:Rw)] ++ s2.rs.drop (k + 1)) = (bookL s1.rs s2.rs).map (lessF o.id qty):=by
  have e0:∀ Y:Rw,flatR (s2.rs.take k ++ [Y] ++ s2.rs.drop (k + 1)) = flatR (s2.rs.take k) ++ Y.q ++ flatR (s2.rs.drop (k + 1)):=fun Y=>by
   unfold flatR;rw [List.flatMap_append,List.flatMap_append,List.flatMap_singleton]
  have e1:bookL s1.rs s2.rs = flatR s1.rs ++ flatR (s2.rs.take k) ++ (s2.rs[k]!).q.take i ++ o :: ((s2.rs[k]!).q.drop (i + 1) ++ flatR (s2.rs.drop (k + 1))):=by
   unfold bookL
   conv=>lhs;rw [hsp,e0,hQ1]
   simp only [List.append_assoc,List.cons_append]
  have h2:=H.ids
  rw [e1] at h2 ⊢
  rw [less_map h2]
  unfold bookL
  rw [e0]
  show flatR s1.rs ++ (flatR (s2.rs.take k) ++ (s2.rs[k]!).q.set i (lessO o qty) ++ flatR (s2.rs.drop (k + 1))) = _
  rw [hQ2]
  simp only [List.append_assoc,List.cons_append]
 refine (cut_less p m s1 s2 o id w H.bk hwf HGet s2.rs hR hpw (by omega) k hk' hkl hp hqp hql i hi hil hio qty hq1 (by omega) (by omega) hqw).mono fun e w' ⟨he,hh⟩=>⟨he,?_⟩
 obtain ⟨h1,h3⟩:=hh.out
 have hblk:∀ T (v:Value) (nn sz:Nat) (xs:List Value),w.ownsRow 0 T sz v nn xs → T ≠ 38 → ∀ j,v.ownBlock = some j → ¬ (s2.rs[k]!).v.ownBlock = some j:=fun T v nn sz xs hown hT j hj e=>by
  obtain ⟨cs,hcs⟩:=own_blk hown hj
  exact own_ne (H.bk.q _ (List.mem_append_right _ hmem)) hcs (fun e'=>hT e'.symm) e
 have hmm:w'.ownsMap Tryz.prog 3 RV m 2 (mapD s1 s2):=ownsMap_fr (H.bk.mp m rfl) h3 (fun e=>by
  obtain ⟨cs,hcs⟩:=own_blk (H.bk.q _ (List.mem_append_right _ hmem)) e
  exact map_ne (H.bk.mp m rfl) hcs rfl)
 have he2:s2.rs.take k ++ (⟨o.price,(s2.rs[k]!).v,(s2.rs[k]!).q.set i (lessO o qty)⟩:Rw) :: s2.rs.drop (k + 1) = s2.rs.take k ++ [(⟨o.price,(s2.rs[k]!).v,(s2.rs[k]!).q.set i (lessO o qty)⟩:Rw)] ++ s2.rs.drop (k + 1):=by rw [List.append_assoc];rfl
 have hrl:rl (s2.rs.take k ++ [(⟨o.price,(s2.rs[k]!).v,(s2.rs[k]!).q.set i (lessO o qty)⟩:Rw)] ++ s2.rs.drop (k + 1)) = rl s2.rs:=by
  rw [← he2]
  rw [rl_set s2.rs k hkl (⟨o.price,(s2.rs[k]!).v,(s2.rs[k]!).q.set i (lessO o qty)⟩:Rw) hp.symm]
  have:=rl_get s2.rs k 1 hkl (by omega)
  refine set_self ?_
  rw [this]
  rfl
 have hse:SideOk 2 (s2.rs.take k ++ (⟨o.price,(s2.rs[k]!).v,(s2.rs[k]!).q.set i (lessO o qty)⟩:Rw) :: s2.rs.drop (k + 1)) :=
  side_set (p:=o.price) hsplit.1 (fun b hb=>hsplit.2.2.2 _ _ (by rw [getElem!_pos s2.rs k hkl];exact List.drop_eq_getElem_cons hkl) hp b hb) hsid rfl (by show (s2.rs[k]!).q.set i (lessO o qty) ≠ [];rw [hQ2];simp)
   (fun x hx=>by
    have hx':x ∈ (s2.rs[k]!).q.set i (lessO o qty):=hx
    rw [hQm] at hx'
    obtain ⟨y,hy,rfl⟩:=List.mem_map.1 hx'
    rw [(less_id _ _ y).2.1,(less_id _ _ y).2.2,← hp]
    exact H.ok2.mem _ hmem y hy)
   (by
    show ((s2.rs[k]!).q.set i (lessO o qty)).Pairwise _
    rw [hQm]
    exact List.pairwise_map.2 (hqp.imp (fun h=>by rw [less_ahd];exact h)))
 rw [he2] at hse
 refine ⟨_,_,Lib.hid ⟨turn_side2 (M:=[s2.rs[k]!]) (X:=[(⟨o.price,(s2.rs[k]!).v,(s2.rs[k]!).q.set i (lessO o qty)⟩:Rw)]) (v2:=s2.v) H hsp ⟨.inr ⟨_,rfl⟩,.inr ⟨_,rfl,.inl ⟨_,rfl,rfl⟩⟩⟩ (.inl rfl) (fun r hr=>?_) ?_ ?_ ?_ hse ?_ ?_ ?_,hbook,(fun h=>by rw [hs] at h;cases h),fun _=>rfl⟩⟩
 ·rw [List.mem_singleton.1 hr]
  show w'.ownsRow 0 38 6 (s2.rs[k]!).v ((s2.rs[k]!).q.set i (lessO o qty)).length _
  rw [List.length_set];exact h1
 ·rw [hrl,← he2,set_len _ _ hkl]
  exact own_fr H.bk.r2 h3 (fun j hj=>hblk _ _ _ _ _ H.bk.r2 (by decide) j hj)
 ·have:mapD s1 ⟨true,s2.v,s2.rs.take k ++ [(⟨o.price,(s2.rs[k]!).v,(s2.rs[k]!).q.set i (lessO o qty)⟩:Rw)] ++ s2.rs.drop (k + 1)⟩ = mapD s1 s2:=by
   unfold mapD
   rw [hth]
  rw [this];exact hmm
 ·exact h3.mono (fun j e=>.inl (.inr (.inr ⟨_,List.mem_singleton.2 rfl,e⟩)))
 ·rw [hbook]
  exact List.pairwise_map.2 (H.ids.imp (fun h=>by rw [(less_id _ _ _).1,(less_id _ _ _).1];exact h))
 ·rw [hbook,List.length_map];exact H.len
 ·rw [hbook]
  intro x hx
  obtain ⟨y,hy,rfl⟩:=List.mem_map.1 hx
  unfold lessF
  split
  ·rename_i hyi
   rw [ids_inj H.ids hy ho hyi]
   exact less_good hgo hq1 hq2
  ·exact H.ok y hy

theorem get_there {p m:Nat} {s1 s2:Sd} {o:Od} {id:Int} {w:World} (H:Whole w p m s1 s2) (ho:o ∈ bookL s1.rs s2.rs) (hid:o.id = id) :
  Hid (∀ W,Below w.heap.size w W → Calls Tryz.prog 172 #[.pointer (some ⟨p,0,none⟩),.int .u64 id] W fun e w'=>e = .returned (.tuple #[optV (some o),.bool true])∧Hid (Below W.heap.size W w')):=fun W hW=>by
 have hn:=H.n1
 refine (lGet_c _ _ s1 s2 id W (H.bk.below hW) (by omega) (by omega) (by omega)).mono ?_
 rintro e w' ⟨r,rfl,h⟩
 obtain rfl:r = some o:=by
  cases r with
  | none=>exact absurd hid (h.out.1 o ho)
  | some y=>rw [ids_inj H.ids h.out.1.1 ho (h.out.1.2.trans hid.symm)]
 exact ⟨rfl,Lib.hid h.out.2⟩
theorem cut_none (p m:Nat) (s1 s2:Sd) (id qty:Int) (w:World) (H:Whole w p m s1 s2) (hno:∀ x ∈ bookL s1.rs s2.rs,¬ x.id = id) :
  Calls Tryz.prog 171 #[.pointer (some ⟨p,0,none⟩),.int .u64 id,.int .i64 qty] w fun e w'=>e = .returned (.int .i64 51)∧Hid (Below w.heap.size w w'):=by
 have HM:=Lib.hid (made_c (some ⟨p,0,none⟩) (some m) s1 s2 w H.bk)
 have hn:=H.n1
 have HGet:=Lib.hid (lGet_c _ _ s1 s2 id w H.bk (by omega) (by omega) (by omega))
 have HNo:=Lib.hid hno
 clear H hn hno
 go_enter Tryz.func171,Tryz.ntmps171
 go_wp2_with (first | ((with_reducible refine HM.out.mono ?_);rintro e w1' ⟨rfl,hw1⟩;obtain rfl:w = w1':=hw1.symm;clear HM) | ((with_reducible refine HGet.out.mono ?_);rintro e w1 ⟨r,rfl,hr⟩;obtain rfl:r = none:=(by cases r with | none=>rfl | some y=>exact absurd hr.out.1.2 (HNo.out y hr.out.1.1));dsimp only [optV,Option.isSome];have HB1:Hid (Below w.heap.size w (w1.alloc (.cells (OC ⟨0,0,0,0,0,0⟩) 38))):=hr.out.2.alloc hr.out.2.size _;clear HGet hr))
 go_ret
 exact ⟨rfl,Lib.hid HB1.out⟩
theorem cut_low (p m:Nat) (s1 s2:Sd) (o:Od) (id qty:Int) (w:World) (H:Whole w p m s1 s2)
  (HGet:Hid (∀ W,Below w.heap.size w W → Calls Tryz.prog 172 #[.pointer (some ⟨p,0,none⟩),.int .u64 id] W fun e w'=>e = .returned (.tuple #[optV (some o),.bool true])∧Hid (Below W.heap.size W w'))) (hq:qty < 1) :
  Calls Tryz.prog 171 #[.pointer (some ⟨p,0,none⟩),.int .u64 id,.int .i64 qty] w fun e w'=>e = .returned (.int .i64 2)∧Hid (Below w.heap.size w w'):=by
 have HM:=Lib.hid (made_c (some ⟨p,0,none⟩) (some m) s1 s2 w H.bk)
 have hd:decide (qty < 1) = true:=decide_eq_true hq
 clear H
 go_enter Tryz.func171,Tryz.ntmps171
 go_wp2_with (first | ((with_reducible refine HM.out.mono ?_);rintro e w1' ⟨rfl,hw1⟩;obtain rfl:w = w1':=hw1.symm;clear HM) | ((with_reducible refine (HGet.out _ (Below.refl _ _)).mono ?_);rintro e w1 ⟨rfl,hb1⟩;dsimp only [optV];have HB1:Hid (Below w.heap.size w (w1.alloc (.cells (OC o) 38))):=hb1.out.alloc hb1.out.size _;clear HGet))
 all_goals (try (exfalso;omega))
 go_ret
 exact ⟨rfl,Lib.hid HB1.out⟩
theorem cut_high (p m:Nat) (s1 s2:Sd) (o:Od) (id qty:Int) (w:World) (H:Whole w p m s1 s2)
  (HGet:Hid (∀ W,Below w.heap.size w W → Calls Tryz.prog 172 #[.pointer (some ⟨p,0,none⟩),.int .u64 id] W fun e w'=>e = .returned (.tuple #[optV (some o),.bool true])∧Hid (Below W.heap.size W w'))) (hq1:¬ qty < 1) (hq:o.qty < qty) :
  Calls Tryz.prog 171 #[.pointer (some ⟨p,0,none⟩),.int .u64 id,.int .i64 qty] w fun e w'=>e = .returned (.int .i64 2)∧Hid (Below w.heap.size w w'):=by
 have HM:=Lib.hid (made_c (some ⟨p,0,none⟩) (some m) s1 s2 w H.bk)
 have hd:decide (qty < 1) = false:=decide_eq_false hq1
 clear H
 go_enter Tryz.func171,Tryz.ntmps171
 go_wp2_with (first | ((with_reducible refine HM.out.mono ?_);rintro e w1' ⟨rfl,hw1⟩;obtain rfl:w = w1':=hw1.symm;clear HM) | ((with_reducible refine (HGet.out _ (Below.refl _ _)).mono ?_);rintro e w1 ⟨rfl,hb1⟩;dsimp only [optV];have HB1:Hid (Below w.heap.size w (w1.alloc (.cells (OC o) 38))):=hb1.out.alloc hb1.out.size _;clear HGet))
 all_goals (try (exfalso;omega))
 go_ret
 exact ⟨rfl,Lib.hid HB1.out⟩
theorem cut_all (p m:Nat) (s1 s2:Sd) (o:Od) (id:Int) (w:World) (H:Whole w p m s1 s2) (ho:o ∈ bookL s1.rs s2.rs) (hid:o.id = id)
  (HGet:Hid (∀ W,Below w.heap.size w W → Calls Tryz.prog 172 #[.pointer (some ⟨p,0,none⟩),.int .u64 id] W fun e w'=>e = .returned (.tuple #[optV (some o),.bool true])∧Hid (Below W.heap.size W w'))) (hq1:¬ o.qty < 1) :
  Calls Tryz.prog 171 #[.pointer (some ⟨p,0,none⟩),.int .u64 id,.int .i64 o.qty] w fun e w'=>e = .returned (.int .i64 0)∧∃ s1' s2',Hid (TakeIs w w' p m s1 s2 s1' s2' o):=by
 have HM:=Lib.hid (made_c (some ⟨p,0,none⟩) (some m) s1 s2 w H.bk)
 have hq2:¬ o.qty < o.qty:=by omega
 have HT:Hid (∀ W,Below w.heap.size w W → Calls Tryz.prog 176 #[.pointer (some ⟨p,0,none⟩),.int .u64 id] W fun e w'=>e = .returned (.tuple #[optV (some o),.bool true])∧∃ s1' s2',Hid (TakeIs W w' p m s1 s2 s1' s2' o)):=fun W hW=>lTake_c p m s1 s2 o id W (H.below hW) ho hid
 clear H ho hid
 go_enter Tryz.func171,Tryz.ntmps171
 go_wp2_with (first | ((with_reducible refine HM.out.mono ?_);rintro e w1' ⟨rfl,hw1⟩;obtain rfl:w = w1':=hw1.symm;clear HM) | ((with_reducible refine (HGet.out _ (Below.refl _ _)).mono ?_);rintro e w1 ⟨rfl,hb1⟩;dsimp only [optV];have HB1:Hid (Below w.heap.size w (w1.alloc (.cells (OC o) 38))):=hb1.out.alloc hb1.out.size _;clear HGet) | ((with_reducible refine (HT.out _ HB1.out).mono ?_);rintro e w3 ⟨rfl,t1,t2,ht⟩;dsimp only [optV];clear HT))
 all_goals (try (exfalso;omega))
 go_ret
 have h:=ht.out
 exact ⟨rfl,t1,t2,Lib.hid ⟨⟨h.tu.wh,(Fr.of_below HB1.out:Fr (foot (some ⟨p,0,none⟩) (some m) s1 s2) w _).t h.tu.fr,fun k hk=>(h.tu.ft k hk).imp (fun h'=>h') (fun h'=>Nat.le_trans HB1.out.size h')⟩,h.perm,h.e2,h.e1⟩⟩
theorem lCut_c (p m:Nat) (s1 s2:Sd) (id qty:Int) (w:World) (H:Whole w p m s1 s2) :
  Calls Tryz.prog 171 #[.pointer (some ⟨p,0,none⟩),.int .u64 id,.int .i64 qty] w fun e w'=>∃ c s1' s2',e = .returned (.int .i64 c)∧Hid (CutIs w w' p m s1 s2 s1' s2' id qty c):=by
 by_cases hx:∃ x ∈ bookL s1.rs s2.rs,x.id = id
 ·obtain ⟨o,ho,hid⟩:=hx
  have HGet:=get_there H ho hid
  by_cases hq1:qty < 1
  ·exact (cut_low p m s1 s2 o id qty w H HGet hq1).mono fun e w' ⟨he,h⟩=>⟨2,s1,s2,he,Lib.hid (.inr ⟨o,ho,hid,.inl ⟨rfl,.inl hq1,rfl,rfl,h.out⟩⟩)⟩
  by_cases hq2:o.qty < qty
  ·exact (cut_high p m s1 s2 o id qty w H HGet hq1 hq2).mono fun e w' ⟨he,h⟩=>⟨2,s1,s2,he,Lib.hid (.inr ⟨o,ho,hid,.inl ⟨rfl,.inr hq2,rfl,rfl,h.out⟩⟩)⟩
  by_cases hq3:qty = o.qty
  ·subst hq3
   exact (cut_all p m s1 s2 o id w H ho hid HGet hq1).mono fun e w' ⟨he,t1,t2,h⟩=>⟨0,t1,t2,he,Lib.hid (.inr ⟨o,ho,hid,.inr (.inl ⟨rfl,hq1,rfl,h.out⟩)⟩)⟩
  ·have hl:qty < o.qty:=by omega
   rcases good_side (H.ok o ho).2 with hs | hs
   ·exact (cut_w1 p m s1 s2 o id qty w H ho hs hq1 hl HGet).mono fun e w' ⟨he,t1,t2,h⟩=>⟨0,t1,t2,he,Lib.hid (.inr ⟨o,ho,hid,.inr (.inr ⟨rfl,hq1,hl,h.out⟩)⟩)⟩
   ·exact (cut_w2 p m s1 s2 o id qty w H ho hs hq1 hl HGet).mono fun e w' ⟨he,t1,t2,h⟩=>⟨0,t1,t2,he,Lib.hid (.inr ⟨o,ho,hid,.inr (.inr ⟨rfl,hq1,hl,h.out⟩)⟩)⟩
 ·have hno:∀ x ∈ bookL s1.rs s2.rs,¬ x.id = id:=fun x h1 h2=>hx ⟨x,h1,h2⟩
  exact (cut_none p m s1 s2 id qty w H hno).mono fun e w' ⟨he,h⟩=>⟨51,s1,s2,he,Lib.hid (.inl ⟨rfl,hno,rfl,rfl,h.out⟩)⟩
end Go.Proofs.YtikapeaodobkjaaGreat
namespace Go.Proofs.YtikapeaodobkjaaGreat
open Go.RowKit Go.Shelf Go.Sort

theorem side_ok {s1 s2:Sd} (h1:SideOk 1 s1.rs) (h2:SideOk 2 s2.rs) (sd:Int):(rsOf s1 s2 sd).Pairwise (fun a b=>betN sd a.pr b.pr = true):=by
 unfold rsOf
 by_cases e1:sd = 1
 ·subst e1;rw [if_pos rfl];exact h1.rows
 ·rw [if_neg e1]
  by_cases e2:sd = 2
  ·subst e2;rw [if_pos rfl];exact h2.rows
  ·rw [if_neg e2];exact List.Pairwise.nil
theorem clone_own {W:World} {qa:Option Addr} {qn qc:Nat} {Q:List Od} (h:W.ownsRow 0 38 6 (.slice qa qn qc) qn (ol Q)) (hn:qn≤1000) :
  Calls Tryz.prog 49 #[.slice qa qn qc] W fun e w'=>∃ v,e = .returned v∧Hid (w'.ownsRow W.heap.size 38 6 v qn (ol Q)∧Below W.heap.size W w'):=by
 obtain ⟨A,c,hv,hq⟩:=own_que h
 injection hv with e1 e2 e3
 subst e1 e3
 rcases h.2 with ⟨hv,h0⟩ | ⟨k,cap,cur,hv,_⟩
 ·injection hv with e1 _ _
  subst e1
  have hQ:Q = []:=by have:=hq.1;rw [h0] at this;exact List.length_eq_zero_iff.1 this
  subst hQ
  refine (clone_nil qn qc W).mono fun e w' ⟨he,hw⟩=>⟨_,he,Lib.hid ?_⟩
  rw [hw]
  exact ⟨⟨by rw [h0];rfl,.inl ⟨rfl,h0⟩⟩,Below.refl _ _⟩
 ·injection hv with e1 _ _
  subst e1
  refine (clone_c k 0 qn qc Q W hq.1 hn (fun i hi=>?_)).mono fun e w' ⟨v,he,h1,_,h3⟩=>⟨v,he,Lib.hid ⟨h1,h3⟩⟩
  rcases hq.2 with h0 | ⟨g,e,_,hc⟩
  ·omega
  ·injection e with e
   injection e with e
   subst e
   rw [Nat.zero_add]
   exact hc i hi
def levQ (sd p:Int) (R:List Rw):List Od:=if atN sd p R < R.length∧(R[atN sd p R]!).pr = p then (R[atN sd p R]!).q else []
theorem lLevel_c (b:Option Addr) (m:Option Nat) (s1 s2:Sd) (sd pr:Int) (hsd:(Lit.int .i64 sd).wf = true) (w:World) (H:Bk w b m s1 s2) (h1:SideOk 1 s1.rs) (h2:SideOk 2 s2.rs) (hR1:s1.rs.length≤1000) (hR2:s2.rs.length≤1000) (hQ:lenQ (s1.rs ++ s2.rs)≤1000) :
  Calls Tryz.prog 174 #[.pointer b,.int .i64 sd,.int .i64 pr] w fun e w'=>∃ v,e = .returned v∧Hid (w'.ownsRow w.heap.size 38 6 v (levQ sd pr (rsOf s1 s2 sd)).length (ol (levQ sd pr (rsOf s1 s2 sd)))∧Below w.heap.size w w'):=by
 have HS:=Lib.hid (side_c b m s1 s2 sd w hsd H)
 obtain ⟨A,c,hv,hr,hft⟩:=H.rows sd
 have hpw:=side_ok h1 h2 sd
 have hrl:=rs_len (s1:=s1) (s2:=s2) sd hR1 hR2
 obtain ⟨R,hR⟩:∃ R,rsOf s1 s2 sd = R:=⟨_,rfl⟩
 rw [hR] at hv hr hpw hrl hft ⊢
 rw [hv] at HS
 have HF:=Lib.hid (find_c A R.length c R sd pr w hr hpw hrl)
 unfold levQ
 obtain ⟨k,hk⟩:∃ k,atN sd pr R = k:=⟨_,rfl⟩
 rw [hk] at HF ⊢
 by_cases hth:k < R.length∧(R[k]!).pr = pr
 ·rw [if_pos hth]
  have e:(decide (k < R.length) && (R[k]!).pr == pr) = true:=by rw [decide_eq_true hth.1,hth.2];simp
  rw [e] at HF
  have hmem:R[k]! ∈ s1.rs ++ s2.rs:=by
   rw [getElem!_pos R k hth.1]
   exact rsOf_mem (by rw [hR];exact List.getElem_mem hth.1)
  have hql:(R[k]!).q.length≤1000:=Nat.le_trans (lenQ_pre (x:=⟨R[k]!,hmem⟩)) hQ
  obtain ⟨g,rfl,hc2⟩:∃ g,A = some ⟨g,0,none⟩∧w.cell? ⟨g,k * 2 + 1,none⟩ = some (R[k]!).v:=by
   rcases hr.2 with h0 | ⟨g,h,_,hc⟩
   ·omega
   ·exact ⟨g,h,(hc k hth.1).2⟩
  obtain ⟨qa,qc,hqv,hqa⟩:=own_que (H.q _ hmem)
  have hq:=H.q _ hmem
  obtain ⟨Q,hQd⟩:∃ Q,(R[k]!).q = Q:=⟨_,rfl⟩
  rw [hQd] at hqv hqa hql hq ⊢
  obtain ⟨qn,hqn⟩:∃ qn,Q.length = qn:=⟨_,rfl⟩
  rw [hqn] at hqv hqa hql ⊢
  rw [hqv] at hc2
  rw [hqv,hqn] at hq
  have hkl:=Lib.hid hth.1
  have hkI:(k:Int) < (R.length:Int):=by have:=hth.1;omega
  have HC:Hid (∀ W,Gw w W → Calls Tryz.prog 49 #[.slice qa qn qc] W fun e w'=>∃ v,e = .returned v∧Hid (w'.ownsRow W.heap.size 38 6 v qn (ol Q)∧Below W.heap.size W w')):=fun W hW=>clone_own (own_fr hq (S:=fun _=>False) (Fr.of_below hW.b) (fun _ _ h=>h)) hql
  have hcq:∀ W,Gw w W → W.cell? ⟨g,k * 2 + 1,none⟩ = some (.slice qa qn qc):=fun W hW=>cell_keep (S:=fun _=>False) (Fr.of_below hW.b) (fun h=>h) hc2
  have Hcq:=Lib.hid hcq
  clear H hr hft hth e hcq hc2 hq hqa hk hpw
  go_enter Tryz.func174,Tryz.ntmps174
  go_wp2_with (first | ((with_reducible refine HS.out.mono ?_);rintro e w1 ⟨rfl,rfl⟩;clear HS) | ((with_reducible refine HF.out.mono ?_);rintro e w2 ⟨rfl,k2⟩;have hcq:=Hcq.out _ k2) | ((with_reducible refine (HC.out _ k2).mono ?_);rintro e w3 ⟨v,rfl,hv3⟩))
  go_ret
  exact ⟨_,rfl,Lib.hid ⟨own_base hv3.out.1 k2.b.size,k2.b.trans (hv3.out.2.mono k2.b.size)⟩⟩
 ·rw [if_neg hth]
  have e:(decide (k < R.length) && (R[k]!).pr == pr) = false:=by
   by_cases h1:k < R.length
   ·have h2:¬ (R[k]!).pr = pr:=fun h=>hth ⟨h1,h⟩
    have h3:((R[k]!).pr == pr) = false:=by
     cases h4:((R[k]!).pr == pr) with
     | false=>rfl
     | true=>exact absurd (by simpa using h4) (by simpa using h2)
    rw [h3,Bool.and_false]
   ·rw [decide_eq_false h1,Bool.false_and]
  rw [e] at HF
  clear H hr hft hth e hk hpw
  go_enter Tryz.func174,Tryz.ntmps174
  go_wp2_with (first | ((with_reducible refine HS.out.mono ?_);rintro e w1 ⟨rfl,rfl⟩;clear HS) | ((with_reducible refine HF.out.mono ?_);rintro e w2 ⟨rfl,k2⟩))
  go_ret
  exact ⟨_,rfl,Lib.hid ⟨⟨rfl,.inl ⟨rfl,rfl⟩⟩,k2.b⟩⟩
theorem take_no (b:Option Addr) (m:Option Nat) (s1 s2:Sd) (id:Int) (w:World) (H:Bk w b m s1 s2) (hR1:s1.rs.length≤1000) (hR2:s2.rs.length≤1000) (hQ:lenQ (s1.rs ++ s2.rs)≤1000) (hno:∀ x ∈ bookL s1.rs s2.rs,¬ x.id = id) :
  Calls Tryz.prog 176 #[.pointer b,.int .u64 id] w fun e w'=>e = .returned (.tuple #[optV none,.bool false])∧Hid (Below w.heap.size w w'):=by
 have hb:Below w.heap.size w (w.alloc (.cells (OC ⟨0,0,0,0,0,0⟩) 38)):=(Below.refl _ _).alloc (Nat.le_refl _) _
 have HG:=Lib.hid (lGet_c b m s1 s2 id (w.alloc (.cells (OC ⟨0,0,0,0,0,0⟩) 38)) (H.below hb) hR1 hR2 hQ)
 have HB:=Lib.hid hb
 clear H hb
 go_enter Tryz.func176,Tryz.ntmps176
 go_wp2_with ((with_reducible refine HG.out.mono ?_);rintro e w1 ⟨r,rfl,hr⟩;obtain rfl:r = none:=(by cases r with | none=>rfl | some y=>exact absurd hr.out.1.2 (hno y hr.out.1.1));dsimp only [optV,Option.isSome];have B1:Hid (Below w.heap.size w (w1.alloc (.cells (OC ⟨0,0,0,0,0,0⟩) 38))):=(HB.out.trans (hr.out.2.mono HB.out.size)).alloc (Nat.le_trans HB.out.size hr.out.2.size) _;have C1:Cl 38 (w1.alloc (.cells (OC ⟨0,0,0,0,0,0⟩) 38)) w.heap.size (OC ⟨0,0,0,0,0,0⟩):=hd_prev (Nat.lt_of_lt_of_le (Nat.lt_succ_self _) (by have:=hr.out.2.size;rw [World.size_alloc] at this;exact this)) ((hr.out.2.block _ (by rw [World.size_alloc];exact Nat.lt_succ_self _)).trans (hd_last rfl));have C0:=Lib.hid C1;obtain ⟨x0,x1,x2,x3,x4,x5⟩:=six_of C1;have f0:=C1.f (k:=0);have f1:=C1.f (k:=1);have f2:=C1.f (k:=2);have f3:=C1.f (k:=3);have f4:=C1.f (k:=4);have f5:=C1.f (k:=5);clear HG hr)
 have hf:=put6_cl ⟨0,0,0,0,0,0⟩ C0.out
 have hb:=put6_below ⟨0,0,0,0,0,0⟩ (Nat.le_refl _) B1.out
 refine bodyPost_ret (retOt rfl _ _ _ rfl ⟨0,0,0,0,0,0⟩ _ hf _ rfl) rfl ?_
 exact ⟨rfl,Lib.hid hb⟩
end Go.Proofs.YtikapeaodobkjaaGreat
