/- ladder: over: the rows of sides, gone over. -/
import Derived.Test.YtailiaobbgikfaaLdC
import Derived.RangeFuncNested
import Derived.RangeFuncBound
import Derived.RangeFuncCalls
import Derived.RangeFuncLeaves
import Derived.Shelf.Abstract
import Derived.Shelf.RegionOpen
import Derived.OwnWalkIn
import Derived.TacticsInMore
import Derived.LoopNIn
import Derived.LoopIn
namespace Go.Proofs.Ytailiaobbgikfaa
open Go.RowKit Go.Shelf

attribute [local go_sem] Oper.semAt_some

/-- A side's rows. -/
def rsOf (s1 s2 : Sd) (side : Int) : List Rw := if side = 1 then s1.rs else if side = 2 then s2.rs else []
/-- What may come: a row of the book. -/
abbrev Rx (s1 s2 : Sd) := { r : Rw // r ∈ s1.rs ++ s2.rs }
def vals {s1 s2 : Sd} (l : List (Rx s1 s2)) : List Rw := l.map Subtype.val
theorem rsOf_mem {s1 s2 : Sd} {side : Int} {r : Rw} (h : r ∈ rsOf s1 s2 side) : r ∈ s1.rs ++ s2.rs := by
  unfold rsOf at h
  split at h
  · exact List.mem_append_left _ h
  · split at h
    · exact List.mem_append_right _ h
    · cases h
theorem Bk.rows {w : World} {b : Option Addr} {m : Option Nat} {s1 s2 : Sd} (h : Bk w b m s1 s2) (side : Int) :
    ∃ A c, rowsOf s1 s2 side = .slice A (rsOf s1 s2 side).length c ∧ RowsAt w A (rsOf s1 s2 side).length (rsOf s1 s2 side) ∧ ∀ g, A = some ⟨g, 0, none⟩ → 0 < (rsOf s1 s2 side).length → foot b m s1 s2 g := by
  unfold rowsOf rsOf
  by_cases e1 : side = 1
  · rw [if_pos e1, if_pos e1]
    obtain ⟨A, c, hv, hR⟩ := own_rows h.r1
    exact ⟨A, c, hv, hR, fun g hg _ => .inr (.inr (.inl (by rw [hv, hg]; rfl)))⟩
  · rw [if_neg e1, if_neg e1]
    by_cases e2 : side = 2
    · rw [if_pos e2, if_pos e2]
      obtain ⟨A, c, hv, hR⟩ := own_rows h.r2
      exact ⟨A, c, hv, hR, fun g hg _ => .inr (.inr (.inr (.inl (by rw [hv, hg]; rfl))))⟩
    · rw [if_neg e2, if_neg e2]
      exact ⟨none, 0, rfl, ⟨rfl, .inl rfl⟩, fun g hg _ => by cases hg⟩
theorem fr_low {n₀ : Nat} {w w' : World} (h : Below n₀ w w') : Fr (n₀ ≤ ·) w w' := ⟨h.os, h.tape, h.output, h.size, fun k _ hn => h.block k (by omega)⟩
def Rw.val (r : Rw) : Value := .agg #[.int .i64 r.pr, r.v]

/-- What the iterator reads, as it lies; none of its blocks is of S. -/
structure OvM (S : Nat → Prop) (w : World) (sb bb g : Nat) (sides : List Int) (b : Option Addr) (m : Option Nat) (s1 s2 : Sd) : Prop where
  c1 : w.cell? ⟨sb, 0, none⟩ = some (.slice (some ⟨g, 0, none⟩) sides.length sides.length)
  l1 : ¬ S sb
  c2 : w.cell? ⟨bb, 0, none⟩ = some (.pointer b)
  l2 : ¬ S bb
  cs : ∀ k, k < sides.length → w.cell? ⟨g, k, none⟩ = some (.int .i64 (sides[k]!)) ∧ (Lit.int .i64 (sides[k]!)).wf = true
  lg : ¬ S g
  bk : Bk w b m s1 s2
  lb : ∀ k, foot b m s1 s2 k → ¬ S k
theorem cell_keep {S : Nat → Prop} {w w' : World} (hf : Fr S w w') {b o : Nat} {v : Value} (hn : ¬ S b) (h : w.cell? ⟨b, o, none⟩ = some v) : w'.cell? ⟨b, o, none⟩ = some v :=
  (cell_fr hf (World.block_lt_of_cell? w ⟨b, o, none⟩ h) hn o).trans h
theorem OvM.keep {S : Nat → Prop} {w w' : World} {sb bb g : Nat} {sides : List Int} {b : Option Addr} {m : Option Nat} {s1 s2 : Sd} (h : OvM S w sb bb g sides b m s1 s2) (hf : Fr S w w') : OvM S w' sb bb g sides b m s1 s2 :=
  ⟨cell_keep hf h.l1 h.c1, h.l1, cell_keep hf h.l2 h.c2, h.l2, fun k hk => ⟨cell_keep hf h.lg (h.cs k hk).1, (h.cs k hk).2⟩, h.lg, h.bk.fr hf h.lb, h.lb⟩
theorem Fr.t {S : Nat → Prop} {a b c : World} (h : Fr S a b) (k : Fr S b c) : Fr S a c := h.trans k (fun _ h => .inl h)
theorem subs_snoc {s1 s2 : Sd} {pre : List (Rx s1 s2)} {X Y : List Rw} {j : Nat} {r : Rw} (hr : r ∈ s1.rs ++ s2.rs) (h : vals pre = X ++ Y.take j) (hj : j < Y.length) (e : Y[j]! = r) : vals (pre ++ [⟨r, hr⟩]) = X ++ Y.take (j + 1) := by
  unfold vals at h ⊢
  rw [List.map_append, h, List.take_succ_eq_append_getElem hj, List.append_assoc]
  rw [getElem!_pos Y j hj] at e
  rw [e]
  rfl
theorem vals_len {s1 s2 : Sd} (l : List (Rx s1 s2)) : (vals l).length = l.length := List.length_map _
theorem sides_pre (s1 s2 : Sd) (sides : List Int) (k : Nat) : (sides.take k).flatMap (rsOf s1 s2) <+: sides.flatMap (rsOf s1 s2) := by
  conv => rhs; rw [← List.take_append_drop k sides, List.flatMap_append]
  exact List.prefix_append _ _
theorem sides_snoc (s1 s2 : Sd) (sides : List Int) (k : Nat) (hk : k < sides.length) : (sides.take (k + 1)).flatMap (rsOf s1 s2) = (sides.take k).flatMap (rsOf s1 s2) ++ rsOf s1 s2 (sides[k]!) := by
  rw [List.take_succ_eq_append_getElem hk, List.flatMap_append, getElem!_pos sides k hk]
  simp

set_option maxRecDepth 100000 in
set_option maxHeartbeats 4000000 in
theorem over1_in (n : Nat) (hn : 1 ≤ n) (ll : Nat) (S : Nat → Prop) (sb bb g : Nat) (sides : List Int) (b : Option Addr) (m : Option Nat) (s1 s2 : Sd) (hL : sides.length ≤ 1000) (hR1 : s1.rs.length ≤ 1000) (hR2 : s2.rs.length ≤ 1000) (J Jx : List (Rx s1 s2) → World → Prop)
    (W : World) (N : Nat) (hN : (sides.flatMap (rsOf s1 s2)).length ≤ N) (hJ : AbidesFrom W.heap.size J)
    (hY : ∀ pre x W1, J pre W1 → pre.length < N → YieldAt Fence.wide (n - 1) Try.prog ll #[Rw.val x.1] W1 fun e W' =>
      (e = .returned (.bool true) ∧ J (pre ++ [x]) W' ∧ Fr S W1 W') ∨ (e = .returned (.bool false) ∧ Jx (pre ++ [x]) W'))
    (hM : OvM S W sb bb g sides b m s1 s2) (h0 : J [] W) :
    CallsIn Fence.wide n Try.prog 93 #[.func (.yield ll) #[] #[], .pointer (some ⟨sb, 0, none⟩), .pointer (some ⟨bb, 0, none⟩)] W fun e W' => (∃ v, e = .returned v) ∧
      ((∃ ys : List (Rx s1 s2), vals ys = sides.flatMap (rsOf s1 s2) ∧ J ys W') ∨ (∃ pre : List (Rx s1 s2), vals pre <+: sides.flatMap (rsOf s1 s2) ∧ Jx pre W')) := by
  have HGr : Hid (∀ pre W1 W2, J pre W1 → Below W1.heap.size W1 W2 → J pre W2) := fun pre W1 W2 h hb =>
    hJ pre W1 W2 none h ⟨hb.os, hb.tape, hb.output, hb.size, fun i hi _ => hb.block i hi⟩ (fun r e => by cases e)
  have HY := Lib.hid hY
  have H0 := Lib.hid h0
  have HM := Lib.hid hM
  have HN := Lib.hid (And.intro hN (And.intro hL (And.intro hR1 hR2)))
  have c1 := hM.c1
  clear hY h0 hM hJ hN hL hR1 hR2
  refine callsIn_of_wp Try.func93 rfl trivial ?_ rfl
  simp only [Try.ntmps93, List.size_toArray, List.length_cons, List.length_nil, Nat.reduceAdd, Nat.reduceSub, Array.replicate_succ, Array.replicate_zero, List.push_toArray, List.append_toArray, List.nil_append, List.cons_append]
  gi_wp2_with fail
  gi_loopw [10] (fun s wr => ∃ (k : Nat) (pre : List (Rx s1 s2)), s = .int .i64 (k : Int) ∧ Hid (k ≤ sides.length ∧ vals pre = (sides.take k).flatMap (rsOf s1 s2) ∧ J pre wr ∧ OvM S wr sb bb g sides b m s1 s2)) (fun s _ => match s with | .int _ z => sides.length - z.toNat | _ => 0)
  case atStart => exact ⟨0, [], rfl, Nat.zero_le _, rfl, H0.out, HM.out⟩
  case round =>
    clear H0 HM c1
    obtain ⟨k, pre, rfl, hd⟩ := hrel
    by_cases hk : k < sides.length
    · have hO := hd.out.2.2.2
      have ck := (hO.cs k hk).1
      obtain ⟨sd, hsd⟩ : ∃ sd, sides[k]! = sd := ⟨_, rfl⟩
      rw [hsd] at ck
      have c2 := hO.c2
      obtain ⟨A, c, hv, hR, hA⟩ := hO.bk.rows sd
      have HS := Lib.hid ((callsIn_wide (n := n - 1)).2 (side_c b m s1 s2 sd wr (by rw [← hsd]; exact (hO.cs k hk).2) hO.bk))
      rw [hv] at HS
      obtain ⟨rs, hrs⟩ : ∃ rs, rsOf s1 s2 sd = rs := ⟨_, rfl⟩
      rw [hrs] at hR hA HS
      have hkI : (k : Int) < (sides.length : Int) := by omega
      have hln : rs.length ≤ 1000 := by
        rw [← hrs]
        unfold rsOf
        split
        · exact HN.out.2.2.1
        · split
          · exact HN.out.2.2.2
          · exact Nat.zero_le _
      have HA := Lib.hid (And.intro hR.2 hA)
      have HX := Lib.hid (And.intro hsd (And.intro hrs hk))
      clear hO hsd hrs hk hR hA hv
      gi_wp2_with fail
      refine ⟨trivial, ?_⟩
      ((with_reducible refine HS.out.mono ?_); rintro e w1 ⟨rfl, rfl⟩)
      clear HS ck c2
      gi_wp2_with fail
      gi_loopw [18] (fun s wq => ∃ (j : Nat) (pre : List (Rx s1 s2)), s = .int .i64 (j : Int) ∧ Hid (j ≤ rs.length ∧ vals pre = (sides.take k).flatMap (rsOf s1 s2) ++ rs.take j ∧ J pre wq ∧ OvM S wq sb bb g sides b m s1 s2 ∧ Fr S w1 wq)) (fun s _ => match s with | .int _ z => rs.length - z.toNat | _ => 0)
      case atStart => exact ⟨0, pre, rfl, Nat.zero_le _, by rw [hd.out.2.1]; simp, hd.out.2.2.1, hd.out.2.2.2, Fr.refl _ _⟩
      case round =>
        clear hd
        obtain ⟨j, pre', rfl, hd⟩ := hrel
        by_cases hj : j < rs.length
        · have hO := hd.out.2.2.2.1
          have hB := hd.out.2.2.2.2
          obtain ⟨g2, rfl, hg2⟩ : ∃ g2, A = some ⟨g2, 0, none⟩ ∧ w1.cell? ⟨g2, j * 2, none⟩ = some (.int .i64 (rs[j]!).pr) ∧ w1.cell? ⟨g2, j * 2 + 1, none⟩ = some (rs[j]!).v := by
            rcases HA.out.1 with h0 | ⟨g2, h1, _, h3⟩
            · omega
            · exact ⟨g2, h1, h3 j hj⟩
          have hl2 : ¬ S g2 := hO.lb g2 (HA.out.2 g2 rfl (by omega))
          have hmem : rs[j]! ∈ s1.rs ++ s2.rs := by
            rw [getElem!_pos rs j hj]
            exact rsOf_mem (by rw [HX.out.2.1]; exact List.getElem_mem hj)
          have d0 := cell_keep hB hl2 hg2.1
          have d1 := cell_keep hB hl2 hg2.2
          obtain ⟨r, hr⟩ : ∃ r, rs[j]! = r := ⟨_, rfl⟩
          rw [hr] at d0 d1 hmem
          have hpl : pre'.length < N := by
            have e1 : (vals pre').length = pre'.length := vals_len pre'
            rw [hd.out.2.1, List.length_append, List.length_take] at e1
            have e2 := (sides_pre s1 s2 sides (k + 1)).length_le
            rw [sides_snoc s1 s2 sides k HX.out.2.2, List.length_append, HX.out.1, HX.out.2.1] at e2
            have := HN.out.1
            omega
          obtain ⟨pr, hpr⟩ : ∃ pr, r.pr = pr := ⟨_, rfl⟩
          obtain ⟨qa, qc, hqv, _⟩ := own_que (hO.bk.q r hmem)
          obtain ⟨qn, hqn⟩ : ∃ qn, r.q.length = qn := ⟨_, rfl⟩
          rw [hqn] at hqv
          rw [hpr] at d0
          rw [hqv] at d1
          have hJa : J pre' (wr.alloc (.cells #[.int .i64 pr, .slice qa qn qc] 100)) := HGr.out _ _ _ hd.out.2.2.1 ((Below.refl _ _).alloc (Nat.le_refl _) _)
          obtain ⟨fn, tmps, assign, body, hy, hY⟩ := HY.out pre' ⟨r, hmem⟩ (wr.alloc (.cells #[.int .i64 pr, .slice qa qn qc] 100)) hJa hpl
          have HV : Rw.val r = .agg #[.int .i64 pr, .slice qa qn qc] := by unfold Rw.val; rw [hpr, hqv]
          simp only [HV] at hy
          have HYY := Lib.hid hY
          have hjI : (j : Int) < (rs.length : Int) := by omega
          have HF := Lib.hid (And.intro hj (And.intro hr (And.intro hO hB)))
          have HP := Lib.hid hd.out.2.1
          have hw9 : IntKind.i64.wrap ((j : Int) + 1) = ((j + 1 : Nat) : Int) := by rw [IntKind.wrap_i64]; omega
          clear hd hO hB hg2 hl2 hJa hY hpr hqv hj hr HV hpl
          gi_wp2_with fail
          refine HYY.out.mono ?_
          rintro e W3 (⟨rfl, hJ3, hk3⟩ | ⟨rfl, hJx3⟩)
          · have hb : Fr S wr W3 := ((Fr.refl S wr).alloc _).t hk3
            have HJ3 := Lib.hid (And.intro hJ3 hb)
            clear hJ3 hk3 hb HYY hy
            gi_wp2_with fail
            refine ⟨⟨j + 1, pre' ++ [⟨r, hmem⟩], ?_, ?_, subs_snoc hmem HP.out HF.out.1 HF.out.2.1, HJ3.out.1, HF.out.2.2.1.keep HJ3.out.2, HF.out.2.2.2.t HJ3.out.2⟩, ?_⟩
            · simp
            · have := HF.out.1; omega
            · have := HF.out.1
              simp
              omega
          · gi_wp2_with fail
            refine bodyPost_ret (results_none rfl _ _ _) rfl ?_
            refine ⟨⟨_, rfl⟩, .inr ⟨pre' ++ [⟨r, hmem⟩], ?_, hJx3⟩⟩
            rw [subs_snoc hmem HP.out HF.out.1 HF.out.2.1]
            refine List.IsPrefix.trans ?_ (sides_pre s1 s2 sides (k + 1))
            rw [sides_snoc s1 s2 sides k HX.out.2.2, HX.out.1, HX.out.2.1]
            exact List.prefix_append_right_inj _ |>.2 (List.take_prefix _ _)
        · have hjI : ¬ (j : Int) < (rs.length : Int) := by omega
          have HF := Lib.hid (And.intro hj hd.out)
          have hw9 : IntKind.i64.wrap ((k : Int) + 1) = ((k + 1 : Nat) : Int) := by rw [IntKind.wrap_i64]; have := HN.out.2.1; omega
          clear hd hj
          gi_wp2_with fail
          refine ⟨⟨k + 1, pre', ?_, ?_, ?_, HF.out.2.2.2.1, HF.out.2.2.2.2.1⟩, ?_⟩
          · simp
          · have := HX.out.2.2; omega
          · rw [sides_snoc s1 s2 sides k HX.out.2.2, HX.out.1, HX.out.2.1, HF.out.2.2.1, (List.take_of_length_le (by have := HF.out.1; omega) : rs.take j = rs)]
          · have := HX.out.2.2
            simp
            omega
    · have hkI : ¬ (k : Int) < (sides.length : Int) := by omega
      gi_wp2_with fail
      go_end0
      refine ⟨⟨_, rfl⟩, .inl ⟨pre, ?_, hd.out.2.2.1⟩⟩
      rw [hd.out.2.1, List.take_of_length_le (by omega)]
theorem over_c (b : Option Addr) (A : Option Addr) (n c : Nat) (w : World) :
    Calls Try.prog 81 #[.pointer b, .slice A n c] w fun e w' => e = .returned (.func (.func 93) #[] #[.pointer (some ⟨w.heap.size + 1, 0, none⟩), .pointer (some ⟨w.heap.size, 0, none⟩)]) ∧ w' = (w.alloc (.cells #[.pointer b] 65)).alloc (.cells #[.slice A n c] 82) := by
  have hmf := hmf_any
  go_enter Try.func81, Try.ntmps81
  go_wp2_with fail
  go_ret
  exact ⟨rfl, rfl⟩
theorem over_stops (n : Nat) (hn : 1 ≤ n) (S : Nat → Prop) (sb bb g : Nat) (sides : List Int) (b : Option Addr) (m : Option Nat) (s1 s2 : Sd) (hL : sides.length ≤ 1000) (hR1 : s1.rs.length ≤ 1000) (hR2 : s2.rs.length ≤ 1000) (w : World) (N : Nat) (hN : (sides.flatMap (rsOf s1 s2)).length ≤ N)
    (hM : OvM S w sb bb g sides b m s1 s2) :
    SeqStopsK Fence.wide n Try.prog 93 #[.pointer (some ⟨sb, 0, none⟩), .pointer (some ⟨bb, 0, none⟩)] (fun x : Rx s1 s2 => #[Rw.val x.1]) (Fr S) (fun ys => vals ys = sides.flatMap (rsOf s1 s2)) (fun pre => vals pre <+: sides.flatMap (rsOf s1 s2)) N w := fun ll J Jx W hW hJ _ hY h0 =>
  over1_in n hn ll S sb bb g sides b m s1 s2 hL hR1 hR2 J Jx W N hN hJ hY (hM.keep ((Fr.of_below hW).mono (fun _ h => .inl h))) h0
end Go.Proofs.Ytailiaobbgikfaa
