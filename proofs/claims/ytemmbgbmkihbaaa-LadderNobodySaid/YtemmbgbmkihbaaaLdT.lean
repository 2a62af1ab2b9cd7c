/- ladder: Level; and what a book tells that has no such order, or was never made. -/
import Derived.Test.YtemmbgbmkihbaaaLdS
namespace Go.Proofs.Ytemmbgbmkihbaaa
open Go.RowKit Go.Shelf Go.Sort

theorem side_ok {s1 s2 : Sd} (h1 : SideOk 1 s1.rs) (h2 : SideOk 2 s2.rs) (sd : Int) : (rsOf s1 s2 sd).Pairwise (fun a b => betN sd a.pr b.pr = true) := by
  unfold rsOf
  by_cases e1 : sd = 1
  · subst e1; rw [if_pos rfl]; exact h1.rows
  · rw [if_neg e1]
    by_cases e2 : sd = 2
    · subst e2; rw [if_pos rfl]; exact h2.rows
    · rw [if_neg e2]; exact List.Pairwise.nil
/-- slices.Clone of an own row. -/
theorem clone_own {W : World} {qa : Option Addr} {qn qc : Nat} {Q : List Od} (h : W.ownsRow 0 32 6 (.slice qa qn qc) qn (ol Q)) (hn : qn ≤ 1000) :
    Calls Try.prog 56 #[.slice qa qn qc] W fun e w' => ∃ v, e = .returned v ∧ Hid (w'.ownsRow W.heap.size 32 6 v qn (ol Q) ∧ Below W.heap.size W w') := by
  obtain ⟨A, c, hv, hq⟩ := own_que h
  injection hv with e1 e2 e3
  subst e1 e3
  rcases h.2 with ⟨hv, h0⟩ | ⟨k, cap, cur, hv, _⟩
  · injection hv with e1 _ _
    subst e1
    have hQ : Q = [] := by have := hq.1; rw [h0] at this; exact List.length_eq_zero_iff.1 this
    subst hQ
    refine (clone_nil qn qc W).mono fun e w' ⟨he, hw⟩ => ⟨_, he, Lib.hid ?_⟩
    rw [hw]
    exact ⟨⟨by rw [h0]; rfl, .inl ⟨rfl, h0⟩⟩, Below.refl _ _⟩
  · injection hv with e1 _ _
    subst e1
    refine (clone_c k 0 qn qc Q W hq.1 hn (fun i hi => ?_)).mono fun e w' ⟨v, he, h1, _, h3⟩ => ⟨v, he, Lib.hid ⟨h1, h3⟩⟩
    rcases hq.2 with h0 | ⟨g, e, _, hc⟩
    · omega
    · injection e with e
      injection e with e
      subst e
      rw [Nat.zero_add]
      exact hc i hi
/-- A queue of a row that is there, or nothing. -/
def levQ (sd p : Int) (R : List Rw) : List Od := if atN sd p R < R.length ∧ (R[atN sd p R]!).pr = p then (R[atN sd p R]!).q else []
set_option maxHeartbeats 4000000 in
set_option maxRecDepth 100000 in
theorem lLevel_c (b : Option Addr) (m : Option Nat) (s1 s2 : Sd) (sd pr : Int) (hsd : (Lit.int .i64 sd).wf = true) (w : World) (H : Bk w b m s1 s2) (h1 : SideOk 1 s1.rs) (h2 : SideOk 2 s2.rs) (hR1 : s1.rs.length ≤ 1000) (hR2 : s2.rs.length ≤ 1000) (hQ : lenQ (s1.rs ++ s2.rs) ≤ 1000) :
    Calls Try.prog 26 #[.pointer b, .int .i64 sd, .int .i64 pr] w fun e w' => ∃ v, e = .returned v ∧ Hid (w'.ownsRow w.heap.size 32 6 v (levQ sd pr (rsOf s1 s2 sd)).length (ol (levQ sd pr (rsOf s1 s2 sd))) ∧ Below w.heap.size w w') := by
  have HS := Lib.hid (side_c b m s1 s2 sd w hsd H)
  obtain ⟨A, c, hv, hr, hft⟩ := H.rows sd
  have hpw := side_ok h1 h2 sd
  have hrl := rs_len (s1 := s1) (s2 := s2) sd hR1 hR2
  obtain ⟨R, hR⟩ : ∃ R, rsOf s1 s2 sd = R := ⟨_, rfl⟩
  rw [hR] at hv hr hpw hrl hft ⊢
  rw [hv] at HS
  have HF := Lib.hid (find_c A R.length c R sd pr w hr hpw hrl)
  unfold levQ
  obtain ⟨k, hk⟩ : ∃ k, atN sd pr R = k := ⟨_, rfl⟩
  rw [hk] at HF ⊢
  by_cases hth : k < R.length ∧ (R[k]!).pr = pr
  · rw [if_pos hth]
    have e : (decide (k < R.length) && (R[k]!).pr == pr) = true := by rw [decide_eq_true hth.1, hth.2]; simp
    rw [e] at HF
    have hmem : R[k]! ∈ s1.rs ++ s2.rs := by
      rw [getElem!_pos R k hth.1]
      exact rsOf_mem (by rw [hR]; exact List.getElem_mem hth.1)
    have hql : (R[k]!).q.length ≤ 1000 := Nat.le_trans (lenQ_pre (x := ⟨R[k]!, hmem⟩)) hQ
    obtain ⟨g, rfl, hc2⟩ : ∃ g, A = some ⟨g, 0, none⟩ ∧ w.cell? ⟨g, k * 2 + 1, none⟩ = some (R[k]!).v := by
      rcases hr.2 with h0 | ⟨g, h, _, hc⟩
      · omega
      · exact ⟨g, h, (hc k hth.1).2⟩
    obtain ⟨qa, qc, hqv, hqa⟩ := own_que (H.q _ hmem)
    have hq := H.q _ hmem
    obtain ⟨Q, hQd⟩ : ∃ Q, (R[k]!).q = Q := ⟨_, rfl⟩
    rw [hQd] at hqv hqa hql hq ⊢
    obtain ⟨qn, hqn⟩ : ∃ qn, Q.length = qn := ⟨_, rfl⟩
    rw [hqn] at hqv hqa hql ⊢
    rw [hqv] at hc2
    rw [hqv, hqn] at hq
    have hkl := Lib.hid hth.1
    have hkI : (k : Int) < (R.length : Int) := by have := hth.1; omega
    have HC : Hid (∀ W, Gw w W → Calls Try.prog 56 #[.slice qa qn qc] W fun e w' => ∃ v, e = .returned v ∧ Hid (w'.ownsRow W.heap.size 32 6 v qn (ol Q) ∧ Below W.heap.size W w')) := fun W hW => clone_own (own_fr hq (S := fun _ => False) (Fr.of_below hW.b) (fun _ _ h => h)) hql
    have hcq : ∀ W, Gw w W → W.cell? ⟨g, k * 2 + 1, none⟩ = some (.slice qa qn qc) := fun W hW => cell_keep (S := fun _ => False) (Fr.of_below hW.b) (fun h => h) hc2
    have Hcq := Lib.hid hcq
    clear H hr hft hth e hcq hc2 hq hqa hk hpw
    go_enter Try.func26, Try.ntmps26
    go_wp2_with (first | ((with_reducible refine HS.out.mono ?_); rintro e w1 ⟨rfl, rfl⟩; clear HS) | ((with_reducible refine HF.out.mono ?_); rintro e w2 ⟨rfl, k2⟩; have hcq := Hcq.out _ k2) | ((with_reducible refine (HC.out _ k2).mono ?_); rintro e w3 ⟨v, rfl, hv3⟩))
    go_ret
    exact ⟨_, rfl, Lib.hid ⟨own_base hv3.out.1 k2.b.size, k2.b.trans (hv3.out.2.mono k2.b.size)⟩⟩
  · rw [if_neg hth]
    have e : (decide (k < R.length) && (R[k]!).pr == pr) = false := by
      by_cases h1 : k < R.length
      · have h2 : ¬ (R[k]!).pr = pr := fun h => hth ⟨h1, h⟩
        have h3 : ((R[k]!).pr == pr) = false := by
          cases h4 : ((R[k]!).pr == pr) with
          | false => rfl
          | true => exact absurd (by simpa using h4) (by simpa using h2)
        rw [h3, Bool.and_false]
      · rw [decide_eq_false h1, Bool.false_and]
    rw [e] at HF
    clear H hr hft hth e hk hpw
    go_enter Try.func26, Try.ntmps26
    go_wp2_with (first | ((with_reducible refine HS.out.mono ?_); rintro e w1 ⟨rfl, rfl⟩; clear HS) | ((with_reducible refine HF.out.mono ?_); rintro e w2 ⟨rfl, k2⟩))
    go_ret
    exact ⟨_, rfl, Lib.hid ⟨⟨rfl, .inl ⟨rfl, rfl⟩⟩, k2.b⟩⟩
set_option maxHeartbeats 4000000 in
set_option maxRecDepth 100000 in
theorem take_no (b : Option Addr) (m : Option Nat) (s1 s2 : Sd) (id : Int) (w : World) (H : Bk w b m s1 s2) (hR1 : s1.rs.length ≤ 1000) (hR2 : s2.rs.length ≤ 1000) (hQ : lenQ (s1.rs ++ s2.rs) ≤ 1000) (hno : ∀ x ∈ bookL s1.rs s2.rs, ¬ x.id = id) :
    Calls Try.prog 12 #[.pointer b, .int .u64 id] w fun e w' => e = .returned (.tuple #[optV none, .bool false]) ∧ Hid (Below w.heap.size w w') := by
  have hb : Below w.heap.size w (w.alloc (.cells (OC ⟨0, 0, 0, 0, 0, 0⟩) 32)) := (Below.refl _ _).alloc (Nat.le_refl _) _
  have HG := Lib.hid (lGet_c b m s1 s2 id (w.alloc (.cells (OC ⟨0, 0, 0, 0, 0, 0⟩) 32)) (H.below hb) hR1 hR2 hQ)
  have HB := Lib.hid hb
  clear H hb
  go_enter Try.func12, Try.ntmps12
  go_wp2_with ((with_reducible refine HG.out.mono ?_); rintro e w1 ⟨r, rfl, hr⟩; obtain rfl : r = none := (by cases r with | none => rfl | some y => exact absurd hr.out.1.2 (hno y hr.out.1.1)); dsimp only [optV, Option.isSome]; have B1 : Hid (Below w.heap.size w (w1.alloc (.cells (OC ⟨0, 0, 0, 0, 0, 0⟩) 32))) := (HB.out.trans (hr.out.2.mono HB.out.size)).alloc (Nat.le_trans HB.out.size hr.out.2.size) _; have C1 : Cl 32 (w1.alloc (.cells (OC ⟨0, 0, 0, 0, 0, 0⟩) 32)) w.heap.size (OC ⟨0, 0, 0, 0, 0, 0⟩) := hd_prev (Nat.lt_of_lt_of_le (Nat.lt_succ_self _) (by have := hr.out.2.size; rw [World.size_alloc] at this; exact this)) ((hr.out.2.block _ (by rw [World.size_alloc]; exact Nat.lt_succ_self _)).trans (hd_last rfl)); have C0 := Lib.hid C1; obtain ⟨x0, x1, x2, x3, x4, x5⟩ := six_of C1; have f0 := C1.f (k := 0); have f1 := C1.f (k := 1); have f2 := C1.f (k := 2); have f3 := C1.f (k := 3); have f4 := C1.f (k := 4); have f5 := C1.f (k := 5); clear HG hr)
  have hf := put6_cl ⟨0, 0, 0, 0, 0, 0⟩ C0.out
  have hb := put6_below ⟨0, 0, 0, 0, 0, 0⟩ (Nat.le_refl _) B1.out
  refine bodyPost_ret (retOt rfl _ _ _ rfl ⟨0, 0, 0, 0, 0, 0⟩ _ hf _ rfl) rfl ?_
  exact ⟨rfl, Lib.hid hb⟩
theorem mk_no {w : World} {b : Option Addr} {s1 s2 : Sd} (H : Bk w b none s1 s2) : s1 = nilS ∧ s2 = nilS := H.un rfl
set_option maxHeartbeats 4000000 in
set_option maxRecDepth 100000 in
theorem add_no (b : Option Addr) (s1 s2 : Sd) (o : Od) (w : World) (H : Bk w b none s1 s2) :
    Calls Try.prog 17 #[.pointer b, .agg #[.int .u64 o.id, .int .i64 o.acc, .int .i64 o.side, .int .i64 o.price, .int .i64 o.qty, .int .u64 o.seq]] w fun e w' => e = .returned (.int .i64 1) ∧ Hid (Below w.heap.size w w') := by
  have hb : Below w.heap.size w (w.alloc (.cells (OC o) 32)) := (Below.refl _ _).alloc (Nat.le_refl _) _
  have HM := Lib.hid (made_c b none s1 s2 (w.alloc (.cells (OC o) 32)) (H.below hb))
  have HB := Lib.hid hb
  clear H hb
  go_enter Try.func17, Try.ntmps17
  go_wp2_with ((with_reducible refine HM.out.mono ?_); rintro e w1 ⟨rfl, rfl⟩; clear HM)
  go_ret
  exact ⟨rfl, HB⟩
set_option maxHeartbeats 4000000 in
set_option maxRecDepth 100000 in
theorem cut_no (b : Option Addr) (s1 s2 : Sd) (id qty : Int) (w : World) (H : Bk w b none s1 s2) :
    Calls Try.prog 14 #[.pointer b, .int .u64 id, .int .i64 qty] w fun e w' => e = .returned (.int .i64 1) ∧ w' = w := by
  have HM := Lib.hid (made_c b none s1 s2 w H)
  clear H
  go_enter Try.func14, Try.ntmps14
  go_wp2_with ((with_reducible refine HM.out.mono ?_); rintro e w1 ⟨rfl, rfl⟩; clear HM)
  go_ret
  exact ⟨rfl, rfl⟩
set_option maxHeartbeats 4000000 in
set_option maxRecDepth 100000 in
theorem clone_no (b : Option Addr) (s1 s2 : Sd) (w : World) (H : Bk w b none s1 s2) :
    Calls Try.prog 16 #[.pointer b] w fun e w' => e = .returned (.pointer none) ∧ w' = w := by
  have HM := Lib.hid (made_c b none s1 s2 w H)
  clear H
  go_enter Try.func16, Try.ntmps16
  go_wp2_with ((with_reducible refine HM.out.mono ?_); rintro e w1 ⟨rfl, rfl⟩; clear HM)
  go_ret
  exact ⟨rfl, rfl⟩
end Go.Proofs.Ytemmbgbmkihbaaa
