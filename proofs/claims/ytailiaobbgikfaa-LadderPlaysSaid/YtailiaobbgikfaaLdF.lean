/- ladder: Get. -/
import Derived.Test.YtailiaobbgikfaaLdE
import Derived.Test.YtailiaobbgikfaaOrX
namespace Go.Proofs.Ytailiaobbgikfaa
open Go.RowKit Go.Shelf Go.Sort

attribute [local go_sem] Oper.semAt_some

/-- What Get tells. -/
def GetIs (id : Int) (L : List Od) : Option Od → Prop
  | some x => x ∈ L ∧ x.id = id
  | none => ∀ x ∈ L, ¬ x.id = id
def optV : Option Od → Value
  | some x => .agg (OC x)
  | none => .agg (OC ⟨0, 0, 0, 0, 0, 0⟩)
theorem Cl.put {T : TypeId} {X : World} {c : Nat} {cs : Array Value} (h : Cl T X c cs) (D : Nat) {o o' : Obj} (hD : X.heap[D]? = some o) (ho : o.isCells = false) : Cl T (X.putObj D o') c cs :=
  (World.putObj_heap_other (fun e => by rw [← e, show X.heap[c]? = _ from h] at hD; cases hD; cases ho)).trans h
theorem flatR_app (R1 R2 : List Rw) : flatR (R1 ++ R2) = bookL R1 R2 := by
  unfold flatR bookL flatR
  rw [List.flatMap_append]
theorem keeps_below {B : Nat} {W wr : World} (h : Below W.heap.size W wr) : KeepsFrom B W wr :=
  KeepsFrom.of_grownBy (row := none) ⟨h.os, h.tape, h.output, h.size, fun i hi _ => h.block i hi⟩ (fun j e => by cases e)
/-- An order is put into a box. -/
def put6 (X : World) (c : Nat) (o : Od) : World := (((((X.setCell ⟨c, 0, none⟩ (.int .u64 o.id)).setCell ⟨c, 1, none⟩ (.int .i64 o.acc)).setCell ⟨c, 2, none⟩ (.int .i64 o.side)).setCell ⟨c, 3, none⟩ (.int .i64 o.price)).setCell ⟨c, 4, none⟩ (.int .i64 o.qty)).setCell ⟨c, 5, none⟩ (.int .u64 o.seq)
theorem put6_cl {T : TypeId} {X : World} {c : Nat} {z : Od} (o : Od) (h : Cl T X c (OC z)) : Cl T (put6 X c o) c (OC o) := by
  have h0 : X.heap[c]? = some (.cells (OC z) T (0, 0)) := h
  unfold Cl put6
  rw [heap_set (heap_set (heap_set (heap_set (heap_set (heap_set h0)))))]
  rfl
theorem put6_far (X : World) {c k : Nat} (o : Od) (h : k ≠ c) : (put6 X c o).heap[k]? = X.heap[k]? := by
  unfold put6
  rw [heap_far (by exact h), heap_far (by exact h), heap_far (by exact h), heap_far (by exact h), heap_far (by exact h), heap_far (by exact h)]
theorem put6_below {X : World} {B c : Nat} {w : World} (o : Od) (hc : B ≤ c) (h : Below B w X) : Below B w (put6 X c o) := by
  unfold put6
  exact (((((h.setCell (p := ⟨c, 0, none⟩) hc _).setCell (p := ⟨c, 1, none⟩) hc _).setCell (p := ⟨c, 2, none⟩) hc _).setCell (p := ⟨c, 3, none⟩) hc _).setCell (p := ⟨c, 4, none⟩) hc _).setCell (p := ⟨c, 5, none⟩) hc _
theorem put6_keeps (X : World) (B c : Nat) (o : Od) : KeepsFrom B X (put6 X c o) := by
  unfold put6
  exact ((((((KeepsOthers.setCell _ _ _).trans (KeepsOthers.setCell _ _ _)).trans (KeepsOthers.setCell _ _ _)).trans (KeepsOthers.setCell _ _ _)).trans (KeepsOthers.setCell _ _ _)).trans (KeepsOthers.setCell _ _ _)).from B
theorem at_cl {T : TypeId} {X : World} {c : Nat} {o : Od} (h : Cl T X c (OC o)) : o.at X c 0 :=
  ⟨(h.c 0).trans rfl, (h.c 1).trans rfl, (h.c 2).trans rfl, (h.c 3).trans rfl, (h.c 4).trans rfl, (h.c 5).trans rfl⟩
theorem retO2 {fn : Func} {p q : Tmp} (h : fn.results = #[.cell p 24, .cell q 4]) (tmps : Array Value) (w : World) (g k : Nat) (hp : tmps.getD p undef = .pointer (some ⟨g, 0, none⟩)) (hq : tmps.getD q undef = .pointer (some ⟨k, 0, none⟩)) (z : Od) (t t' : TypeId) (bb : Bool)
    (hg : Cl t w g (OC z)) (hk : Cl t' w k #[.bool bb]) : (results fn tmps).run Try.prog w = .ok (.tuple #[.agg (OC z), .bool bb]) w := by
  have hp' : tmps[p]?.getD undef = .pointer (some ⟨g, 0, none⟩) := by simpa using hp
  have hq' : tmps[q]?.getD undef = .pointer (some ⟨k, 0, none⟩) := by simpa using hq
  have hc : w.cell? ⟨k, 0, none⟩ = some (.bool bb) := (hk.c 0).trans rfl
  have hl : (loadVar 4 ⟨k, 0, none⟩).run Try.prog w = .ok (.bool bb) w := by
    simp [loadVar, go_sem, hc, Try.isAgg4]
  simp [results, h, hp', hq', asAddr, run_loadVar_row w g _ _ _ (0, 0) _ hg Try.underlying24 rfl infoO, hl]
theorem mem_place {q : List Od} {j : Nat} {o : Od} (hj : j < q.length) (h : q[j]! = o) : o ∈ q := by
  rw [← h, getElem!_pos q j hj]; exact List.getElem_mem hj
theorem none_there {q : List Od} {id : Int} {n j : Nat} (hn : q.length = n) (hj : ¬ j < n) (h : ∀ k, k < j → ¬ (q[k]!).id = id) : ∀ x ∈ q, ¬ x.id = id := by
  intro x hx
  obtain ⟨k, hk, rfl⟩ := List.mem_iff_getElem.1 hx
  have := h k (by omega)
  rwa [getElem!_pos q k hk] at this
theorem not_upto {q : List Od} {id : Int} {j : Nat} {o : Od} (h : ∀ k, k < j → ¬ (q[k]!).id = id) (ho : q[j]! = o) (he : ¬ o.id = id) : ∀ k, k < j + 1 → ¬ (q[k]!).id = id := by
  intro k hk
  rcases Nat.lt_succ_iff_lt_or_eq.1 hk with h' | h'
  · exact h k h'
  · rw [h', ho]; exact he
theorem less_left {n j : Nat} (hj : j < n) : n - ((j : Int) + 1).toNat < n - j := by omega
theorem flat_snoc {s1 s2 : Sd} (pre : List (Rx s1 s2)) (x : Rx s1 s2) : flatR (vals (pre ++ [x])) = flatR (vals pre) ++ x.1.q := by
  unfold flatR vals
  simp
set_option maxHeartbeats 4000000 in
set_option maxRecDepth 100000 in
theorem lGet_c (b : Option Addr) (m : Option Nat) (s1 s2 : Sd) (id : Int) (w : World) (H : Bk w b m s1 s2) (hR1 : s1.rs.length ≤ 1000) (hR2 : s2.rs.length ≤ 1000) (hQ : lenQ (s1.rs ++ s2.rs) ≤ 1000) :
    Calls Try.prog 56 #[.pointer b, .int .u64 id] w fun e w' => ∃ r, e = .returned (.tuple #[optV r, .bool r.isSome]) ∧ Hid (GetIs id (bookL s1.rs s2.rs) r ∧ Below w.heap.size w w') := by
  refine (callsIn_wide (n := 5)).1 ?_
  refine callsIn_of_wp_marks Try.func56 rfl trivial ?_ rfl
  simp only [Try.ntmps56, List.size_toArray, List.length_cons, List.length_nil, Nat.reduceAdd, Nat.reduceSub, Array.replicate_succ, Array.replicate_zero, List.push_toArray, List.append_toArray, List.nil_append, List.cons_append]
  gi_wp2_with (refine ⟨trivial, ?_⟩; refine ((callsIn_wide (n := 5 - 1)).2 (over_c _ _ _ _ _)).mono ?_; rintro e w' ⟨rfl, rfl⟩)
  obtain ⟨W1, hW1⟩ : ∃ W1, ((w.alloc (.cells #[.int .u64 id] 22)).alloc (.cells (OC ⟨0, 0, 0, 0, 0, 0⟩) 24)).alloc (.cells #[.bool false] 4) = W1 := ⟨_, rfl⟩
  have hz1 : W1.heap.size = w.heap.size + 3 := by rw [← hW1]; simp
  have hB1 : Below w.heap.size w W1 := by rw [← hW1]; exact (((Below.refl _ _).alloc (Nat.le_refl _) _).alloc (by simp) _).alloc (by simp; omega) _
  have hM := ov_two (fun k => k = w.heap.size + 1 ∨ k = w.heap.size + 2 ∨ w.heap.size + 6 ≤ k) W1 b m s1 s2 (H.below hB1) (fun k hk hS => by have := H.lt hk; omega) (by omega) (by omega) (by omega)
  obtain ⟨W0, hW0⟩ : ∃ W0, (((W1.alloc (.cells #[.int .i64 1, .int .i64 2] 3)).alloc (.cells #[.pointer b] 65)).alloc (.cells #[.slice (some ⟨W1.heap.size, 0, none⟩) 2 2] 82)) = W0 := ⟨_, rfl⟩
  have hB01 : Below W1.heap.size W1 W0 := by rw [← hW0]; exact (((Below.refl _ _).alloc (Nat.le_refl _) _).alloc (by simp) _).alloc (by simp; omega) _
  have hc0 : Cl 22 W0 w.heap.size #[.int .u64 id] := by
    refine (hB01.block _ (by omega)).trans ?_
    rw [← hW1]
    exact hd_prev (by simp; omega) (hd_prev (by simp) (hd_last rfl))
  have hc1 : Cl 24 W0 (w.heap.size + 1) (OC ⟨0, 0, 0, 0, 0, 0⟩) := by
    refine (hB01.block _ (by omega)).trans ?_
    rw [← hW1]
    exact hd_prev (by simp) (hd_last (by simp))
  have hc2 : Cl 4 W0 (w.heap.size + 2) #[.bool false] := by
    refine (hB01.block _ (by omega)).trans ?_
    rw [← hW1]
    exact hd_last (by simp)
  have hB0 : Below w.heap.size w W0 := hB1.trans (hB01.mono (by omega))
  have hsz : W0.heap.size = w.heap.size + 6 := by rw [← hW0]; simp; omega
  rw [hW0] at hM
  rw [hz1] at hM hW0
  rw [show (((((w.alloc (.cells #[.int .u64 id] 22)).alloc (.cells #[.int .u64 0, .int .i64 0, .int .i64 0, .int .i64 0, .int .i64 0, .int .u64 0] 24)).alloc (.cells #[.bool false] 4)).alloc (.cells #[.int .i64 1, .int .i64 2] 3)).alloc (.cells #[.pointer b] 65)).alloc (.cells #[.slice (some ⟨w.heap.size + 1 + 1 + 1, 0, none⟩) 2 2] 82) = W0 from by rw [hW1]; exact hW0]
  clear hW0 hW1 hz1 hB1 hB01
  have hQq : ∀ x : Rx s1 s2, x.1.q.length ≤ 1000 := fun x => Nat.le_trans lenQ_pre hQ
  have HQ : Aside (∀ x : Rx s1 s2, ∃ A c, x.1.v = .slice A x.1.q.length c ∧ QueAt w A x.1.q.length x.1.q) := fun x => own_que (H.q x.1 x.2)
  refine wpIn_rangeFunc_ownH rfl (by omega) (gf := 93) (lb := #[.pointer (some ⟨w.heap.size + 5, 0, none⟩), .pointer (some ⟨w.heap.size + 4, 0, none⟩)]) rfl trivial (enters_of Try.func93 (by kernel_rfl) rfl)
    (over_stops (5 - 1) (by omega) (fun k => k = w.heap.size + 1 ∨ k = w.heap.size + 2 ∨ w.heap.size + 6 ≤ k) (w.heap.size + 5) (w.heap.size + 4) (w.heap.size + 3) [1, 2] b m s1 s2 (by simp) hR1 hR2 W0 (s1.rs ++ s2.rs).length (by rw [two_sides]; exact Nat.le_refl _) hM) Fr.t (fun W l o o' hl ho _ _ => fr_b W l o o' (.inr (.inr (by omega))) ho) (Below.refl _ _) (fun _ => rfl)
    (fun pre W => ((Cl 22 W w.heap.size #[.int .u64 id] ∧ Cl 24 W (w.heap.size + 1) (OC ⟨0, 0, 0, 0, 0, 0⟩) ∧ Cl 4 W (w.heap.size + 2) #[.bool false]) ∧ ∀ x ∈ flatR (vals pre), ¬ x.id = id) ∧ Below w.heap.size w W)
    (fun c pre W => (c = .ret ∧ ∃ x : Od, x ∈ flatR (vals pre) ∧ x.id = id ∧ Cl 24 W (w.heap.size + 1) (OC x) ∧ Cl 4 W (w.heap.size + 2) #[.bool true]) ∧ Below w.heap.size w W)
    (OwnFrom.and (Own.from (fun s A B row hs hg hr => ⟨⟨hs.1.1.own hg hr, hs.1.2.1.own hg hr, hs.1.2.2.own hg hr⟩, hs.2⟩) _) (ownFrom_below (Nat.le_refl _) (by omega)))
    (fun c => OwnFrom.and (Own.from (fun s A B row hs hg hr => by
      obtain ⟨h1, x, h2, h3, h4, h5⟩ := hs
      exact ⟨h1, x, h2, h3, h4.own hg hr, h5.own hg hr⟩) _) (ownFrom_below (Nat.le_refl _) (by omega)))
    ⟨⟨⟨hc0, hc1, hc2⟩, fun x hx => by cases hx⟩, hB0⟩
    (AxR (w.heap.size + 3) #[.pointer b, .int .u64 id, undef, .pointer (some ⟨w.heap.size, 0, none⟩), .pointer (some ⟨w.heap.size + 1, 0, none⟩), .pointer (some ⟨w.heap.size + 2, 0, none⟩), undef, undef, undef, .pointer b, .slice (some ⟨w.heap.size + 3, 0, none⟩) 2 2, .func (.func 93) #[] #[.pointer (some ⟨w.heap.size + 5, 0, none⟩), .pointer (some ⟨w.heap.size + 4, 0, none⟩)], undef, undef, undef, undef, undef, undef, undef, undef, undef, undef, undef, undef, undef, undef, undef] 6 12)
    (fun x a' _ X Y row hs hg hr => by obtain ⟨B, A, c, h1, h2, h3⟩ := hs; exact ⟨B, A, c, h1, h2.own hg (fun r e => (hr r e).2), h3⟩)
    ?assign ?body ?done ?stop
  case assign =>
    rintro l0 pre x W K ⟨⟨⟨hc, hc', hc''⟩, hn⟩, hB⟩ hK
    obtain ⟨A, c, hv, _⟩ := HQ.out x
    have hval : Rw.val x.1 = .agg #[.int .i64 x.1.pr, .slice A x.1.q.length c] := by unfold Rw.val; rw [hv]
    unfold AxR at hK
    simp only [hval] at hK ⊢
    gi_wp2
    refine hK _ _ ((KeepsOthers.alloc _ _).from _) ((Fr.refl _ W).alloc _) ⟨⟨⟨hd_prev (blk_lt hc) hc, hd_prev (blk_lt hc') hc', hd_prev (blk_lt hc'') hc''⟩, hn⟩, hB.alloc hB.size _⟩ ⟨W.heap.size, A, c, ?_, hd_last rfl, hv, rfl⟩
    have := blk_lt hc''
    omega
  case body =>
    rintro l0 pre x a' W hl ⟨r, hr⟩ ⟨⟨⟨hc, hc', hc''⟩, hn⟩, hB⟩ ⟨Bx, A, c, hBx, bX, hv, rfl⟩ hlt
    have p0 : W.cell? ⟨w.heap.size, 0, none⟩ = some (.int .u64 id) := (hc.c 0).trans rfl
    have p1 : W.cell? ⟨Bx, 1, none⟩ = some (.slice A x.1.q.length c) := (bX.c 1).trans rfl
    have hval : Rw.val x.1 = .agg #[.int .i64 x.1.pr, .slice A x.1.q.length c] := by unfold Rw.val; rw [hv]
    simp only [hval]
    have hQW : Aside (QueAt W A x.1.q.length x.1.q) := by
      obtain ⟨A', c', hv', hq⟩ := HQ.out x
      rw [hv] at hv'
      injection hv' with hv'
      rw [← hv'] at hq
      exact hq.fr (fr_low hB) (fun g hg => by
        intro hle
        have := H.lt (.inr (.inr (.inr (.inr ⟨x.1, x.2, by rw [hv, hg]; rfl⟩))) : foot b m s1 s2 g)
        omega)
    have hq1 := hQq x
    have Hflat := Lib.hid (flat_snoc pre x)
    obtain ⟨q, hq⟩ : ∃ q, x.1.q = q := ⟨_, rfl⟩
    obtain ⟨pr, hpr⟩ : ∃ pr, x.1.pr = pr := ⟨_, rfl⟩
    obtain ⟨n, hnq⟩ : ∃ n, q.length = n := ⟨_, rfl⟩
    rw [hq, hnq] at hQW p1 bX
    rw [hq] at Hflat
    rw [hq] at hq1
    rw [hnq] at hq1
    rw [hpr] at bX
    simp only [hq, hnq, hpr]
    have HW := Lib.hid (And.intro hc (And.intro hc' (And.intro hc'' (And.intro hn (And.intro hB (And.intro bX (And.intro hl hnq)))))))
    clear hc hc' hc'' hn hB bX hl hval hv hpr hnq hBx
    gi_wp2_with fail
    gi_loopw [16] (fun s wq => ∃ j : Nat, s = .int .i64 (j : Int) ∧ Hid (j ≤ n ∧ (∀ k, k < j → ¬ (q[k]!).id = id) ∧ Below W.heap.size W wq)) (fun s _ => match s with | .int _ z => n - z.toNat | _ => 0)
    case atStart => exact ⟨0, rfl, Nat.zero_le _, fun k hk => absurd hk (Nat.not_lt_zero _), Below.refl _ _⟩
    case round =>
      clear p0 p1
      obtain ⟨j, rfl, hd⟩ := hrel
      have hb := hd.out.2.2
      have p0 : wr.cell? ⟨w.heap.size, 0, none⟩ = some (.int .u64 id) := ((Cl.c (HW.out.1) 0).trans rfl : W.cell? ⟨w.heap.size, 0, none⟩ = some (.int .u64 id)) |> cell_keep (S := fun _ => False) (Fr.of_below hb) (fun h => h)
      have r0 : Cl 24 wr (w.heap.size + 1) (OC ⟨0, 0, 0, 0, 0, 0⟩) := (hb.block _ (blk_lt HW.out.2.1)).trans HW.out.2.1
      have r1 : Cl 4 wr (w.heap.size + 2) #[.bool false] := (hb.block _ (blk_lt HW.out.2.2.1)).trans HW.out.2.2.1
      by_cases hj : j < n
      · obtain ⟨g, rfl, hg, hcs⟩ : ∃ g, A = some ⟨g, 0, none⟩ ∧ g < W.heap.size ∧ (q[j]!).at W g (j * 6) := by
          rcases hQW.2 with h0 | ⟨g, h1, h2, h3⟩
          · omega
          · exact ⟨g, h1, h2, h3 j hj⟩
        obtain ⟨x0, x1, x2, x3, x4, x5⟩ := Od.at_fr hcs hg (Fr.of_below (S := fun _ => False) hb) (fun h => h)
        obtain ⟨o, ho⟩ : ∃ o, q[j]! = o := ⟨_, rfl⟩
        rw [ho] at x0 x1 x2 x3 x4 x5
        have hjI : (j : Int) < (n : Int) := by omega
        have HJ := Lib.hid (And.intro hj (And.intro ho hd.out))
        have ra0 : ∀ ob, Cl 24 (wr.alloc ob) (w.heap.size + 1) (OC ⟨0, 0, 0, 0, 0, 0⟩) := fun ob => hd_prev (blk_lt r0) r0
        have ra1 : ∀ ob, Cl 4 (wr.alloc ob) (w.heap.size + 2) #[.bool false] := fun ob => hd_prev (blk_lt r1) r1
        have pa0 : ∀ ob, (wr.alloc ob).cell? ⟨w.heap.size, 0, none⟩ = some (.int .u64 id) := fun ob => cell_alloc_sl ob p0
        have rb0 := fun ob => (ra0 ob).f (k := 0)
        have rb1 := fun ob => (ra0 ob).f (k := 1)
        have rb2 := fun ob => (ra0 ob).f (k := 2)
        have rb3 := fun ob => (ra0 ob).f (k := 3)
        have rb4 := fun ob => (ra0 ob).f (k := 4)
        have rb5 := fun ob => (ra0 ob).f (k := 5)
        have rc0 := fun ob => (ra1 ob).f (k := 0)
        have k0 : ∀ ob, (wr.alloc ob).cell? ⟨w.heap.size + 1, 0, none⟩ = some (.int .u64 0) := fun ob => ((ra0 ob).c 0).trans rfl
        have k1 : ∀ ob, (wr.alloc ob).cell? ⟨w.heap.size + 1, 1, none⟩ = some (.int .i64 0) := fun ob => ((ra0 ob).c 1).trans rfl
        have k2 : ∀ ob, (wr.alloc ob).cell? ⟨w.heap.size + 1, 2, none⟩ = some (.int .i64 0) := fun ob => ((ra0 ob).c 2).trans rfl
        have k3 : ∀ ob, (wr.alloc ob).cell? ⟨w.heap.size + 1, 3, none⟩ = some (.int .i64 0) := fun ob => ((ra0 ob).c 3).trans rfl
        have k4 : ∀ ob, (wr.alloc ob).cell? ⟨w.heap.size + 1, 4, none⟩ = some (.int .i64 0) := fun ob => ((ra0 ob).c 4).trans rfl
        have k5 : ∀ ob, (wr.alloc ob).cell? ⟨w.heap.size + 1, 5, none⟩ = some (.int .u64 0) := fun ob => ((ra0 ob).c 5).trans rfl
        have kc : ∀ ob, (wr.alloc ob).cell? ⟨w.heap.size + 2, 0, none⟩ = some (.bool false) := fun ob => ((ra1 ob).c 0).trans rfl
        clear hcs hg hd hb ho hj
        by_cases he : o.id = id
        · have eb : (o.id == id) = true := by simp [he]
          have He := Lib.hid he
          clear he
          gi_wp2_with fail
          have hb2 : Below W.heap.size W (wr.alloc (.cells (OC o) 24)) := HJ.out.2.2.2.2.alloc HJ.out.2.2.2.2.size _
          have hbw : Below w.heap.size w (wr.alloc (.cells (OC o) 24)) := HW.out.2.2.2.2.1.trans (hb2.mono HW.out.2.2.2.2.1.size)
          have hcl := put6_cl o (ra0 (.cells (OC o) 24))
          refine ⟨((keeps_below hb2).trans (put6_keeps _ _ (w.heap.size + 1) o)).trans ((KeepsOthers.setCell _ _ _).from _), ⟨rfl, o, by rw [Hflat.out]; exact List.mem_append_right _ (mem_place (by rw [HW.out.2.2.2.2.2.2.2]; exact HJ.out.1) HJ.out.2.1), He.out, ?_, ?_⟩, (put6_below o (Nat.le_succ _) hbw).setCell (p := ⟨w.heap.size + 2, 0, none⟩) (Nat.le_add_right _ _) _⟩
          · exact (heap_far (a := ⟨w.heap.size + 2, 0, none⟩) (Nat.ne_of_lt (Nat.lt_succ_self _))).trans hcl
          · exact (heap_set ((put6_far _ o (Nat.ne_of_gt (Nat.lt_succ_self _))).trans (ra1 _))).trans rfl
        · have eb : (o.id == id) = false := by simp [he]
          have He := Lib.hid he
          have hw9 : IntKind.i64.wrap ((j : Int) + 1) = ((j + 1 : Nat) : Int) := by rw [IntKind.wrap_i64]; omega
          clear he
          gi_wp2_with fail
          exact ⟨⟨j + 1, rfl, HJ.out.1, not_upto HJ.out.2.2.2.1 HJ.out.2.1 He.out, HJ.out.2.2.2.2.alloc HJ.out.2.2.2.2.size _⟩, less_left HJ.out.1⟩
      · have hjI : ¬ (j : Int) < (n : Int) := by omega
        have HJ := Lib.hid (And.intro hj hd.out)
        clear hd hj
        gi_wp2_with fail
        have hb2 := HJ.out.2.2.2
        refine ⟨keeps_below hb2, Fr.of_below hb2, ⟨⟨(hb2.block _ (blk_lt HW.out.1)).trans HW.out.1, r0, r1⟩, fun y hy => ?_⟩, HW.out.2.2.2.2.1.trans (hb2.mono HW.out.2.2.2.2.1.size)⟩
        rw [Hflat.out] at hy
        rcases List.mem_append.1 hy with hy | hy
        · exact HW.out.2.2.2.1 y hy
        · exact none_there HW.out.2.2.2.2.2.2.2 HJ.out.1 HJ.out.2.2.1 y hy
  case done =>
    rintro D ys W hD hys ⟨⟨⟨hc, hc', hc''⟩, hn⟩, hB⟩ hK
    rw [two_sides] at hys
    rw [hys] at hn
    have k0 : W.cell? ⟨w.heap.size + 1, 0, none⟩ = some (.int .u64 0) := (hc'.c 0).trans rfl
    have f0 := hc'.f (k := 0)
    have k1 : W.cell? ⟨w.heap.size + 1, 1, none⟩ = some (.int .i64 0) := (hc'.c 1).trans rfl
    have f1 := hc'.f (k := 1)
    have k2 : W.cell? ⟨w.heap.size + 1, 2, none⟩ = some (.int .i64 0) := (hc'.c 2).trans rfl
    have f2 := hc'.f (k := 2)
    have k3 : W.cell? ⟨w.heap.size + 1, 3, none⟩ = some (.int .i64 0) := (hc'.c 3).trans rfl
    have f3 := hc'.f (k := 3)
    have k4 : W.cell? ⟨w.heap.size + 1, 4, none⟩ = some (.int .i64 0) := (hc'.c 4).trans rfl
    have f4 := hc'.f (k := 4)
    have k5 : W.cell? ⟨w.heap.size + 1, 5, none⟩ = some (.int .u64 0) := (hc'.c 5).trans rfl
    have f5 := hc'.f (k := 5)
    have k6 : W.cell? ⟨w.heap.size + 2, 0, none⟩ = some (.bool false) := (hc''.c 0).trans rfl
    have f6 := hc''.f (k := 0)
    gi_wp2_with fail
    have hK6 : (put6 W (w.heap.size + 1) ⟨0, 0, 0, 0, 0, 0⟩).heap[D]? = some (.deferred (some [])) := (put6_far W _ (by omega)).trans hK
    have hK7 : ((put6 W (w.heap.size + 1) ⟨0, 0, 0, 0, 0, 0⟩).setCell ⟨w.heap.size + 2, 0, none⟩ (.bool false)).heap[D]? = some (.deferred (some [])) := (heap_far (a := ⟨w.heap.size + 2, 0, none⟩) (by show D ≠ w.heap.size + 2; omega)).trans hK6
    have hB7 : Below w.heap.size w ((put6 W (w.heap.size + 1) ⟨0, 0, 0, 0, 0, 0⟩).setCell ⟨w.heap.size + 2, 0, none⟩ (.bool false)) := (put6_below _ (Nat.le_succ _) hB).setCell (p := ⟨w.heap.size + 2, 0, none⟩) (Nat.le_add_right _ _) _
    have hc7 : Cl 24 ((put6 W (w.heap.size + 1) ⟨0, 0, 0, 0, 0, 0⟩).setCell ⟨w.heap.size + 2, 0, none⟩ (.bool false)) (w.heap.size + 1) (OC ⟨0, 0, 0, 0, 0, 0⟩) := (heap_far (a := ⟨w.heap.size + 2, 0, none⟩) (Nat.ne_of_lt (Nat.lt_succ_self _))).trans (put6_cl _ hc')
    have hd7 : Cl 4 ((put6 W (w.heap.size + 1) ⟨0, 0, 0, 0, 0, 0⟩).setCell ⟨w.heap.size + 2, 0, none⟩ (.bool false)) (w.heap.size + 2) #[.bool false] := (heap_set ((put6_far W _ (Nat.ne_of_gt (Nat.lt_succ_self _))).trans hc'')).trans rfl
    refine ⟨by simp, .inl ⟨_, _, rfl, run_takeDeferred hK7, ?_⟩⟩
    refine ⟨_, retO2 rfl _ _ _ _ rfl rfl _ _ _ _ (hc7.put D hK7 rfl) (hd7.put D hK7 rfl), none, rfl, Lib.hid ⟨?_, hB7.trans (belowK_b (w := w) (Nat.le_refl _) _ D _ _ (by omega) hK7 rfl rfl)⟩⟩
    intro x hx
    exact hn x (by rwa [flatR_app])
  case stop =>
    rintro D c pre W hD hS ⟨⟨rfl, x, hx, hid, hat, hbo⟩, hB⟩ hK
    gi_wp2_with fail
    refine ⟨by simp, .inl ⟨_, _, rfl, run_takeDeferred hK, ?_⟩⟩
    refine ⟨_, retO2 rfl _ _ _ _ rfl rfl _ _ _ _ (hat.put D hK rfl) (hbo.put D hK rfl), some x, rfl, Lib.hid ⟨⟨?_, hid⟩, hB.trans (belowK_b (w := w) (Nat.le_refl _) _ D _ _ (by omega) hK rfl rfl)⟩⟩
    rw [two_sides] at hS
    rw [← flatR_app]
    obtain ⟨r, hr, hxr⟩ := List.mem_flatMap.1 hx
    exact List.mem_flatMap.2 ⟨r, hS.subset hr, hxr⟩
end Go.Proofs.Ytailiaobbgikfaa
