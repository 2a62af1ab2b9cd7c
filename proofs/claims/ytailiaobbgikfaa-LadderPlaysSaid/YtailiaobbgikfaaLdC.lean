/- ladder: a book in memory; made, side, New. -/
import Derived.Test.YtailiaobbgikfaaLdB
import Derived.Maps.OwnSet
namespace Go.Proofs.Ytailiaobbgikfaa
open Go.RowKit Go.Sort Go.Shelf Go.Maps

/-- A side: is it in the map; its rows' slice; the rows. -/
structure Sd where
  there : Bool
  v : Value
  rs : List Rw
abbrev v0 : Value := .slice none 0 0
def nilS : Sd := ⟨false, v0, []⟩
def mapD (s1 s2 : Sd) : DataW Value :=
  .map ((if s1.there then [(.int .i64 1, .held s1.v)] else []) ++ (if s2.there then [(.int .i64 2, .held s2.v)] else []))
def RV (v : Value) : Option (DataW Value × List MemPlace) := some (.held v, [])
/-- What a side's look-up tells. -/
def rowsOf (s1 s2 : Sd) (side : Int) : Value := if side = 1 then s1.v else if side = 2 then s2.v else v0
theorem keyI : Keyed Try.prog 3 := int_keyed Try.underlying3
theorem zeroR (w : World) : (zeroValue 95).run Try.prog w = .ok v0 w := by kernel_rfl
theorem mapD_at (s1 s2 : Sd) (h1 : s1.there = false → s1.v = v0) (h2 : s2.there = false → s2.v = v0) (side : Int) : (mapD s1 s2).atKey (.int .i64 side) (.held v0) = .held (rowsOf s1 s2 side) := by
  obtain ⟨t1, a1, r1⟩ := s1
  obtain ⟨t2, a2, r2⟩ := s2
  simp only at h1 h2
  unfold rowsOf
  by_cases e1 : side = 1
  · subst e1
    cases t1 <;> cases t2 <;> simp [mapD, DataW.atKey, Lit.sameKey] <;> simp_all
  · by_cases e2 : side = 2
    · subst e2
      cases t1 <;> cases t2 <;> simp [mapD, DataW.atKey, Lit.sameKey] <;> simp_all
    · have e1' : ¬ (1 : Int) = side := fun h => e1 h.symm
      have e2' : ¬ (2 : Int) = side := fun h => e2 h.symm
      cases t1 <;> cases t2 <;> simp [mapD, DataW.atKey, Lit.sameKey, e1, e2, e1', e2']
/-- A side's look-up. -/
theorem look_side {w : World} {m : Nat} {s1 s2 : Sd} (h : w.ownsMap Try.prog 3 RV m 2 (mapD s1 s2)) (h1 : s1.there = false → s1.v = v0) (h2 : s2.there = false → s2.v = v0) (side : Int) (hs : (Lit.int .i64 side).wf = true) :
    (Instr.lookup 92 (.map (some m)) (.int .i64 side) false).run Try.prog w = .ok (rowsOf s1 s2 side) w := by
  have hat := mapD_at s1 s2 h1 h2 side
  obtain ⟨es, clock, hb, F, _, hD⟩ := h
  rw [hD] at hat
  rcases Maps.fit_look false keyI Try.underlying92 (zeroR w) hb F (keyOf_int_mk Try.underlying3 hs) with ⟨hrun, _, hz⟩ | ⟨e0, y, _, _, hrun, hR, hz, _⟩
  · rw [hz] at hat
    replace hat := DataW.held.inj hat
    simp only [Bool.false_eq_true, if_false] at hrun
    exact hrun.trans (congrArg (fun v => Result.ok v w) hat)
  · rw [hz] at hat
    unfold RV at hR
    replace hR := Option.some.inj hR
    rw [← hR] at hat
    replace hat := DataW.held.inj hat
    simp only [Bool.false_eq_true, if_false] at hrun
    exact hrun.trans (congrArg (fun v => Result.ok v w) hat)
/-- A side is put into the map. -/
theorem map_put1 (s1 s2 : Sd) (v : Value) (rs : List Rw) : (mapD s1 s2).put (.int .i64 1) (.held v) = mapD ⟨true, v, rs⟩ s2 := by
  obtain ⟨t1, a1, r1⟩ := s1
  obtain ⟨t2, a2, r2⟩ := s2
  cases t1 <;> cases t2 <;> simp [mapD, DataW.put, DataW.insert, Lit.sameKey, Lit.before]
theorem map_put2 (s1 s2 : Sd) (v : Value) (rs : List Rw) : (mapD s1 s2).put (.int .i64 2) (.held v) = mapD s1 ⟨true, v, rs⟩ := by
  obtain ⟨t1, a1, r1⟩ := s1
  obtain ⟨t2, a2, r2⟩ := s2
  cases t1 <;> cases t2 <;> simp [mapD, DataW.put, DataW.insert, Lit.sameKey, Lit.before]
theorem mapD_size (s1 s2 : Sd) : Maps.size (mapD s1 s2) ≤ 2 := by
  obtain ⟨t1, a1, r1⟩ := s1
  obtain ⟨t2, a2, r2⟩ := s2
  cases t1 <;> cases t2 <;> simp [mapD, Maps.size]
theorem map_two {w : World} {m n : Nat} {s1 s2 : Sd} (h : w.ownsMap Try.prog 3 RV m n (mapD s1 s2)) : w.ownsMap Try.prog 3 RV m 2 (mapD s1 s2) := by
  have hz := mapD_size s1 s2
  obtain ⟨es, clock, hb, F, _, hD⟩ := h
  refine ⟨es, clock, hb, F, ?_, hD⟩
  rw [hD] at hz
  simpa [Maps.size, length_sorted] using hz

/-- A book, as it lies: no book (nil), one that no call made (m nil), or one that has a map. -/
structure Bk (w : World) (b : Option Addr) (m : Option Nat) (s1 s2 : Sd) : Prop where
  shape : (b = none ∧ m = none) ∨ ∃ p, b = some ⟨p, 0, none⟩ ∧ w.heap[p]? = some (.cells #[.map m] 94 (0, 0))
  un : m = none → s1 = nilS ∧ s2 = nilS
  mp : ∀ k, m = some k → w.ownsMap Try.prog 3 RV k 2 (mapD s1 s2)
  t1 : s1.there = false → s1.v = v0
  t2 : s2.there = false → s2.v = v0
  r1 : w.ownsRow 0 100 2 s1.v s1.rs.length (rl s1.rs)
  r2 : w.ownsRow 0 100 2 s2.v s2.rs.length (rl s2.rs)
  q : ∀ r ∈ s1.rs ++ s2.rs, w.ownsRow 0 24 6 r.v r.q.length (ol r.q)
/-- The blocks of a book. -/
def foot (b : Option Addr) (m : Option Nat) (s1 s2 : Sd) (k : Nat) : Prop :=
  b = some ⟨k, 0, none⟩ ∨ m = some k ∨ s1.v.ownBlock = some k ∨ s2.v.ownBlock = some k ∨ ∃ r ∈ s1.rs ++ s2.rs, r.v.ownBlock = some k
theorem ownsMap_fr {S : Nat → Prop} {w w' : World} {P : Program} {k : TypeId} {R : Value → Option (DataW Value × List MemPlace)} {b n : Nat} {D : DataW Value} (h : w.ownsMap P k R b n D) (hf : Fr S w w') (hn : ¬ S b) : w'.ownsMap P k R b n D := by
  have hlt := h.lt
  obtain ⟨es, clock, hb, F, hs, hD⟩ := h
  exact ⟨es, clock, (hf.block b hlt hn).trans hb, F, hs, hD⟩
theorem Bk.fr {S : Nat → Prop} {w w' : World} {b : Option Addr} {m : Option Nat} {s1 s2 : Sd} (h : Bk w b m s1 s2) (hf : Fr S w w') (hn : ∀ k, foot b m s1 s2 k → ¬ S k) : Bk w' b m s1 s2 := by
  refine ⟨?_, h.un, fun k hk => ownsMap_fr (h.mp k hk) hf (hn k (.inr (.inl hk))), h.t1, h.t2, own_fr h.r1 hf (fun k hk => hn k (.inr (.inr (.inl hk)))), own_fr h.r2 hf (fun k hk => hn k (.inr (.inr (.inr (.inl hk))))), fun r hr => own_fr (h.q r hr) hf (fun k hk => hn k (.inr (.inr (.inr (.inr ⟨r, hr, hk⟩)))))⟩
  rcases h.shape with h0 | ⟨p, hb, hp⟩
  · exact .inl h0
  · exact .inr ⟨p, hb, hf.blk hp (hn p (.inl hb))⟩
theorem Bk.below {w w' : World} {b : Option Addr} {m : Option Nat} {s1 s2 : Sd} (h : Bk w b m s1 s2) (hf : Below w.heap.size w w') : Bk w' b m s1 s2 :=
  h.fr (S := fun _ => False) (Fr.of_below hf) (fun _ _ h => h)
/-- A book's blocks are there. -/
theorem Bk.lt {w : World} {b : Option Addr} {m : Option Nat} {s1 s2 : Sd} (h : Bk w b m s1 s2) {k : Nat} (hk : foot b m s1 s2 k) : k < w.heap.size := by
  rcases hk with hk | hk | hk | hk | ⟨r, hr, hk⟩
  · rcases h.shape with ⟨h0, _⟩ | ⟨p, hb, hp⟩
    · rw [h0] at hk; cases hk
    · rw [hb] at hk; injection hk with hk; injection hk with hk; subst hk; exact blk_lt hp
  · exact (h.mp k hk).lt
  · exact (own_lt h.r1 k hk).2
  · exact (own_lt h.r2 k hk).2
  · exact (own_lt (h.q r hr) k hk).2
theorem neq_map (m : Option Nat) (w : World) : (binOp .neq 92 (.map m) (.map none)).run Try.prog w = .ok (.bool m.isSome) w := by
  cases m <;> kernel_rfl
set_option maxHeartbeats 4000000 in
set_option maxRecDepth 100000 in
theorem made_c (b : Option Addr) (m : Option Nat) (s1 s2 : Sd) (w : World) (H : Bk w b m s1 s2) :
    Calls Try.prog 61 #[.pointer b] w fun e w' => e = .returned (.bool m.isSome) ∧ w' = w := by
  rcases H.shape with ⟨rfl, rfl⟩ | ⟨p, rfl, hp⟩
  · clear H
    go_enter Try.func61, Try.ntmps61
    go_wp2_with fail
    go_ret
    exact ⟨rfl, rfl⟩
  · have c0 : w.cell? ⟨p, 0, none⟩ = some (.map m) := by rw [cell_of_row _ _ _ _ _ _ hp]; rfl
    have hn := neq_map m w
    generalize m.isSome = bb at hn ⊢
    clear H hp
    go_enter Try.func61, Try.ntmps61
    go_wp2_with fail
    go_ret
    exact ⟨rfl, rfl⟩
theorem rowsOf_nil (side : Int) : rowsOf nilS nilS side = v0 := by
  unfold rowsOf nilS
  (repeat' split) <;> rfl
set_option maxHeartbeats 4000000 in
set_option maxRecDepth 100000 in
theorem side_c (b : Option Addr) (m : Option Nat) (s1 s2 : Sd) (side : Int) (w : World) (hs : (Lit.int .i64 side).wf = true) (H : Bk w b m s1 s2) :
    Calls Try.prog 80 #[.pointer b, .int .i64 side] w fun e w' => e = .returned (rowsOf s1 s2 side) ∧ w' = w := by
  have HM := Lib.hid (made_c b m s1 s2 w H)
  cases m with
  | none =>
    obtain ⟨rfl, rfl⟩ := H.un rfl
    rw [rowsOf_nil]
    clear H
    go_enter Try.func80, Try.ntmps80
    go_wp2_with ((with_reducible refine (HM.out).mono ?_); rintro e w' ⟨rfl, rfl⟩)
    go_ret
    exact ⟨rfl, rfl⟩
  | some m =>
    have hl := look_side (H.mp m rfl) H.t1 H.t2 side hs
    rcases H.shape with ⟨_, h0⟩ | ⟨p, rfl, hp⟩
    · cases h0
    have c0 : w.cell? ⟨p, 0, none⟩ = some (.map (some m)) := by rw [cell_of_row _ _ _ _ _ _ hp]; rfl
    generalize rowsOf s1 s2 side = v at *
    clear H hp
    go_enter Try.func80, Try.ntmps80
    go_wp2_with ((with_reducible refine (HM.out).mono ?_); rintro e w' ⟨rfl, rfl⟩)
    go_ret
    exact ⟨rfl, rfl⟩
set_option maxHeartbeats 4000000 in
set_option maxRecDepth 100000 in
theorem new_c (w : World) : Calls Try.prog 27 #[] w fun e w' => e = .returned (.pointer (some ⟨w.heap.size + 1, 0, none⟩)) ∧ Hid (Bk w' (some ⟨w.heap.size + 1, 0, none⟩) (some w.heap.size) nilS nilS ∧ Below w.heap.size w w') := by
  have hmm := @run_makeMap Try.prog
  go_enter Try.func27, Try.ntmps27
  go_wp2_with fail
  go_ret
  refine ⟨rfl, Lib.hid ?_⟩
  refine ⟨⟨.inr ⟨_, rfl, ?_⟩, (fun h => by cases h), fun k hk => ?_, fun _ => rfl, fun _ => rfl, ?_, ?_, fun r hr => by cases hr⟩, ?_⟩
  · exact hd_last (by simp)
  · injection hk with hk
    subst hk
    exact ((World.ownsMap_made w Try.prog 3 RV).mono (Nat.zero_le _)).alloc _
  · exact ⟨rfl, .inl ⟨rfl, rfl⟩⟩
  · exact ⟨rfl, .inl ⟨rfl, rfl⟩⟩
  · exact ((Below.refl _ _).alloc (Nat.le_refl _) _).alloc (by simp) _
end Go.Proofs.Ytailiaobbgikfaa
