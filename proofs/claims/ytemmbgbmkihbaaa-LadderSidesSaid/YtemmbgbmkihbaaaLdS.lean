/- ladder: the chapter's example. -/
import Derived.Test.YtemmbgbmkihbaaaLdR
namespace Go.Proofs.Ytemmbgbmkihbaaa
open Go.RowKit Go.Shelf Go.Sort

def exO : List Od := [⟨0, 0, 2, 7, 1, 0⟩, ⟨1, 0, 2, 5, 1, 1⟩, ⟨2, 0, 2, 6, 1, 2⟩]
def exL : List Od := [⟨1, 0, 2, 5, 1, 1⟩, ⟨2, 0, 2, 6, 1, 2⟩, ⟨0, 0, 2, 7, 1, 0⟩]
theorem ex_is {w : World} {p m : Nat} {s1 s2 : Sd} (H : Whole w p m s1 s2) (h : (bookL s1.rs s2.rs).Perm exO) : bookL s1.rs s2.rs = exL := by
  refine uniq (h.trans ?_) H.pw (by decide +kernel)
  exact List.perm_append_comm (l₁ := [_]) (l₂ := [_, _])
/-- An order of the example is put in. -/
theorem ex_add {w w' : World} {p m k : Nat} {s1 s2 s1' s2' : Sd} {o : Od} {c : Int} (h : AddIs w w' p m s1 s2 s1' s2' o c) (hg : goodO o = true) (hid : ∀ x ∈ exO.take k, ¬ x.id = o.id) (hp : (bookL s1.rs s2.rs).Perm (exO.take k)) (hk : exO.take (k + 1) = exO.take k ++ [o]) (hk3 : k < 3) : PutIs w w' p m s1 s2 s1' s2' o ∧ (bookL s1'.rs s2'.rs).Perm (exO.take (k + 1)) := by
  have hP : PutIs w w' p m s1 s2 s1' s2' o := by
    rcases h with ⟨_, h, _⟩ | ⟨_, _, ⟨x, hx, hi⟩, _⟩ | ⟨_, _, ⟨_, hl, _⟩ | ⟨_, _, h⟩⟩
    · rw [hg] at h; cases h
    · exact absurd hi (hid x (hp.mem_iff.1 hx))
    · rw [hp.length_eq, List.length_take] at hl
      omega
    · exact h
  refine ⟨hP, hP.perm.trans ?_⟩
  rw [hk]
  exact (hp.cons o).trans (List.perm_append_comm (l₁ := [o]) (l₂ := exO.take k))
theorem own_three {w : World} {base : Nat} {T : TypeId} {v a b c : Value} (h : w.ownsRow base T 1 v 3 [a, b, c]) : ∃ g k, v = .slice (some ⟨g, 0, none⟩) 3 k ∧ w.cell? ⟨g, 0, none⟩ = some a ∧ w.cell? ⟨g, 1, none⟩ = some b ∧ w.cell? ⟨g, 2, none⟩ = some c := by
  rcases h.2 with ⟨_, h0⟩ | ⟨g, cap, cur, hv, _⟩
  · cases h0
  · have hb : v.ownBlock = some g := by rw [hv]; rfl
    exact ⟨g, cap, hv, (own_cell h hb rfl).1, (own_cell h hb rfl).1, (own_cell h hb rfl).1⟩
theorem side_nil (s : Int) : SideOk s [] := ⟨List.Pairwise.nil, fun _ h => (by cases h), fun _ h => (by cases h), fun _ h => (by cases h)⟩
theorem whole_new {w : World} {p m : Nat} (hb : Bk w (some ⟨p, 0, none⟩) (some m) nilS nilS) : Whole w p m nilS nilS :=
  ⟨hb, side_nil 1, side_nil 2, List.Pairwise.nil, fun j h => (by cases h), List.Pairwise.nil, Nat.zero_le _, fun x h => (by cases h)⟩
theorem whole_foot {p m k : Nat} (h : foot (some ⟨p, 0, none⟩) (some m) nilS nilS k) : k = p ∨ k = m := by
  rcases h with h | h | h | h | ⟨r, h, _⟩
  · injection h with h; injection h with h; exact .inl h.symm
  · injection h with h; exact .inr h.symm
  · cases h
  · cases h
  · cases h
/-- What the example's loop leaves. -/
def LvI (w : World) (p m g k : Nat) (wr : World) (s1 s2 : Sd) : Prop :=
  Whole wr p m s1 s2 ∧ (bookL s1.rs s2.rs).Perm (exO.take k) ∧ Cl 2 wr g #[.int .i64 7, .int .i64 5, .int .i64 6] ∧ ¬ foot (some ⟨p, 0, none⟩) (some m) s1 s2 g ∧ Below w.heap.size w wr ∧ (∀ j, foot (some ⟨p, 0, none⟩) (some m) s1 s2 j → w.heap.size ≤ j)
theorem lv_step {w wr w' : World} {p m g k : Nat} {s1 s2 s1' s2' : Sd} {o : Od} (I : LvI w p m g k wr s1 s2) (hP : PutIs wr w' p m s1 s2 s1' s2' o) (hp : (bookL s1'.rs s2'.rs).Perm (exO.take (k + 1))) : LvI w p m g (k + 1) w' s1' s2' := by
  obtain ⟨h1, h2, h3, h4, h5, h6⟩ := I
  refine ⟨hP.wh, hp, hP.fr.blk h3 h4, fun hf => ?_, ?_, fun j hj => ?_⟩
  · rcases hP.ft g hf with h | h
    · exact h4 h
    · have := blk_lt h3; omega
  · exact h5.trans (hP.fr.below h6 h5.size)
  · rcases hP.ft j hj with h | h
    · exact h6 j h
    · exact Nat.le_trans h5.size h
set_option maxHeartbeats 4000000 in
set_option maxRecDepth 100000 in
theorem lives13_c (w : World) : Calls Try.prog 10 #[] w fun e w' => e = .returned (.bool true) ∧ Below w.heap.size w w' := by
  have mixed : Try.prog.follows .mixedOrders = true := by kernel_rfl
  have HN := Lib.hid (new_c w)
  go_enter Try.func10, Try.ntmps10
  go_wp2_with ((with_reducible refine HN.out.mono ?_); rintro e w1 ⟨rfl, hn⟩; clear HN)
  have I0 : Hid (LvI w (w.heap.size + 1) w.heap.size w1.heap.size 0 (w1.alloc (.cells #[.int .i64 7, .int .i64 5, .int .i64 6] 2)) nilS nilS) := by
    obtain ⟨hb, hbe⟩ := hn.out
    have hW := whole_new hb
    refine ⟨hW.below ((Below.refl _ _).alloc (Nat.le_refl _) _), List.Perm.refl _, hd_last rfl, fun h => by have := hb.lt h; omega, hbe.alloc hbe.size _, fun j hj => ?_⟩
    rcases whole_foot hj with h | h <;> omega
  obtain ⟨p, hp⟩ : ∃ p, w.heap.size + 1 = p := ⟨_, rfl⟩
  obtain ⟨m, hm⟩ : ∃ m, w.heap.size = m := ⟨_, rfl⟩
  obtain ⟨g, hg⟩ : ∃ g, w1.heap.size = g := ⟨_, rfl⟩
  rw [hp, hg] at I0 ⊢
  rw [show LvI w p w.heap.size g 0 = LvI w p m g 0 by rw [hm]] at I0
  clear hn hp hg
  go_loopw [10] (fun s wr => ∃ (k : Nat) (s1 s2 : Sd), s = .int .i64 (k : Int) ∧ Hid (k ≤ 3 ∧ LvI w p m g k wr s1 s2)) (fun s _ => match s with | .int _ z => 3 - z.toNat | _ => 0)
  case atStart => exact ⟨0, nilS, nilS, rfl, Nat.zero_le _, I0.out⟩
  case round =>
    clear I0
    obtain ⟨k, s1, s2, rfl, hd⟩ := hrel
    have hd2 := hd.out
    obtain ⟨hk3, I⟩ := hd2
    have HI := Lib.hid I
    have hcl := I.2.2.1
    have c0 : wr.cell? ⟨g, 0, none⟩ = some (.int .i64 7) := (hcl.c 0).trans rfl
    have c1 : wr.cell? ⟨g, 1, none⟩ = some (.int .i64 5) := (hcl.c 1).trans rfl
    have c2 : wr.cell? ⟨g, 2, none⟩ = some (.int .i64 6) := (hcl.c 2).trans rfl
    clear hcl I hd
    have hk : k = 0 ∨ k = 1 ∨ k = 2 ∨ k = 3 := by omega
    rcases hk with rfl | rfl | rfl | rfl
    · have HA := Lib.hid (lAdd_c p m s1 s2 ⟨0, 0, 2, 7, 1, 0⟩ wr HI.out.1 (by unfold Od.ok; decide))
      go_wp2_with ((with_reducible refine HA.out.mono ?_); rintro e w2 ⟨cc, s1', s2', rfl, ha⟩)
      obtain ⟨hP, hp⟩ := ex_add (k := 0) ha.out (by decide +kernel) (by decide +kernel) HI.out.2.1 rfl (by decide)
      exact ⟨⟨1, s1', s2', rfl, by decide, lv_step HI.out hP hp⟩, by decide⟩
    · have HA := Lib.hid (lAdd_c p m s1 s2 ⟨1, 0, 2, 5, 1, 1⟩ wr HI.out.1 (by unfold Od.ok; decide))
      go_wp2_with ((with_reducible refine HA.out.mono ?_); rintro e w2 ⟨cc, s1', s2', rfl, ha⟩)
      obtain ⟨hP, hp⟩ := ex_add (k := 1) ha.out (by decide +kernel) (by decide +kernel) HI.out.2.1 rfl (by decide)
      exact ⟨⟨2, s1', s2', rfl, by decide, lv_step HI.out hP hp⟩, by decide⟩
    · have HA := Lib.hid (lAdd_c p m s1 s2 ⟨2, 0, 2, 6, 1, 2⟩ wr HI.out.1 (by unfold Od.ok; decide))
      go_wp2_with ((with_reducible refine HA.out.mono ?_); rintro e w2 ⟨cc, s1', s2', rfl, ha⟩)
      obtain ⟨hP, hp⟩ := ex_add (k := 2) ha.out (by decide +kernel) (by decide +kernel) HI.out.2.1 rfl (by decide)
      exact ⟨⟨3, s1', s2', rfl, by decide, lv_step HI.out hP hp⟩, by decide⟩
    · have hL := ex_is HI.out.1 HI.out.2.1
      have hbest : bestO (rsOf s1 s2 2) = some ⟨1, 0, 2, 5, 1, 1⟩ := by rw [best_book HI.out.1 2, hL]; rfl
      have hprs : (rsOf s1 s2 2).map (·.pr) = [5, 6, 7] := by rw [prs_book HI.out.1 2, hL]; decide +kernel
      have hpl : (rsOf s1 s2 2).length = 3 := by rw [← List.length_map (f := fun r : Rw => r.pr), hprs]; rfl
      have hpv : prV (rsOf s1 s2 2) = [.int .i64 5, .int .i64 6, .int .i64 7] := by rw [prV_map, hprs]; rfl
      have hn := HI.out.1.n1
      have HB := Lib.hid (lBest_c _ _ s1 s2 2 (by decide) wr HI.out.1.bk HI.out.1.ne)
      rw [hbest] at HB
      have HPr : Hid (∀ W, Below wr.heap.size wr W → Calls Try.prog 22 #[.pointer (some ⟨p, 0, none⟩), .int .i64 2] W fun e w' => ∃ v, e = .returned v ∧ Hid (w'.ownsRow W.heap.size 2 1 v 3 [.int .i64 5, .int .i64 6, .int .i64 7] ∧ Below W.heap.size W w')) := fun W hW => by
        have := lPrices_c _ _ s1 s2 2 (by decide) W (HI.out.1.below hW).bk (by omega) (by omega)
        rwa [hpl, hpv] at this
      have HLn : Hid (∀ W, Below wr.heap.size wr W → Calls Try.prog 27 #[.pointer (some ⟨p, 0, none⟩)] W fun e w' => e = .returned (.int .i64 3) ∧ Hid (Below W.heap.size W w')) := fun W hW => by
        have := lLen_c _ _ s1 s2 W (HI.out.1.below hW).bk (by omega) (by omega) (by omega)
        rwa [lenQ_flat, flatR_app, hL] at this
      clear hL hbest hprs hpl hpv hn
      go_wp2_with (first | ((with_reducible refine HB.out.mono ?_); rintro e w2 ⟨rfl, hb2⟩; dsimp only [optV, Option.isSome]; have B2 : Hid (Below wr.heap.size wr (w2.alloc (.cells (OC ⟨1, 0, 2, 5, 1, 1⟩) 32))) := hb2.out.alloc hb2.out.size _; clear hb2) | ((with_reducible refine (HPr.out _ B2.out).mono ?_); rintro e w3 ⟨v, rfl, hv⟩; have B3 : Hid (Below wr.heap.size wr w3) := B2.out.trans (hv.out.2.mono B2.out.size); have hbx : w3.cell? ⟨w2.heap.size, 3, none⟩ = some (.int .i64 5) := (Cl.c (T := 32) (cs := OC ⟨1, 0, 2, 5, 1, 1⟩) ((hv.out.2.block _ (by rw [World.size_alloc]; exact Nat.lt_succ_self _)).trans (hd_last rfl)) 3).trans rfl; obtain ⟨gg, gc, rfl, q0, q1, q2⟩ := own_three hv.out.1) | ((with_reducible refine (HLn.out _ B3.out).mono ?_); rintro e w4 ⟨rfl, hb4⟩))
      go_ret
      exact ⟨rfl, HI.out.2.2.2.2.1.trans ((B3.out.trans (hb4.out.mono B3.out.size)).mono HI.out.2.2.2.2.1.size)⟩
end Go.Proofs.Ytemmbgbmkihbaaa
