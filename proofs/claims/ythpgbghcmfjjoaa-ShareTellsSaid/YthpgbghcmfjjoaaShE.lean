/- share: the law's Same, the example. -/
import Derived.Test.YthpgbghcmfjjoaaShD
namespace Go.Proofs.Ythpgbghcmfjjoaa
open Go.RowKit Go.Lib
set_option linter.unusedVariables false

/-- A row of numbers, as the walk reads it. -/
def RowN (w : World) (A : Option Addr) (n : Nat) (g : Nat → Int) : Prop := n = 0 ∨ ∃ b, A = some ⟨b, 0, none⟩ ∧ b < w.heap.size ∧ ∀ i, i < n → w.cell? ⟨b, i, none⟩ = some (.int .i64 (g i))
theorem RowN.below {w w' : World} {A : Option Addr} {n : Nat} {g : Nat → Int} (h : RowN w A n g) (hb : Below w.heap.size w w') : RowN w' A n g := by
  rcases h with h | ⟨b, rfl, hl, hc⟩
  · exact .inl h
  · exact .inr ⟨b, rfl, Nat.lt_of_lt_of_le hl hb.size, fun i hi => (hb.cell (p := ⟨b, i, none⟩) hl).trans (hc i hi)⟩
theorem RowN.of {w : World} {b n : Nat} {g : Nat → Int} (h : w.rowIs b 2 n (fun i => .int .i64 (g i))) : RowN w (some ⟨b, 0, none⟩) n g :=
  .inr ⟨b, rfl, h.lt, fun i hi => h.cell hi⟩

set_option maxHeartbeats 4000000 in
set_option maxRecDepth 100000 in
theorem same16_c (A B : Option Addr) (n c c' : Nat) (f g : Nat → Int) (w : World) (H : RowN w A n f) (K : RowN w B n g) (hn : n ≤ 1000) (hfg : ∀ i, i < n → f i = g i) :
    Calls Try.prog 8 #[.slice A n c, .slice B n c'] w fun e w' => e = .returned (.bool true) ∧ Below w.heap.size w w' := by
  have HA : Aside (RowN w A n f) := H
  have HB : Aside (RowN w B n g) := K
  have HF := Lib.hid hfg
  have enn : ((n : Int) == (n : Int)) = true := by simp
  have enn2 : ((n : Int) != (n : Int)) = false := by simp
  clear H K hfg
  go_enter Try.func8, Try.ntmps8
  go_wp2_with fail
  go_loopg [13] n (fun kx s13 wr => ∃ k : Nat, s13 = .int .i64 k ∧ k ≤ n ∧ n - k ≤ kx ∧ Hid (Below w.heap.size w wr))
  case atStart => exact ⟨0, rfl, by omega, by omega, Lib.hid (Below.refl _ _)⟩
  case round =>
    obtain ⟨k, rfl, hk, hkx, hB⟩ := hrel
    by_cases hlt : k < n
    · have hltI : (k : Int) < (n : Int) := by omega
      have hk0 : (0 : Int) ≤ (k : Int) := by omega
      obtain ⟨b, rfl, _, hcb⟩ : ∃ b, A = some ⟨b, 0, none⟩ ∧ b < wr.heap.size ∧ ∀ i, i < n → wr.cell? ⟨b, i, none⟩ = some (.int .i64 (f i)) := by
        rcases HA.out.below hB.out with h | h
        · omega
        · exact h
      obtain ⟨b', rfl, _, hcb'⟩ : ∃ b, B = some ⟨b, 0, none⟩ ∧ b < wr.heap.size ∧ ∀ i, i < n → wr.cell? ⟨b, i, none⟩ = some (.int .i64 (g i)) := by
        rcases HB.out.below hB.out with h | h
        · omega
        · exact h
      have c1 := hcb k hlt
      have c2 := hcb' k hlt
      rw [← HF.out k hlt] at c2
      clear hcb hcb'
      generalize f k = z at c1 c2
      have ez : (z == z) = true := by simp
      have ez2 : (z != z) = false := by simp
      go_wp2_with fail
      go_quiet (fail)
      have hN : Hid (Below w.heap.size w (wr.drewN nq)) := Lib.hid (below_drewN hB.out nq)
      go_wp2_with fail
      go_roundg (n - (k + 1))
      case measure => omega
      case rel => exact ⟨k + 1, by go_num, by omega, by omega, hN⟩
    · have hltI : ¬ (k : Int) < (n : Int) := by omega
      go_wp2_with fail
      go_ret
      exact ⟨rfl, hB.out⟩

/-- The example's orders. -/
def exL : List Od := [⟨0, 0, 0, 0, 6, 0⟩, ⟨0, 0, 0, 0, 6, 0⟩, ⟨0, 0, 0, 0, 3, 0⟩]
def exC : Array Value := #[.int .u64 0, .int .i64 0, .int .i64 0, .int .i64 0, .int .i64 6, .int .u64 0, .int .u64 0, .int .i64 0, .int .i64 0, .int .i64 0, .int .i64 6, .int .u64 0, .int .u64 0, .int .i64 0, .int .i64 0, .int .i64 0, .int .i64 3, .int .u64 0]
theorem ex_ods (w : World) : Ods (w.alloc (.cells exC 35)) (some ⟨w.heap.size, 0, none⟩) 3 exL := by
  have hb : (w.alloc (.cells exC 35)).heap[w.heap.size]? = some (.cells exC 35 (0, 0)) := heap_last rfl
  refine ⟨rfl, by omega, ?_, .inr ⟨w.heap.size, 0, rfl, by simp, fun i hi => ?_⟩⟩
  · intro x hx
    simp only [exL, List.mem_cons, List.not_mem_nil, or_false] at hx
    rcases hx with rfl | rfl | rfl <;> (unfold Od.ok; decide)
  · have g : ∀ j v, exC[j]? = some v → (w.alloc (.cells exC 35)).cell? ⟨w.heap.size, j, none⟩ = some v := fun j v hv => by rw [cell_of_row _ _ _ _ _ _ hb, hv]
    match i, hi with
    | 0, _ => exact ⟨g _ _ rfl, g _ _ rfl, g _ _ rfl, g _ _ rfl, g _ _ rfl, g _ _ rfl⟩
    | 1, _ => exact ⟨g _ _ rfl, g _ _ rfl, g _ _ rfl, g _ _ rfl, g _ _ rfl, g _ _ rfl⟩
    | 2, _ => exact ⟨g _ _ rfl, g _ _ rfl, g _ _ rfl, g _ _ rfl, g _ _ rfl, g _ _ rfl⟩
theorem ex_ok (lot : Int) (h : lot = 1 ∨ lot = 3) : ShOk (qs exL) 10 lot := by
  rcases h with rfl | rfl
  · exact ⟨by decide, by decide, by decide, by decide, by decide, by decide, by decide, by decide, by decide⟩
  · exact ⟨by decide, by decide, by decide, by decide, by decide, by decide, by decide, by decide, by decide⟩
theorem Shd.row {w w' : World} {n : Nat} {g : Nat → Int} {e : Ending} (h : Shd w n g e w') : ∃ b, e = .returned (.slice (some ⟨b, 0, none⟩) n n) ∧ w.heap.size ≤ b ∧ Hid (Below w.heap.size w w' ∧ RowN w' (some ⟨b, 0, none⟩) n g) := by
  obtain ⟨b, h1, h2, h3, h4⟩ := h
  exact ⟨b, h1, h2, Lib.hid ⟨h3, RowN.of h4⟩⟩
theorem three_row (w : World) (x y z : Int) : RowN (w.alloc (.cells #[.int .i64 x, .int .i64 y, .int .i64 z] 2)) (some ⟨w.heap.size, 0, none⟩) 3 (fun i => if i = 0 then x else if i = 1 then y else z) := by
  refine .inr ⟨_, rfl, by simp, fun i hi => ?_⟩
  rw [cell_of_row _ _ _ _ _ _ (heap_last rfl)]
  match i, hi with
  | 0, _ => rfl
  | 1, _ => rfl
  | 2, _ => rfl

set_option maxHeartbeats 4000000 in
set_option maxRecDepth 100000 in
theorem lives16_c (w : World) : Calls Try.prog 6 #[] w fun e w' => e = .returned (.bool true) ∧ Below w.heap.size w w' := by
  have b0 : Below w.heap.size w (w.alloc (.cells exC 35)) := (Below.refl _ _).alloc (Nat.le_refl _) _
  have H1 : Hid (∀ wr, Below (w.alloc (.cells exC 35)).heap.size (w.alloc (.cells exC 35)) wr → Calls Try.prog 9 #[.int .i64 2, .slice (some ⟨w.heap.size, 0, none⟩) 3 3, .int .i64 10, .int .i64 1] wr (Shd wr 3 (outN 2 (allN 1 10 (sumT 1 (qs exL))) (sumT 1 (qs exL)) 1 (qs exL)))) :=
    Lib.hid (fun wr hb => share_2 _ 3 3 exL 10 1 (by unfold InR; decide) wr ((ex_ods w).below hb) (by omega) (ex_ok 1 (.inl rfl)))
  have H2 : Hid (∀ wr, Below (w.alloc (.cells exC 35)).heap.size (w.alloc (.cells exC 35)) wr → Calls Try.prog 9 #[.int .i64 2, .slice (some ⟨w.heap.size, 0, none⟩) 3 3, .int .i64 10, .int .i64 3] wr (Shd wr 3 (outN 2 (allN 3 10 (sumT 3 (qs exL))) (sumT 3 (qs exL)) 3 (qs exL)))) :=
    Lib.hid (fun wr hb => share_2 _ 3 3 exL 10 3 (by unfold InR; decide) wr ((ex_ods w).below hb) (by omega) (ex_ok 3 (.inr rfl)))
  have H3 : Hid (∀ wr, Below (w.alloc (.cells exC 35)).heap.size (w.alloc (.cells exC 35)) wr → Calls Try.prog 9 #[.int .i64 1, .slice (some ⟨w.heap.size, 0, none⟩) 3 3, .int .i64 10, .int .i64 1] wr (Shd wr 3 (outN 1 (allN 1 10 (sumT 1 (qs exL))) (sumT 1 (qs exL)) 1 (qs exL)))) :=
    Lib.hid (fun wr hb => share_1 _ 3 3 exL 10 1 (by unfold InR; decide) wr ((ex_ods w).below hb) (by omega) (ex_ok 1 (.inl rfl)))
  have E1 : Hid (∀ i, i < 3 → outN 2 (allN 1 10 (sumT 1 (qs exL))) (sumT 1 (qs exL)) 1 (qs exL) i = if i = 0 then 4 else if i = 1 then 4 else 2) := Lib.hid (by decide)
  have E2 : Hid (∀ i, i < 3 → outN 2 (allN 3 10 (sumT 3 (qs exL))) (sumT 3 (qs exL)) 3 (qs exL) i = if i = 0 then 6 else if i = 1 then 3 else 0) := Lib.hid (by decide)
  have E3 : Hid (∀ i, i < 3 → outN 1 (allN 1 10 (sumT 1 (qs exL))) (sumT 1 (qs exL)) 1 (qs exL) i = if i = 0 then 6 else if i = 1 then 4 else 0) := Lib.hid (by decide)
  have HB0 := Lib.hid b0
  clear b0
  unfold exC at *
  go_enter Try.func6, Try.ntmps6
  go_wp2_with fail
  ((with_reducible refine (H1.out _ (Below.refl _ _)).mono ?_); intro e u1 h1; obtain ⟨c1, rfl, _, hr1⟩ := h1.row; clear h1)
  go_wp2_with fail
  have R1 : Hid (RowN (u1.alloc (.cells #[.int .i64 4, .int .i64 4, .int .i64 2] 2)) (some ⟨c1, 0, none⟩) 3 _) := Lib.hid (hr1.out.2.below ((Below.refl _ _).alloc (Nat.le_refl _) _))
  ((with_reducible refine (same16_c _ _ 3 3 3 _ _ _ R1.out (three_row u1 4 4 2) (by omega) E1.out).mono ?_); rintro e v1 ⟨rfl, d1⟩)
  have K1 : Hid (Below (w.alloc (.cells #[.int .u64 0, .int .i64 0, .int .i64 0, .int .i64 0, .int .i64 6, .int .u64 0, .int .u64 0, .int .i64 0, .int .i64 0, .int .i64 0, .int .i64 6, .int .u64 0, .int .u64 0, .int .i64 0, .int .i64 0, .int .i64 0, .int .i64 3, .int .u64 0] 35)).heap.size (w.alloc (.cells #[.int .u64 0, .int .i64 0, .int .i64 0, .int .i64 0, .int .i64 6, .int .u64 0, .int .u64 0, .int .i64 0, .int .i64 0, .int .i64 0, .int .i64 6, .int .u64 0, .int .u64 0, .int .i64 0, .int .i64 0, .int .i64 0, .int .i64 3, .int .u64 0] 35)) v1) := Lib.hid ((hr1.out.1.alloc hr1.out.1.size _).trans (d1.mono (by have := hr1.out.1.size; simp only [World.size_alloc] at *; omega)))
  clear R1 hr1 d1 E1 H1
  go_wp2_with fail
  ((with_reducible refine (H2.out _ K1.out).mono ?_); intro e u2 h2; obtain ⟨c2, rfl, _, hr2⟩ := h2.row; clear h2)
  go_wp2_with fail
  have R2 : Hid (RowN (u2.alloc (.cells #[.int .i64 6, .int .i64 3, .int .i64 0] 2)) (some ⟨c2, 0, none⟩) 3 _) := Lib.hid (hr2.out.2.below ((Below.refl _ _).alloc (Nat.le_refl _) _))
  ((with_reducible refine (same16_c _ _ 3 3 3 _ _ _ R2.out (three_row u2 6 3 0) (by omega) E2.out).mono ?_); rintro e v2 ⟨rfl, d2⟩)
  have K2 : Hid (Below (w.alloc (.cells #[.int .u64 0, .int .i64 0, .int .i64 0, .int .i64 0, .int .i64 6, .int .u64 0, .int .u64 0, .int .i64 0, .int .i64 0, .int .i64 0, .int .i64 6, .int .u64 0, .int .u64 0, .int .i64 0, .int .i64 0, .int .i64 0, .int .i64 3, .int .u64 0] 35)).heap.size (w.alloc (.cells #[.int .u64 0, .int .i64 0, .int .i64 0, .int .i64 0, .int .i64 6, .int .u64 0, .int .u64 0, .int .i64 0, .int .i64 0, .int .i64 0, .int .i64 6, .int .u64 0, .int .u64 0, .int .i64 0, .int .i64 0, .int .i64 0, .int .i64 3, .int .u64 0] 35)) v2) := Lib.hid (((K1.out.trans (hr2.out.1.mono K1.out.size)).alloc (K1.out.trans (hr2.out.1.mono K1.out.size)).size _).trans (d2.mono (by have := (K1.out.trans (hr2.out.1.mono K1.out.size)).size; simp only [World.size_alloc] at *; omega)))
  clear R2 hr2 d2 E2 H2
  go_wp2_with fail
  ((with_reducible refine (H3.out _ K2.out).mono ?_); intro e u3 h3; obtain ⟨c3, rfl, _, hr3⟩ := h3.row; clear h3)
  go_wp2_with fail
  have R3 : Hid (RowN (u3.alloc (.cells #[.int .i64 6, .int .i64 4, .int .i64 0] 2)) (some ⟨c3, 0, none⟩) 3 _) := Lib.hid (hr3.out.2.below ((Below.refl _ _).alloc (Nat.le_refl _) _))
  ((with_reducible refine (same16_c _ _ 3 3 3 _ _ _ R3.out (three_row u3 6 4 0) (by omega) E3.out).mono ?_); rintro e v3 ⟨rfl, d3⟩)
  have K3 : Hid (Below (w.alloc (.cells #[.int .u64 0, .int .i64 0, .int .i64 0, .int .i64 0, .int .i64 6, .int .u64 0, .int .u64 0, .int .i64 0, .int .i64 0, .int .i64 0, .int .i64 6, .int .u64 0, .int .u64 0, .int .i64 0, .int .i64 0, .int .i64 0, .int .i64 3, .int .u64 0] 35)).heap.size (w.alloc (.cells #[.int .u64 0, .int .i64 0, .int .i64 0, .int .i64 0, .int .i64 6, .int .u64 0, .int .u64 0, .int .i64 0, .int .i64 0, .int .i64 0, .int .i64 6, .int .u64 0, .int .u64 0, .int .i64 0, .int .i64 0, .int .i64 0, .int .i64 3, .int .u64 0] 35)) v3) := Lib.hid (((K2.out.trans (hr3.out.1.mono K2.out.size)).alloc (K2.out.trans (hr3.out.1.mono K2.out.size)).size _).trans (d3.mono (by have := (K2.out.trans (hr3.out.1.mono K2.out.size)).size; simp only [World.size_alloc] at *; omega)))
  clear R3 hr3 d3 E3 H3
  have hF := HB0.out.trans (K3.out.mono HB0.out.size)
  go_wp2_with fail
  go_ret
  exact ⟨rfl, hF⟩
end Go.Proofs.Ythpgbghcmfjjoaa
