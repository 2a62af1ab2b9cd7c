/- the reference's purse: fine, may, all. -/
import Derived.Test.YtpegkojcemggaabPuC
namespace Go.Proofs.Ytpegkojcemggaab
open Go.RowKit

set_option maxHeartbeats 4000000 in
set_option maxRecDepth 100000 in
theorem rfine_c (n : Int) (w : World) :
    Calls Try.prog 17 #[.int .i64 n] w fun e w' => e = .returned (.bool (mnyB n)) ∧ w = w' := by
  by_cases h1 : 0 ≤ n
  · obtain ⟨r, hr⟩ : ∃ r, r = decide (n ≤ 4611686018427387904) := ⟨_, rfl⟩
    have d : Hid (mnyB n = r) := by
      show _ = _
      rw [hr]; unfold mnyB Mny; simp [h1]
    have hr' : decide (n ≤ 4611686018427387904) = r := hr.symm
    clear hr
    go_enter Try.func17, Try.ntmps17
    go_wp2_with fail
    go_ret
    rw [d.out]; exact ⟨rfl, rfl⟩
  · have d : Hid (mnyB n = false) := by show _ = _; exact decide_eq_false fun h => h1 h.1
    have h2 : decide (0 ≤ n) = false := decide_eq_false h1
    clear h1
    go_enter Try.func17, Try.ntmps17
    go_wp2_with fail
    go_ret
    rw [d.out]; exact ⟨rfl, rfl⟩

set_option maxHeartbeats 4000000 in
set_option maxRecDepth 100000 in
theorem rmay_c (a s : Int) (w : World) :
    Calls Try.prog 24 #[.int .i64 a, .int .i64 s] w fun e w' => e = .returned (.bool (decide (May a s))) ∧ w = w' := by
  by_cases h1 : There a
  · have g1 : 0 ≤ a := h1.1
    have g2 : decide (a < 8) = true := decide_eq_true h1.2
    by_cases h2 : s = 1
    · have d : Hid (decide (May a s) = true) := by show _ = _; exact decide_eq_true ⟨h1.1, h1.2, .inl h2⟩
      have e1 : (s == 1) = true := by simp [h2]
      clear h1 h2
      go_enter Try.func24, Try.ntmps24
      go_wp2_with fail
      go_ret
      rw [d.out]; exact ⟨rfl, rfl⟩
    · have e1 : (s == 1) = false := by simp [h2]
      obtain ⟨r, hr⟩ : ∃ r, r = (s == 2) := ⟨_, rfl⟩
      have d : Hid (decide (May a s) = r) := by
        show _ = _
        rw [hr]
        by_cases h3 : s = 2
        · rw [decide_eq_true (show May a s from ⟨h1.1, h1.2, .inr h3⟩)]; simp [h3]
        · rw [decide_eq_false (show ¬ May a s from fun h => by rcases h.2.2 with h | h <;> contradiction)]; simp [h3]
      have hr' : (s == 2) = r := hr.symm
      clear h1 h2 hr
      go_enter Try.func24, Try.ntmps24
      go_wp2_with fail
      go_ret
      rw [d.out]; exact ⟨rfl, rfl⟩
  · have d : Hid (decide (May a s) = false) := by show _ = _; exact decide_eq_false fun h => h1 ⟨h.1, h.2.1⟩
    by_cases h3 : 0 ≤ a
    · have g2 : decide (a < 8) = false := decide_eq_false fun h => h1 ⟨h3, h⟩
      clear h1
      go_enter Try.func24, Try.ntmps24
      go_wp2_with fail
      go_ret
      rw [d.out]; exact ⟨rfl, rfl⟩
    · have g2 : decide (0 ≤ a) = false := decide_eq_false h3
      clear h1 h3
      go_enter Try.func24, Try.ntmps24
      go_wp2_with fail
      go_ret
      rw [d.out]; exact ⟨rfl, rfl⟩

theorem pu_own_blk {w w' : World} {base n k : Nat} {v : Value} {xs : List Value} {e : TypeId} {o : Obj} (h : w.ownsRow base e 1 v n xs) (hg : w.grownBy w' v.ownBlock) (hk : k < base) (ho : w.heap[k]? = some o) : w'.heap[k]? = some o := by
  have hlt : k < w.heap.size := by
    rcases Nat.lt_or_ge k w.heap.size with h' | h'
    · exact h'
    · rw [Array.getElem?_eq_none h'] at ho; cases ho
  exact (World.grownBy.block hg k hlt (fun e => by have := h.lt k e.symm; omega)).trans ho
theorem pu_own_below {w w' : World} {base n : Nat} {v : Value} {xs : List Value} {e : TypeId} (h : w.ownsRow base e 1 v n xs) (hg : w.grownBy w' v.ownBlock) (hb : base ≤ w.heap.size) : Below base w w' :=
  ⟨World.grownBy.os hg, World.grownBy.tape hg, World.grownBy.output hg, World.grownBy.size hg, fun k hk => World.grownBy.block hg k (by omega) (fun e => by have := h.lt k e.symm; omega)⟩
theorem own_sli2 {w : World} {base n : Nat} {v : Value} {zs : List Int} {e : TypeId} (h : w.ownsRow base e 1 v n (asV zs)) (hn : 0 < n) (hin : ∀ x ∈ zs, InR x) : ∃ g cap, v = .slice (some ⟨g, 0, none⟩) n cap ∧ SlI w (some ⟨g, 0, none⟩) n zs := by
  rcases h.2 with ⟨_, h0⟩ | ⟨g, cap, cur, rfl, rest⟩
  · omega
  · exact ⟨g, cap, rfl, own_sli h hin⟩
def rlst (m : Int) (h : List Int) (z : Ti) (o k : Nat) : List Int := [m] ++ h ++ asI z o k
theorem rlst_succ (m : Int) (h : List Int) (z : Ti) (o k : Nat) : asV (rlst m h z o (k + 1)) = asV (rlst m h z o k) ++ [Value.int .i64 (z (6 * k + o))] := by simp [rlst, asI, asV, List.range_succ]
theorem rcash_list (m : Int) (z : Ti) : (rlst m [z 48] z 0 8).sum = cashS z + m := by simp [rlst, asI_8, cashS]; omega
theorem rstock_list (m : Int) (z : Ti) : (rlst m [] z 1 8).sum = stockS z + m := by simp [rlst, asI_8, stockS]; omega
instance (s : Int) : Decidable (InR s) := by unfold InR; infer_instance
/-- All of it is told: it has room, and is at most MaxMoney. -/
def okS (s : Int) : Bool := decide (InR s ∧ s ≤ 4611686018427387904)
theorem okS_in {s : Int} (h : InR s) : okS s = decide (s ≤ 4611686018427387904) := by unfold okS; simp [h]
theorem okS_out {s : Int} (h : ¬ InR s) : okS s = false := by unfold okS; simp [h]

set_option maxHeartbeats 4000000 in
set_option maxRecDepth 100000 in
theorem rall_cash (z : Ti) (hin : ∀ k, k < 49 → InR (z k)) (m : Int) (hm : InR m) (w : World) :
    Calls Try.prog 18 #[.agg (TC z), .int .i64 1, .int .i64 m] w fun e w' => e = .returned (.tuple #[.int .i64 (tv (cashS z + m)), .bool (okS (cashS z + m))]) ∧ Below w.heap.size w w' := by
  obtain ⟨i0, hi0, hz0, hz1, hz2⟩ := pu_info_parts pu_info_n
  have Hin := Lib.hid hin; clear hin
  have Hm := Lib.hid hm; clear hm
  have HO0 : Hid (∀ w : World, (w.alloc (.cells #[.int .i64 m] 2)).ownsRow w.heap.size 2 1 (.slice (some ⟨w.heap.size, 0, none⟩) 1 1) 1 (asV [m])) := fun w => World.ownsRow_lit w #[.int .i64 m] 1 (Nat.le_refl _) (by unfold maxLen; omega) rfl
  have HF : Hid (∀ i, i < 49 → InR (z i)) := Hin.out
  have HC : Hid (∀ (W : World) (b : Nat) (t : TypeId), W.heap[b]? = some (.cells (TC z) t (0, 0)) → W.cell? ⟨b, 48, none⟩ = some (.int .i64 (z 48))) := fun W b t h => till_cell h (by omega)
  have c48 := TC_get z (show 48 < 49 by omega)
  go_enter Try.func18, Try.ntmps18
  go_wp2_with (at_builtin; refine wpList_append_own _ rfl _ _ 69 rfl (w.heap.size + 1) 2 i0 (.int .i64 0) 1 8 Try.underlying69 hi0 hz0 hz1 hz2 rfl (by decide) _ 1 (asV [m]) rfl ?a0 ⟨w.heap.size + 2, 0, none⟩ 1 1 [.int .i64 (z 48)] rfl rfl ?a1 ?a2 ?a3 ?a4 ?a5 ?_)
  case a0 => exact pu_own_keep (v := .slice (some ⟨w.heap.size + 1, 0, none⟩) 1 1) (by simpa using HO0.out (w.alloc (.cells (TC z) 30))) (by (focus ((repeat' (first | (with_reducible exact Below.refl _ _) | (with_reducible assumption) | (with_reducible refine Below.alloc ?_ ?_ _) | (with_reducible refine Below.setCell ?_ ?_ _) | (with_reducible refine Below.row ?_ ?_ _) | (with_reducible refine Below.drew ?_) | (with_reducible refine below_drewN ?_ _) | (focus (first | (simp; done) | omega | (simp; omega))))); done)))
  case a1 => have := pu_cell_new ((w.alloc (.cells (TC z) 30)).alloc (.cells #[.int .i64 m] 2)) (.int .i64 (z 48)) 2; simpa using this
  case a2 => intro u hu; rw [List.mem_singleton] at hu; subst hu; rfl
  case a3 => unfold maxLen; omega
  case a4 => omega
  case a5 => (focus (first | (simp; done) | omega | (simp; omega)))
  intro v1 w1 hown1 hg1 _
  have own0 : World.ownsRow (((w.alloc (.cells (TC z) 30)).alloc (.cells #[.int .i64 m] 2)).alloc (.cells #[.int .i64 (z 48)] 2)) (w.heap.size + 1) 2 1 (.slice (some ⟨w.heap.size + 1, 0, none⟩) 1 1) 1 (asV [m]) := pu_own_keep (by simpa using HO0.out (w.alloc (.cells (TC z) 30))) (by (focus ((repeat' (first | (with_reducible exact Below.refl _ _) | (with_reducible assumption) | (with_reducible refine Below.alloc ?_ ?_ _) | (with_reducible refine Below.setCell ?_ ?_ _) | (with_reducible refine Below.row ?_ ?_ _) | (with_reducible refine Below.drew ?_) | (with_reducible refine below_drewN ?_ _) | (focus (first | (simp; done) | omega | (simp; omega))))); done)))
  have t1 : w1.heap[w.heap.size]? = some (.cells (TC z) 30 (0, 0)) := pu_own_blk own0 hg1 (by omega) (by (focus ((repeat' (first | (with_reducible assumption) | ((with_reducible refine heap_last ?_); (focus (first | (simp; done) | omega | (simp; omega)))) | ((with_reducible refine heap_prev ?_ ?_); (focus (first | (simp; done) | omega | (simp; omega)))) | (with_reducible apply row_heap) | ((with_reducible apply till_set); (focus (first | (simp; done) | omega | (simp; omega)))) | ((with_reducible refine sign_other ?_ ?_); (focus (first | (simp; done) | omega | (simp; omega)))) | ((with_reducible refine row_other ?_ ?_); (focus (first | (simp; done) | omega | (simp; omega)))) | (with_reducible refine drew_heap ?_) | (with_reducible refine drewN_heap ?_))); done)))
  have B1 : Below w.heap.size w w1 := Below.trans (by (focus ((repeat' (first | (with_reducible exact Below.refl _ _) | (with_reducible assumption) | (with_reducible refine Below.alloc ?_ ?_ _) | (with_reducible refine Below.setCell ?_ ?_ _) | (with_reducible refine Below.row ?_ ?_ _) | (with_reducible refine Below.drew ?_) | (with_reducible refine below_drewN ?_ _) | (focus (first | (simp; done) | omega | (simp; omega))))); done))) ((pu_own_below own0 hg1 (by (focus (first | (simp; done) | omega | (simp; omega))))).mono (by omega))
  have z1 : w.heap.size + 2 ≤ w1.heap.size := by have := World.grownBy.size hg1; simp at this; omega
  have O1 : Hid (w1.ownsRow (w.heap.size + 1) 2 1 v1 2 (asV (rlst m [z 48] z 0 0))) := hown1
  have T1 := Lib.hid t1
  clear hown1 hg1 own0 HO0 t1 c48
  go_wp2_with fail
  go_loopw [8, 9] (fun l i wr => ∃ k : Nat, k ≤ 8 ∧ i = .int .i64 k ∧ Hid (wr.ownsRow (w.heap.size + 1) 2 1 l (k + 2) (asV (rlst m [z 48] z 0 k))) ∧ Hid (wr.heap[w.heap.size]? = some (.cells (TC z) 30 (0, 0))) ∧ Below w.heap.size w wr ∧ w.heap.size + 2 ≤ wr.heap.size) (fun _ i _ => 8 - (intOf i).toNat)
  case atStart =>
    refine ⟨0, by omega, rfl, O1, T1, B1, z1⟩
  case round =>
    obtain ⟨k, hk, rfl, hown, ht, hB, hsz⟩ := hrel
    have hz9 : w.heap.size ≤ wr.heap.size := by omega
    by_cases hlt : k < 8
    · have hltI : (k : Int) < 8 := by omega
      have hk0 : (0 : Int) ≤ (k : Int) := by omega
      have HS := Lib.hid (rlst_succ m [z 48] z 0 k)
      simp only [Nat.add_zero] at HS
      have ck : wr.cell? ⟨w.heap.size, k * 6, none⟩ = some (.int .i64 (z (6 * k))) := by rw [till_cell ht.out (by omega), show k * 6 = 6 * k by omega]
      have hO := Lib.hid hown.out
      go_wp2_with (at_builtin; refine wpList_append_own _ rfl _ _ 69 rfl (w.heap.size + 1) 2 i0 (.int .i64 0) 1 8 Try.underlying69 hi0 hz0 hz1 hz2 rfl (by decide) _ (k + 2) (asV (rlst m [z 48] z 0 k)) rfl ?c0 ⟨wr.heap.size, 0, none⟩ 1 1 [.int .i64 (z (6 * k))] rfl rfl ?c1 ?c2 ?c3 ?c4 ?c5 ?_)
      case c0 => exact pu_own_keep hO.out (by (focus ((repeat' (first | (with_reducible exact Below.refl _ _) | (with_reducible assumption) | (with_reducible refine Below.alloc ?_ ?_ _) | (with_reducible refine Below.setCell ?_ ?_ _) | (with_reducible refine Below.row ?_ ?_ _) | (with_reducible refine Below.drew ?_) | (with_reducible refine below_drewN ?_ _) | (focus (first | (simp; done) | omega | (simp; omega))))); done)))
      case c1 => exact pu_cell_new _ _ _
      case c2 => intro u hu; rw [List.mem_singleton] at hu; subst hu; rfl
      case c3 => unfold maxLen; omega
      case c4 => omega
      case c5 => (focus (first | (simp; done) | omega | (simp; omega)))
      intro v2 w2 hown2 hg2 _
      have own0 := pu_own_keep hO.out ((Below.refl wr.heap.size wr).alloc (Nat.le_refl _) (.cells #[.int .i64 (z (6 * k))] 2))
      have t2 : w2.heap[w.heap.size]? = some (.cells (TC z) 30 (0, 0)) := pu_own_blk own0 hg2 (by omega) (heap_prev (by omega) ht.out)
      have B2 : Below w.heap.size w w2 := (hB.alloc hB.size (.cells #[.int .i64 (z (6 * k))] 2)).trans ((pu_own_below own0 hg2 (by (focus (first | (simp; done) | omega | (simp; omega))))).mono (by omega))
      have z2 : w.heap.size + 2 ≤ w2.heap.size := by have := World.grownBy.size hg2; simp at this; omega
      have O2 : Hid (w2.ownsRow (w.heap.size + 1) 2 1 v2 (k + 1 + 2) (asV (rlst m [z 48] z 0 (k + 1)))) := by show World.ownsRow _ _ _ _ _ _ _; rw [HS.out, show k + 1 + 2 = k + 2 + 1 by omega]; exact hown2
      have T2 := Lib.hid t2
      clear hown2 hg2 own0 t2 ck hO
      go_wp2_with fail
      exact ⟨⟨k + 1, by omega, by go_num, O2, T2, B2, z2⟩, by simp [intOf]; omega⟩
    · obtain rfl : k = 8 := by omega
      have HL := Lib.hid (rcash_list m z)
      have HA : ∀ x ∈ rlst m [z 48] z 0 8, InR x := by
        intro x hx
        simp only [rlst, List.mem_append, List.mem_singleton] at hx
        rcases hx with (rfl | rfl) | hx
        · exact Hm.out
        · exact Hin.out 48 (by omega)
        · exact asI_in Hin.out (by omega) (by omega) x hx
      obtain ⟨g, cap, rfl, SL⟩ := own_sli2 hown.out (by omega) HA
      have SC := refSum_c _ (8 + 2) cap _ wr SL (by omega)
      rw [HL.out] at SC
      by_cases hr : InR (cashS z + m)
      · have HT : Hid (okS (cashS z + m) = decide (tv (cashS z + m) ≤ 4611686018427387904)) := by show _ = _; rw [okS_in hr, tv_in hr]
        rw [te_in hr] at SC
        have HS := Lib.hid SC
        clear hown SL SC HA ht hr
        go_wp2_with ((with_reducible refine HS.out.mono ?_); rintro e w3 ⟨rfl, b3⟩)
        go_ret2
        rw [HT.out]
        exact ⟨rfl, hB.trans (b3.mono hB.size)⟩
      · rw [te_out hr] at SC
        have HT := Lib.hid (okS_out hr)
        have HS := Lib.hid SC
        clear hown SL SC HA ht hr
        go_wp2_with ((with_reducible refine HS.out.mono ?_); rintro e w3 ⟨rfl, b3⟩)
        go_ret2
        rw [HT.out]
        exact ⟨rfl, hB.trans (b3.mono hB.size)⟩

set_option maxHeartbeats 4000000 in
set_option maxRecDepth 100000 in
theorem rall_stock (z : Ti) (hin : ∀ k, k < 49 → InR (z k)) (m : Int) (hm : InR m) (w : World) :
    Calls Try.prog 18 #[.agg (TC z), .int .i64 2, .int .i64 m] w fun e w' => e = .returned (.tuple #[.int .i64 (tv (stockS z + m)), .bool (okS (stockS z + m))]) ∧ Below w.heap.size w w' := by
  obtain ⟨i0, hi0, hz0, hz1, hz2⟩ := pu_info_parts pu_info_n
  have Hin := Lib.hid hin; clear hin
  have Hm := Lib.hid hm; clear hm
  have HO0 : Hid (∀ w : World, (w.alloc (.cells #[.int .i64 m] 2)).ownsRow w.heap.size 2 1 (.slice (some ⟨w.heap.size, 0, none⟩) 1 1) 1 (asV [m])) := fun w => World.ownsRow_lit w #[.int .i64 m] 1 (Nat.le_refl _) (by unfold maxLen; omega) rfl
  have HF : Hid (∀ i, i < 49 → InR (z i)) := Hin.out
  go_enter Try.func18, Try.ntmps18
  go_wp2_with fail
  go_loopw [8, 9] (fun l i wr => ∃ k : Nat, k ≤ 8 ∧ i = .int .i64 k ∧ Hid (wr.ownsRow (w.heap.size + 1) 2 1 l (k + 1) (asV (rlst m [] z 1 k))) ∧ Hid (wr.heap[w.heap.size]? = some (.cells (TC z) 30 (0, 0))) ∧ Below w.heap.size w wr ∧ w.heap.size + 2 ≤ wr.heap.size) (fun _ i _ => 8 - (intOf i).toNat)
  case atStart =>
    refine ⟨0, by omega, rfl, ?_, ?_, by (focus ((repeat' (first | (with_reducible exact Below.refl _ _) | (with_reducible assumption) | (with_reducible refine Below.alloc ?_ ?_ _) | (with_reducible refine Below.setCell ?_ ?_ _) | (with_reducible refine Below.row ?_ ?_ _) | (with_reducible refine Below.drew ?_) | (with_reducible refine below_drewN ?_ _) | (focus (first | (simp; done) | omega | (simp; omega))))); done)), by simp⟩
    · show World.ownsRow _ _ _ _ _ _ _; simpa [rlst, asI, asV] using HO0.out (w.alloc (.cells (TC z) 30))
    · show _ = _; (focus ((repeat' (first | (with_reducible assumption) | ((with_reducible refine heap_last ?_); (focus (first | (simp; done) | omega | (simp; omega)))) | ((with_reducible refine heap_prev ?_ ?_); (focus (first | (simp; done) | omega | (simp; omega)))) | (with_reducible apply row_heap) | ((with_reducible apply till_set); (focus (first | (simp; done) | omega | (simp; omega)))) | ((with_reducible refine sign_other ?_ ?_); (focus (first | (simp; done) | omega | (simp; omega)))) | ((with_reducible refine row_other ?_ ?_); (focus (first | (simp; done) | omega | (simp; omega)))) | (with_reducible refine drew_heap ?_) | (with_reducible refine drewN_heap ?_))); done))
  case round =>
    obtain ⟨k, hk, rfl, hown, ht, hB, hsz⟩ := hrel
    have hz9 : w.heap.size ≤ wr.heap.size := by omega
    by_cases hlt : k < 8
    · have hltI : (k : Int) < 8 := by omega
      have hk0 : (0 : Int) ≤ (k : Int) := by omega
      have HS := Lib.hid (rlst_succ m [] z 1 k)
      skip
      have ck : wr.cell? ⟨w.heap.size, k * 6 + 1, none⟩ = some (.int .i64 (z (6 * k + 1))) := by rw [till_cell ht.out (by omega), show k * 6 + 1 = 6 * k + 1 by omega]
      have hO := Lib.hid hown.out
      go_wp2_with (at_builtin; refine wpList_append_own _ rfl _ _ 69 rfl (w.heap.size + 1) 2 i0 (.int .i64 0) 1 8 Try.underlying69 hi0 hz0 hz1 hz2 rfl (by decide) _ (k + 1) (asV (rlst m [] z 1 k)) rfl ?c0 ⟨wr.heap.size, 0, none⟩ 1 1 [.int .i64 (z (6 * k + 1))] rfl rfl ?c1 ?c2 ?c3 ?c4 ?c5 ?_)
      case c0 => exact pu_own_keep hO.out (by (focus ((repeat' (first | (with_reducible exact Below.refl _ _) | (with_reducible assumption) | (with_reducible refine Below.alloc ?_ ?_ _) | (with_reducible refine Below.setCell ?_ ?_ _) | (with_reducible refine Below.row ?_ ?_ _) | (with_reducible refine Below.drew ?_) | (with_reducible refine below_drewN ?_ _) | (focus (first | (simp; done) | omega | (simp; omega))))); done)))
      case c1 => exact pu_cell_new _ _ _
      case c2 => intro u hu; rw [List.mem_singleton] at hu; subst hu; rfl
      case c3 => unfold maxLen; omega
      case c4 => omega
      case c5 => (focus (first | (simp; done) | omega | (simp; omega)))
      intro v2 w2 hown2 hg2 _
      have own0 := pu_own_keep hO.out ((Below.refl wr.heap.size wr).alloc (Nat.le_refl _) (.cells #[.int .i64 (z (6 * k + 1))] 2))
      have t2 : w2.heap[w.heap.size]? = some (.cells (TC z) 30 (0, 0)) := pu_own_blk own0 hg2 (by omega) (heap_prev (by omega) ht.out)
      have B2 : Below w.heap.size w w2 := (hB.alloc hB.size (.cells #[.int .i64 (z (6 * k + 1))] 2)).trans ((pu_own_below own0 hg2 (by (focus (first | (simp; done) | omega | (simp; omega))))).mono (by omega))
      have z2 : w.heap.size + 2 ≤ w2.heap.size := by have := World.grownBy.size hg2; simp at this; omega
      have O2 : Hid (w2.ownsRow (w.heap.size + 1) 2 1 v2 (k + 1 + 1) (asV (rlst m [] z 1 (k + 1)))) := by show World.ownsRow _ _ _ _ _ _ _; rw [HS.out, show k + 1 + 1 = k + 1 + 1 by omega]; exact hown2
      have T2 := Lib.hid t2
      clear hown2 hg2 own0 t2 ck hO
      go_wp2_with fail
      exact ⟨⟨k + 1, by omega, by go_num, O2, T2, B2, z2⟩, by simp [intOf]; omega⟩
    · obtain rfl : k = 8 := by omega
      have HL := Lib.hid (rstock_list m z)
      have HA : ∀ x ∈ rlst m [] z 1 8, InR x := by
        intro x hx
        simp only [rlst, List.mem_append, List.mem_singleton, List.not_mem_nil, or_false] at hx
        rcases hx with rfl | hx
        · exact Hm.out
        skip
        · exact asI_in Hin.out (by omega) (by omega) x hx
      obtain ⟨g, cap, rfl, SL⟩ := own_sli2 hown.out (by omega) HA
      have SC := refSum_c _ (8 + 1) cap _ wr SL (by omega)
      rw [HL.out] at SC
      by_cases hr : InR (stockS z + m)
      · have HT : Hid (okS (stockS z + m) = decide (tv (stockS z + m) ≤ 4611686018427387904)) := by show _ = _; rw [okS_in hr, tv_in hr]
        rw [te_in hr] at SC
        have HS := Lib.hid SC
        clear hown SL SC HA ht hr
        go_wp2_with ((with_reducible refine HS.out.mono ?_); rintro e w3 ⟨rfl, b3⟩)
        go_ret2
        rw [HT.out]
        exact ⟨rfl, hB.trans (b3.mono hB.size)⟩
      · rw [te_out hr] at SC
        have HT := Lib.hid (okS_out hr)
        have HS := Lib.hid SC
        clear hown SL SC HA ht hr
        go_wp2_with ((with_reducible refine HS.out.mono ?_); rintro e w3 ⟨rfl, b3⟩)
        go_ret2
        rw [HT.out]
        exact ⟨rfl, hB.trans (b3.mono hB.size)⟩
end Go.Proofs.Ytpegkojcemggaab
