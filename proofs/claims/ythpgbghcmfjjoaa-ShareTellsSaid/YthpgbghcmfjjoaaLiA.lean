/- limits: the code's lots and bands. -/
import Derived.Test.YthpgbghcmfjjoaaDivB
import Derived.Test.YthpgbghcmfjjoaaFeD
namespace Go.Proofs.Ythpgbghcmfjjoaa
open Go.RowKit

set_option maxHeartbeats 4000000 in
set_option maxRecDepth 100000 in
theorem trim_c (lot qty : Int) (hq : InR qty) (hl : InR lot) (w : World) :
    Calls Try.prog 13 #[.int .i64 lot, .int .i64 qty] w fun e w' => e = .returned (.int .i64 (trimN lot qty)) ∧ w = w' := by
  by_cases h1 : lot < 1
  · have h : Hid (trimN lot qty = 0) := by show _ = _; unfold trimN; rw [if_pos (.inl h1)]
    go_enter Try.func13, Try.ntmps13
    go_wp2_with fail
    go_ret
    rw [h.out]; exact ⟨rfl, rfl⟩
  by_cases h2 : qty < 1
  · have h : Hid (trimN lot qty = 0) := by show _ = _; unfold trimN; rw [if_pos (.inr h2)]
    go_enter Try.func13, Try.ntmps13
    go_wp2_with fail
    go_ret
    rw [h.out]; exact ⟨rfl, rfl⟩
  have ht := trim_bd (lot := lot) (qty := qty) (by omega) (by omega)
  obtain ⟨t, htt⟩ : ∃ t, t = trimN lot qty := ⟨_, rfl⟩
  rw [← htt] at ht ⊢
  obtain ⟨t0, t1, _, _, t4⟩ := ht
  obtain ⟨m, hm⟩ : ∃ m, m = qty % lot := ⟨_, rfl⟩
  have hm' : qty % lot = m := hm.symm
  rw [← hm] at t4
  have e1 : IntKind.i64.wrap (qty - m) = t := by unfold InR at hq hl; rw [IntKind.wrap_i64]; omega
  have e2 : qty - m = t := by omega
  have g1 : 1 ≤ lot := by omega
  have g3 : 1 ≤ qty := by omega
  have g5 : (lot == 0) = false := by simp; omega
  have g6 : 0 ≤ qty := by omega
  have g7 : qty ≤ 9223372036854775807 := hq.2
  have g8 : lot ≤ 9223372036854775807 := hl.2
  clear h1 h2 hq hl htt hm t4
  go_enter Try.func13, Try.ntmps13
  go_wp2_with fail
  go_ret
  exact ⟨rfl, rfl⟩

/-- The boxes of both numbers. -/
def LB (w : World) (c : Nat) (last band : Int) : Prop := Bx 2 w c (.int .i64 last) ∧ Bx 2 w (c + 1) (.int .i64 band)
theorem LB.new (w : World) (last band : Int) : LB ((w.alloc (.cells #[.int .i64 last] 2)).alloc (.cells #[.int .i64 band] 2)) w.heap.size last band := by
  refine ⟨Bx.alloc (heap_alloc_new w _) _, ?_⟩
  have h := heap_alloc_new (w.alloc (.cells #[.int .i64 last] 2)) (.cells #[.int .i64 band] 2)
  rw [World.size_alloc] at h
  exact h
theorem LB.below {w w' : World} {c : Nat} {last band : Int} (h : LB w c last band) (hb : Below w.heap.size w w') : LB w' c last band := ⟨(hb.block c (blk_lt h.1)).trans h.1, (hb.block _ (blk_lt h.2)).trans h.2⟩

end Go.Proofs.Ythpgbghcmfjjoaa
