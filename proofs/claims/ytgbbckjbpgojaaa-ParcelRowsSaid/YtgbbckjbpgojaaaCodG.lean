/- codec's writer: nothing is added; any bytes are; one that is nil. -/
import Derived.Test.YtgbbckjbpgojaaaCodF
namespace Go.Proofs.Ytgbbckjbpgojaaa
open Go.RowKit

theorem append_zero (k n cap b off c : Nat) (h : n ≤ cap) (w : World) :
    (Builtin.append_ #[22, 22] 22 #[.slice (some ⟨k, 0, none⟩) n cap, .slice (some ⟨b, off, none⟩) 0 c]).run Try.prog w = .ok (.slice (some ⟨k, 0, none⟩) n cap) w := by
  obtain ⟨i0, hi0, hz0, hz1, hz2⟩ := info_parts info_u8
  have h0 : (loadCells ⟨b, off, none⟩ 0).run Try.prog w = .ok #[] w := run_loadCells_list (P := Try.prog) w ⟨b, off, none⟩ [] (fun j v h => by simp at h)
  simp [Builtin.append_, run_underlying Try.underlying22, sizeOf, typeInfo, hi0, Builtin.lenOf, Builtin.firstCells, h, storeCells, hz1, hz2, Builtin.mayShare, h0, storeCells]

set_option maxHeartbeats 4000000 in
set_option maxRecDepth 100000 in
theorem add_zero_ (g t b off c k cap : Nat) (S : Nat → Prop) (bs : List UInt8) (w : World) (hg : w.heap[g]? = some (.cells #[.pointer (some ⟨t, 0, none⟩), .int .i64 (bs.length : Int)] 58 (0, 0)))
    (ht : w.heap[t]? = some (.cells #[.slice (some ⟨k, 0, none⟩) bs.length cap] 76 (0, 0))) (hn : bs.length ≤ cap) (hpos : 0 < bs.length) (hown : w.ownsRow 0 5 1 (.slice (some ⟨k, 0, none⟩) bs.length cap) bs.length (bs.map byt))
    (hSg : S g) (hSt : S t) (hSk : S k) (hS : ∀ k, S k → k < w.heap.size) :
    Calls Try.prog 28 #[.pointer (some ⟨g, 0, none⟩), .slice (some ⟨b, off, none⟩) 0 c] w (Added g S bs w) := by
  have g0 : w.cell? ⟨g, 0, none⟩ = some (.pointer (some ⟨t, 0, none⟩)) := by rw [cell_of_row _ _ _ _ _ _ hg]; rfl
  have g1 : w.cell? ⟨g, 1, none⟩ = some (.int .i64 (bs.length : Int)) := by rw [cell_of_row _ _ _ _ _ _ hg]; rfl
  have gf : w.frozen? ⟨g, 1, none⟩ = false := frozen_of_row _ _ _ _ _ hg
  have t0 : w.cell? ⟨t, 0, none⟩ = some (.slice (some ⟨k, 0, none⟩) bs.length cap) := by rw [cell_of_row _ _ _ _ _ _ ht]; rfl
  have tf : w.frozen? ⟨t, 0, none⟩ = false := frozen_of_row _ _ _ _ _ ht
  have hgt := blk_ne hg ht (by decide)
  have Hng := Lib.hid (own_ne hown hg (by decide))
  have Hnt := Lib.hid (own_ne hown ht (by decide))
  have Hg := Lib.hid hg; clear hg
  have Ht := Lib.hid ht; clear ht
  have HO := Lib.hid hown; clear hown
  have HSg := Lib.hid hSg; clear hSg
  have HSt := Lib.hid hSt; clear hSt
  have HSk := Lib.hid hSk; clear hSk
  have HS := Lib.hid hS; clear hS
  have hap := append_zero k bs.length cap b off c hn
  go_enter Try.func28, Try.ntmps28
  go_wp2_with fail
  go_quiet (fail)
  go_wp2_with fail
  go_region
  all_goals
    generalize hW : (w.drewN _).setCell ⟨t, 0, none⟩ (.slice (some ⟨k, 0, none⟩) bs.length cap) = W
    have kg : W.heap[g]? = some (.cells #[.pointer (some ⟨t, 0, none⟩), .int .i64 (bs.length : Int)] 58 (0, 0)) := by rw [← hW, heap_far (by simpa using hgt)]; exact Hg.out
    have kt : W.heap[t]? = some (.cells #[.slice (some ⟨k, 0, none⟩) bs.length cap] 76 (0, 0)) := by rw [← hW, heap_set (w := w.drewN _) Ht.out]; rfl
    have hfin : Hid (Added g S bs w (.returned (.tuple #[])) (W.setCell ⟨g, 1, none⟩ (.int .i64 (bs.length : Int)))) := by
      refine ⟨rfl, S, ⟨HSg.out, fun k hk => ?_, .inr ⟨t, .slice (some ⟨k, 0, none⟩) bs.length cap, hpos, ?_, ?_, HSt.out, fun j hj => ?_, ?_⟩⟩, ?_, fun k hk => .inl hk⟩
      · have := HS.out k hk; rw [← hW]; simpa [World.setCell] using this
      · exact (heap_set kg).trans rfl
      · exact (heap_far (by simpa using Ne.symm hgt)).trans kt
      · simp [Value.ownBlock] at hj; subst hj; exact HSk.out
      · have h1 := ownsRow_set HO.out (p := ⟨t, 0, none⟩) Hnt.out (.slice (some ⟨k, 0, none⟩) bs.length cap)
        have h2 : W.ownsRow 0 5 1 (.slice (some ⟨k, 0, none⟩) bs.length cap) bs.length (bs.map byt) := by rw [← hW]; exact h1
        exact ownsRow_set h2 (p := ⟨g, 1, none⟩) Hng.out _
      · rw [← hW]; exact (((Fr.refl S w).drewN _).set (p := ⟨t, 0, none⟩) (.inl HSt.out) _).set (p := ⟨g, 1, none⟩) (.inl HSg.out) _
    have c0 : W.cell? ⟨g, 0, none⟩ = some (.pointer (some ⟨t, 0, none⟩)) := by rw [cell_of_row _ _ _ _ _ _ kg]; rfl
    have c1 : W.cell? ⟨g, 1, none⟩ = some (.int .i64 (bs.length : Int)) := by rw [cell_of_row _ _ _ _ _ _ kg]; rfl
    have c2 : W.frozen? ⟨g, 1, none⟩ = false := frozen_of_row _ _ _ _ _ kg
    have c3 : W.cell? ⟨t, 0, none⟩ = some (.slice (some ⟨k, 0, none⟩) bs.length cap) := by rw [cell_of_row _ _ _ _ _ _ kt]; rfl
    clear kg kt hW g0 g1 gf t0 tf hap
    go_wp2_with fail
    go_end0
    exact hfin.out

/-- Bytes are added: some, or none behind others. -/
theorem add_c (g m c : Nat) (A : Option Addr) (S : Nat → Prop) (bs l : List UInt8) (w : World) (h : WS w g S bs) (hl : SlB w A m l) (hA : ∃ b off, A = some ⟨b, off, none⟩ ∧ ¬ S b) (hm : 0 < m ∨ bs ≠ []) (hsum : bs.length + m ≤ 1000000000) :
    Calls Try.prog 28 #[.pointer (some ⟨g, 0, none⟩), .slice A m c] w (Added g S (bs ++ l) w) := by
  obtain ⟨b, off, rfl, hb⟩ := hA
  obtain ⟨hSg, hS, hx⟩ := h
  have hll := hl.1
  rcases hx with ⟨rfl, hg⟩ | ⟨t, v, hpos, hg, ht, hSt, hv, hown⟩
  · have hm0 : 0 < m := by rcases hm with h | h; exact h; exact absurd rfl h
    rcases hl.2 with h0 | ⟨b', off', hA', hlt, hc⟩
    · omega
    · injection hA' with hA'
      injection hA' with h1 h2 _
      subst h1; subst h2
      rw [List.nil_append]
      exact add_first g b off m c S l w hg hSg hS hll hm0 (by simpa using hsum) hlt (fun e => hb (e ▸ hSg)) hc
  · obtain ⟨ho1, ho2⟩ := hown
    rcases ho2 with ⟨_, hz⟩ | ⟨k, cap, cur, rfl, hk0, hk, hcap, rest⟩
    · omega
    · have hSk := hv k rfl
      rcases Nat.eq_zero_or_pos m with h0 | h0
      · subst h0
        have : l = [] := List.eq_nil_of_length_eq_zero hll
        subst this
        rw [List.append_nil]
        exact add_zero_ g t b off c k cap S bs w hg ht hcap hpos ⟨ho1, .inr ⟨k, cap, cur, rfl, hk0, hk, hcap, rest⟩⟩ hSg hSt hSk hS
      · rcases hl.2 with h1 | ⟨b', off', hA', hlt, hc⟩
        · omega
        · injection hA' with hA'
          injection hA' with h1 h2 _
          subst h1; subst h2
          exact add_more g t b off m c k cap S bs l w hg ht ⟨ho1, .inr ⟨k, cap, cur, rfl, hk0, hk, hcap, rest⟩⟩ hSg hSt hSk hS hll h0 hsum hc

theorem nilAdd_c (v : Value) (w : World) : Calls Try.prog 28 #[.pointer none, v] w fun e w' => e = .returned (.tuple #[]) ∧ w = w' := by
  go_enter Try.func28, Try.ntmps28
  go_wp2_with fail
  refine bodyPost_ret (results_none rfl _ _ _) rfl ?_
  exact ⟨rfl, rfl⟩
theorem nilBytes_c (w : World) : Calls Try.prog 21 #[.pointer none] w fun e w' => e = .returned (.slice none 0 0) ∧ w = w' := by
  go_enter Try.func21, Try.ntmps21
  go_wp2
  go_ret
  exact ⟨rfl, rfl⟩
end Go.Proofs.Ytgbbckjbpgojaaa
