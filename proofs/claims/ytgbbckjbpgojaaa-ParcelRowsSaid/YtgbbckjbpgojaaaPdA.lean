/- parcel.Each: what it hands back. -/
import Derived.Test.YtgbbckjbpgojaaaPcW
import Derived.Test.YtgbbckjbpgojaaaPcR
namespace Go.Proofs.Ytgbbckjbpgojaaa
open Go.RowKit Go.Shelf
set_option linter.unusedVariables false

set_option maxHeartbeats 4000000 in
set_option maxRecDepth 100000 in
theorem cloneE_zero (a : Addr) (cap : Nat) (w : World) :
    Calls Try.prog 14 #[.slice (some a) 0 cap] w fun e w' => e = .returned (.slice (some ⟨w.heap.size, 0, none⟩) 0 0) ∧ Below w.heap.size w w' := by
  have hnil := fun W => Lib.run_eql_slice_nil (P := Try.prog) W 22 5 (some a) 0 cap 0 0 Try.underlying22
  go_enter Try.func14, Try.ntmps14
  go_wp2_with fail
  go_ret
  exact ⟨rfl, (Below.refl _ _).alloc (Nat.le_refl _) _⟩
set_option maxHeartbeats 4000000 in
set_option maxRecDepth 100000 in
theorem cloneE_nil (w : World) :
    Calls Try.prog 14 #[.slice none 0 0] w fun e w' => e = .returned (.slice none 0 0) ∧ Below w.heap.size w w' := by
  have hnil := fun W => Lib.run_eql_slice_nil (P := Try.prog) W 22 5 none 0 0 0 0 Try.underlying22
  go_enter Try.func14, Try.ntmps14
  go_wp2_with fail
  go_ret
  exact ⟨rfl, Below.refl _ _⟩
theorem cloneE_c (A : Option Addr) (n cap : Nat) (l : List UInt8) (w : World) (hb : n ≤ 1000000000) (hnil : A = none → cap = 0) (h : SlB w A n l) :
    Calls Try.prog 14 #[.slice A n cap] w fun e w' => ∃ A' c', e = .returned (.slice A' n c') ∧ Hid (SlB w' A' n l ∧ Below w.heap.size w w' ∧ n ≤ c' ∧ c' ≤ maxLen ∧ (n = 0 → ∀ a, A' = some a → w.heap.size ≤ a.block)) := by
  rcases Nat.eq_zero_or_pos n with rfl | h0
  · obtain rfl : l = [] := List.eq_nil_of_length_eq_zero h.1
    cases A with
    | none =>
      obtain rfl := hnil rfl
      exact (cloneE_nil w).mono fun e w' ⟨he, hbl⟩ => ⟨none, 0, he, ⟨rfl, .inl rfl⟩, hbl, Nat.le_refl _, Nat.zero_le _, fun _ a h => by cases h⟩
    | some a => exact (cloneE_zero a cap w).mono fun e w' ⟨he, hbl⟩ => ⟨_, 0, he, ⟨rfl, .inl rfl⟩, hbl, Nat.le_refl _, Nat.zero_le _, fun _ a h => by injection h with h; subst h; exact Nat.le_refl _⟩
  · rcases h.2 with h1 | ⟨b, off, rfl, _⟩
    · omega
    · exact (clone_some b off n cap l w h0 hb h).mono fun e w' ⟨A', c', he, hh⟩ => ⟨A', c', he, hh.out.1, hh.out.2.1, hh.out.2.2.1, hh.out.2.2.2, fun h => by omega⟩
set_option maxHeartbeats 4000000 in
set_option maxRecDepth 100000 in
theorem eachOf_c (A : Option Addr) (len cap : Nat) (l : List UInt8) (w : World) (hlen : len ≤ 1000000) (hnil : A = none → cap = 0) (h : SlB w A len l) :
    Calls Try.prog 7 #[.slice A len cap] w fun e w' => ∃ g A' c', e = .returned (.func (.func 15) #[] #[.pointer (some ⟨g, 0, none⟩)]) ∧
      Hid (w'.cell? ⟨g, 0, none⟩ = some (.slice A' len c') ∧ SlB w' A' len l ∧ Below w.heap.size w w' ∧ len ≤ c' ∧ c' ≤ maxLen ∧ g < w'.heap.size ∧ (len = 0 → ∀ a, A' = some a → w.heap.size ≤ a.block)) := by
  have HC := Lib.hid (cloneE_c A len cap l w (by omega) hnil h)
  clear h
  go_enter Try.func7, Try.ntmps7
  go_wp2_with fail
  refine HC.out.mono ?_
  rintro e w1 ⟨A', c', rfl, h1⟩
  have H := Lib.hid h1.out
  clear h1 HC
  go_wp2_with fail
  go_ret
  have hb := (Below.refl w1.heap.size w1).alloc (Nat.le_refl _) (.cells #[.slice A' len c'] 22)
  exact ⟨_, A', c', rfl, (cell_new_e w1 _ _).1, H.out.1.below hb, H.out.2.1.trans (hb.mono H.out.2.1.size), H.out.2.2.1, H.out.2.2.2.1, by simp, H.out.2.2.2.2⟩
end Go.Proofs.Ytgbbckjbpgojaaa
