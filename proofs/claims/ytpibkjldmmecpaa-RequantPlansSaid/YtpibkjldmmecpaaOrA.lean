/- order: rank, asBuyer, Better; the library's Compare and Or. -/
import Derived.Test.YtpibkjldmmecpaaMem
namespace Go.Proofs.Ytpibkjldmmecpaa
open Go.RowKit

def rkN (s : Int) : Int := if s = 1 then 0 else if s = 2 then 1 else 2
/-- Is the price a better than b? -/
def betN (s a b : Int) : Bool := (s == 1 && decide (b < a)) || (s == 2 && decide (a < b))
def croN (s a b : Int) : Bool := (s == 1 && decide (b ≤ a)) || (s == 2 && decide (a ≤ b))
def cmpN (a b : Int) : Int := if a < b then -1 else if b < a then 1 else 0
set_option maxHeartbeats 4000000 in
set_option maxRecDepth 100000 in
theorem isNaN_c (a : Int) (w : World) : Calls Try.prog 31 #[.int .u64 a] w fun e w' => e = .returned (.bool false) ∧ w = w' := by
  go_enter Try.func31, Try.ntmps31
  go_wp2_with fail
  go_ret
  exact ⟨rfl, rfl⟩
set_option maxHeartbeats 4000000 in
set_option maxRecDepth 100000 in
theorem compare_c (a b : Int) (w : World) : Calls Try.prog 24 #[.int .u64 a, .int .u64 b] w fun e w' => e = .returned (.int .i64 (cmpN a b)) ∧ w = w' := by
  have HN := Lib.hid isNaN_c
  unfold cmpN
  by_cases h1 : a < b
  · rw [if_pos h1]
    go_enter Try.func24, Try.ntmps24
    go_wp2_with ((with_reducible refine (HN.out _ _).mono ?_); rintro e w' ⟨rfl, rfl⟩)
    go_ret
    exact ⟨rfl, rfl⟩
  rw [if_neg h1]
  have g1 : decide (a < b) = false := decide_eq_false h1
  by_cases h2 : b < a
  · rw [if_pos h2]
    clear h1
    go_enter Try.func24, Try.ntmps24
    go_wp2_with ((with_reducible refine (HN.out _ _).mono ?_); rintro e w' ⟨rfl, rfl⟩)
    go_ret
    exact ⟨rfl, rfl⟩
  rw [if_neg h2]
  have g2 : decide (b < a) = false := decide_eq_false h2
  clear h1 h2
  go_enter Try.func24, Try.ntmps24
  go_wp2_with ((with_reducible refine (HN.out _ _).mono ?_); rintro e w' ⟨rfl, rfl⟩)
  go_ret
  exact ⟨rfl, rfl⟩
set_option maxHeartbeats 4000000 in
set_option maxRecDepth 100000 in
theorem or_c (a b : Int) (g : Nat) (w : World) (hg : w.heap[g]? = some (.cells #[.int .i64 a, .int .i64 b] 3 (0, 0))) :
    Calls Try.prog 23 #[.slice (some ⟨g, 0, none⟩) 2 2] w fun e w' => e = .returned (.int .i64 (if a = 0 then b else a)) ∧ w = w' := by
  have c0 : w.cell? ⟨g, 0, none⟩ = some (.int .i64 a) := by rw [cell_of_row _ _ _ _ _ _ hg]; rfl
  have c1 : w.cell? ⟨g, 1, none⟩ = some (.int .i64 b) := by rw [cell_of_row _ _ _ _ _ _ hg]; rfl
  clear hg
  by_cases h0 : a = 0
  · rw [if_pos h0]
    have e0 : (a != 0) = false := by simp [h0]
    clear h0
    by_cases h1 : b = 0
    · have e1 : (b != 0) = false := by simp [h1]
      have e2 : Ending.returned (.int .i64 0) = Ending.returned (.int .i64 b) := by rw [h1]
      have E2 := Lib.hid e2
      clear h1 e2
      go_enter Try.func23, Try.ntmps23
      go_wp2_with fail
      go_loop [8] (fun i => ∃ k : Nat, k ≤ 2 ∧ i = .int .i64 k) (fun i => 2 - (intOf i).toNat)
      case atStart => exact ⟨0, by omega, rfl⟩
      case round =>
        obtain ⟨k, hk, rfl⟩ := hrel
        have e : k = 0 ∨ k = 1 ∨ k = 2 := by omega
        rcases e with rfl | rfl | rfl
        · go_wp2_with fail
          exact ⟨⟨1, by omega, rfl⟩, by simp [intOf]⟩
        · go_wp2_with fail
          exact ⟨⟨2, by omega, rfl⟩, by simp [intOf]⟩
        · go_wp2_with fail
          go_ret
          exact ⟨E2.out, rfl⟩
    · have e1 : (b != 0) = true := by simp [h1]
      clear h1
      go_enter Try.func23, Try.ntmps23
      go_wp2_with fail
      go_loop [8] (fun i => ∃ k : Nat, k ≤ 1 ∧ i = .int .i64 k) (fun i => 2 - (intOf i).toNat)
      case atStart => exact ⟨0, by omega, rfl⟩
      case round =>
        obtain ⟨k, hk, rfl⟩ := hrel
        have e : k = 0 ∨ k = 1 := by omega
        rcases e with rfl | rfl
        · go_wp2_with fail
          exact ⟨⟨1, by omega, rfl⟩, by simp [intOf]⟩
        · go_wp2_with fail
          go_ret
          exact ⟨rfl, rfl⟩
  · rw [if_neg h0]
    have e0 : (a != 0) = true := by simp [h0]
    clear h0
    go_enter Try.func23, Try.ntmps23
    go_wp2_with fail
    go_loop [8] (fun i => i = .int .i64 0) (fun i => 2 - (intOf i).toNat)
    case atStart => rfl
    case round =>
      subst hrel
      go_wp2_with fail
      go_ret
      exact ⟨rfl, rfl⟩
end Go.Proofs.Ytpibkjldmmecpaa
