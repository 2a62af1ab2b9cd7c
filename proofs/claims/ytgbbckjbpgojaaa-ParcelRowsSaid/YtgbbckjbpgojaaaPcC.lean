/- parcel: a sum's bytes, the code's and the reference's. -/
import Derived.Test.YtgbbckjbpgojaaaPcB
namespace Go.Proofs.Ytgbbckjbpgojaaa
open Go.RowKit

theorem four_len (n : Nat) : (four n).length = 4 := rfl
/-- Four bytes were made. -/
def Fours (w : World) (n : Nat) (e : Ending) (w' : World) : Prop := ∃ A c, e = .returned (.slice A 4 c) ∧ Hid (Below w.heap.size w w' ∧ SlB w' A 4 (four n) ∧ 4 ≤ c ∧ ∃ k, A = some ⟨k, 0, none⟩ ∧ w.heap.size ≤ k)

set_option maxHeartbeats 4000000 in
set_option maxRecDepth 100000 in
theorem low_c (n : Nat) (hn : n < 4294967296) (w : World) :
    Calls Try.prog 22 #[.int .u32 (n : Int)] w (Fours w n) := by
  obtain ⟨y1, h1⟩ : ∃ y, y = n / 256 := ⟨_, rfl⟩
  obtain ⟨y2, h2⟩ : ∃ y, y = n / 65536 := ⟨_, rfl⟩
  obtain ⟨y3, h3⟩ : ∃ y, y = n / 16777216 := ⟨_, rfl⟩
  have r1 : (n : Int) / 256 = (y1 : Int) := by omega
  have r2 : (n : Int) / 65536 = (y2 : Int) := by omega
  have r3 : (n : Int) / 16777216 = (y3 : Int) := by omega
  have wr : ∀ x : Nat, IntKind.u8.wrap (x : Int) = ((UInt8.ofNat (x % 256)).toNat : Int) := by
    intro x
    rw [IntKind.wrap_u8, ofNat_toNat (by omega)]
    omega
  have w0 := wr n
  have w1 := wr y1
  have w2 := wr y2
  have w3 := wr y3
  have HF : Hid (four n = [UInt8.ofNat (n % 256), UInt8.ofNat (y1 % 256), UInt8.ofNat (y2 % 256), UInt8.ofNat (y3 % 256)]) := by show _ = _; unfold four; rw [h1, h2, h3]
  obtain ⟨b0, e0⟩ : ∃ b, b = UInt8.ofNat (n % 256) := ⟨_, rfl⟩
  obtain ⟨b1, e1⟩ : ∃ b, b = UInt8.ofNat (y1 % 256) := ⟨_, rfl⟩
  obtain ⟨b2, e2⟩ : ∃ b, b = UInt8.ofNat (y2 % 256) := ⟨_, rfl⟩
  obtain ⟨b3, e3⟩ : ∃ b, b = UInt8.ofNat (y3 % 256) := ⟨_, rfl⟩
  rw [← e0] at w0 HF
  rw [← e1] at w1 HF
  rw [← e2] at w2 HF
  rw [← e3] at w3 HF
  have hnI : (n : Int) ≤ 4294967295 := by omega
  clear wr h1 h2 h3 e0 e1 e2 e3 hn
  go_enter Try.func22, Try.ntmps22
  go_wp2_with fail
  go_ret
  refine ⟨_, _, rfl, (Below.refl _ w).alloc (Nat.le_refl _) _, ?_, by omega, _, rfl, Nat.le_refl _⟩
  rw [HF.out]
  refine ⟨rfl, .inr ⟨w.heap.size, 0, rfl, by simp, fun i hi => ?_⟩⟩
  rw [cell_of_row _ _ _ _ _ _ (heap_alloc_new w _)]
  match i, hi with
  | 0, _ => rfl
  | 1, _ => rfl
  | 2, _ => rfl
  | 3, _ => rfl
end Go.Proofs.Ytgbbckjbpgojaaa
