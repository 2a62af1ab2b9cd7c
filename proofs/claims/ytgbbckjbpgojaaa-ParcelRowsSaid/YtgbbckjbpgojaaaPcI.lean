/- parcel: two slices of bytes compared. -/
import Derived.Test.YtgbbckjbpgojaaaPcH
namespace Go.Proofs.Ytgbbckjbpgojaaa
open Go.RowKit

theorem equal_c (A B : Option Addr) (n m cap cap2 : Nat) (l l2 : List UInt8) (w : World) (h : SlB w A n l) (h2 : SlB w B m l2) :
    Calls Try.prog 26 #[.slice A n cap, .slice B m cap2] w fun e w' => e = .returned (.bool (l == l2)) ∧ w = w' := by
  have hcv := conv_str (c := cap) h
  have hcv2 := conv_str (c := cap2) h2
  clear h h2
  go_enter Try.func26, Try.ntmps26
  go_wp2
  go_ret
  exact ⟨rfl, rfl⟩

/-- A step is linear. -/
theorem stp_xor (a b : Nat) : stp (a ^^^ b) = stp a ^^^ stp b := by
  unfold stp
  have h1 : (a ^^^ b) / 2 = a / 2 ^^^ b / 2 := Nat.xor_div_two
  have h2 : (a ^^^ b) % 2 = (a % 2) ^^^ (b % 2) := Nat.xor_mod_two_pow (n := 1)
  have h3 : ∀ p q x y : Nat, (p ^^^ x) ^^^ (q ^^^ y) = (p ^^^ q) ^^^ (x ^^^ y) := fun p q x y => by
    rw [Nat.xor_assoc, ← Nat.xor_assoc x q y, Nat.xor_comm x q, Nat.xor_assoc q x y, ← Nat.xor_assoc]
  rw [h1, h3]
  congr 1
  rw [h2]
  have ha : a % 2 = 0 ∨ a % 2 = 1 := by omega
  have hb : b % 2 = 0 ∨ b % 2 = 1 := by omega
  rcases ha with e | e <;> rcases hb with f | f <;> rw [e, f] <;> decide
theorem stpN_xor (a b : Nat) : ∀ k, stpN k (a ^^^ b) = stpN k a ^^^ stpN k b
  | 0 => rfl
  | k + 1 => by unfold stpN; rw [stpN_xor a b k, stp_xor]
/-- A step is one to one, below 2^32: it leads to nothing from nothing alone. -/
theorem stp_zero {n : Nat} (h : n < 4294967296) (h0 : stp n = 0) : n = 0 := by
  unfold stp at h0
  have e : n / 2 = n % 2 * 3988292384 := by
    have := congrArg (· ^^^ (n % 2 * 3988292384)) h0
    simpa [Nat.xor_assoc] using this
  omega
theorem stpN_zero {n : Nat} (h : n < 4294967296) : ∀ k, stpN k n = 0 → n = 0
  | 0, h0 => h0
  | k + 1, h0 => stpN_zero h k (stp_zero (stpN_lt h k) h0)
end Go.Proofs.Ytgbbckjbpgojaaa
