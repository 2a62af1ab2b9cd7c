/- parcel, in plain numbers: the check sum. -/
import Derived.Lib.Hide
namespace Go.Proofs.Ytgbbckjbpgojaaa

/-- A bit's step. -/
def stp (n : Nat) : Nat := n / 2 ^^^ (n % 2 * 3988292384)
def stpN : Nat → Nat → Nat
  | 0, n => n
  | k + 1, n => stp (stpN k n)
theorem stp_lt {n : Nat} (h : n < 4294967296) : stp n < 4294967296 := by
  unfold stp
  refine Nat.xor_lt_two_pow (n := 32) (by omega) ?_
  have : n % 2 = 0 ∨ n % 2 = 1 := by omega
  rcases this with e | e <;> rw [e] <;> decide
theorem stpN_lt {n : Nat} (h : n < 4294967296) : ∀ k, stpN k n < 4294967296
  | 0 => h
  | k + 1 => stp_lt (stpN_lt h k)
/-- A byte's step. -/
def byteC (n c : Nat) : Nat := stpN 8 (n ^^^ c)
/-- All bytes. -/
def crcN (l : List UInt8) : Nat := l.foldl (fun n c => byteC n c.toNat) 4294967295
def sumN (l : List UInt8) : Nat := 4294967295 - crcN l
theorem byteC_lt {n c : Nat} (h : n < 4294967296) (hc : c < 256) : byteC n c < 4294967296 := stpN_lt (Nat.xor_lt_two_pow (n := 32) h (by omega)) 8
theorem fold_lt : ∀ (l : List UInt8) (n : Nat), n < 4294967296 → l.foldl (fun n c => byteC n c.toNat) n < 4294967296
  | [], _, h => h
  | c :: l, _, h => fold_lt l _ (byteC_lt h c.toNat_lt)
theorem crcN_lt (l : List UInt8) : crcN l < 4294967296 := fold_lt l _ (by omega)
theorem sumN_lt (l : List UInt8) : sumN l < 4294967296 := by unfold sumN; omega
theorem crcN_snoc (l : List UInt8) (c : UInt8) : crcN (l ++ [c]) = byteC (crcN l) c.toNat := by unfold crcN; rw [List.foldl_append]; rfl
theorem crcN_take {l : List UInt8} {k : Nat} (h : k < l.length) : crcN (l.take (k + 1)) = byteC (crcN (l.take k)) (l.getD k 0).toNat := by
  rw [List.take_succ_eq_append_getElem h, crcN_snoc, List.getD_eq_getElem?_getD, List.getElem?_eq_getElem h]; rfl

/-- The reference's step: the number and the byte, both halved. -/
def rst (p : Nat × Nat) : Nat × Nat := ((if p.1 % 2 ≠ p.2 % 2 then p.1 / 2 ^^^ 3988292384 else p.1 / 2), p.2 / 2)
def rstN : Nat → Nat × Nat → Nat × Nat
  | 0, p => p
  | k + 1, p => rst (rstN k p)
theorem xor_half (a b : Nat) : (a ^^^ b) / 2 = a / 2 ^^^ b / 2 := by
  apply Nat.eq_of_testBit_eq
  intro i
  simp [Nat.testBit_div_two, Nat.testBit_xor]
theorem xor_odd (a b : Nat) : (a ^^^ b) % 2 = if a % 2 ≠ b % 2 then 1 else 0 := by
  have h := Nat.testBit_xor a b 0
  simp only [Nat.testBit_zero] at h
  rcases Nat.mod_two_eq_zero_or_one a with h1 | h1 <;> rcases Nat.mod_two_eq_zero_or_one b with h2 | h2 <;> rcases Nat.mod_two_eq_zero_or_one (a ^^^ b) with h3 | h3 <;> simp [h1, h2, h3] at h ⊢
theorem rst_stp (n c : Nat) : stp (n ^^^ c) = (rst (n, c)).1 ^^^ (rst (n, c)).2 := by
  unfold stp rst
  simp only
  rw [xor_half, xor_odd]
  split
  · rw [Nat.one_mul]
    apply Nat.eq_of_testBit_eq
    intro i
    simp only [Nat.testBit_xor]
    cases (n / 2).testBit i <;> cases (c / 2).testBit i <;> cases (Nat.testBit 3988292384 i) <;> rfl
  · rw [Nat.zero_mul, Nat.xor_zero]
theorem rstN_stp (n c : Nat) : ∀ k, stpN k (n ^^^ c) = (rstN k (n, c)).1 ^^^ (rstN k (n, c)).2
  | 0 => rfl
  | k + 1 => by
    simp only [stpN, rstN]
    rw [rstN_stp n c k, rst_stp]
theorem rstN_snd (n c : Nat) : ∀ k, (rstN k (n, c)).2 = c / 2 ^ k
  | 0 => by simp [rstN]
  | k + 1 => by
    simp only [rstN, rst]
    rw [rstN_snd n c k, Nat.div_div_eq_div_mul, Nat.pow_succ]
theorem rstN_lt {n c : Nat} (h : n < 4294967296) : ∀ k, (rstN k (n, c)).1 < 4294967296
  | 0 => h
  | k + 1 => by
    have ih := rstN_lt (c := c) h k
    simp only [rstN, rst]
    split
    · exact Nat.xor_lt_two_pow (n := 32) (by omega) (by decide)
    · omega
theorem byteC_ref {n c : Nat} (hc : c < 256) : byteC n c = (rstN 8 (n, c)).1 := by
  unfold byteC
  rw [rstN_stp, rstN_snd, Nat.div_eq_of_lt (by simpa using hc), Nat.xor_zero]

/-- The four bytes of a number, the lowest first. -/
def four (n : Nat) : List UInt8 := [UInt8.ofNat (n % 256), UInt8.ofNat (n / 256 % 256), UInt8.ofNat (n / 65536 % 256), UInt8.ofNat (n / 16777216 % 256)]
theorem four_inj {a b : Nat} (ha : a < 4294967296) (hb : b < 4294967296) (h : four a = four b) : a = b := by
  unfold four at h
  simp only [List.cons.injEq, and_true] at h
  obtain ⟨h1, h2, h3, h4⟩ := h
  have e : ∀ x y : Nat, x < 256 → y < 256 → UInt8.ofNat x = UInt8.ofNat y → x = y := by
    intro x y hx hy hxy
    have := congrArg UInt8.toNat hxy
    simp only [UInt8.toNat_ofNat'] at this
    omega
  have h1 := e _ _ (by omega) (by omega) h1
  have h2 := e _ _ (by omega) (by omega) h2
  have h3 := e _ _ (by omega) (by omega) h3
  have h4 := e _ _ (by omega) (by omega) h4
  omega
end Go.Proofs.Ytgbbckjbpgojaaa
