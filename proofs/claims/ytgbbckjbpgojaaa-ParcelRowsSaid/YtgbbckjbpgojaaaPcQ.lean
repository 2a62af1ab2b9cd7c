/- parcel, in plain numbers: turned bits within 32 that follow one another are told by the sum. -/
import Derived.Test.YtgbbckjbpgojaaaPcO
namespace Go.Proofs.Ytgbbckjbpgojaaa

theorem xor_mul (a b i : Nat) : (a ^^^ b) * 2 ^ i = a * 2 ^ i ^^^ b * 2 ^ i := by
  have := Nat.shiftLeft_xor_distrib (i := i) (a := a) (b := b)
  simpa [Nat.shiftLeft_eq] using this
theorem add_xor {c : Nat} (m : Nat) (h : c < 256) : c + 256 * m = c ^^^ (m * 2 ^ 8) := by
  apply Nat.eq_of_testBit_eq
  intro j
  have h1 := Nat.testBit_two_pow_mul_add m (b := c) (i := 8) (by simpa using h) j
  rw [show 2 ^ 8 * m + c = c + 256 * m by omega] at h1
  rw [h1, Nat.testBit_xor, Nat.testBit_mul_two_pow]
  by_cases hj : j < 8
  · rw [if_pos hj, decide_eq_false (by omega)]; simp
  · rw [if_neg hj, decide_eq_true (by omega), Nat.testBit_lt_two_pow (x := c) (i := j) (Nat.lt_of_lt_of_le h (by
      have := Nat.pow_le_pow_right (n := 2) (by omega) (show 8 ≤ j by omega)
      simpa using this))]
    simp
/-- Bytes as one number, the lowest first. -/
def numB : List UInt8 → Nat
  | [] => 0
  | c :: t => c.toNat + 256 * numB t
theorem numB_cons (c : UInt8) (t : List UInt8) : numB (c :: t) = c.toNat ^^^ (numB t * 2 ^ 8) := add_xor _ c.toNat_lt
theorem stpN_add (a b n : Nat) : stpN (a + b) n = stpN a (stpN b n) := by
  induction a with
  | zero => rw [Nat.zero_add]; rfl
  | succ a ih => rw [Nat.succ_add]; show stp _ = stp _; rw [ih]
theorem stp_even (m : Nat) : stp (m * 2) = m := by unfold stp; rw [Nat.mul_div_cancel _ (by omega), Nat.mul_mod_left, Nat.zero_mul, Nat.xor_zero]
theorem stpN_shift : ∀ (k m : Nat), stpN k (m * 2 ^ k) = m
  | 0, m => by simp [stpN]
  | k + 1, m => by
    show stp (stpN k _) = m
    rw [Nat.pow_succ, Nat.mul_comm (2 ^ k) 2, ← Nat.mul_assoc, stpN_shift k (m * 2), stp_even]
/-- What is read of bytes is what as many steps make of all of them at once. -/
theorem fold_num : ∀ (l : List UInt8) (n : Nat), l.foldl (fun n c => byteC n c.toNat) n = stpN (8 * l.length) (n ^^^ numB l)
  | [], n => by simp [stpN, numB]
  | c :: t, n => by
    rw [List.foldl_cons, fold_num t, List.length_cons, Nat.mul_succ, stpN_add]
    congr 1
    rw [numB_cons, ← Nat.xor_assoc, stpN_xor, stpN_shift]
    rfl
theorem crc_num (l : List UInt8) : crcN l = stpN (8 * l.length) (4294967295 ^^^ numB l) := fold_num l _
theorem numB_four {n : Nat} (h : n < 4294967296) : numB (four n) = n := by
  unfold four
  simp only [numB]
  rw [ofNat_toNat (by omega), ofNat_toNat (by omega), ofNat_toNat (by omega), ofNat_toNat (by omega)]
  omega
theorem compl_xor {n : Nat} (h : n < 4294967296) : n ^^^ (4294967295 - n) = 4294967295 := by
  apply Nat.eq_of_testBit_eq
  intro i
  have h1 := Nat.testBit_two_pow_sub_succ (x := n) (n := 32) (by simpa using h) i
  have h2 := Nat.testBit_two_pow_sub_succ (x := 0) (n := 32) (by decide) i
  rw [show 2 ^ 32 - (n + 1) = 4294967295 - n by omega] at h1
  rw [show 2 ^ 32 - (0 + 1) = 4294967295 by decide] at h2
  rw [Nat.testBit_xor, h1, h2]
  by_cases hi : i < 32
  · simp [hi]
  · have hn : n.testBit i = false := Nat.testBit_lt_two_pow (Nat.lt_of_lt_of_le h (by
      have := Nat.pow_le_pow_right (n := 2) (by omega) (show 32 ≤ i by omega)
      simpa using this))
    simp [hi, hn]
/-- What ends in its own sum leads to one number. -/
theorem crc_valid (h : List UInt8) : crcN (h ++ four (sumN h)) = stpN 32 4294967295 := by
  unfold crcN
  rw [List.foldl_append, fold_num (four (sumN h))]
  show stpN (8 * 4) (crcN h ^^^ numB (four (sumN h))) = _
  rw [numB_four (sumN_lt h)]
  unfold sumN
  rw [compl_xor (crcN_lt h)]
/-- Bytes that differ by bits within 32 that follow one another don't lead to one number. -/
theorem burst {b c : List UInt8} (hl : b.length = c.length) (hv : crcN b = crcN c) {t from' : Nat} (hx : numB b ^^^ numB c = t * 2 ^ from') (ht : t < 4294967296) (hf : from' ≤ 8 * b.length) : t = 0 := by
  rw [crc_num, crc_num, ← hl] at hv
  have h0 : stpN (8 * b.length) (4294967295 ^^^ numB b) ^^^ stpN (8 * b.length) (4294967295 ^^^ numB c) = 0 := by rw [hv, Nat.xor_self]
  rw [← stpN_xor] at h0
  have e : (4294967295 ^^^ numB b) ^^^ (4294967295 ^^^ numB c) = numB b ^^^ numB c := by
    rw [Nat.xor_comm 4294967295 (numB b), Nat.xor_assoc, ← Nat.xor_assoc 4294967295 4294967295, Nat.xor_self, Nat.zero_xor]
  rw [e, hx, show 8 * b.length = (8 * b.length - from') + from' by omega, stpN_add, stpN_shift] at h0
  exact stpN_zero ht _ h0

theorem numB_set : ∀ (l : List UInt8) (i k : Nat) (v : UInt8), i < l.length → v.toNat = (l.getD i 0).toNat ^^^ 2 ^ k → numB (l.set i v) = numB l ^^^ 2 ^ (8 * i + k)
  | c :: t, 0, k, v, _, hv => by
    rw [List.set_cons_zero, numB_cons, numB_cons, hv]
    show (c.toNat ^^^ 2 ^ k) ^^^ _ = _
    rw [Nat.mul_zero, Nat.zero_add, Nat.xor_assoc, Nat.xor_assoc, Nat.xor_comm (2 ^ k)]
  | c :: t, i + 1, k, v, h, hv => by
    rw [List.set_cons_succ, numB_cons, numB_cons, numB_set t i k v (by simpa using h) hv, xor_mul, ← Nat.pow_add, show 8 * i + k + 8 = 8 * (i + 1) + k by omega, Nat.xor_assoc]

/-- The first i bits of turn, from a place on. -/
def bitsT (turn i : Nat) : Nat := turn % 2 ^ i
theorem bitsT_zero (turn : Nat) : bitsT turn 0 = 0 := Nat.mod_one _
theorem bitsT_lt (turn i : Nat) : bitsT turn i < 2 ^ i := Nat.mod_lt _ (Nat.two_pow_pos i)
theorem bitsT_no {turn i : Nat} (h : turn / 2 ^ i % 2 = 0) : bitsT turn (i + 1) = bitsT turn i := by
  unfold bitsT
  rw [Nat.pow_succ, Nat.mod_mul, h, Nat.mul_zero, Nat.add_zero]
theorem bitsT_yes {turn i : Nat} (h : turn / 2 ^ i % 2 = 1) : bitsT turn (i + 1) = bitsT turn i ^^^ 2 ^ i := by
  have hlt := bitsT_lt turn i
  have e : bitsT turn (i + 1) = 2 ^ i * 1 + bitsT turn i := by
    unfold bitsT
    rw [Nat.pow_succ, Nat.mod_mul, h, Nat.add_comm]
  rw [e]
  apply Nat.eq_of_testBit_eq
  intro j
  rw [Nat.testBit_two_pow_mul_add 1 hlt j, Nat.testBit_xor, Nat.testBit_two_pow]
  by_cases hj : j < i
  · rw [if_pos hj, decide_eq_false (by omega)]; simp
  · rw [if_neg hj, Nat.testBit_lt_two_pow (Nat.lt_of_lt_of_le hlt (Nat.pow_le_pow_right (by omega) (by omega)))]
    by_cases he : i = j
    · subst he; simp
    · have : j - i ≠ 0 := by omega
      rw [decide_eq_false he, Bool.false_xor]
      obtain ⟨d, hd⟩ : ∃ d, j - i = d + 1 := ⟨j - i - 1, by omega⟩
      rw [hd, Nat.testBit_succ]
      simp
/-- Of a parcel some of whose bits were turned, none of them of its number, it is told that it is no parcel. -/
theorem firstF_burst (kd : Nat) (l : List UInt8) (hl : l.length ≤ 65536) (c : List UInt8) (hc : c.length = (wrapB kd l).length)
    (hnum : (c.drop 1).take (natB l.length).length = natB l.length) {t from' : Nat} (hx : numB (wrapB kd l) ^^^ numB c = t * 2 ^ from') (ht : t < 4294967296) (h0 : t ≠ 0) (hf : from' ≤ 8 * (wrapB kd l).length) :
    (firstF c).er = if (c.getD 0 0).toNat = 0 then 20 else 30 := by
  have hw : (wrapB kd l).length = 1 + (natB l.length).length + l.length + 4 := by unfold wrapB headB; simp [four_len]; omega
  have hd : c.drop 1 = natB l.length ++ (c.drop 1).drop (natB l.length).length := by
    conv => lhs; rw [← List.take_append_drop (natB l.length).length (c.drop 1), hnum]
  have hL : lenF (c.drop 1) = (l.length, (natB l.length).length, 0) := by rw [hd]; exact lenF_natB _ hl _
  unfold firstF
  rw [if_neg (by omega)]
  by_cases hz : (c.getD 0 0).toNat = 0
  · rw [if_pos hz, if_pos hz]
  · rw [if_neg hz, if_neg hz, hL]
    simp only [not_true, if_false]
    rw [if_neg (by omega)]
    by_cases hs : four (sumN (c.take (1 + (natB l.length).length + l.length))) = (c.drop (1 + (natB l.length).length + l.length)).take 4
    · exfalso
      have h4 : (c.drop (1 + (natB l.length).length + l.length)).take 4 = c.drop (1 + (natB l.length).length + l.length) := List.take_of_length_le (by rw [List.length_drop]; omega)
      rw [h4] at hs
      have hcv : crcN c = stpN 32 4294967295 := by
        conv => lhs; rw [← List.take_append_drop (1 + (natB l.length).length + l.length) c, ← hs]
        exact crc_valid _
      have hbv : crcN (wrapB kd l) = stpN 32 4294967295 := crc_valid _
      exact h0 (burst hc.symm (hbv.trans hcv.symm) hx ht hf)
    · rw [if_neg hs]
end Go.Proofs.Ytgbbckjbpgojaaa
