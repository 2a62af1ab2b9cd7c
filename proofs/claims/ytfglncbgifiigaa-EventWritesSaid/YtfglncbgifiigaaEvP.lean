/- Events' bytes, in plain words: written, and read. (By mkev.py.) -/
import Derived.Test.YtfglncbgifiigaaEvM
import Derived.Test.YtfglncbgifiigaaCdB
namespace Go.Proofs.Ytfglncbgifiigaa
open Go.RowKit Go.Sort Go.Lib
set_option linter.unusedSimpArgs false
set_option linter.unusedVariables false

def big : Nat := 18446744073709551615
/-- An event's bytes. -/
def evB (x : Ev) : List UInt8 := Co.natB (Co.fz x.kd) ++ (Co.natB (Co.fz x.acc) ++ (Co.natB x.id.toNat ++ (Co.natB x.oth.toNat ++ (Co.natB (Co.fz x.side) ++ (Co.natB (Co.fz x.pr) ++ (Co.natB (Co.fz x.qty) ++ (Co.natB (Co.fz x.fee) ++ (Co.natB (Co.fz x.fee2) ++ (Co.natB (Co.fz x.code) ++ (Co.natB (Co.fz x.ver) ++ (Co.natB x.idx.toNat)))))))))))
def evsB (L : List Ev) : List UInt8 := Co.natB L.length ++ L.flatMap evB
/-- Its kind is one that there is. -/
def kdOk (x : Ev) : Bool := decide (1 ≤ x.kd) && decide (x.kd ≤ 15)
def kdsOk (L : List Ev) : Bool := L.all kdOk
/-- The bytes alone, or why there are none. -/
def bytesE (L : List Ev) : List UInt8 × Int := if 256 < L.length then ([], 21) else if kdsOk L = true then (evsB L, 0) else ([], 2)
/-- An event is read: what it is, what is left, whether it is bad then. -/
def rdE (l : List UInt8) (bd : Bool) : Ev × List UInt8 × Bool :=
  let a0 := Co.rdN l bd big
  let a1 := Co.rdN a0.2.1 a0.2.2 big
  let a2 := Co.rdN a1.2.1 a1.2.2 big
  let a3 := Co.rdN a2.2.1 a2.2.2 big
  let a4 := Co.rdN a3.2.1 a3.2.2 big
  let a5 := Co.rdN a4.2.1 a4.2.2 big
  let a6 := Co.rdN a5.2.1 a5.2.2 big
  let a7 := Co.rdN a6.2.1 a6.2.2 big
  let a8 := Co.rdN a7.2.1 a7.2.2 big
  let a9 := Co.rdN a8.2.1 a8.2.2 big
  let a10 := Co.rdN a9.2.1 a9.2.2 big
  let a11 := Co.rdN a10.2.1 a10.2.2 big
  (⟨Co.zz a0.1, Co.zz a1.1, (a2.1 : Int), (a3.1 : Int), Co.zz a4.1, Co.zz a5.1, Co.zz a6.1, Co.zz a7.1, Co.zz a8.1, Co.zz a9.1, Co.zz a10.1, (a11.1 : Int)⟩, a11.2)
/-- So many are read. -/
def rdEs : Nat → List UInt8 → Bool → List Ev × List UInt8 × Bool
  | 0, l, bd => ([], l, bd)
  | k + 1, l, bd => ((rdEs k l bd).1 ++ [(rdE (rdEs k l bd).2.1 (rdEs k l bd).2.2).1], (rdE (rdEs k l bd).2.1 (rdEs k l bd).2.2).2)
/-- Whether events are read, which ones, what is left, and whether it is bad then. -/
def rdAllE (l : List UInt8) (bd : Bool) : Bool × List Ev × List UInt8 × Bool :=
  let a := Co.rdN l bd 256
  let r := rdEs a.1 a.2.1 a.2.2
  if r.2.2 = true ∨ kdsOk r.1 = false then (false, [], [], true) else (true, r.1, r.2.1, false)

theorem rdEs_two (k : Nat) (l : List UInt8) (bd : Bool) : (rdEs (k + 1) l bd).2 = (rdE (rdEs k l bd).2.1 (rdEs k l bd).2.2).2 := by rw [rdEs]
theorem rdEs_len (k : Nat) (l : List UInt8) (bd : Bool) : (rdEs k l bd).1.length = k := by
  induction k with
  | zero => rfl
  | succ k ih => show ((rdEs k l bd).1 ++ [_]).length = _; rw [List.length_append, ih]; rfl
theorem rdN_lt (l : List UInt8) (bd : Bool) (m : Nat) : (Co.rdN l bd m).1 < 2 ^ 64 := (Co.rdN_bound l bd m).2.1
theorem rdN_le (l : List UInt8) (bd : Bool) (m : Nat) : ((Co.rdN l bd m).1 : Int) ≤ 18446744073709551615 := by have := rdN_lt l bd m; omega
/-- What is read may be an event's numbers. -/
theorem rdE_ok (l : List UInt8) (bd : Bool) (w : World) : (rdE l bd).1.ok w := by
  obtain ⟨⟨n0, l0, b0⟩, r0⟩ : ∃ q, Co.rdN l bd big = q := ⟨_, rfl⟩
  obtain ⟨⟨n1, l1, b1⟩, r1⟩ : ∃ q, Co.rdN l0 b0 big = q := ⟨_, rfl⟩
  obtain ⟨⟨n2, l2, b2⟩, r2⟩ : ∃ q, Co.rdN l1 b1 big = q := ⟨_, rfl⟩
  obtain ⟨⟨n3, l3, b3⟩, r3⟩ : ∃ q, Co.rdN l2 b2 big = q := ⟨_, rfl⟩
  obtain ⟨⟨n4, l4, b4⟩, r4⟩ : ∃ q, Co.rdN l3 b3 big = q := ⟨_, rfl⟩
  obtain ⟨⟨n5, l5, b5⟩, r5⟩ : ∃ q, Co.rdN l4 b4 big = q := ⟨_, rfl⟩
  obtain ⟨⟨n6, l6, b6⟩, r6⟩ : ∃ q, Co.rdN l5 b5 big = q := ⟨_, rfl⟩
  obtain ⟨⟨n7, l7, b7⟩, r7⟩ : ∃ q, Co.rdN l6 b6 big = q := ⟨_, rfl⟩
  obtain ⟨⟨n8, l8, b8⟩, r8⟩ : ∃ q, Co.rdN l7 b7 big = q := ⟨_, rfl⟩
  obtain ⟨⟨n9, l9, b9⟩, r9⟩ : ∃ q, Co.rdN l8 b8 big = q := ⟨_, rfl⟩
  obtain ⟨⟨n10, l10, b10⟩, r10⟩ : ∃ q, Co.rdN l9 b9 big = q := ⟨_, rfl⟩
  obtain ⟨⟨n11, l11, b11⟩, r11⟩ : ∃ q, Co.rdN l10 b10 big = q := ⟨_, rfl⟩
  have e : rdE l bd = (⟨Co.zz n0, Co.zz n1, (n2 : Int), (n3 : Int), Co.zz n4, Co.zz n5, Co.zz n6, Co.zz n7, Co.zz n8, Co.zz n9, Co.zz n10, (n11 : Int)⟩, l11, b11) := by unfold rdE; simp only [r0, r1, r2, r3, r4, r5, r6, r7, r8, r9, r10, r11]
  rw [e]
  have k0 : n0 < 2 ^ 64 := by have := rdN_lt l bd big; rw [r0] at this; exact this
  have k1 : n1 < 2 ^ 64 := by have := rdN_lt l0 b0 big; rw [r1] at this; exact this
  have k2 : n2 < 2 ^ 64 := by have := rdN_lt l1 b1 big; rw [r2] at this; exact this
  have k3 : n3 < 2 ^ 64 := by have := rdN_lt l2 b2 big; rw [r3] at this; exact this
  have k4 : n4 < 2 ^ 64 := by have := rdN_lt l3 b3 big; rw [r4] at this; exact this
  have k5 : n5 < 2 ^ 64 := by have := rdN_lt l4 b4 big; rw [r5] at this; exact this
  have k6 : n6 < 2 ^ 64 := by have := rdN_lt l5 b5 big; rw [r6] at this; exact this
  have k7 : n7 < 2 ^ 64 := by have := rdN_lt l6 b6 big; rw [r7] at this; exact this
  have k8 : n8 < 2 ^ 64 := by have := rdN_lt l7 b7 big; rw [r8] at this; exact this
  have k9 : n9 < 2 ^ 64 := by have := rdN_lt l8 b8 big; rw [r9] at this; exact this
  have k10 : n10 < 2 ^ 64 := by have := rdN_lt l9 b9 big; rw [r10] at this; exact this
  have k11 : n11 < 2 ^ 64 := by have := rdN_lt l10 b10 big; rw [r11] at this; exact this
  exact ⟨Co.zz_bd k0, Co.zz_bd k1, ⟨Int.natCast_nonneg _, by show (n2 : Int) ≤ _; omega⟩, ⟨Int.natCast_nonneg _, by show (n3 : Int) ≤ _; omega⟩, Co.zz_bd k4, Co.zz_bd k5, Co.zz_bd k6, Co.zz_bd k7, Co.zz_bd k8, Co.zz_bd k9, Co.zz_bd k10, ⟨Int.natCast_nonneg _, by show (n11 : Int) ≤ _; omega⟩⟩
theorem rdEs_ok (k : Nat) (l : List UInt8) (bd : Bool) (w : World) : ∀ x ∈ (rdEs k l bd).1, Ev.ok w x := by
  induction k with
  | zero => intro x hx; cases hx
  | succ k ih =>
    intro x hx
    have hx' : x ∈ (rdEs k l bd).1 ++ [(rdE (rdEs k l bd).2.1 (rdEs k l bd).2.2).1] := hx
    rcases List.mem_append.1 hx' with h | h
    · exact ih x h
    · rw [List.mem_singleton.1 h]; exact rdE_ok _ _ _
theorem rd_nat {n m : Nat} (t : List UInt8) (h : n < 2 ^ 64) (hm : n ≤ m) : Co.rdN (Co.natB n ++ t) false m = (n, t, false) := by
  unfold Co.rdN
  rw [Co.readNat_natB t h hm]
theorem rdE_back (x : Ev) (w : World) (h : x.ok w) (t : List UInt8) : rdE (evB x ++ t) false = (x, t, false) := by
  obtain ⟨h0, h1, h2, h3, h4, h5, h6, h7, h8, h9, h10, h11⟩ := h
  have f0 := Co.fz_lt h0.1 h0.2
  have f1 := Co.fz_lt h1.1 h1.2
  have f4 := Co.fz_lt h4.1 h4.2
  have f5 := Co.fz_lt h5.1 h5.2
  have f6 := Co.fz_lt h6.1 h6.2
  have f7 := Co.fz_lt h7.1 h7.2
  have f8 := Co.fz_lt h8.1 h8.2
  have f9 := Co.fz_lt h9.1 h9.2
  have f10 := Co.fz_lt h10.1 h10.2
  have e : evB x ++ t = Co.natB (Co.fz x.kd) ++ (Co.natB (Co.fz x.acc) ++ (Co.natB x.id.toNat ++ (Co.natB x.oth.toNat ++ (Co.natB (Co.fz x.side) ++ (Co.natB (Co.fz x.pr) ++ (Co.natB (Co.fz x.qty) ++ (Co.natB (Co.fz x.fee) ++ (Co.natB (Co.fz x.fee2) ++ (Co.natB (Co.fz x.code) ++ (Co.natB (Co.fz x.ver) ++ (Co.natB x.idx.toNat ++ t))))))))))) := by
    unfold evB; simp only [List.append_assoc]
  rw [e]
  unfold rdE
  have hb : big = 18446744073709551615 := rfl
  simp only [rd_nat (n := (Co.fz x.kd)) (m := big) _ (by omega) (by omega), rd_nat (n := (Co.fz x.acc)) (m := big) _ (by omega) (by omega), rd_nat (n := x.id.toNat) (m := big) _ (by omega) (by omega), rd_nat (n := x.oth.toNat) (m := big) _ (by omega) (by omega), rd_nat (n := (Co.fz x.side)) (m := big) _ (by omega) (by omega), rd_nat (n := (Co.fz x.pr)) (m := big) _ (by omega) (by omega), rd_nat (n := (Co.fz x.qty)) (m := big) _ (by omega) (by omega), rd_nat (n := (Co.fz x.fee)) (m := big) _ (by omega) (by omega), rd_nat (n := (Co.fz x.fee2)) (m := big) _ (by omega) (by omega), rd_nat (n := (Co.fz x.code)) (m := big) _ (by omega) (by omega), rd_nat (n := (Co.fz x.ver)) (m := big) _ (by omega) (by omega), rd_nat (n := x.idx.toNat) (m := big) _ (by omega) (by omega), Co.zz_fz]
  rw [Int.toNat_of_nonneg h2.1, Int.toNat_of_nonneg h3.1, Int.toNat_of_nonneg h11.1]
theorem rdEs_back (w : World) (L : List Ev) (h : ∀ x ∈ L, Ev.ok w x) (m : List UInt8) : ∀ k, k ≤ L.length → rdEs k (L.flatMap evB ++ m) false = (L.take k, (L.drop k).flatMap evB ++ m, false) := by
  intro k
  induction k with
  | zero => intro _; simp [rdEs]
  | succ k ih =>
    intro hk
    have hk' : k < L.length := by omega
    rw [rdEs, ih (by omega)]
    simp only
    rw [List.drop_eq_getElem_cons hk', List.flatMap_cons, List.append_assoc, rdE_back _ w (h _ (List.getElem_mem _)), List.take_succ_eq_append_getElem hk']
theorem rdAll_back (w : World) (L : List Ev) (h : ∀ x ∈ L, Ev.ok w x) (hl : L.length ≤ 256) (hB : kdsOk L = true) (m : List UInt8) : rdAllE (evsB L ++ m) false = (true, L, m, false) := by
  unfold rdAllE evsB
  simp only [List.append_assoc]
  rw [rd_nat _ (by omega) (by omega)]
  simp only
  rw [rdEs_back w L h m L.length (Nat.le_refl _)]
  simp [hB]
theorem evB_len {x : Ev} {w : World} (h : x.ok w) : (evB x).length ≤ 120 := by
  obtain ⟨h0, h1, h2, h3, h4, h5, h6, h7, h8, h9, h10, h11⟩ := h
  have l0 := Co.natB_len10 (n := (Co.fz x.kd)) (Co.fz_lt h0.1 h0.2)
  have l1 := Co.natB_len10 (n := (Co.fz x.acc)) (Co.fz_lt h1.1 h1.2)
  have l2 := Co.natB_len10 (n := x.id.toNat) (by omega)
  have l3 := Co.natB_len10 (n := x.oth.toNat) (by omega)
  have l4 := Co.natB_len10 (n := (Co.fz x.side)) (Co.fz_lt h4.1 h4.2)
  have l5 := Co.natB_len10 (n := (Co.fz x.pr)) (Co.fz_lt h5.1 h5.2)
  have l6 := Co.natB_len10 (n := (Co.fz x.qty)) (Co.fz_lt h6.1 h6.2)
  have l7 := Co.natB_len10 (n := (Co.fz x.fee)) (Co.fz_lt h7.1 h7.2)
  have l8 := Co.natB_len10 (n := (Co.fz x.fee2)) (Co.fz_lt h8.1 h8.2)
  have l9 := Co.natB_len10 (n := (Co.fz x.code)) (Co.fz_lt h9.1 h9.2)
  have l10 := Co.natB_len10 (n := (Co.fz x.ver)) (Co.fz_lt h10.1 h10.2)
  have l11 := Co.natB_len10 (n := x.idx.toNat) (by omega)
  unfold evB
  simp only [List.length_append]
  omega
theorem flat_len {w : World} : ∀ (L : List Ev), (∀ x ∈ L, Ev.ok w x) → (L.flatMap evB).length ≤ 120 * L.length
  | [], _ => by simp
  | x :: L, h => by
    have h1 := evB_len (h x (by simp))
    have h2 := flat_len L (fun y hy => h y (by simp [hy]))
    rw [List.flatMap_cons, List.length_append, List.length_cons]
    omega
theorem take_len {w : World} {L : List Ev} (h : ∀ x ∈ L, Ev.ok w x) (k : Nat) : ((L.take k).flatMap evB).length ≤ 120 * L.length := by
  have h1 := flat_len (L.take k) (fun x hx => h x (List.mem_of_mem_take hx))
  have h2 : (L.take k).length ≤ L.length := by rw [List.length_take]; omega
  omega
theorem flat_snoc {L : List Ev} {k : Nat} (h : k < L.length) : (L.take (k + 1)).flatMap evB = (L.take k).flatMap evB ++ evB L[k]! := by
  rw [List.take_succ_eq_append_getElem h, List.flatMap_append, getElem!_pos L k h]
  simp
theorem evsB_len {w : World} {L : List Ev} (h : ∀ x ∈ L, Ev.ok w x) (hl : L.length ≤ 300) : (evsB L).length ≤ 40000 := by
  have a := flat_len L h
  have b := Co.natB_len10 (n := L.length) (by omega)
  unfold evsB
  rw [List.length_append]
  omega
theorem evsB_pos (L : List Ev) : 0 < (evsB L).length := by
  unfold evsB; rw [List.length_append]; have := Co.natB_pos L.length; omega
/-- What was read, written again, is those bytes: an event. -/
theorem rdE_fwd {l : List UInt8} {bd : Bool} {x : Ev} {t : List UInt8} (h : rdE l bd = (x, t, false)) : bd = false ∧ l = evB x ++ t := by
  obtain ⟨⟨n0, l0, b0⟩, r0⟩ : ∃ q, Co.rdN l bd big = q := ⟨_, rfl⟩
  obtain ⟨⟨n1, l1, b1⟩, r1⟩ : ∃ q, Co.rdN l0 b0 big = q := ⟨_, rfl⟩
  obtain ⟨⟨n2, l2, b2⟩, r2⟩ : ∃ q, Co.rdN l1 b1 big = q := ⟨_, rfl⟩
  obtain ⟨⟨n3, l3, b3⟩, r3⟩ : ∃ q, Co.rdN l2 b2 big = q := ⟨_, rfl⟩
  obtain ⟨⟨n4, l4, b4⟩, r4⟩ : ∃ q, Co.rdN l3 b3 big = q := ⟨_, rfl⟩
  obtain ⟨⟨n5, l5, b5⟩, r5⟩ : ∃ q, Co.rdN l4 b4 big = q := ⟨_, rfl⟩
  obtain ⟨⟨n6, l6, b6⟩, r6⟩ : ∃ q, Co.rdN l5 b5 big = q := ⟨_, rfl⟩
  obtain ⟨⟨n7, l7, b7⟩, r7⟩ : ∃ q, Co.rdN l6 b6 big = q := ⟨_, rfl⟩
  obtain ⟨⟨n8, l8, b8⟩, r8⟩ : ∃ q, Co.rdN l7 b7 big = q := ⟨_, rfl⟩
  obtain ⟨⟨n9, l9, b9⟩, r9⟩ : ∃ q, Co.rdN l8 b8 big = q := ⟨_, rfl⟩
  obtain ⟨⟨n10, l10, b10⟩, r10⟩ : ∃ q, Co.rdN l9 b9 big = q := ⟨_, rfl⟩
  obtain ⟨⟨n11, l11, b11⟩, r11⟩ : ∃ q, Co.rdN l10 b10 big = q := ⟨_, rfl⟩
  have e : rdE l bd = (⟨Co.zz n0, Co.zz n1, (n2 : Int), (n3 : Int), Co.zz n4, Co.zz n5, Co.zz n6, Co.zz n7, Co.zz n8, Co.zz n9, Co.zz n10, (n11 : Int)⟩, l11, b11) := by unfold rdE; simp only [r0, r1, r2, r3, r4, r5, r6, r7, r8, r9, r10, r11]
  rw [e] at h
  injection h with h1 h2; injection h2 with h3 h4
  subst h1; subst h3; subst h4
  rcases Co.rdN_cases r11 with ⟨_, k⟩ | ⟨e11, k, _⟩
  · cases k
  subst k
  rcases Co.rdN_cases r10 with ⟨_, k⟩ | ⟨e10, k, _⟩
  · cases k
  subst k
  rcases Co.rdN_cases r9 with ⟨_, k⟩ | ⟨e9, k, _⟩
  · cases k
  subst k
  rcases Co.rdN_cases r8 with ⟨_, k⟩ | ⟨e8, k, _⟩
  · cases k
  subst k
  rcases Co.rdN_cases r7 with ⟨_, k⟩ | ⟨e7, k, _⟩
  · cases k
  subst k
  rcases Co.rdN_cases r6 with ⟨_, k⟩ | ⟨e6, k, _⟩
  · cases k
  subst k
  rcases Co.rdN_cases r5 with ⟨_, k⟩ | ⟨e5, k, _⟩
  · cases k
  subst k
  rcases Co.rdN_cases r4 with ⟨_, k⟩ | ⟨e4, k, _⟩
  · cases k
  subst k
  rcases Co.rdN_cases r3 with ⟨_, k⟩ | ⟨e3, k, _⟩
  · cases k
  subst k
  rcases Co.rdN_cases r2 with ⟨_, k⟩ | ⟨e2, k, _⟩
  · cases k
  subst k
  rcases Co.rdN_cases r1 with ⟨_, k⟩ | ⟨e1, k, _⟩
  · cases k
  subst k
  rcases Co.rdN_cases r0 with ⟨_, k⟩ | ⟨e0, k, _⟩
  · cases k
  subst k
  refine ⟨rfl, ?_⟩
  rw [e0, e1, e2, e3, e4, e5, e6, e7, e8, e9, e10, e11]
  unfold evB
  simp only [Co.fz_zz, Int.toNat_natCast, List.append_assoc]
theorem rdEs_fwd (l : List UInt8) (bd : Bool) : ∀ (k : Nat) (L : List Ev) (t : List UInt8), rdEs k l bd = (L, t, false) → bd = false ∧ l = L.flatMap evB ++ t := by
  intro k
  induction k with
  | zero => intro L t h; injection h with h1 h2; injection h2 with h3 h4; subst h1; subst h3; subst h4; exact ⟨rfl, rfl⟩
  | succ k ih =>
    intro L t h
    injection h with h1 h2
    obtain ⟨h3, h4⟩ := rdE_fwd (show rdE (rdEs k l bd).2.1 (rdEs k l bd).2.2 = ((rdE (rdEs k l bd).2.1 (rdEs k l bd).2.2).1, t, false) from Prod.ext rfl h2)
    obtain ⟨h5, h6⟩ := ih (rdEs k l bd).1 (rdEs k l bd).2.1 (Prod.ext rfl (Prod.ext rfl h3))
    refine ⟨h5, ?_⟩
    rw [h6, ← h1]
    conv => lhs; rw [h4]
    simp
/-- What was read, written again, is those bytes. -/
theorem rdAll_fwd {l : List UInt8} {L : List Ev} {t : List UInt8} {b : Bool} (h : rdAllE l false = (true, L, t, b)) : l = evsB L ++ t ∧ L.length ≤ 256 ∧ kdsOk L = true := by
  unfold rdAllE at h
  obtain ⟨⟨n, l1, b1⟩, r1⟩ : ∃ q, Co.rdN l false 256 = q := ⟨_, rfl⟩
  simp only [r1] at h
  split at h
  · injection h with h0; cases h0
  rename_i hk
  injection h with _ h; injection h with h1 h2; injection h2 with h2 _
  have k1 : (rdEs n l1 b1).2.2 = false := by cases e : (rdEs n l1 b1).2.2 with | false => rfl | true => exact absurd (.inl e) hk
  have k2 : kdsOk (rdEs n l1 b1).1 = true := by cases e : kdsOk (rdEs n l1 b1).1 with | true => rfl | false => exact absurd (.inr e) hk
  obtain ⟨h3, h4⟩ := rdEs_fwd l1 b1 n L t (Prod.ext h1 (Prod.ext h2 k1))
  subst h3
  have hn : n ≤ 256 := by have := (Co.rdN_bound l false 256).1; rw [r1] at this; exact this
  have hl : L.length = n := by rw [← h1]; exact rdEs_len n l1 false
  rw [h1] at k2
  rcases Co.rdN_cases r1 with ⟨_, k⟩ | ⟨e1, _, _⟩
  · cases k
  refine ⟨?_, by omega, k2⟩
  unfold evsB
  rw [e1, h4, hl, List.append_assoc]
theorem rdAll_len (l : List UInt8) (bd : Bool) : (rdAllE l bd).2.1.length ≤ 256 := by
  unfold rdAllE
  simp only
  split
  · simp
  · simp only [rdEs_len]
    exact (Co.rdN_bound l bd 256).1
theorem rdAll_ok (l : List UInt8) (bd : Bool) (w : World) : ∀ x ∈ (rdAllE l bd).2.1, Ev.ok w x := by
  unfold rdAllE
  simp only
  split
  · intro x hx; cases hx
  · exact rdEs_ok _ _ _ w
end Go.Proofs.Ytfglncbgifiigaa
