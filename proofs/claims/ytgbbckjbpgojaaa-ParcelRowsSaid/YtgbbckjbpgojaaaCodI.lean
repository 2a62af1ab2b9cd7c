/- codec's writer: whole numbers, flags, texts; its bytes. -/
import Derived.Test.YtgbbckjbpgojaaaCodH
namespace Go.Proofs.Ytgbbckjbpgojaaa
open Go.RowKit

/-- The natural number that a whole one is written as. -/
def fz (n : Int) : Nat := if n < 0 then (-2 * n - 1).toNat else (2 * n).toNat
theorem fz_lt {n : Int} (h0 : -9223372036854775808 ≤ n) (h1 : n ≤ 9223372036854775807) : fz n < 18446744073709551616 := by unfold fz; split <;> omega
theorem zz_fz {n : Int} : zz (fz n) = n := by unfold zz fz; split <;> split <;> omega
theorem fz_zz {n : Nat} : fz (zz n) = n := by unfold zz fz; split <;> split <;> omega

theorem ret_u64 {a b : Int} (h : a = b) : Ending.returned (.int .u64 a) = .returned (.int .u64 b) := by rw [h]
theorem or_odd {k : Nat} (h : 2 * k + 1 < 18446744073709551616) : bits .or .u64 ((2 * k : Nat) : Int) 1 = ((2 * k + 1 : Nat) : Int) := by
  have := bits_or_u64_nat (2 * k) 1 (by omega) (by omega)
  rw [show ((1 : Nat) : Int) = 1 from rfl] at this
  rw [this]
  have h2 := Nat.two_pow_add_eq_or_of_lt (i := 1) (b := 1) (by omega) k
  rw [show (2 : Nat) ^ 1 = 2 from rfl] at h2
  rw [h2]

theorem or_neg {k : Nat} (h : (k : Int) ≤ 9223372036854775807) : bits .or .u64 (IntKind.u64.wrap (IntKind.u64.wrap (k : Int) * 2)) 1 = ((2 * k + 1 : Nat) : Int) := by
  have e1 : IntKind.u64.wrap (k : Int) = (k : Int) := by rw [IntKind.wrap_u64]; omega
  have e2 : IntKind.u64.wrap ((k : Int) * 2) = ((2 * k : Nat) : Int) := by rw [IntKind.wrap_u64]; omega
  rw [e1, e2, or_odd (by omega)]

/-- One number is written. -/
theorem wNat1_c (g x : Nat) (S : Nat → Prop) (bs : List UInt8) (w : World) (h : WS w g S bs) (hx : x < 2 ^ 64) (hsum : bs.length ≤ 800000000) :
    Calls Try.prog 19 #[.pointer (some ⟨g, 0, none⟩), .slice (some ⟨w.heap.size, 0, none⟩) 1 1] (w.alloc (.cells #[.int .u64 (x : Int)] 53)) fun e w' => e = .returned (.tuple #[]) ∧ Hid (Added g S (bs ++ natB x) w (.returned (.tuple #[])) w') := by
  have hb : Below w.heap.size w (w.alloc (.cells #[.int .u64 (x : Int)] 53)) := (Below.refl _ _).alloc (Nat.le_refl _) _
  have := wNat_c g 1 1 (some ⟨w.heap.size, 0, none⟩) S bs [x] _ (h.below hb) rfl (by intro y hy; simp at hy; subst hy; exact hx)
    (.inr ⟨w.heap.size, 0, rfl, by simp, fun hS => by have := h.lt _ hS; omega, fun i hi => by
      obtain rfl : i = 0 := by omega
      rw [cell_of_row _ _ _ _ _ _ (heap_alloc_new w _)]; rfl⟩) (by omega)
  rw [show natsB [x] = natB x by simp [natsB]] at this
  refine this.mono fun e w2 h2 => ?_
  have h3 := h2.back (Fr.of_below hb) (fun j hj => .inl hj)
  have he := h3.1
  subst he
  exact ⟨rfl, h3⟩

def intsB (xs : List Int) : List UInt8 := xs.flatMap fun x => natB (fz x)
theorem intsB_take {xs : List Int} {k : Nat} (h : k < xs.length) : intsB (xs.take (k + 1)) = intsB (xs.take k) ++ natB (fz (xs.getD k 0)) := by
  unfold intsB
  rw [List.take_succ_eq_append_getElem h, List.flatMap_append, List.getD_eq_getElem?_getD, List.getElem?_eq_getElem h]
  simp
theorem intsB_len {xs : List Int} (h : ∀ x ∈ xs, -9223372036854775808 ≤ x ∧ x ≤ 9223372036854775807) : (intsB xs).length ≤ 10 * xs.length := by
  induction xs with
  | nil => simp [intsB]
  | cons x xs ih =>
    have h0 := h x (by simp)
    have h1 := natB_len10 (n := fz x) (fz_lt h0.1 h0.2)
    have h2 := ih (fun y hy => h y (by simp [hy]))
    have e : intsB (x :: xs) = natB (fz x) ++ intsB xs := by simp [intsB]
    rw [e, List.length_append, List.length_cons]
    omega

end Go.Proofs.Ytgbbckjbpgojaaa
