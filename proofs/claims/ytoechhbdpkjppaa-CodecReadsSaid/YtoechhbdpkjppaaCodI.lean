/- codec's writer: whole numbers, flags, texts; its bytes. -/
import Derived.Test.YtoechhbdpkjppaaCodH
namespace Go.Proofs.Ytoechhbdpkjppaa
open Go.RowKit

/-- The natural number that a whole one is written as. -/
def fz (n : Int) : Nat := if n < 0 then (-2 * n - 1).toNat else (2 * n).toNat
theorem fz_lt {n : Int} (h0 : -9223372036854775808 ≤ n) (h1 : n ≤ 9223372036854775807) : fz n < 18446744073709551616 := by unfold fz; split <;> omega
theorem zz_fz {n : Int} : zz (fz n) = n := by unfold zz fz; split <;> split <;> omega
theorem fz_zz {n : Nat} : fz (zz n) = n := by unfold zz fz; split <;> split <;> omega

theorem ret_u64 {a b : Int} (h : a = b) : Ending.returned (.int .u64 a) = .returned (.int .u64 b) := by rw [h]
theorem or_odd {k : Nat} (h : 2 * k + 1 < 18446744073709551616) : bits .or .u64 ((2 * k : Nat) : Int) 1 = ((2 * k + 1 : Nat) : Int) := by
  have := bits_or_u64_nat (2 * k) 1 (by omega) (by omega)
  rw [show ((1 : Nat) : Int) = 1 from rfl] at this
  rw [this]
  have h2 := Nat.two_pow_add_eq_or_of_lt (i := 1) (b := 1) (by omega) k
  rw [show (2 : Nat) ^ 1 = 2 from rfl] at h2
  rw [h2]

theorem or_neg {k : Nat} (h : (k : Int) ≤ 9223372036854775807) : bits .or .u64 (IntKind.u64.wrap (IntKind.u64.wrap (k : Int) * 2)) 1 = ((2 * k + 1 : Nat) : Int) := by
  have e1 : IntKind.u64.wrap (k : Int) = (k : Int) := by rw [IntKind.wrap_u64]; omega
  have e2 : IntKind.u64.wrap ((k : Int) * 2) = ((2 * k : Nat) : Int) := by rw [IntKind.wrap_u64]; omega
  rw [e1, e2, or_odd (by omega)]

set_option maxHeartbeats 1000000 in
theorem fold_c (n : Int) (h0 : -9223372036854775808 ≤ n) (h1 : n ≤ 9223372036854775807) (w : World) :
    Calls Try.prog 51 #[.int .i64 n] w fun e w' => e = .returned (.int .u64 (fz n : Int)) ∧ w = w' := by
  obtain ⟨z, hz⟩ : ∃ z, z = fz n := ⟨_, rfl⟩
  rw [← hz]
  have Hz := Lib.hid hz; clear hz
  by_cases hn : n < 0
  · have hx := xor_all n h0 h1
    obtain ⟨k, hk⟩ : ∃ k : Nat, (k : Int) = -n - 1 := ⟨(-n - 1).toNat, by omega⟩
    rw [← hk] at hx
    have k1 : (k : Int) ≤ 9223372036854775807 := by omega
    have Hk := Lib.hid hk; clear hk
    have Hzz : Hid (((2 * k + 1 : Nat) : Int) = (z : Int)) := by
      show _ = _
      have h2 := Hk.out; have h3 := Hz.out
      unfold fz at h3
      rw [if_pos hn] at h3
      omega
    go_enter Try.func51, Try.ntmps51
    go_wp2
    go_ret
    exact ⟨ret_u64 ((or_neg k1).trans Hzz.out), rfl⟩
  · have hn' : 0 ≤ n := by omega
    have Hzz : Hid (n * 2 = (z : Int)) := by
      show _ = _
      have h3 := Hz.out
      unfold fz at h3
      rw [if_neg hn] at h3
      omega
    clear hn
    go_enter Try.func51, Try.ntmps51
    go_wp2
    go_ret
    exact ⟨ret_u64 Hzz.out, rfl⟩

/-- One number is written. -/
theorem wNat1_c (g x : Nat) (S : Nat → Prop) (bs : List UInt8) (w : World) (h : WS w g S bs) (hx : x < 2 ^ 64) (hsum : bs.length ≤ 800000000) :
    Calls Try.prog 15 #[.pointer (some ⟨g, 0, none⟩), .slice (some ⟨w.heap.size, 0, none⟩) 1 1] (w.alloc (.cells #[.int .u64 (x : Int)] 29)) fun e w' => e = .returned (.tuple #[]) ∧ Hid (Added g S (bs ++ natB x) w (.returned (.tuple #[])) w') := by
  have hb : Below w.heap.size w (w.alloc (.cells #[.int .u64 (x : Int)] 29)) := (Below.refl _ _).alloc (Nat.le_refl _) _
  have := wNat_c g 1 1 (some ⟨w.heap.size, 0, none⟩) S bs [x] _ (h.below hb) rfl (by intro y hy; simp at hy; subst hy; exact hx)
    (.inr ⟨w.heap.size, 0, rfl, by simp, fun hS => by have := h.lt _ hS; omega, fun i hi => by
      obtain rfl : i = 0 := by omega
      rw [cell_of_row _ _ _ _ _ _ (heap_alloc_new w _)]; rfl⟩) (by omega)
  rw [show natsB [x] = natB x by simp [natsB]] at this
  refine this.mono fun e w2 h2 => ?_
  have h3 := h2.back (Fr.of_below hb) (fun j hj => .inl hj)
  have he := h3.1
  subst he
  exact ⟨rfl, h3⟩

def intsB (xs : List Int) : List UInt8 := xs.flatMap fun x => natB (fz x)
theorem intsB_take {xs : List Int} {k : Nat} (h : k < xs.length) : intsB (xs.take (k + 1)) = intsB (xs.take k) ++ natB (fz (xs.getD k 0)) := by
  unfold intsB
  rw [List.take_succ_eq_append_getElem h, List.flatMap_append, List.getD_eq_getElem?_getD, List.getElem?_eq_getElem h]
  simp
theorem intsB_len {xs : List Int} (h : ∀ x ∈ xs, -9223372036854775808 ≤ x ∧ x ≤ 9223372036854775807) : (intsB xs).length ≤ 10 * xs.length := by
  induction xs with
  | nil => simp [intsB]
  | cons x xs ih =>
    have h0 := h x (by simp)
    have h1 := natB_len10 (n := fz x) (fz_lt h0.1 h0.2)
    have h2 := ih (fun y hy => h y (by simp [hy]))
    have e : intsB (x :: xs) = natB (fz x) ++ intsB xs := by simp [intsB]
    rw [e, List.length_append, List.length_cons]
    omega

set_option maxHeartbeats 4000000 in
set_option maxRecDepth 100000 in
theorem wInt_c (g n c : Nat) (A : Option Addr) (S : Nat → Prop) (bs : List UInt8) (xs : List Int) (w : World) (h : WS w g S bs) (hl : xs.length = n) (hx : ∀ x ∈ xs, -9223372036854775808 ≤ x ∧ x ≤ 9223372036854775807)
    (hA : n = 0 ∨ ∃ b off, A = some ⟨b, off, none⟩ ∧ b < w.heap.size ∧ ¬ S b ∧ ∀ i, i < n → w.cell? ⟨b, off + i, none⟩ = some (.int .i64 (xs.getD i 0))) (hsum : bs.length + 10 * n ≤ 800000000) :
    Calls Try.prog 17 #[.pointer (some ⟨g, 0, none⟩), .slice A n c] w (Added g S (bs ++ intsB xs) w) := by
  have hn : (n : Int) ≤ 9223372036854775807 := by omega
  have Hh := Lib.hid h; clear h
  have Hl := Lib.hid hl; clear hl
  have Hx := Lib.hid hx; clear hx
  have HA := Lib.hid hA; clear hA
  go_enter Try.func17, Try.ntmps17
  go_wp2_with fail
  go_loopw [8] (fun i wr => ∃ k : Nat, k ≤ n ∧ i = .int .i64 (k : Int) ∧ Hid (Added g S (bs ++ intsB (xs.take k)) w (.returned (.tuple #[])) wr)) (fun i _ => n - (intOf i).toNat)
  case atStart => exact ⟨0, by omega, rfl, rfl, S, by simpa [intsB] using Hh.out, Fr.refl _ _, fun k hk => .inl hk⟩
  case round =>
    obtain ⟨k, hk, rfl, hd⟩ := hrel
    by_cases hlt : k < n
    · have hltI : (k : Int) < (n : Int) := by omega
      have hk0 : (0 : Int) ≤ (k : Int) := by omega
      obtain ⟨_, S1, hws, hfr, hsub⟩ := hd
      rcases HA.out with h0 | ⟨b, off, rfl, hb, hSb, hcells⟩
      · exfalso; omega
      have ck : wr.cell? ⟨b, off + k, none⟩ = some (.int .i64 (xs.getD k 0)) := by
        rw [World.cell?_of_block (w := w) (hfr.block b hb hSb)]; exact hcells k hlt
      have hlen := Hl.out
      have hmem : xs.getD k 0 ∈ xs := by
        rw [List.getD_eq_getElem?_getD, List.getElem?_eq_getElem (by omega)]; exact List.getElem_mem _
      have hxk := Hx.out _ hmem
      obtain ⟨x, hxx⟩ : ∃ x, x = xs.getD k 0 := ⟨_, rfl⟩
      rw [← hxx] at ck hxk
      have hpl : (intsB (xs.take k)).length ≤ 10 * k := by
        have := intsB_len (xs := xs.take k) (fun y hy => Hx.out y (List.mem_of_mem_take hy))
        rw [List.length_take] at this; omega
      have hF := Lib.hid (fun w => fold_c x hxk.1 hxk.2 w)
      have HAdd : Hid (Calls Try.prog 15 #[.pointer (some ⟨g, 0, none⟩), .slice (some ⟨wr.heap.size, 0, none⟩) 1 1] (wr.alloc (.cells #[.int .u64 (fz x : Int)] 29)) fun e w' => e = .returned (.tuple #[]) ∧ Hid (Added g S (bs ++ intsB (xs.take (k + 1))) w (.returned (.tuple #[])) w')) := by
        have := wNat1_c g (fz x) S1 _ wr hws (fz_lt hxk.1 hxk.2) (by rw [List.length_append]; omega)
        rw [List.append_assoc, hxx, ← intsB_take (by omega)] at this
        rw [hxx]
        refine this.mono fun e w2 h2 => ?_
        exact ⟨h2.1, h2.2.out.back hfr hsub⟩
      obtain ⟨z, hz⟩ : ∃ z, z = fz x := ⟨_, rfl⟩
      rw [← hz] at hF HAdd
      clear hws hfr hsub hcells hb hSb hlen hmem hxk hxx hpl hz
      go_wp2_with fail
      ((with_reducible refine (hF.out _).mono ?_); rintro e w1 ⟨rfl, rfl⟩)
      clear hF ck
      go_wp2_with fail
      ((with_reducible refine HAdd.out.mono ?_); rintro e w2 ⟨rfl, HD⟩)
      clear HAdd
      go_wp2_with fail
      exact ⟨⟨k + 1, by omega, by go_num, HD.out⟩, by simp [intOf]; omega⟩
    · have hkn : k = n := by omega
      subst hkn
      have HD : Hid (Added g S (bs ++ intsB xs) w (.returned (.tuple #[])) wr) := by
        have := hd.out
        rw [List.take_of_length_le (by have := Hl.out; omega)] at this
        exact this
      clear hd
      go_wp2_with fail
      go_end0
      exact HD.out

/-- One whole number is written. -/
theorem wInt1_c (g : Nat) (x : Int) (S : Nat → Prop) (bs : List UInt8) (w : World) (h : WS w g S bs) (hx : -9223372036854775808 ≤ x ∧ x ≤ 9223372036854775807) (hsum : bs.length ≤ 700000000) :
    Calls Try.prog 17 #[.pointer (some ⟨g, 0, none⟩), .slice (some ⟨w.heap.size, 0, none⟩) 1 1] (w.alloc (.cells #[.int .i64 x] 2)) fun e w' => e = .returned (.tuple #[]) ∧ Hid (Added g S (bs ++ natB (fz x)) w (.returned (.tuple #[])) w') := by
  have hb : Below w.heap.size w (w.alloc (.cells #[.int .i64 x] 2)) := (Below.refl _ _).alloc (Nat.le_refl _) _
  have := wInt_c g 1 1 (some ⟨w.heap.size, 0, none⟩) S bs [x] _ (h.below hb) rfl (by intro y hy; simp at hy; subst hy; exact hx)
    (.inr ⟨w.heap.size, 0, rfl, by simp, fun hS => by have := h.lt _ hS; omega, fun i hi => by
      obtain rfl : i = 0 := by omega
      rw [cell_of_row _ _ _ _ _ _ (heap_alloc_new w _)]; rfl⟩) (by omega)
  rw [show intsB [x] = natB (fz x) by simp [intsB]] at this
  refine this.mono fun e w2 h2 => ?_
  have h3 := h2.back (Fr.of_below hb) (fun j hj => .inl hj)
  have he := h3.1
  subst he
  exact ⟨rfl, h3⟩

theorem wFlag_c (g : Nat) (is : Bool) (S : Nat → Prop) (bs : List UInt8) (w : World) (h : WS w g S bs) (hsum : bs.length ≤ 700000000) :
    Calls Try.prog 19 #[.pointer (some ⟨g, 0, none⟩), .bool is] w fun e w' => e = .returned (.tuple #[]) ∧ Hid (Added g S (bs ++ natB (if is then 1 else 0)) w (.returned (.tuple #[])) w') := by
  have H := Lib.hid (wNat1_c g (if is then 1 else 0) S bs w h (by split <;> omega) (by omega))
  clear h hsum
  cases is
  · simp only [if_neg Bool.false_ne_true] at H ⊢
    rw [show (((0 : Nat) : Int)) = 0 from rfl] at H
    go_enter Try.func19, Try.ntmps19
    go_wp2_with fail
    ((with_reducible refine H.out.mono ?_); rintro e w2 ⟨rfl, HD⟩)
    clear H
    go_wp2_with fail
    go_end0
    exact ⟨rfl, HD⟩
  · simp only [if_pos] at H ⊢
    rw [show (((1 : Nat) : Int)) = 1 from rfl] at H
    go_enter Try.func19, Try.ntmps19
    go_wp2_with fail
    ((with_reducible refine H.out.mono ?_); rintro e w2 ⟨rfl, HD⟩)
    clear H
    go_wp2_with fail
    refine bodyPost_ret (results_none rfl _ _ _) rfl ?_
    exact ⟨rfl, HD⟩
end Go.Proofs.Ytoechhbdpkjppaa
