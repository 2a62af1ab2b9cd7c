/- codec's writer: natural numbers, whole ones, flags, texts. -/
import Derived.Test.YtgbbckjbpgojaaaCodG
namespace Go.Proofs.Ytgbbckjbpgojaaa
open Go.RowKit

/-- A row of the call's own reads as bytes; it lies at no block that was there. -/
theorem own_slb {w : World} {base n : Nat} {v : Value} {l : List UInt8} (h : w.ownsRow base 5 1 v n (l.map byt)) (hn : 0 < n) :
    ∃ k cap, v = .slice (some ⟨k, 0, none⟩) n cap ∧ base ≤ k ∧ k < w.heap.size ∧ SlB w (some ⟨k, 0, none⟩) n l := by
  obtain ⟨h1, h2⟩ := h
  rw [List.length_map, Nat.mul_one] at h1
  rcases h2 with ⟨_, h0⟩ | ⟨k, cap, cur, rfl, hb, hk, hc, hm, hs, ht⟩
  · omega
  · refine ⟨k, cap, rfl, hb, blk_lt hk, h1, .inr ⟨k, 0, rfl, blk_lt hk, fun i hi => ?_⟩⟩
    have hx : (l.map byt)[i]? = some (byt (l.getD i 0)) := by
      rw [List.getElem?_map, List.getD_eq_getElem?_getD, List.getElem?_eq_getElem (by omega)]; rfl
    rw [Nat.zero_add, cell_of_row _ _ _ _ _ _ hk]
    rw [← ht, List.getElem?_take] at hx
    split at hx
    · rw [Array.getElem?_toList] at hx; exact hx
    · cases hx

theorem WS.lt {w : World} {g : Nat} {S : Nat → Prop} {bs : List UInt8} (h : WS w g S bs) : ∀ k, S k → k < w.heap.size := h.2.1
theorem WS.below {w w' : World} {g : Nat} {S : Nat → Prop} {bs : List UInt8} (h : WS w g S bs) (hb : Below w.heap.size w w') : WS w' g S bs :=
  h.fr (S' := fun _ => False) (Fr.of_below hb) (fun _ _ h => h)

/-- Natural numbers in a slice. -/
def SlN (w : World) (k : IntKind) (A : Option Addr) (n : Nat) (xs : List Int) : Prop :=
  xs.length = n ∧ (n = 0 ∨ ∃ b off, A = some ⟨b, off, none⟩ ∧ b < w.heap.size ∧ ∀ i, i < n → w.cell? ⟨b, off + i, none⟩ = some (.int k (xs.getD i 0)))

def natsB (xs : List Nat) : List UInt8 := xs.flatMap natB
theorem natsB_take {xs : List Nat} {k : Nat} (h : k < xs.length) : natsB (xs.take (k + 1)) = natsB (xs.take k) ++ natB (xs.getD k 0) := by
  unfold natsB
  rw [List.take_succ_eq_append_getElem h, List.flatMap_append, List.getD_eq_getElem?_getD, List.getElem?_eq_getElem h]
  simp
theorem natsB_len {xs : List Nat} (h : ∀ x ∈ xs, x < 2 ^ 64) : (natsB xs).length ≤ 10 * xs.length := by
  induction xs with
  | nil => simp [natsB]
  | cons x xs ih =>
    have h1 := natB_len10 (h x (by simp))
    have h2 := ih (fun y hy => h y (by simp [hy]))
    have e : natsB (x :: xs) = natB x ++ natsB xs := by simp [natsB]
    rw [e, List.length_append, List.length_cons]
    omega

theorem groups_s (n : Nat) (h : n < 18446744073709551616) (w : World) :
    Calls Try.prog 29 #[.int .u64 (n : Int)] w fun e w' => ∃ q cap, e = .returned (.slice (some ⟨q, 0, none⟩) (natB n).length cap) ∧ Hid (w.heap.size ≤ q ∧ SlB w' (some ⟨q, 0, none⟩) (natB n).length (natB n) ∧ Below w.heap.size w w') :=
  (groups_c n h w).mono fun e w' ⟨v, he, hown, hb⟩ => by
    obtain ⟨q, cap, hv, hq, _, hs⟩ := own_slb hown (natB_pos n)
    exact ⟨q, cap, by rw [he, hv], hq, hs, hb⟩

set_option maxHeartbeats 4000000 in
set_option maxRecDepth 100000 in
theorem wNat_c (g n c : Nat) (A : Option Addr) (S : Nat → Prop) (bs : List UInt8) (xs : List Nat) (w : World) (h : WS w g S bs) (hl : xs.length = n) (hx : ∀ x ∈ xs, x < 2 ^ 64)
    (hA : n = 0 ∨ ∃ b off, A = some ⟨b, off, none⟩ ∧ b < w.heap.size ∧ ¬ S b ∧ ∀ i, i < n → w.cell? ⟨b, off + i, none⟩ = some (.int .u64 ((xs.getD i 0 : Nat) : Int))) (hsum : bs.length + 10 * n ≤ 900000000) :
    Calls Try.prog 19 #[.pointer (some ⟨g, 0, none⟩), .slice A n c] w (Added g S (bs ++ natsB xs) w) := by
  have hn : (n : Int) ≤ 9223372036854775807 := by omega
  have Hh := Lib.hid h; clear h
  have Hl := Lib.hid hl; clear hl
  have Hx := Lib.hid hx; clear hx
  have HA := Lib.hid hA; clear hA
  go_enter Try.func19, Try.ntmps19
  go_wp2_with fail
  go_loopw [8] (fun i wr => ∃ k : Nat, k ≤ n ∧ i = .int .i64 (k : Int) ∧ Hid (Added g S (bs ++ natsB (xs.take k)) w (.returned (.tuple #[])) wr)) (fun i _ => n - (intOf i).toNat)
  case atStart => exact ⟨0, by omega, rfl, rfl, S, by simpa [natsB] using Hh.out, Fr.refl _ _, fun k hk => .inl hk⟩
  case round =>
    obtain ⟨k, hk, rfl, hd⟩ := hrel
    by_cases hlt : k < n
    · have hltI : (k : Int) < (n : Int) := by omega
      have hk0 : (0 : Int) ≤ (k : Int) := by omega
      obtain ⟨_, S1, hws, hfr, hsub⟩ := hd
      rcases HA.out with h0 | ⟨b, off, rfl, hb, hSb, hcells⟩
      · exfalso; omega
      have ck : wr.cell? ⟨b, off + k, none⟩ = some (.int .u64 ((xs.getD k 0 : Nat) : Int)) := by
        rw [World.cell?_of_block (w := w) (hfr.block b hb hSb)]; exact hcells k hlt
      have hlen := Hl.out
      have hmem : xs.getD k 0 ∈ xs := by
        rw [List.getD_eq_getElem?_getD, List.getElem?_eq_getElem (by omega)]; exact List.getElem_mem _
      have hxk := Hx.out _ hmem
      obtain ⟨x, hxx⟩ : ∃ x, x = xs.getD k 0 := ⟨_, rfl⟩
      rw [← hxx] at ck hxk
      have hpl : (natsB (xs.take k)).length ≤ 10 * k := by
        have := natsB_len (xs := xs.take k) (fun y hy => Hx.out y (List.mem_of_mem_take hy))
        rw [List.length_take] at this; omega
      have hGr := Lib.hid (fun w => groups_s x (by omega) w)
      have h10 := natB_len10 hxk
      have hp := natB_pos x
      have HAdd : Hid (∀ q cap w1, wr.heap.size ≤ q ∧ SlB w1 (some ⟨q, 0, none⟩) (natB x).length (natB x) ∧ Below wr.heap.size wr w1 →
          Calls Try.prog 28 #[.pointer (some ⟨g, 0, none⟩), .slice (some ⟨q, 0, none⟩) (natB x).length cap] w1 fun e w' => e = .returned (.tuple #[]) ∧ Hid (Added g S (bs ++ natsB (xs.take (k + 1))) w (.returned (.tuple #[])) w')) := by
        intro q cap w1 ⟨hq, hsl, hbl⟩
        have hw1 := hws.below hbl
        have := add_c g _ cap _ S1 _ (natB x) w1 hw1 hsl ⟨q, 0, rfl, fun hS => by have := hws.lt q hS; omega⟩ (.inl hp) (by rw [List.length_append]; omega)
        rw [List.append_assoc, hxx, ← natsB_take (by omega)] at this
        rw [hxx]
        refine this.mono fun e w2 h2 => ?_
        have h3 := (h2.back (Fr.of_below hbl) (fun j hj => .inl hj)).back hfr hsub
        have he := h3.1
        subst he
        exact ⟨rfl, h3⟩
      have Hxx := Lib.hid hxx
      clear hws hfr hsub hcells hb hSb hlen hmem hxk hxx hpl h10 hp
      go_wp2_with fail
      ((with_reducible refine (hGr.out _).mono ?_); rintro e w1 ⟨q, cap, rfl, hq⟩)
      have Hadd := Lib.hid (HAdd.out q cap w1 hq.out)
      clear hq HAdd hGr ck
      go_wp2_with fail
      ((with_reducible refine Hadd.out.mono ?_); rintro e w2 ⟨rfl, HD⟩)
      clear Hadd
      go_wp2_with fail
      exact ⟨⟨k + 1, by omega, by go_num, HD.out⟩, by simp [intOf]; omega⟩
    · have hkn : k = n := by omega
      subst hkn
      have HD : Hid (Added g S (bs ++ natsB xs) w (.returned (.tuple #[])) wr) := by
        have := hd.out
        rw [List.take_of_length_le (by have := Hl.out; omega)] at this
        exact this
      clear hd
      go_wp2_with fail
      go_end0
      exact HD.out
end Go.Proofs.Ytgbbckjbpgojaaa
