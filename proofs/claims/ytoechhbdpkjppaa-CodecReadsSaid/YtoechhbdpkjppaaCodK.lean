/- codec: Open; the chapter's example. -/
import Derived.Test.YtoechhbdpkjppaaCodJ
namespace Go.Proofs.Ytoechhbdpkjppaa
open Go.RowKit

/-- 'string(b)' of a slice that reads as bytes. -/
theorem conv_str {w : World} {A : Option Addr} {n c : Nat} {l : List UInt8} (h : SlB w A n l) : (convert 28 9 (.slice A n c)).run Try.prog w = .ok (Str l) w := by
  obtain ⟨hl, h2⟩ := h
  rcases h2 with h0 | ⟨b, off, rfl, _, hc⟩
  · subst h0
    have : l = [] := List.eq_nil_of_length_eq_zero hl
    subst this
    rw [run_convert_bytes_string w 28 9 5 A 0 c Try.underlying28 Try.underlying5 Try.underlying9]
    have h1 : ∀ a : Addr, (loadCells a 0).run Try.prog w = .ok #[] w := fun a => run_loadCells_list (P := Try.prog) w a [] (fun j v h => by simp at h)
    cases A <;> simp [Conv.bytesToString, h1]
    all_goals rfl
  · subst hl
    exact run_convert_bytes_back (P := Try.prog) w 28 9 5 ⟨b, off, none⟩ c l Try.underlying28 Try.underlying5 Try.underlying9 (fun j hj => by
      rw [addr_add, hc j hj, List.getD_eq_getElem?_getD, List.getElem?_eq_getElem hj]; rfl)

theorem Open_c (A : Option Addr) (n c : Nat) (l : List UInt8) (w : World) (h : SlB w A n l) :
    Calls Try.prog 24 #[.slice A n c] w fun e w' => e = .returned (.pointer (some ⟨w.heap.size, 0, none⟩)) ∧ w.alloc (.cells #[Str l, .bool false] 56) = w' := by
  have hcv := conv_str (c := c) h
  clear h
  go_enter Try.func24, Try.ntmps24
  go_wp2
  go_ret
  exact ⟨rfl, rfl⟩

theorem natB_300 : natB 300 = [172, 2] := by rw [natB_big (by omega), natB_small (by omega)]; rfl
theorem natB_one : natB 1 = [1] := by rw [natB_small (by omega)]; rfl
theorem natB_zero : natB 0 = [0] := by rw [natB_small (by omega)]; rfl
theorem WS.new (w : World) : WS (w.alloc (.cells #[.pointer none, .int .i64 0] 27)) w.heap.size (· = w.heap.size) [] :=
  ⟨rfl, fun k hk => by simp [hk], .inl ⟨rfl, heap_alloc_new w _⟩⟩
/-- A row of the call's own, read as bytes, empty or not. -/
theorem own_slb0 {w : World} {base n c : Nat} {A : Option Addr} {l : List UInt8} (h : w.ownsRow base 5 1 (.slice A n c) n (l.map byt)) : SlB w A n l := by
  rcases Nat.eq_zero_or_pos n with h0 | h0
  · subst h0
    have h1 := h.1
    exact ⟨by simpa using h1, .inl rfl⟩
  · obtain ⟨k, cap, hv, _, _, hs⟩ := own_slb h h0
    injection hv with h1 _ _
    rw [h1]; exact hs

set_option maxHeartbeats 4000000 in
set_option maxRecDepth 100000 in
theorem lives2_c (w : World) :
    Calls Try.prog 14 #[] w fun e w' => e = .returned (.bool true) ∧ Below w.heap.size w w' := by
  have h1 := wNat1_c w.heap.size 300 (· = w.heap.size) [] _ (WS.new w) (by omega) (by simp)
  rw [World.size_alloc, show ((300 : Nat) : Int) = 300 from rfl] at h1
  have H1 := Lib.hid h1; clear h1
  have H2 : Hid (∀ w1, Added w.heap.size (· = w.heap.size) ([] ++ natB 300) (w.alloc (.cells #[.pointer none, .int .i64 0] 27)) (.returned (.tuple #[])) w1 →
      Calls Try.prog 17 #[.pointer (some ⟨w.heap.size, 0, none⟩), .slice (some ⟨w1.heap.size, 0, none⟩) 1 1] (w1.alloc (.cells #[.int .i64 (-1)] 2)) fun e w' => e = .returned (.tuple #[]) ∧
        Hid (Below w.heap.size w w' ∧ w.heap.size < w'.heap.size ∧ ∃ S, WS w' w.heap.size S [172, 2, 1] ∧ ∀ k, S k → w.heap.size ≤ k)) := by
    intro w1 ⟨_, S1, hws, hfr, hsub⟩
    refine (wInt1_c w.heap.size (-1) S1 _ w1 hws (by omega) (by rw [natB_300]; simp)).mono fun e w2 h => ?_
    obtain ⟨he, _, S2, hws2, hfr2, hsub2⟩ := h
    have e1 : [] ++ natB 300 ++ natB (fz (-1)) = [172, 2, 1] := by
      rw [natB_300, show fz (-1) = 1 by decide, natB_one]; rfl
    rw [e1] at hws2
    have hb1 : Below w.heap.size w w1 := ((Below.refl _ _).alloc (Nat.le_refl _) _).trans (hfr.below (fun k hk => by rw [hk]; exact Nat.le_refl _) (by simp))
    have hS1 : ∀ k, S1 k → w.heap.size ≤ k := fun k hk => by
      rcases hsub k hk with h | h
      · rw [h]; exact Nat.le_refl _
      · simp at h; omega
    refine ⟨he, hb1.trans (hfr2.below hS1 hb1.size), ?_, S2, hws2, fun k hk => ?_⟩
    · have h1 := hfr.size
      have h2 := hfr2.size
      simp at h1
      omega
    · rcases hsub2 k hk with h | h
      · exact hS1 k h
      · have := hb1.size; omega
  go_enter Try.func14, Try.ntmps14
  go_wp2_with fail
  ((with_reducible refine H1.out.mono ?_); rintro e w1 ⟨rfl, hd1⟩)
  have H3 := Lib.hid (H2.out w1 hd1.out)
  clear H1 H2 hd1
  go_wp2_with fail
  ((with_reducible refine H3.out.mono ?_); rintro e w2 ⟨rfl, hd2⟩)
  clear H3
  have HO : Hid (∀ c, Calls Try.prog 24 #[.slice (some ⟨w2.heap.size, 0, none⟩) 2 c] (w2.alloc (.cells #[.int .u8 128, .int .u8 0] 5)) fun e w' => e = .returned (.pointer (some ⟨w2.heap.size + 1, 0, none⟩)) ∧ (w2.alloc (.cells #[.int .u8 128, .int .u8 0] 5)).alloc (.cells #[Str [128, 0], .bool false] 56) = w') := by
    intro c
    have := Open_c (some ⟨w2.heap.size, 0, none⟩) 2 c [128, 0] (w2.alloc (.cells #[.int .u8 128, .int .u8 0] 5)) ⟨rfl, .inr ⟨w2.heap.size, 0, rfl, by simp, fun i hi => by
      rw [cell_of_row _ _ _ _ _ _ (heap_alloc_new w2 _)]
      match i, hi with
      | 0, _ => rfl
      | 1, _ => rfl⟩⟩
    rw [World.size_alloc] at this
    exact this
  go_wp2_with fail
  ((with_reducible refine (HO.out _).mono ?_); rintro e w3 ⟨rfl, hw3⟩)
  have hrb : RB w3 (w2.heap.size + 1) [128, 0] false := by
    rw [← hw3]
    have := heap_alloc_new (w2.alloc (.cells #[.int .u8 128, .int .u8 0] 5)) (.cells #[Str [128, 0], .bool false] 56)
    rw [World.size_alloc] at this
    exact this
  have hb3 : Hid (Below w2.heap.size w2 w3) := by show Below _ _ _; rw [← hw3]; exact (((Below.refl _ _).alloc (Nat.le_refl _) _).alloc (by simp) _)
  have hz3 : w3.heap.size = w2.heap.size + 2 := by rw [← hw3]; simp
  have HZ3 := Lib.hid hz3
  clear hw3 HO hz3
  have HN := Lib.hid (rNat_bad (w2.heap.size + 1) [128, 0] false 9 w3 hrb (by decide))
  rw [show ((9 : Nat) : Int) = 9 from rfl] at HN
  clear hrb
  go_wp2_with fail
  ((with_reducible refine HN.out.mono ?_); rintro e w4 ⟨rfl, ht4, hr4⟩)
  obtain ⟨q, hq⟩ : ∃ q, q = w2.heap.size + 1 := ⟨_, rfl⟩
  rw [← hq] at ht4 hr4 ⊢
  have hws4 : Hid (∃ S, WS w4 w.heap.size S [172, 2, 1]) := by
    obtain ⟨S, hws, _⟩ := hd2.out.2.2
    refine ⟨S, (hws.below hb3.out).fr (Fr.tch ht4) (fun k hk e => ?_)⟩
    have := hws.lt k hk
    omega
  have hb4 : Hid (Below w.heap.size w w4) := by
    show Below _ _ _
    have h1 := hd2.out.1
    have h2 := hd2.out.2.1
    exact (h1.trans (hb3.out.mono h1.size)).trans (ht4.below (by omega) (by have := HZ3.out; omega))
  have HR4 := Lib.hid hr4
  have hq4 := hr4.lt
  have hqw : w.heap.size ≤ w4.heap.size := hb4.out.size
  clear ht4 hr4 hd2 hb3 HN hq
  have HB : Hid (∀ K : Prop, K → Calls Try.prog 23 #[.pointer (some ⟨w.heap.size, 0, none⟩)] w4 fun e w' => ∃ A c, e = .returned (.slice A 3 c) ∧ Hid (SlB w' A 3 [172, 2, 1] ∧ Below w4.heap.size w4 w')) := by
    intro K _
    obtain ⟨S, hws⟩ := hws4.out
    refine (Bytes_c w.heap.size S _ w4 hws (by simp)).mono fun e w' h => ?_
    obtain ⟨A, c, he, ho, hb⟩ := h
    exact ⟨A, c, he, own_slb0 ho, hb⟩
  go_wp2_with fail
  ((with_reducible refine (HB.out True trivial).mono ?_); rintro e w5 ⟨A, c, rfl, hs5⟩)
  have hcv := conv_str (c := c) hs5.out.1
  have hB5 : Hid (RB w5 q [] true) := hs5.out.2.block q hq4 |>.trans HR4.out
  have HBad := Lib.hid (Bad_c q [] true w5 hB5.out)
  have hfin : Hid (Below w.heap.size w w5) := hb4.out.trans (hs5.out.2.mono hqw)
  clear hs5 HB hws4 HR4 hb4
  go_wp2_with fail
  ((with_reducible refine HBad.out.mono ?_); rintro e w6 ⟨rfl, rfl⟩)
  go_wp2_with fail
  go_ret
  exact ⟨rfl, hfin.out⟩
end Go.Proofs.Ytoechhbdpkjppaa
