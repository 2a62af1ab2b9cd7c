/- parcel: Wrap. -/
import Derived.Test.YtgbbckjbpgojaaaPcD
namespace Go.Proofs.Ytgbbckjbpgojaaa
open Go.RowKit

/-- What stands ahead of the sum. -/
def headB (kd : Nat) (l : List UInt8) : List UInt8 := UInt8.ofNat kd :: (natB l.length ++ l)
/-- A parcel's bytes. -/
def wrapB (kd : Nat) (l : List UInt8) : List UInt8 := headB kd l ++ four (sumN (headB kd l))

theorem own_base {w : World} {base b n size : Nat} {e : TypeId} {v : Value} {xs : List Value} (h : w.ownsRow base e size v n xs) (hb : b ≤ base) : w.ownsRow b e size v n xs := by
  obtain ⟨h1, h2⟩ := h
  refine ⟨h1, ?_⟩
  rcases h2 with hn | ⟨k, cap, cur, rfl, hk, rest⟩
  · exact .inl hn
  · exact .inr ⟨k, cap, cur, rfl, Nat.le_trans hb hk, rest⟩
theorem own_bl {w w' : World} {base n size : Nat} {e : TypeId} {v : Value} {xs : List Value} (h : w.ownsRow base e size v n xs) (hb : Below w.heap.size w w') : w'.ownsRow base e size v n xs := by
  obtain ⟨h1, h2⟩ := h
  refine ⟨h1, ?_⟩
  rcases h2 with hn | ⟨k, cap, cur, rfl, hk, hg, rest⟩
  · exact .inl hn
  · exact .inr ⟨k, cap, cur, rfl, hk, (hb.block k (blk_lt hg)).trans hg, rest⟩
theorem wrap_zero (A : Option Addr) (n cap : Nat) (w : World) :
    Calls Try.prog 9 #[.int .u8 0, .slice A n cap] w fun e w' => e = .returned (.tuple #[.slice none 0 0, .int .i64 2]) ∧ w' = w := by
  go_enter Try.func9, Try.ntmps9
  go_wp2_with fail
  go_ret2
  exact ⟨rfl, rfl⟩
theorem wrap_long (kd : Nat) (h0 : 0 < kd) (A : Option Addr) (n cap : Nat) (hn : 65536 < n) (hn2 : n ≤ 1000000000) (w : World) :
    Calls Try.prog 9 #[.int .u8 (kd : Int), .slice A n cap] w fun e w' => e = .returned (.tuple #[.slice none 0 0, .int .i64 21]) ∧ w' = w := by
  have hk : ¬ (kd : Int) = 0 := by omega
  have hnI : (65536 : Int) < (n : Int) := by omega
  go_enter Try.func9, Try.ntmps9
  go_wp2_with fail
  go_ret2
  exact ⟨rfl, rfl⟩

set_option maxHeartbeats 8000000 in
set_option maxRecDepth 100000 in
theorem wrap_c (kd : Nat) (h0 : 0 < kd) (h1 : kd < 256) (A : Option Addr) (n cap : Nat) (l : List UInt8) (w : World) (h : SlB w A n l) (hn : n ≤ 65536) (hA : A = none → cap = 0) :
    Calls Try.prog 9 #[.int .u8 (kd : Int), .slice A n cap] w fun e w' => ∃ v, e = .returned (.tuple #[v, .int .i64 0]) ∧ Hid (w'.ownsRow w.heap.size 5 1 v (wrapB kd l).length ((wrapB kd l).map byt) ∧ Below w.heap.size w w') := by
  have hl := h.1
  have hk : ¬ (kd : Int) = 0 := by omega
  have hnI : (n : Int) ≤ 65536 := by omega
  have HS := Lib.hid h
  have HN := Lib.hid (And.intro hn hA)
  have HL := Lib.hid hl
  have HK := Lib.hid (And.intro h0 h1)
  have hw := wNat1_c w.heap.size n (· = w.heap.size) [] _ (WS.new w) (by omega) (by simp)
  rw [World.size_alloc] at hw
  have H1 := Lib.hid hw
  clear hw h hl hn hA h0 h1
  go_enter Try.func9, Try.ntmps9
  go_wp2_with fail
  ((with_reducible refine H1.out.mono ?_); rintro e w1 ⟨rfl, hd1⟩)
  clear H1
  have hS1 : Hid (∃ S, WS w1 w.heap.size S (natB n) ∧ (∀ k, S k → w.heap.size ≤ k) ∧ Below w.heap.size w w1) := by
    obtain ⟨_, S1, hws, hfr, hsub⟩ := hd1.out
    refine ⟨S1, by simpa using hws, fun k hk => ?_, ((Below.refl _ _).alloc (Nat.le_refl _) _).trans (hfr.below (fun k hk => by rw [hk]; exact Nat.le_refl _) (by simp))⟩
    rcases hsub k hk with h | h
    · rw [h]; exact Nat.le_refl _
    · simp at h; omega
  clear hd1
  have hnb : (natB n).length ≤ 10 := natB_len10 (by have := HN.out; omega)
  have hz1 : w.heap.size ≤ w1.heap.size := by obtain ⟨_, _, _, hb⟩ := hS1.out; exact hb.size
  have H2 : Hid (Calls Try.prog 21 #[.pointer (some ⟨w.heap.size, 0, none⟩)] (w1.alloc (.cells #[.int .u8 (kd : Int)] 5)) fun e w' => ∃ k c, e = .returned (.slice (some ⟨k, 0, none⟩) (natB n).length c) ∧ Hid (SlB w' (some ⟨k, 0, none⟩) (natB n).length (natB n) ∧ Below (w1.heap.size + 1) (w1.alloc (.cells #[.int .u8 (kd : Int)] 5)) w')) := by
    obtain ⟨S1, hws, _, _⟩ := hS1.out
    have := Bytes_c w.heap.size S1 (natB n) _ (hws.below (((Below.refl _ _).alloc (Nat.le_refl _) (.cells #[.int .u8 (kd : Int)] 5)))) (by omega)
    refine this.mono fun e w' ⟨A, c, he, h⟩ => ?_
    have h := h.out
    rw [World.size_alloc] at h
    obtain ⟨k, cap, hv, _, _, hs⟩ := own_slb h.1 (natB_pos n)
    injection hv with h1 _ _
    subst h1
    exact ⟨k, c, he, hs, h.2⟩
  have HZ1 := Lib.hid hz1
  clear hz1
  go_wp2_with fail
  ((with_reducible refine H2.out.mono ?_); rintro e w2 ⟨k2, c2, rfl, hd2⟩)
  clear H2
  go_wp2_with fail
  have H3 : Hid (∀ c, Calls Try.prog 20 #[.slice (some ⟨w2.heap.size, 0, none⟩) 3 c] (w2.alloc (.cells #[.slice (some ⟨w1.heap.size, 0, none⟩) 1 1, .slice (some ⟨k2, 0, none⟩) (natB n).length c2, .slice A n cap] 22)) fun e w' => ∃ k c, e = .returned (.slice (some ⟨k, 0, none⟩) (headB kd l).length c) ∧ Hid (w'.ownsRow w.heap.size 5 1 (.slice (some ⟨k, 0, none⟩) (headB kd l).length c) (headB kd l).length ((headB kd l).map byt) ∧ Below w.heap.size w w' ∧ SlB w' (some ⟨k, 0, none⟩) (headB kd l).length (headB kd l))) := by
    intro c
    obtain ⟨S1, _, _, hb1⟩ := hS1.out
    obtain ⟨hs2, hb2⟩ := hd2.out
    have hz1 := HZ1.out
    have hz2 := hb2.size
    rw [World.size_alloc] at hz2
    have hh : (headB kd l).length = 1 + (natB n).length + n := by
      unfold headB; simp [HL.out]; omega
    have hbW : Below w.heap.size w (w2.alloc (.cells #[.slice (some ⟨w1.heap.size, 0, none⟩) 1 1, .slice (some ⟨k2, 0, none⟩) (natB n).length c2, .slice A n cap] 22)) := ((hb1.alloc hz1 _).trans (hb2.mono (by omega))).alloc (by omega) _
    have hP : Parts (w2.alloc (.cells #[.slice (some ⟨w1.heap.size, 0, none⟩) 1 1, .slice (some ⟨k2, 0, none⟩) (natB n).length c2, .slice A n cap] 22)) w2.heap.size [⟨some ⟨w1.heap.size, 0, none⟩, 1, 1, [UInt8.ofNat kd]⟩, ⟨some ⟨k2, 0, none⟩, (natB n).length, c2, natB n⟩, ⟨A, n, cap, l⟩] := by
      have hba : Below w2.heap.size w2 (w2.alloc (.cells #[.slice (some ⟨w1.heap.size, 0, none⟩) 1 1, .slice (some ⟨k2, 0, none⟩) (natB n).length c2, .slice A n cap] 22)) := (Below.refl _ _).alloc (Nat.le_refl _) _
      refine ⟨by simp, fun i hi => ?_⟩
      rw [cell_of_row _ _ _ _ _ _ (heap_alloc_new w2 _)]
      match i, hi with
      | 0, _ =>
        refine ⟨rfl, ?_, fun h => by cases h⟩
        refine SlB.fr0 (S := fun _ => False) (w := w2) ⟨rfl, .inr ⟨w1.heap.size, 0, rfl, by omega, fun i hi => ?_⟩⟩ (Fr.of_below hba) (fun _ _ _ h => h)
        have hi : i < 1 := hi
        obtain rfl : i = 0 := by omega
        rw [hb2.cell (p := ⟨w1.heap.size, 0 + 0, none⟩) (by show w1.heap.size < w1.heap.size + 1; omega), cell_of_row _ _ _ _ _ _ (heap_alloc_new w1 _)]
        show some (Value.int .u8 (kd : Int)) = some (.int .u8 ((UInt8.ofNat kd).toNat : Int))
        rw [ofNat_toNat HK.out.2]
      | 1, _ => exact ⟨rfl, hs2.fr0 (S := fun _ => False) (Fr.of_below hba) (fun _ _ _ h => h), fun h => by cases h⟩
      | 2, _ =>
        exact ⟨rfl, HS.out.fr0 (S := fun _ => False) (Fr.of_below hbW) (fun _ _ _ h => h), HN.out.2⟩
    have e1 : lenP [⟨some ⟨w1.heap.size, 0, none⟩, 1, 1, [UInt8.ofNat kd]⟩, ⟨some ⟨k2, 0, none⟩, (natB n).length, c2, natB n⟩, ⟨A, n, cap, l⟩] = (headB kd l).length := by rw [hh]; simp [lenP]; omega
    have hn0 := HN.out.1
    have := concat_c w2.heap.size c _ _ hP (by simp) (by rw [e1, hh]; omega) (by rw [e1, hh]; omega)
    refine this.mono fun e w' ⟨v, he, h⟩ => ?_
    obtain ⟨h, hb3⟩ := h
    have hb3 := hb3.out
    have e2 : bytP [⟨some ⟨w1.heap.size, 0, none⟩, 1, 1, [UInt8.ofNat kd]⟩, ⟨some ⟨k2, 0, none⟩, (natB n).length, c2, natB n⟩, ⟨A, n, cap, l⟩] = headB kd l := by simp [bytP, headB, HL.out]
    rw [e1, e2] at h
    obtain ⟨k, c, hv, hk, hk', hs⟩ := own_slb h (by omega)
    subst hv
    exact ⟨k, c, he, own_base h (by simp; omega), hbW.trans (hb3.mono (by simp; omega)), hs⟩
  have HZ2 : Hid (w.heap.size ≤ w2.heap.size) := by
    have hb2 := hd2.out.2.size
    have := HZ1.out
    rw [World.size_alloc] at hb2
    show _ ≤ _
    omega
  clear hd2 hS1 HS HZ1
  ((with_reducible refine (H3.out _).mono ?_); rintro e w3 ⟨k3, c3, rfl, hd3⟩)
  clear H3 HZ2
  have hhl : (headB kd l).length = 1 + (natB n).length + n := by
    unfold headB; simp [HL.out]; omega
  obtain ⟨m, hm⟩ : ∃ m, m = (headB kd l).length := ⟨_, rfl⟩
  rw [← hm] at hd3 hhl ⊢
  have hm1 : m ≤ 70000 := by have := HN.out.1; omega
  have H4 : Hid (∀ c, Calls Try.prog 11 #[.slice (some ⟨k3, 0, none⟩) m c] w3 fun e w' => e = .returned (.int .u32 (sumN (headB kd l) : Int)) ∧ Below w3.heap.size w3 w') := fun c => sum_c _ m c _ w3 hd3.out.2.2 (by omega)
  clear hhl
  have hmI : (m : Int) ≤ 70000 := by omega
  have HM := Lib.hid hm
  clear hm hm1
  go_wp2_with fail
  ((with_reducible refine (H4.out _).mono ?_); rintro e w4 ⟨rfl, hb4⟩)
  clear H4
  obtain ⟨sm, hsm⟩ : ∃ sm, sm = sumN (headB kd l) := ⟨_, rfl⟩
  rw [← hsm]
  have H5 := Lib.hid (low_c sm (by rw [hsm]; unfold sumN; omega) w4)
  have HSm := Lib.hid hsm
  obtain ⟨ho3, hb3, _⟩ := hd3.out
  have HO := Lib.hid (own_bl ho3 hb4)
  have HB4 := Lib.hid (hb3.trans (hb4.mono hb3.size))
  clear hd3 ho3 hb3 hb4 hsm
  go_wp2_with fail
  ((with_reducible refine H5.out.mono ?_); rintro e w5 ⟨A5, c5, rfl, hd5⟩)
  clear H5
  obtain ⟨hb5, hs5, _, k5, rfl, _⟩ := hd5.out
  obtain ⟨i0, hi0, hz0, hz1, hz2⟩ := info_parts info_u8
  have hown := own_bl HO.out hb5
  have hB5 : Hid (Below w.heap.size w w5) := HB4.out.trans (hb5.mono HB4.out.size)
  have hsz := hB5.out.size
  have hnews : ∀ (i : Nat) (u : Value), ((four sm).map byt)[i]? = some u → w5.cell? ((⟨k5, 0, none⟩ : Addr).add i) = some u := by
    rcases hs5.2 with h | ⟨b, off, h, _, hc⟩
    · cases h
    · injection h with h
      rw [h]
      exact SlB.news hs5.1 hc
  have HNw := Lib.hid hnews
  clear hd5 hb5 hs5 HO HB4 hnews
  go_wp2_with (at_builtin; refine wpList_append_own _ rfl _ _ 22 rfl w.heap.size 5 i0 (.int .u8 0) 1 1 Try.underlying22 hi0 hz0 hz1 hz2 rfl (by decide) _ _ _ rfl hown ⟨k5, 0, none⟩ 4 c5 ((four sm).map byt) rfl ?c0 ?c1 ?c2 ?c3 ?c4 ?c5 ?_)
  case c0 => rw [List.length_map, four_len]
  case c1 => exact HNw.out
  case c2 => exact byt_one _
  case c3 => unfold maxLen; omega
  case c4 => omega
  case c5 => exact hsz
  intro v1 w6 hown1 hg1 _
  have hB1 : Hid (Below w.heap.size w w6) := Below.grown hB5.out hg1 hsz (fun i hi => (hown.lt i hi).1)
  rw [← List.map_append] at hown1
  have hW : Hid (w6.ownsRow w.heap.size 5 1 v1 (wrapB kd l).length ((wrapB kd l).map byt)) := by
    have e1 : (wrapB kd l).length = m + 4 := by unfold wrapB; rw [List.length_append, four_len, ← HM.out]
    have e2 : wrapB kd l = headB kd l ++ four sm := by unfold wrapB; rw [HSm.out]
    show World.ownsRow _ _ _ _ _ _ _
    rw [e1, e2]
    exact hown1
  clear hg1 hown hown1 HNw hB5
  go_wp2_with fail
  go_ret2
  exact ⟨_, rfl, hW.out, hB1.out⟩
end Go.Proofs.Ytgbbckjbpgojaaa
