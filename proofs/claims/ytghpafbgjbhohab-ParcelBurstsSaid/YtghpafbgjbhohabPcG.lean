/- parcel: the reference's parcel. -/
import Derived.Test.YtghpafbgjbhohabPcF
namespace Go.Proofs.Ytghpafbgjbhohab
open Go.RowKit

set_option maxHeartbeats 8000000 in
set_option maxRecDepth 100000 in
theorem rBytes_c (kd : Nat) (h0 : 0 < kd) (h1 : kd < 256) (A : Option Addr) (n cap : Nat) (l : List UInt8) (w : World) (h : SlB w A n l) (hn : n ≤ 65536) :
    Calls Try.prog 22 #[.int .u8 (kd : Int), .slice A n cap] w fun e w' => ∃ v, e = .returned v ∧ Hid (OwnN w v (wrapB kd l) w') := by
  obtain ⟨i0, hi0, hz0, hz1, hz2⟩ := info_parts info_u8
  have hl := h.1
  have HK := Lib.hid (And.intro h0 h1)
  have hba : ∀ o, Below w.heap.size w (w.alloc o) := fun o => (Below.refl _ _).alloc (Nat.le_refl _) o
  have hcv := fun o => conv_str (c := cap) (h.fr0 (S := fun _ => False) (Fr.of_below (hba o)) (fun _ _ _ h => h))
  have hsz : (ByteArray.mk l.toArray).size = n := by rw [← hl]; simp [ByteArray.size]
  have hsl : (ByteArray.mk l.toArray).data.toList = l := by simp
  have HT : Hid (∀ W, Calls Try.prog 33 #[Str l] W fun e w' => ∃ q c, e = .returned (.slice (some ⟨q, 0, none⟩) ((natB n).length + n) c) ∧ Hid (NewB W w' q ((natB n).length + n) c (natB n ++ l))) := fun W => by
    have := refText_c (ByteArray.mk l.toArray) (by omega) W
    rw [hsz, hsl] at this
    exact this
  have HL := Lib.hid hl
  have HN := Lib.hid hn
  clear h h0 h1 hl hsz hsl hn
  go_enter Try.func22, Try.ntmps22
  go_wp2_with fail
  ((with_reducible refine (HT.out _).mono ?_); rintro e w1 ⟨q, c, rfl, hq⟩)
  have hbw : Below w.heap.size w w1 := (hba _).trans (hq.out.2.2.2.mono (by simp))
  have hkd : Value.int .u8 (kd : Int) = byt (UInt8.ofNat kd) := by
    show _ = Value.int .u8 ((UInt8.ofNat kd).toNat : Int)
    rw [ofNat_toNat HK.out.2]
  have HO : Hid (w1.ownsRow w.heap.size 5 1 (.slice (some ⟨w.heap.size, 0, none⟩) 1 1) 1 ([UInt8.ofNat kd].map byt)) := by
    have := own_bl (lit_one w (UInt8.ofNat kd)) (w' := w1) (by rw [← hkd]; exact hq.out.2.2.2)
    exact this
  have hnews : ∀ (i : Nat) (u : Value), ((natB n ++ l).map byt)[i]? = some u → w1.cell? ((⟨q, 0, none⟩ : Addr).add i) = some u := by
    rcases hq.out.2.1.2 with h | ⟨b, off, h, _, hc⟩
    · have := natB_pos n; omega
    · injection h with h
      rw [h]
      exact SlB.news hq.out.2.1.1 hc
  have HNw := Lib.hid hnews
  have hnb : (natB n).length ≤ 10 := natB_len10 (by have := HN.out; omega)
  obtain ⟨m, hm⟩ : ∃ m, m = (natB n).length + n := ⟨_, rfl⟩
  rw [← hm]
  have hmI : (m : Int) ≤ 70000 := by have := HN.out; omega
  have hml : (natB n ++ l).length = m := by rw [List.length_append, HL.out, hm]
  have HB := Lib.hid hbw
  have hsz := hbw.size
  have Hml := Lib.hid hml
  clear HT hcv hba hq hbw hnews hkd hnb hm hml
  go_wp2_with (at_builtin; refine wpList_append_own _ rfl _ _ 22 rfl w.heap.size 5 i0 (.int .u8 0) 1 1 Try.underlying22 hi0 hz0 hz1 hz2 rfl (by decide) _ _ _ rfl HO.out ⟨q, 0, none⟩ m c ((natB n ++ l).map byt) rfl ?c0 HNw.out (byt_one _) ?c1 ?c2 ?c3 ?_)
  case c0 => rw [List.length_map, Hml.out, Nat.mul_one]
  case c1 => unfold maxLen; omega
  case c2 => omega
  case c3 => exact hsz
  intro v2 w2 hown2 hg2 _
  have hB2 : Hid (Below w.heap.size w w2) := Below.grown HB.out hg2 hsz (fun i hi => (HO.out.lt i hi).1)
  have hh : (headB kd l).length = 1 + m := by unfold headB; rw [HL.out, List.length_cons, Hml.out, Nat.add_comm]
  have hho : w2.ownsRow w.heap.size 5 1 v2 (1 + m) ((headB kd l).map byt) := by
    unfold headB
    rw [HL.out, List.map_cons, List.map_append]
    exact hown2
  obtain ⟨k2, c2, rfl, _, _, hs2⟩ := own_slb hho (by omega)
  have HO2 := Lib.hid hho
  have HS2 := Lib.hid hs2
  have HH := Lib.hid hh
  have H3 : Hid (∀ c, Calls Try.prog 12 #[.slice (some ⟨k2, 0, none⟩) (1 + m) c] w2 fun e w' => e = .returned (.int .u32 (sumN (headB kd l) : Int)) ∧ w2 = w') := fun c => rSum_c _ (1 + m) c _ w2 hs2 (by omega)
  clear hown2 hg2 HO HNw HB hho hs2 hh hsz
  go_wp2_with fail
  ((with_reducible refine (H3.out _).mono ?_); rintro e w3 ⟨rfl, hw3⟩)
  subst hw3
  clear H3
  obtain ⟨sm, hsm⟩ : ∃ sm, sm = sumN (headB kd l) := ⟨_, rfl⟩
  rw [← hsm]
  have H5 := Lib.hid (rfour_c sm (by rw [hsm]; unfold sumN; omega) w2)
  have HSm := Lib.hid hsm
  clear hsm
  go_wp2_with fail
  ((with_reducible refine H5.out.mono ?_); rintro e w5 ⟨v5, rfl, hd5⟩)
  clear H5
  obtain ⟨k5, c5, rfl, _, _, hs5⟩ := own_slb hd5.out.1 (by rw [four_len]; omega)
  have HO5 := Lib.hid (own_bl HO2.out hd5.out.2)
  have hB5 : Hid (Below w.heap.size w w5) := hB2.out.trans (hd5.out.2.mono hB2.out.size)
  have hsz := hB5.out.size
  have hnews : ∀ (i : Nat) (u : Value), ((four sm).map byt)[i]? = some u → w5.cell? ((⟨k5, 0, none⟩ : Addr).add i) = some u := by
    rcases hs5.2 with h | ⟨b, off, h, _, hc⟩
    · rw [four_len] at h; omega
    · injection h with h
      rw [h]
      exact SlB.news hs5.1 hc
  have HNw := Lib.hid hnews
  rw [four_len]
  clear hd5 hs5 HO2 hB2 hnews
  go_wp2_with (at_builtin; refine wpList_append_own _ rfl _ _ 22 rfl w.heap.size 5 i0 (.int .u8 0) 1 1 Try.underlying22 hi0 hz0 hz1 hz2 rfl (by decide) _ _ _ rfl HO5.out ⟨k5, 0, none⟩ 4 c5 ((four sm).map byt) rfl ?c0 HNw.out (byt_one _) ?c1 ?c2 ?c3 ?_)
  case c0 => rw [List.length_map, four_len]
  case c1 => unfold maxLen; omega
  case c2 => omega
  case c3 => exact hsz
  intro v6 w6 hown6 hg6 _
  have hB6 : Below w.heap.size w w6 := Below.grown hB5.out hg6 hsz (fun i hi => (HO5.out.lt i hi).1)
  rw [← List.map_append] at hown6
  have HW : Hid (OwnN w v6 (wrapB kd l) w6) := by
    have e1 : (wrapB kd l).length = 1 + m + 4 := by unfold wrapB; rw [List.length_append, four_len, HH.out]
    have e2 : wrapB kd l = headB kd l ++ four sm := by unfold wrapB; rw [HSm.out]
    refine ⟨?_, hB6⟩
    rw [e1, e2]
    exact hown6
  clear hg6 HO5 hown6 HNw hB5 hB6
  go_wp2_with fail
  go_ret
  exact ⟨_, rfl, HW.out⟩

theorem rWrap_zero (A : Option Addr) (n cap : Nat) (w : World) :
    Calls Try.prog 10 #[.int .u8 0, .slice A n cap] w fun e w' => e = .returned (.tuple #[.slice none 0 0, .int .i64 2]) ∧ w' = w := by
  go_enter Try.func10, Try.ntmps10
  go_wp2_with fail
  go_ret2
  exact ⟨rfl, rfl⟩
theorem rWrap_long (kd : Nat) (h0 : 0 < kd) (A : Option Addr) (n cap : Nat) (hn : 65536 < n) (hn2 : n ≤ 1000000000) (w : World) :
    Calls Try.prog 10 #[.int .u8 (kd : Int), .slice A n cap] w fun e w' => e = .returned (.tuple #[.slice none 0 0, .int .i64 21]) ∧ w' = w := by
  have hk : ¬ (kd : Int) = 0 := by omega
  have hnI : (65536 : Int) < (n : Int) := by omega
  go_enter Try.func10, Try.ntmps10
  go_wp2_with fail
  go_ret2
  exact ⟨rfl, rfl⟩
theorem rWrap_c (kd : Nat) (h0 : 0 < kd) (h1 : kd < 256) (A : Option Addr) (n cap : Nat) (l : List UInt8) (w : World) (h : SlB w A n l) (hn : n ≤ 65536) :
    Calls Try.prog 10 #[.int .u8 (kd : Int), .slice A n cap] w fun e w' => ∃ v, e = .returned (.tuple #[v, .int .i64 0]) ∧ Hid (OwnN w v (wrapB kd l) w') := by
  have hk : ¬ (kd : Int) = 0 := by omega
  have hnI : (n : Int) ≤ 65536 := by omega
  have HB := Lib.hid (rBytes_c kd h0 h1 A n cap l w h hn)
  clear h h0 h1 hn
  go_enter Try.func10, Try.ntmps10
  go_wp2_with fail
  ((with_reducible refine HB.out.mono ?_); rintro e w1 ⟨v, rfl, hd⟩)
  clear HB
  go_wp2_with fail
  go_ret2
  exact ⟨_, rfl, hd⟩
end Go.Proofs.Ytghpafbgjbhohab
