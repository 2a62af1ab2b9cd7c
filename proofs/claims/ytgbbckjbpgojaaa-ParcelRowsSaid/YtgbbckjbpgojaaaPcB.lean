/- parcel: the check sum of bytes, the code's and the reference's. -/
import Derived.Test.YtgbbckjbpgojaaaPcA
namespace Go.Proofs.Ytgbbckjbpgojaaa
open Go.RowKit

set_option maxHeartbeats 4000000 in
set_option maxRecDepth 100000 in
theorem sum_c (A : Option Addr) (n cap : Nat) (l : List UInt8) (w : World) (h : SlB w A n l) (hn : n ≤ 9000000) :
    Calls Try.prog 11 #[.slice A n cap] w fun e w' => e = .returned (.int .u32 (sumN l : Int)) ∧ Below w.heap.size w w' := by
  have hl := h.1
  have HS := Lib.hid h
  have HL := Lib.hid hl
  have hnI : (n : Int) ≤ 9000000 := by omega
  obtain ⟨r, hr⟩ : ∃ r, r = sumN l := ⟨_, rfl⟩
  have HR : Hid (r = 4294967295 - crcN l ∧ crcN l < 4294967296) := ⟨hr, crcN_lt l⟩
  rw [← hr]
  clear h hl hr hn
  go_enter Try.func11, Try.ntmps11
  go_wp2_with fail
  obtain ⟨q, hq⟩ : ∃ q, q = w.heap.size := ⟨_, rfl⟩
  have H0 : Hid (Below w.heap.size w (w.alloc (.cells #[.int .u32 4294967295] 39)) ∧ Cel (w.alloc (.cells #[.int .u32 4294967295] 39)) q 4294967295) := by
    rw [hq]; exact ⟨(Below.refl _ w).alloc (Nat.le_refl _) _, heap_alloc_new w _⟩
  rw [← hq]
  have HQ := Lib.hid hq
  clear hq
  go_loopw [10] (fun i wr => ∃ k : Nat, k ≤ n ∧ i = .int .i64 (k : Int) ∧ Hid (Below w.heap.size w wr ∧ Cel wr q (crcN (l.take k)))) (fun i _ => n - (intOf i).toNat)
  case atStart => exact ⟨0, by omega, rfl, H0.out⟩
  case round =>
    clear H0
    obtain ⟨k, hk, rfl, hd⟩ := hrel
    have hk0 : (0 : Int) ≤ (k : Int) := by omega
    by_cases hlt : k < n
    · have hltI : (k : Int) < (n : Int) := by omega
      rcases HS.out.2 with h0 | ⟨b, off, rfl, hb, hc⟩
      · omega
      have p0 : wr.cell? ⟨b, off + k, none⟩ = some (.int .u8 ((l.getD k 0).toNat : Int)) := by rw [hd.out.1.cell (p := ⟨b, off + k, none⟩) hb]; exact hc k hlt
      have HA := Lib.hid (sumAdd_c q (crcN (l.take k)) (l.getD k 0) wr hd.out.2 (crcN_lt _))
      rw [← crcN_take (by rw [HL.out]; exact hlt)] at HA
      obtain ⟨c, hcc⟩ : ∃ c, c = (l.getD k 0).toNat := ⟨_, rfl⟩
      rw [← hcc] at p0 HA
      clear hcc hc
      go_wp2_with fail
      ((with_reducible refine HA.out.mono ?_); rintro e w1 ⟨rfl, hd1⟩)
      have hD : Hid (Below w.heap.size w w1 ∧ Cel w1 q (crcN (l.take (k + 1)))) := ⟨hd.out.1.trans (hd1.out.1.below (by rw [HQ.out]; exact Nat.le_refl _) hd.out.1.size), hd1.out.2⟩
      clear hd hd1 HA
      go_wp2_with fail
      exact ⟨⟨k + 1, by omega, by go_num, hD.out⟩, by simp [intOf]; omega⟩
    · have hkn : k = n := by omega
      subst hkn
      have hc0 := hd.out.2.c0
      rw [List.take_of_length_le (by rw [HL.out]; exact Nat.le_refl _)] at hc0
      have hr := HR.out
      obtain ⟨m, hm⟩ : ∃ m, m = crcN l := ⟨_, rfl⟩
      rw [← hm] at hc0 hr
      have hw : IntKind.u32.wrap (4294967295 - (m : Int)) = (r : Int) := by rw [IntKind.wrap_u32]; omega
      have hw2 : (4294967295 : Int) - (m : Int) = (r : Int) := by omega
      clear hr hm
      go_wp2_with fail
      go_ret
      exact ⟨rfl, hd.out.1⟩

set_option maxHeartbeats 8000000 in
set_option maxRecDepth 100000 in
theorem rSum_c (A : Option Addr) (n cap : Nat) (l : List UInt8) (w : World) (h : SlB w A n l) (hn : n ≤ 9000000) :
    Calls Try.prog 18 #[.slice A n cap] w fun e w' => e = .returned (.int .u32 (sumN l : Int)) ∧ w = w' := by
  have hl := h.1
  have HS := Lib.hid h
  have HL := Lib.hid hl
  have hnI : (n : Int) ≤ 9000000 := by omega
  obtain ⟨r, hr⟩ : ∃ r, r = sumN l := ⟨_, rfl⟩
  have HR : Hid (r = 4294967295 - crcN l ∧ crcN l < 4294967296) := ⟨hr, crcN_lt l⟩
  rw [← hr]
  clear h hl hr hn
  go_enter Try.func18, Try.ntmps18
  go_wp2_with fail
  go_loop [3, 4] (fun v i => ∃ k : Nat, k ≤ n ∧ i = .int .i64 (k : Int) ∧ v = .int .u32 ((crcN (l.take k) : Nat) : Int)) (fun _ i => n - (intOf i).toNat)
  case atStart => exact ⟨0, by omega, rfl, rfl⟩
  case round =>
    obtain ⟨k, hk, rfl, rfl⟩ := hrel
    have hk0 : (0 : Int) ≤ (k : Int) := by omega
    by_cases hlt : k < n
    · have hltI : (k : Int) < (n : Int) := by omega
      rcases HS.out.2 with h0 | ⟨b, off, rfl, hb, hc⟩
      · omega
      have p0 : w.cell? ⟨b, off + k, none⟩ = some (.int .u8 ((l.getD k 0).toNat : Int)) := hc k hlt
      have HN := Lib.hid (crcN_take (l := l) (k := k) (by rw [HL.out]; exact hlt))
      have hcb := (l.getD k 0).toNat_lt
      have hmb := crcN_lt (l.take k)
      obtain ⟨c, hcc⟩ : ∃ c, c = (l.getD k 0).toNat := ⟨_, rfl⟩
      obtain ⟨m, hm⟩ : ∃ m, m = crcN (l.take k) := ⟨_, rfl⟩
      rw [← hcc] at p0 hcb HN
      rw [← hm] at hmb HN ⊢
      have HB := Lib.hid (byteC_ref (n := m) hcb)
      have HLt : Hid (∀ j, (rstN j (m, c)).1 < 4294967296) := rstN_lt hmb
      have HSn : Hid (∀ j, (rstN j (m, c)).2 ≤ 255) := fun j => by rw [rstN_snd]; have := Nat.div_le_self c (2 ^ j); omega
      clear hcc hm hc hcb hmb
      go_wp2_with fail
      go_loop [3, 5, 6] (fun v d i => ∃ j : Nat, j ≤ 8 ∧ i = .int .i64 (j : Int) ∧ v = .int .u32 (((rstN j (m, c)).1 : Nat) : Int) ∧ d = .int .u8 (((rstN j (m, c)).2 : Nat) : Int)) (fun _ _ i => 8 - (intOf i).toNat)
      case atStart => exact ⟨0, by omega, rfl, rfl, rfl⟩
      case round =>
        obtain ⟨j, hj, rfl, rfl, rfl⟩ := hrel
        have hj0 : (0 : Int) ≤ (j : Int) := by omega
        by_cases hlt2 : j < 8
        · have hltI2 : (j : Int) < 8 := by omega
          have ha := HLt.out j
          have hb2 := HSn.out j
          have HM : Hid (rstN (j + 1) (m, c) = rst (rstN j (m, c))) := rfl
          have hx := u32_xor_nat ((rstN j (m, c)).1 / 2) 3988292384 (by omega) (by omega)
          obtain ⟨p, hp⟩ : ∃ p, p = rstN j (m, c) := ⟨_, rfl⟩
          rw [← hp] at ha hb2 HM hx ⊢
          obtain ⟨u, v⟩ := p
          simp only at ha hb2 hx ⊢
          have haI : (u : Int) ≤ 4294967295 := by omega
          have hbI : (v : Int) ≤ 255 := by omega
          obtain ⟨h, hh⟩ : ∃ h, h = u / 2 := ⟨_, rfl⟩
          obtain ⟨x, hxx⟩ : ∃ x, x = u / 2 ^^^ 3988292384 := ⟨_, rfl⟩
          have r1 : (u : Int) / 2 = (h : Int) := by omega
          have hx2 : bits .xor .u32 (h : Int) 3988292384 = (x : Int) := by
            rw [hh, hxx]; exact hx
          obtain ⟨y, hy⟩ : ∃ y, y = v / 2 := ⟨_, rfl⟩
          have r2 : IntKind.u8.wrap ((v : Int).tdiv 2) = (y : Int) := by
            rw [Int.tdiv_eq_ediv_of_nonneg (by omega), show (v : Int) / 2 = (y : Int) by omega]
            have : IntKind.u8.wrap (y : Int) = (y : Int) % 256 := IntKind.wrap_u8 _
            rw [this]; omega
          have r5 : (v : Int) / 2 = (y : Int) := by omega
          by_cases ht : u % 2 ≠ v % 2
          · have hne : ((u : Int) % 2 != (v : Int) % 2) = true := by simp; omega
            have hne2 : ((u : Int) % 2 == (v : Int) % 2) = false := by simp; omega
            have HM2 : Hid (rstN (j + 1) (m, c) = (x, y)) := by show _ = _; rw [HM.out]; unfold rst; simp only; rw [if_pos ht, hxx, hy]
            clear hx hh hxx hp ha hb2 ht hy
            go_wp2_with fail
            clear r1 r2 r5 hx2 hne hne2
            exact ⟨⟨j + 1, by omega, by go_num, by rw [HM2.out], by rw [HM2.out]⟩, by simp [intOf]; omega⟩
          · have hne : ((u : Int) % 2 != (v : Int) % 2) = false := by simp; omega
            have hne2 : ((u : Int) % 2 == (v : Int) % 2) = true := by simp; omega
            have HM2 : Hid (rstN (j + 1) (m, c) = (h, y)) := by show _ = _; rw [HM.out]; unfold rst; simp only; rw [if_neg ht, hh, hy]
            clear hx hh hxx hp ha hb2 ht hy
            go_wp2_with fail
            clear r1 r2 r5 hx2 hne hne2
            exact ⟨⟨j + 1, by omega, by go_num, by rw [HM2.out], by rw [HM2.out]⟩, by simp [intOf]; omega⟩
        · obtain rfl : j = 8 := by omega
          rw [← HB.out, ← HN.out]
          go_wp2_with fail
          exact ⟨⟨k + 1, by omega, by go_num, rfl⟩, by simp [intOf]; omega⟩
    · have hkn : k = n := by omega
      subst hkn
      rw [show l.take k = l from List.take_of_length_le (by rw [HL.out]; exact Nat.le_refl _)]
      have hr := HR.out
      obtain ⟨m, hm⟩ : ∃ m, m = crcN l := ⟨_, rfl⟩
      rw [← hm] at hr ⊢
      have hw : IntKind.u32.wrap (4294967295 - (m : Int)) = (r : Int) := by rw [IntKind.wrap_u32]; omega
      have hw2 : (4294967295 : Int) - (m : Int) = (r : Int) := by omega
      clear hr hm
      go_wp2_with fail
      go_ret
      exact ⟨rfl, rfl⟩
end Go.Proofs.Ytgbbckjbpgojaaa
