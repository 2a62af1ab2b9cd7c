/- chance, the reference: a source; a byte, some bytes, below, between. -/
import Derived.Test.YtacfboopkcaobaaChE
namespace Go.Proofs.Ytacfboopkcaobaa
open Go.RowKit

set_option maxHeartbeats 1000000 in
theorem rByte_nil (g : Nat) (w : World) (h : SRC 57 w g []) :
    Calls Try.prog 23 #[.pointer (some ⟨g, 0, none⟩)] w fun e w' => e = .returned (.int .u8 0) ∧ w = w' := by
  obtain ⟨A, n, c, hn, k0, _, _, _, _⟩ := h.slice
  have hn0 : n = 0 := hn
  subst hn0
  clear h hn
  go_enter Try.func23, Try.ntmps23
  go_wp2_with fail
  go_ret
  exact ⟨rfl, rfl⟩

set_option maxHeartbeats 2000000 in
theorem rByte_cons (g : Nat) (x : UInt8) (l : List UInt8) (w : World) (h : SRC 57 w g (x :: l)) :
    Calls Try.prog 23 #[.pointer (some ⟨g, 0, none⟩)] w (Took 57 w g l (.int .u8 (x.toNat : Int))) := by
  obtain ⟨A, n, c, hh, hs, h1, h2⟩ := h
  have hs' := hs
  obtain ⟨hl, h3⟩ := hs'
  rcases h3 with h3 | ⟨b, off, rfl, hb, hc⟩
  · simp at hl; omega
  have hn : 0 < n := by simp at hl; omega
  have k0 : w.cell? ⟨g, 0, none⟩ = some (.slice (some ⟨b, off, none⟩) n c) := by rw [cell_of_row _ _ _ _ _ _ hh]; rfl
  have f0 : w.frozen? ⟨g, 0, none⟩ = false := frozen_of_row _ _ _ _ _ hh
  have k1 : w.cell? ⟨b, off, none⟩ = some (.int .u8 (x.toNat : Int)) := by have := hc 0 hn; simpa [byt] using this
  have hmx : (c : Int) ≤ 9223372036854775807 := by unfold maxLen at h2; omega
  have hn1 : (1 : Int) ≤ (n : Int) := by omega
  have hnz : ((n : Int) == 0) = false := by simp; omega
  have hnc : (n : Int) ≤ (c : Int) := by omega
  have HC := Lib.hid (fun A n' c' => SRC.cut (A := A) (n' := n') (c' := c') hh hs h1 h2)
  clear hh hs hl hc h2
  by_cases h4 : n = 1
  · subst h4
    go_enter Try.func23, Try.ntmps23
    go_wp2_with fail
    all_goals
      go_ret
      exact ⟨rfl, (Tch.refl g w).set 0 _, HC.out _ _ _ (by first | rfl | omega) (by first | rfl | omega) (fun h => absurd h (by omega))⟩
  · have h5 : 1 < c := by omega
    have h6 : (1 : Int) < (c : Int) := by omega
    go_enter Try.func23, Try.ntmps23
    go_wp2_with fail
    all_goals
      go_ret
      exact ⟨rfl, (Tch.refl g w).set 0 _, HC.out _ _ _ (by first | rfl | omega) (by first | rfl | omega) (fun _ => by first | rfl | omega)⟩
theorem rByte_c (g : Nat) (l : List UInt8) (w : World) (h : SRC 57 w g l) :
    Calls Try.prog 23 #[.pointer (some ⟨g, 0, none⟩)] w (Took 57 w g l.tail (.int .u8 ((l.headD 0).toNat : Int))) := by
  cases l with
  | nil => exact (rByte_nil g w h).mono fun e w' ⟨he, hw⟩ => ⟨he, hw ▸ ⟨Tch.refl g w, h⟩⟩
  | cons x l => exact rByte_cons g x l w h

set_option maxHeartbeats 4000000 in
set_option maxRecDepth 100000 in
theorem rSome_c (g k : Nat) (l : List UInt8) (w : World) (h : SRC 57 w g l) (hk : k ≤ 8) :
    Calls Try.prog 46 #[.pointer (some ⟨g, 0, none⟩), .int .i64 (k : Int)] w (Took 57 w g (takeN l k).2 (.int .u64 ((takeN l k).1 : Int))) := by
  have hk1 : (k : Int) ≤ 8 := by omega
  have HS := Lib.hid h; clear h
  go_enter Try.func46, Try.ntmps46
  go_wp2_with fail
  go_loopw [5, 6] (fun n i wr => ∃ j : Nat, j ≤ k ∧ i = .int .i64 (j : Int) ∧ n = .int .u64 ((takeN l j).1 : Int) ∧ Hid (Tch g w wr ∧ SRC 57 wr g (takeN l j).2)) (fun _ i _ => k - (intOf i).toNat)
  case atStart => exact ⟨0, by omega, rfl, rfl, Tch.refl g w, HS.out⟩
  case round =>
    obtain ⟨j, hj, rfl, rfl, hd⟩ := hrel
    by_cases hlt : j < k
    · have hltI : (j : Int) < (k : Int) := by omega
      have hb1 : (takeN l j).1 * 256 + ((takeN l j).2.headD 0).toNat < 18446744073709551616 := by
        have := takeN_64 l (k := j + 1) (by omega)
        simp only [takeN] at this
        omega
      have HB := Lib.hid (rByte_c g _ wr hd.out.2)
      have HN : Hid ((takeN l j).1 * 256 + ((takeN l j).2.headD 0).toNat = (takeN l (j + 1)).1) := rfl
      obtain ⟨n, hn⟩ : ∃ n, n = (takeN l j).1 := ⟨_, rfl⟩
      obtain ⟨b, hbb⟩ : ∃ b, b = ((takeN l j).2.headD 0).toNat := ⟨_, rfl⟩
      rw [← hn] at hb1 HN ⊢
      rw [← hbb] at HB hb1 HN
      have hw1 : IntKind.u64.wrap ((n : Int) * 256) = (n : Int) * 256 := by rw [IntKind.wrap_u64]; omega
      obtain ⟨r, hr⟩ : ∃ r, r = n * 256 + b := ⟨_, rfl⟩
      have hw2 : IntKind.u64.wrap ((n : Int) * 256 + (b : Int)) = (r : Int) := by rw [IntKind.wrap_u64]; omega
      have hb3 : (b : Int) ≤ 255 := by have := ((takeN l j).2.headD 0).toNat_lt; omega
      rw [← hr] at HN
      clear hb1 hn hbb hr
      go_wp2_with fail
      ((with_reducible refine HB.out.mono ?_); rintro e w1 ⟨rfl, hd1⟩)
      have hD : Hid (Tch g w w1 ∧ SRC 57 w1 g (takeN l (j + 1)).2) := ⟨hd.out.1.trans hd1.out.1, hd1.out.2⟩
      clear HB hd hd1
      go_wp2_with fail
      clear hw1 hw2
      exact ⟨⟨j + 1, by omega, by go_num, by rw [← HN.out], hD.out⟩, by simp [intOf]; omega⟩
    · have hjk : j = k := by omega
      subst hjk
      go_wp2_with fail
      go_ret
      exact ⟨rfl, hd.out⟩

set_option maxHeartbeats 4000000 in
set_option maxRecDepth 100000 in
theorem rBelow_c (g n : Nat) (l : List UInt8) (w : World) (h : SRC 57 w g l) (hn : n < 18446744073709551616) :
    Calls Try.prog 25 #[.pointer (some ⟨g, 0, none⟩), .int .u64 (n : Int)] w (Took 57 w g (belowN l n).2 (.int .u64 ((belowN l n).1 : Int))) := by
  by_cases h2 : n < 2
  · have hI : (n : Int) < 2 := by omega
    have hD : Hid (Tch g w w ∧ SRC 57 w g l) := ⟨Tch.refl g w, h⟩
    rw [show belowN l n = (0, l) by unfold belowN; rw [if_pos h2]]
    clear h h2 hn
    go_enter Try.func25, Try.ntmps25
    go_wp2_with fail
    go_ret
    exact ⟨rfl, hD.out⟩
  · have hI : 2 ≤ (n : Int) := by omega
    obtain ⟨m, hm⟩ : ∃ m, m = n - 1 := ⟨_, rfl⟩
    have hw0 : IntKind.u64.wrap ((n : Int) - 1) = (m : Int) := by rw [IntKind.wrap_u64]; omega
    have hw00 : (n : Int) - 1 = (m : Int) := by omega
    have hm2 : m < 18446744073709551616 := by omega
    have d3 := digs_8 hm2
    rw [show belowN l n = ((takeN l (digs m)).1 % n, (takeN l (digs m)).2) by unfold belowN; rw [if_neg h2, ← hm]]
    have HN := Lib.hid (rSome_c g (digs m) l w h d3)
    obtain ⟨x, hx⟩ : ∃ x, x = (takeN l (digs m)).1 := ⟨_, rfl⟩
    have t1 := takeN_64 l d3
    rw [← hx] at HN t1 ⊢
    have hmod : (x : Int) % (n : Int) = ((x % n : Nat) : Int) := rfl
    have HE := Lib.hid hmod
    have hn0 : ((n : Int) == 0) = false := by simp; omega
    have hnI : (n : Int) ≤ 18446744073709551615 := by omega
    have HM := Lib.hid hm2
    have D3 := Lib.hid d3
    clear h hm h2 hn hm2 hmod d3 hx t1
    go_enter Try.func25, Try.ntmps25
    go_wp2_with fail
    clear hw0 hw00
    go_loop [5, 6] (fun c y => ∃ (k r : Nat), k ≤ 8 ∧ c = .int .i64 (k : Int) ∧ y = .int .u64 (r : Int) ∧ Hid (r < 18446744073709551616 ∧ k + digs r = digs m)) (fun _ y => (intOf y).toNat)
    case atStart => exact ⟨0, m, by omega, rfl, rfl, HM.out, by omega⟩
    case round =>
      obtain ⟨k, r, hk, rfl, rfl, hr⟩ := hrel
      by_cases h0 : r = 0
      · have hkd : k = digs m := by have := hr.out.2; rw [h0, digs_zero] at this; omega
        subst h0
        subst hkd
        clear hr
        go_wp2_with fail
        ((with_reducible refine HN.out.mono ?_); rintro e w1 ⟨rfl, hd1⟩)
        go_wp2_with fail
        go_ret
        exact ⟨by rw [← HE.out]; rfl, hd1.out⟩
      · have h0I : (0 : Int) < (r : Int) := by omega
        have hrb : (r : Int) ≤ 18446744073709551615 := by have := hr.out.1; omega
        have hk8 : k < 8 := by
          have h1 := hr.out.2
          have h2 := D3.out
          rw [digs_pos (by omega)] at h1
          omega
        have HX : Hid (r / 256 < 18446744073709551616 ∧ k + 1 + digs (r / 256) = digs m) := by
          have h1 := hr.out
          rw [digs_pos (show 0 < r by omega)] at h1
          exact ⟨by omega, by omega⟩
        have hk8I : (k : Int) < 8 := by omega
        clear hr
        go_wp2_with fail
        exact ⟨⟨k + 1, r / 256, by omega, by go_num, by go_num, HX.out⟩, by simp [intOf]; omega⟩

set_option maxHeartbeats 4000000 in
set_option maxRecDepth 100000 in
theorem rBetween_c (g : Nat) (low high : Int) (l : List UInt8) (w : World) (h : SRC 57 w g l) (hl0 : -9223372036854775808 ≤ low) (hl1 : low ≤ 9223372036854775807) (hh0 : -9223372036854775808 ≤ high) (hh1 : high ≤ 9223372036854775807) :
    Calls Try.prog 27 #[.pointer (some ⟨g, 0, none⟩), .int .i64 low, .int .i64 high] w (Took 57 w g (betweenN l low high).2 (.int .i64 (betweenN l low high).1)) := by
  by_cases hle : high ≤ low
  · rw [betweenN_low l hle]
    have hD : Hid (Tch g w w ∧ SRC 57 w g l) := ⟨Tch.refl g w, h⟩
    clear h
    go_enter Try.func27, Try.ntmps27
    go_wp2_with fail
    go_ret
    exact ⟨rfl, hD.out⟩
  · have hlt : low < high := by omega
    clear hle
    have e1 : IntKind.u64.wrap (IntKind.u64.wrap high - IntKind.u64.wrap low) = high - low := by
      simp only [IntKind.wrap_u64]; omega
    obtain ⟨d, hd⟩ : ∃ d : Nat, (d : Int) = high - low := ⟨(high - low).toNat, by omega⟩
    have ht : (high - low).toNat = d := by omega
    rw [← hd] at e1
    obtain ⟨L, hL⟩ : ∃ L, L = IntKind.u64.wrap low := ⟨_, rfl⟩
    by_cases hall : high - low = 18446744073709551615
    · rw [show betweenN l low high = (low + ((takeN l 8).1 : Int), (takeN l 8).2) by unfold betweenN; rw [if_neg (by omega), if_pos hall]]
      have HN := Lib.hid (rSome_c g 8 l w h (by omega))
      have t1 := takeN_64 l (k := 8) (by omega)
      obtain ⟨x, hx⟩ : ∃ x, x = (takeN l 8).1 := ⟨_, rfl⟩
      rw [← hx] at HN t1 ⊢
      rw [show ((8 : Nat) : Int) = 8 from rfl] at HN
      have e4 : IntKind.i64.wrap (IntKind.u64.wrap (IntKind.u64.wrap low + (x : Int))) = low + (x : Int) := by
        simp only [IntKind.wrap_i64, IntKind.wrap_u64]; omega
      have e5 : wrap64 (IntKind.u64.wrap (IntKind.u64.wrap low + (x : Int))) = low + (x : Int) := by
        unfold wrap64; simp only [IntKind.wrap_u64]; omega
      have hb : ((d : Int) == 18446744073709551615) = true := by simp; omega
      have H5 := Lib.hid e5
      clear h hx hall hh0 hh1 hl0 hl1 hd ht hL t1 e4 e5
      go_enter Try.func27, Try.ntmps27
      go_wp2_with fail
      ((with_reducible refine HN.out.mono ?_); rintro e w1 ⟨rfl, hd1⟩)
      clear e1 hb
      go_wp2_with fail
      go_ret
      exact ⟨by rw [← H5.out]; rfl, hd1.out⟩
    · rw [show betweenN l low high = (low + ((belowN l (d + 1)).1 : Int), (belowN l (d + 1)).2) by unfold betweenN; rw [if_neg (by omega), if_neg hall, ht]]
      have HN := Lib.hid (rBelow_c g (d + 1) l w h (by omega))
      have t1 := belowN_lt l (d + 1)
      obtain ⟨x, hx⟩ : ∃ x, x = (belowN l (d + 1)).1 := ⟨_, rfl⟩
      rw [← hx] at HN t1 ⊢
      have e5 : wrap64 (IntKind.u64.wrap (IntKind.u64.wrap low + (x : Int))) = low + (x : Int) := by
        unfold wrap64; simp only [IntKind.wrap_u64]; omega
      obtain ⟨m, hm⟩ : ∃ m, m = d + 1 := ⟨_, rfl⟩
      rw [← hm] at HN ⊢
      have b1 : IntKind.u64.wrap ((d : Int) + 1) = (m : Int) := by rw [IntKind.wrap_u64]; omega
      have hb : ((d : Int) == 18446744073709551615) = false := by simp; omega
      have H5 := Lib.hid e5
      clear h hx hd ht hall hh0 hh1 hl0 hl1 t1 hm hL e5
      go_enter Try.func27, Try.ntmps27
      go_wp2_with fail
      ((with_reducible refine HN.out.mono ?_); rintro e w1 ⟨rfl, hd1⟩)
      clear e1 b1 hb
      go_wp2_with fail
      go_ret
      exact ⟨by rw [← H5.out]; rfl, hd1.out⟩
end Go.Proofs.Ytacfboopkcaobaa
