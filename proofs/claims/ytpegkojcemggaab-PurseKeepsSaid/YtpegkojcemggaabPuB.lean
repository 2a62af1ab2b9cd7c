/- purse: there, known, of, money. -/
import Derived.Test.YtpegkojcemggaabPuM
namespace Go.Proofs.Ytpegkojcemggaab
open Go.RowKit

set_option maxHeartbeats 4000000 in
set_option maxRecDepth 100000 in
theorem there_c (a : Int) (w : World) :
    Calls Try.prog 40 #[.int .i64 a] w fun e w' => e = .returned (.bool (decide (There a))) ∧ w = w' := by
  by_cases h1 : a < 0
  · have d : Hid (decide (There a) = false) := by show _ = _; exact decide_eq_false fun h => by unfold There at h; omega
    go_enter Try.func40, Try.ntmps40
    go_wp2_with fail
    go_ret
    rw [d.out]; exact ⟨rfl, rfl⟩
  by_cases h2 : a < 8
  · have d : Hid (decide (There a) = true) := by show _ = _; exact decide_eq_true ⟨by omega, h2⟩
    have h3 : 0 ≤ a := by omega
    clear h1
    go_enter Try.func40, Try.ntmps40
    go_wp2_with fail
    go_ret
    rw [d.out]; exact ⟨rfl, rfl⟩
  · have d : Hid (decide (There a) = false) := by show _ = _; exact decide_eq_false fun h => by unfold There at h; omega
    have h3 : decide (a < 8) = false := decide_eq_false h2
    have h4 : 0 ≤ a := by omega
    clear h1 h2
    go_enter Try.func40, Try.ntmps40
    go_wp2_with fail
    go_ret
    rw [d.out]; exact ⟨rfl, rfl⟩

set_option maxHeartbeats 4000000 in
set_option maxRecDepth 100000 in
theorem known_c (a s : Int) (w : World) :
    Calls Try.prog 22 #[.int .i64 a, .int .i64 s] w fun e w' => e = .returned (.bool (decide (May a s))) ∧ w = w' := by
  have HT := Lib.hid (there_c a w)
  by_cases h1 : There a
  · have d1 : decide (There a) = true := decide_eq_true h1
    rw [d1] at HT
    by_cases h2 : s = 1
    · have d : Hid (decide (May a s) = true) := by show _ = _; exact decide_eq_true ⟨h1.1, h1.2, .inl h2⟩
      have e1 : (s == 1) = true := by simp [h2]
      clear h1 d1 h2
      go_enter Try.func22, Try.ntmps22
      go_wp2_with fail
      ((with_reducible refine HT.out.mono ?_); rintro e w' ⟨rfl, rfl⟩)
      go_wp2_with fail
      go_ret
      rw [d.out]; exact ⟨rfl, rfl⟩
    · have e1 : (s == 1) = false := by simp [h2]
      obtain ⟨r, hr⟩ : ∃ r, r = (s == 2) := ⟨_, rfl⟩
      have d : Hid (decide (May a s) = r) := by
        show _ = _
        rw [hr]
        by_cases h3 : s = 2
        · rw [decide_eq_true (show May a s from ⟨h1.1, h1.2, .inr h3⟩)]; simp [h3]
        · rw [decide_eq_false (show ¬ May a s from fun h => by rcases h.2.2 with h | h <;> contradiction)]; simp [h3]
      have hr' : (s == 2) = r := hr.symm
      clear h1 d1 h2 hr
      go_enter Try.func22, Try.ntmps22
      go_wp2_with fail
      ((with_reducible refine HT.out.mono ?_); rintro e w' ⟨rfl, rfl⟩)
      go_wp2_with fail
      go_ret
      rw [d.out]; exact ⟨rfl, rfl⟩
  · have d1 : decide (There a) = false := decide_eq_false h1
    rw [d1] at HT
    have d : Hid (decide (May a s) = false) := by show _ = _; exact decide_eq_false fun h => h1 ⟨h.1, h.2.1⟩
    clear h1 d1
    go_enter Try.func22, Try.ntmps22
    go_wp2_with fail
    ((with_reducible refine HT.out.mono ?_); rintro e w' ⟨rfl, rfl⟩)
    go_wp2_with fail
    go_ret
    rw [d.out]; exact ⟨rfl, rfl⟩

set_option maxHeartbeats 4000000 in
set_option maxRecDepth 100000 in
theorem of_cash (c0 c1 c2 c3 c4 c5 : Int) (w : World) :
    Calls Try.prog 23 #[.agg #[.int .i64 c0, .int .i64 c1, .int .i64 c2, .int .i64 c3, .int .i64 c4, .int .i64 c5], .int .i64 1] w fun e w' => e = .returned (.tuple #[.int .i64 c0, .int .i64 c2]) ∧ Below w.heap.size w w' := by
  go_enter Try.func23, Try.ntmps23
  go_wp2_with fail
  go_quiet (fail)
  go_wp2_with fail
  go_ret2
  exact ⟨rfl, by (focus ((repeat' (first | (with_reducible exact Below.refl _ _) | (with_reducible assumption) | (with_reducible refine Below.alloc ?_ ?_ _) | (with_reducible refine Below.setCell ?_ ?_ _) | (with_reducible refine Below.row ?_ ?_ _) | (with_reducible refine Below.drew ?_) | (with_reducible refine below_drewN ?_ _) | (focus (first | (simp; done) | omega | (simp; omega))))); done))⟩
set_option maxHeartbeats 4000000 in
set_option maxRecDepth 100000 in
theorem of_stock (c0 c1 c2 c3 c4 c5 : Int) (w : World) :
    Calls Try.prog 23 #[.agg #[.int .i64 c0, .int .i64 c1, .int .i64 c2, .int .i64 c3, .int .i64 c4, .int .i64 c5], .int .i64 2] w fun e w' => e = .returned (.tuple #[.int .i64 c1, .int .i64 c3]) ∧ Below w.heap.size w w' := by
  go_enter Try.func23, Try.ntmps23
  go_wp2_with fail
  go_quiet (fail)
  go_wp2_with fail
  go_ret2
  exact ⟨rfl, by (focus ((repeat' (first | (with_reducible exact Below.refl _ _) | (with_reducible assumption) | (with_reducible refine Below.alloc ?_ ?_ _) | (with_reducible refine Below.setCell ?_ ?_ _) | (with_reducible refine Below.row ?_ ?_ _) | (with_reducible refine Below.drew ?_) | (with_reducible refine below_drewN ?_ _) | (focus (first | (simp; done) | omega | (simp; omega))))); done))⟩

theorem all_take (zs : List Int) (k : Nat) (h : k < zs.length) : (zs.take (k + 1)).all mnyB = ((zs.take k).all mnyB && mnyB (zs.getD k 0)) := by
  rw [List.take_succ_eq_append_getElem h, List.all_append, List.getD_eq_getElem?_getD, List.getElem?_eq_getElem h]; simp
theorem all_false (zs : List Int) (k : Nat) (h : k < zs.length) (hf : mnyB (zs.getD k 0) = false) : zs.all mnyB = false := by
  rw [List.all_eq_false]
  refine ⟨zs[k], List.getElem_mem h, ?_⟩
  rw [List.getD_eq_getElem?_getD, List.getElem?_eq_getElem h] at hf
  simpa using hf

set_option maxHeartbeats 4000000 in
set_option maxRecDepth 100000 in
theorem money_c (a : Option Addr) (len cap : Nat) (zs : List Int) (w : World) (hs : SlI w a len zs) (hlen : len ≤ 2147483647) :
    Calls Try.prog 15 #[.slice a len cap] w fun e w' => e = .returned (.bool (zs.all mnyB)) ∧ w = w' := by
  obtain ⟨hl, hin, hc⟩ := hs
  have Hin := Lib.hid hin; clear hin
  have Hl := Lib.hid hl; clear hl
  have Hc := Lib.hid hc; clear hc
  have hlenI : (len : Int) ≤ 9223372036854775807 := by omega
  go_enter Try.func15, Try.ntmps15
  go_wp2_with fail
  go_loop [7] (fun i => ∃ k : Nat, k ≤ len ∧ i = .int .i64 k ∧ Hid ((zs.take k).all mnyB = true)) (fun i => len - (intOf i).toNat)
  case atStart => exact ⟨0, by omega, rfl, by show _ = _; simp⟩
  case round =>
    obtain ⟨k, hk, rfl, hp⟩ := hrel
    by_cases hlt : k < len
    · have hltI : (k : Int) < (len : Int) := by omega
      rcases Hc.out with h0 | ⟨b, off, rfl, hcells⟩
      · exfalso; omega
      have ck := hcells k hlt
      have at1 := Lib.hid (all_take zs k (by rw [Hl.out]; exact hlt))
      have at2 := Lib.hid (all_false zs k (by rw [Hl.out]; exact hlt))
      have hz0 := getD_in Hin.out k
      clear hcells
      generalize zs.getD k 0 = v at *
      have ⟨v0, v1⟩ := hz0
      clear hz0
      by_cases h1 : v < 0
      · have hf : Hid (zs.all mnyB = false) := by show _ = _; exact at2.out (decide_eq_false fun h => by unfold Mny at h; omega)
        clear at1 at2
        go_wp2_with fail
        go_ret
        rw [hf.out]; exact ⟨rfl, rfl⟩
      by_cases h2 : 4611686018427387904 < v
      · have hf : Hid (zs.all mnyB = false) := by show _ = _; exact at2.out (decide_eq_false fun h => by unfold Mny at h; omega)
        clear at1 at2
        go_wp2_with fail
        go_ret
        rw [hf.out]; exact ⟨rfl, rfl⟩
      · have hf : Hid ((zs.take (k + 1)).all mnyB = true) := by show _ = _; rw [at1.out, hp.out, show mnyB v = true from decide_eq_true ⟨by omega, by omega⟩]; rfl
        have g1 : 0 ≤ v := by omega
        have g2 : v ≤ 4611686018427387904 := by omega
        clear at1 at2 h1 h2 hp
        go_wp2_with fail
        exact ⟨⟨k + 1, by omega, by go_num, hf⟩, by simp [intOf]; omega⟩
    · have hf : Hid (zs.all mnyB = true) := by
        show _ = _
        have := hp.out
        rwa [List.take_of_length_le (by rw [Hl.out]; omega)] at this
      have hge : ¬ (k : Int) < (len : Int) := by omega
      clear hp
      go_wp2_with fail
      go_ret
      rw [hf.out]; exact ⟨rfl, rfl⟩
end Go.Proofs.Ytpegkojcemggaab
