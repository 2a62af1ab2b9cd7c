/- parcel, the reference: the first one is taken. -/
import Derived.Test.YtgbbckjbpgojaaaPcL
namespace Go.Proofs.Ytgbbckjbpgojaaa
open Go.RowKit

/-- Nothing is taken. -/
def None1 (w : World) (er : Nat) (e : Ending) (w' : World) : Prop := e = .returned (.tuple #[.int .u8 0, .slice none 0 0, .int .i64 0, .int .i64 (er : Int)]) ∧ Hid (Below w.heap.size w w')

set_option maxHeartbeats 4000000 in
set_option maxRecDepth 100000 in
theorem rTake_nil (A : Option Addr) (cap : Nat) (w : World) :
    Calls Try.prog 8 #[.slice A 0 cap] w (None1 w 31) := by
  go_enter Try.func8, Try.ntmps8
  go_wp2_with fail
  refine bodyPost_ret (v := .tuple #[.int .u8 0, .slice none 0 0, .int .i64 0, .int .i64 31]) (by simp [results, Try.results8, go_sem]) rfl ⟨rfl, Lib.hid (Below.refl _ _)⟩
set_option maxHeartbeats 4000000 in
set_option maxRecDepth 100000 in
theorem rTake_zero (b off n cap : Nat) (w : World) (hn : 0 < n) (hc : w.cell? ⟨b, off, none⟩ = some (.int .u8 0)) :
    Calls Try.prog 8 #[.slice (some ⟨b, off, none⟩) n cap] w (None1 w 20) := by
  have hnI : (0 : Int) < (n : Int) := by omega
  have hn0 : ((n : Int) == 0) = false := by simp; omega
  go_enter Try.func8, Try.ntmps8
  go_wp2_with fail
  refine bodyPost_ret (v := .tuple #[.int .u8 0, .slice none 0 0, .int .i64 0, .int .i64 20]) (by simp [results, Try.results8, go_sem]) rfl ⟨rfl, Lib.hid (Below.refl _ _)⟩

set_option maxHeartbeats 8000000 in
set_option maxRecDepth 100000 in
theorem rTake_open (b off n cap : Nat) (c0 : Nat) (l : List UInt8) (w : World) (hn : 0 < n) (hn2 : n ≤ 1000000) (hnc : n ≤ cap) (hcap : cap ≤ maxLen) (hS : SlB w (some ⟨b, off, none⟩) n l) (hc : w.cell? ⟨b, off, none⟩ = some (.int .u8 (c0 : Int))) (hc0 : 0 < c0)
    (hopen : (decide (n < 11) && onB (l.drop 1)) = true) :
    Calls Try.prog 8 #[.slice (some ⟨b, off, none⟩) n cap] w (None1 w 31) := by
  have hnI : (0 : Int) < (n : Int) := by omega
  have hnN : 0 < n := by omega
  have hn0 : ((n : Int) == 0) = false := by simp; omega
  have hn2I : (n : Int) ≤ 1000000 := by omega
  have hz : ((c0 : Int) == 0) = false := by simp; omega
  have hncI : (n : Int) ≤ (cap : Int) := by omega
  have hcapI : (cap : Int) ≤ 9223372036854775807 := by unfold maxLen at hcap; omega
  have HO : Hid ((decide ((n : Int) < 11) && onB (l.drop 1)) = true) := by
    have e : decide ((n : Int) < 11) = decide (n < 11) := by simp only [decide_eq_decide]; omega
    show _ = _; rw [e]; exact hopen
  have HL := Lib.hid hS.1
  have HSl := Lib.hid hS
  have HCap := Lib.hid hcap
  have HC : Hid (∀ i, i < n → w.cell? ⟨b, off + i, none⟩ = some (byt (l.getD i 0))) := by
    rcases hS.2 with h0 | ⟨b', off', ha, _, hcl⟩
    · omega
    · injection ha with ha
      injection ha with h1 h2 _
      subst h1; subst h2
      exact hcl
  clear hopen hS hcap
  go_enter Try.func8, Try.ntmps8
  go_wp2_with fail
  go_loop [6, 7] (fun o i => ∃ (k : Nat) (ob : Bool), 1 ≤ k ∧ k ≤ n ∧ i = .int .i64 (k : Int) ∧ o = .bool ob ∧ Hid ((ob && onB (l.drop k)) = true)) (fun _ i => n - (intOf i).toNat)
  case atStart => exact ⟨1, _, by omega, by omega, rfl, rfl, HO.out⟩
  case round =>
    clear HO
    obtain ⟨k, ob, hk1, hk, rfl, rfl, hd⟩ := hrel
    have hk0 : (0 : Int) ≤ (k : Int) := by omega
    by_cases hlt : k < n
    · have hltI : (k : Int) < (n : Int) := by omega
      have p0 : w.cell? ⟨b, off + k, none⟩ = some (.int .u8 ((l.getD k 0).toNat : Int)) := HC.out k hlt
      have HN := Lib.hid (onB_drop l k (by rw [HL.out]; exact hlt))
      have hcb := (l.getD k 0).toNat_lt
      obtain ⟨c, hcc⟩ : ∃ c, c = (l.getD k 0).toNat := ⟨_, rfl⟩
      rw [← hcc] at p0 hcb HN
      clear hcc
      cases ob
      · have hd2 : Hid ((false && onB (l.drop (k + 1))) = true) := by have := hd.out; show _ = _; exact this
        clear hd HN
        go_wp2_with fail
        exact ⟨⟨k + 1, false, by omega, by omega, by go_num, rfl, hd2.out⟩, by simp [intOf]; omega⟩
      · by_cases h128 : c < 128
        · have hI : (c : Int) < 128 := by omega
          have hd2 : Hid ((false && onB (l.drop (k + 1))) = true) := by have := hd.out; rw [HN.out] at this; have e : decide (128 ≤ c) = false := decide_eq_false (by omega); rw [e] at this; show _ = _; exact this
          have dI : decide ((128 : Int) ≤ (c : Int)) = false := decide_eq_false (by omega)
          clear hd HN h128
          go_wp2_with fail
          exact ⟨⟨k + 1, false, by omega, by omega, by go_num, rfl, hd2.out⟩, by simp [intOf]; omega⟩
        · have hI : (128 : Int) ≤ (c : Int) := by omega
          have hd2 : Hid ((true && onB (l.drop (k + 1))) = true) := by have := hd.out; rw [HN.out] at this; have e : decide (128 ≤ c) = true := decide_eq_true (by omega); rw [e] at this; show _ = _; exact this
          clear hd HN h128
          go_wp2_with fail
          exact ⟨⟨k + 1, true, by omega, by omega, by go_num, rfl, hd2.out⟩, by simp [intOf]; omega⟩
    · obtain rfl : n = k := by omega
      have hob : ob = true := by
        have := hd.out
        rw [List.drop_of_length_le (by rw [HL.out]; exact Nat.le_refl _)] at this
        simpa [onB] using this
      subst hob
      clear hd hk hk0 hlt
      go_wp2_with fail
      refine bodyPost_ret (v := .tuple #[.int .u8 0, .slice none 0 0, .int .i64 0, .int .i64 31]) (by simp [results, Try.results8, go_sem]) rfl ⟨rfl, Lib.hid (Below.refl _ _)⟩

set_option maxHeartbeats 8000000 in
set_option maxRecDepth 100000 in
theorem rTake_bad (b off n cap : Nat) (c0 : Nat) (l : List UInt8) (w : World) (hn : 1 < n) (hn2 : n ≤ 1000000) (hnc : n ≤ cap) (hcap : cap ≤ maxLen) (hS : SlB w (some ⟨b, off, none⟩) n l) (hc : w.cell? ⟨b, off, none⟩ = some (.int .u8 (c0 : Int))) (hc0 : 0 < c0)
    (hopen : (decide (n < 11) && onB (l.drop 1)) = false) (x : Nat) (t : List UInt8) (hr : rdN (l.drop 1) false 18446744073709551615 = (x, t, true)) :
    Calls Try.prog 8 #[.slice (some ⟨b, off, none⟩) n cap] w (None1 w 20) := by
  have hnI : (0 : Int) < (n : Int) := by omega
  have hnN : 0 < n := by omega
  have hn0 : ((n : Int) == 0) = false := by simp; omega
  have hn2I : (n : Int) ≤ 1000000 := by omega
  have hz : ((c0 : Int) == 0) = false := by simp; omega
  have hncI : (n : Int) ≤ (cap : Int) := by omega
  have hcapI : (cap : Int) ≤ 9223372036854775807 := by unfold maxLen at hcap; omega
  have HO : Hid ((decide ((n : Int) < 11) && onB (l.drop 1)) = false) := by
    have e : decide ((n : Int) < 11) = decide (n < 11) := by simp only [decide_eq_decide]; omega
    show _ = _; rw [e]; exact hopen
  have HL := Lib.hid hS.1
  have HSl := Lib.hid hS
  have HCap := Lib.hid hcap
  have HC : Hid (∀ i, i < n → w.cell? ⟨b, off + i, none⟩ = some (byt (l.getD i 0))) := by
    rcases hS.2 with h0 | ⟨b', off', ha, _, hcl⟩
    · omega
    · injection ha with ha
      injection ha with h1 h2 _
      subst h1; subst h2
      exact hcl
  clear hopen hS hcap
  have hcI : (1 : Int) < (cap : Int) := by omega
  have hcN : ¬ cap = 1 := by omega
  have e1 : ((n : Int) - 1).toNat = n - 1 := by omega
  have hq : RR (w.alloc (.cells #[.slice (some ⟨b, off + 1, none⟩) (n - 1) (cap - 1), .bool false] 52)) w.heap.size w.heap.size (l.drop 1) false := by
    refine ⟨some ⟨b, off + 1, none⟩, n - 1, cap - 1, heap_alloc_new w _, ?_, by omega, by have := HCap.out; omega, Nat.le_refl _, ?_⟩
    · have := (HSl.out.fr0 (S := fun _ => False) (Fr.of_below ((Below.refl _ w).alloc (Nat.le_refl _) (.cells #[.slice (some ⟨b, off + 1, none⟩) (n - 1) (cap - 1), .bool false] 52))) (fun _ _ _ h => h)).drop 1 (by omega)
      simpa [addr_add] using this
    · intro a ha _
      injection ha with ha
      rw [← ha]
      exact World.block_lt_of_cell? w ⟨b, off + 0, none⟩ (HC.out 0 hnN)
  have HQ := Lib.hid (qNat_c w.heap.size w.heap.size (l.drop 1) false 18446744073709551615 _ hq x t true hr)
  unfold QT at HQ
  rw [show ((18446744073709551615 : Nat) : Int) = 18446744073709551615 from rfl] at HQ
  have HR := Lib.hid hr
  clear hq hr
  go_enter Try.func8, Try.ntmps8
  go_wp2_with fail
  go_loop [6, 7] (fun o i => ∃ (k : Nat) (ob : Bool), 1 ≤ k ∧ k ≤ n ∧ i = .int .i64 (k : Int) ∧ o = .bool ob ∧ Hid ((ob && onB (l.drop k)) = false)) (fun _ i => n - (intOf i).toNat)
  case atStart => exact ⟨1, _, by omega, by omega, rfl, rfl, HO.out⟩
  case round =>
    clear HO
    obtain ⟨k, ob, hk1, hk, rfl, rfl, hd⟩ := hrel
    have hk0 : (0 : Int) ≤ (k : Int) := by omega
    by_cases hlt : k < n
    · have hltI : (k : Int) < (n : Int) := by omega
      have p0 : w.cell? ⟨b, off + k, none⟩ = some (.int .u8 ((l.getD k 0).toNat : Int)) := HC.out k hlt
      have HN := Lib.hid (onB_drop l k (by rw [HL.out]; exact hlt))
      have hcb := (l.getD k 0).toNat_lt
      obtain ⟨c, hcc⟩ : ∃ c, c = (l.getD k 0).toNat := ⟨_, rfl⟩
      rw [← hcc] at p0 hcb HN
      clear hcc
      cases ob
      · have hd2 : Hid ((false && onB (l.drop (k + 1))) = false) := by have := hd.out; show _ = _; exact this
        clear hd HN
        go_wp2_with fail
        exact ⟨⟨k + 1, false, by omega, by omega, by go_num, rfl, hd2.out⟩, by simp [intOf]; omega⟩
      · by_cases h128 : c < 128
        · have hI : (c : Int) < 128 := by omega
          have hd2 : Hid ((false && onB (l.drop (k + 1))) = false) := by have := hd.out; rw [HN.out] at this; have e : decide (128 ≤ c) = false := decide_eq_false (by omega); rw [e] at this; show _ = _; exact this
          have dI : decide ((128 : Int) ≤ (c : Int)) = false := decide_eq_false (by omega)
          clear hd HN h128
          go_wp2_with fail
          exact ⟨⟨k + 1, false, by omega, by omega, by go_num, rfl, hd2.out⟩, by simp [intOf]; omega⟩
        · have hI : (128 : Int) ≤ (c : Int) := by omega
          have hd2 : Hid ((true && onB (l.drop (k + 1))) = false) := by have := hd.out; rw [HN.out] at this; have e : decide (128 ≤ c) = true := decide_eq_true (by omega); rw [e] at this; show _ = _; exact this
          clear hd HN h128
          go_wp2_with fail
          exact ⟨⟨k + 1, true, by omega, by omega, by go_num, rfl, hd2.out⟩, by simp [intOf]; omega⟩
    · obtain rfl : n = k := by omega
      have hob : ob = false := by
        have := hd.out
        rw [List.drop_of_length_le (by rw [HL.out]; exact Nat.le_refl _)] at this
        simpa [onB] using this
      subst hob
      clear hd hk hk0 hlt
      go_wp2_with fail
      ((with_reducible refine HQ.out.mono ?_); rintro e w1 ⟨rfl, hd1⟩)
      obtain ⟨A1, n1, d1, hR1⟩ := hd1.out.2
      have hb1 : Hid (Below w.heap.size w w1) := ((Below.refl _ w).alloc (Nat.le_refl _) _).trans (hd1.out.1.below (Nat.le_refl _) (by simp))
      have k0 : w1.cell? ⟨w.heap.size, 0, none⟩ = some (.slice A1 n1 d1) := by rw [cell_of_row _ _ _ _ _ _ hR1.1]; rfl
      have k1 : w1.cell? ⟨w.heap.size, 1, none⟩ = some (.bool true) := by rw [cell_of_row _ _ _ _ _ _ hR1.1]; rfl
      have HR1 := Lib.hid hR1
      clear hd1 HQ hR1
      go_wp2_with fail
      refine bodyPost_ret (v := .tuple #[.int .u8 0, .slice none 0 0, .int .i64 0, .int .i64 20]) (by simp [results, Try.results8, go_sem]) rfl ⟨rfl, hb1⟩

set_option maxHeartbeats 8000000 in
set_option maxRecDepth 100000 in
theorem rTake_long (b off n cap : Nat) (c0 : Nat) (l : List UInt8) (w : World) (hn : 1 < n) (hn2 : n ≤ 1000000) (hnc : n ≤ cap) (hcap : cap ≤ maxLen) (hS : SlB w (some ⟨b, off, none⟩) n l) (hc : w.cell? ⟨b, off, none⟩ = some (.int .u8 (c0 : Int))) (hc0 : 0 < c0)
    (hopen : (decide (n < 11) && onB (l.drop 1)) = false) (x : Nat) (t : List UInt8) (hr : rdN (l.drop 1) false 18446744073709551615 = (x, t, false)) (hx : 65536 < x) :
    Calls Try.prog 8 #[.slice (some ⟨b, off, none⟩) n cap] w (None1 w 21) := by
  have hnI : (0 : Int) < (n : Int) := by omega
  have hnN : 0 < n := by omega
  have hn0 : ((n : Int) == 0) = false := by simp; omega
  have hn2I : (n : Int) ≤ 1000000 := by omega
  have hz : ((c0 : Int) == 0) = false := by simp; omega
  have hncI : (n : Int) ≤ (cap : Int) := by omega
  have hcapI : (cap : Int) ≤ 9223372036854775807 := by unfold maxLen at hcap; omega
  have HO : Hid ((decide ((n : Int) < 11) && onB (l.drop 1)) = false) := by
    have e : decide ((n : Int) < 11) = decide (n < 11) := by simp only [decide_eq_decide]; omega
    show _ = _; rw [e]; exact hopen
  have HL := Lib.hid hS.1
  have HSl := Lib.hid hS
  have HCap := Lib.hid hcap
  have HC : Hid (∀ i, i < n → w.cell? ⟨b, off + i, none⟩ = some (byt (l.getD i 0))) := by
    rcases hS.2 with h0 | ⟨b', off', ha, _, hcl⟩
    · omega
    · injection ha with ha
      injection ha with h1 h2 _
      subst h1; subst h2
      exact hcl
  clear hopen hS hcap
  have hcI : (1 : Int) < (cap : Int) := by omega
  have hcN : ¬ cap = 1 := by omega
  have e1 : ((n : Int) - 1).toNat = n - 1 := by omega
  have hq : RR (w.alloc (.cells #[.slice (some ⟨b, off + 1, none⟩) (n - 1) (cap - 1), .bool false] 52)) w.heap.size w.heap.size (l.drop 1) false := by
    refine ⟨some ⟨b, off + 1, none⟩, n - 1, cap - 1, heap_alloc_new w _, ?_, by omega, by have := HCap.out; omega, Nat.le_refl _, ?_⟩
    · have := (HSl.out.fr0 (S := fun _ => False) (Fr.of_below ((Below.refl _ w).alloc (Nat.le_refl _) (.cells #[.slice (some ⟨b, off + 1, none⟩) (n - 1) (cap - 1), .bool false] 52))) (fun _ _ _ h => h)).drop 1 (by omega)
      simpa [addr_add] using this
    · intro a ha _
      injection ha with ha
      rw [← ha]
      exact World.block_lt_of_cell? w ⟨b, off + 0, none⟩ (HC.out 0 hnN)
  have HQ := Lib.hid (qNat_c w.heap.size w.heap.size (l.drop 1) false 18446744073709551615 _ hq x t false hr)
  unfold QT at HQ
  rw [show ((18446744073709551615 : Nat) : Int) = 18446744073709551615 from rfl] at HQ
  have HR := Lib.hid hr
  clear hq hr
  go_enter Try.func8, Try.ntmps8
  go_wp2_with fail
  go_loop [6, 7] (fun o i => ∃ (k : Nat) (ob : Bool), 1 ≤ k ∧ k ≤ n ∧ i = .int .i64 (k : Int) ∧ o = .bool ob ∧ Hid ((ob && onB (l.drop k)) = false)) (fun _ i => n - (intOf i).toNat)
  case atStart => exact ⟨1, _, by omega, by omega, rfl, rfl, HO.out⟩
  case round =>
    clear HO
    obtain ⟨k, ob, hk1, hk, rfl, rfl, hd⟩ := hrel
    have hk0 : (0 : Int) ≤ (k : Int) := by omega
    by_cases hlt : k < n
    · have hltI : (k : Int) < (n : Int) := by omega
      have p0 : w.cell? ⟨b, off + k, none⟩ = some (.int .u8 ((l.getD k 0).toNat : Int)) := HC.out k hlt
      have HN := Lib.hid (onB_drop l k (by rw [HL.out]; exact hlt))
      have hcb := (l.getD k 0).toNat_lt
      obtain ⟨c, hcc⟩ : ∃ c, c = (l.getD k 0).toNat := ⟨_, rfl⟩
      rw [← hcc] at p0 hcb HN
      clear hcc
      cases ob
      · have hd2 : Hid ((false && onB (l.drop (k + 1))) = false) := by have := hd.out; show _ = _; exact this
        clear hd HN
        go_wp2_with fail
        exact ⟨⟨k + 1, false, by omega, by omega, by go_num, rfl, hd2.out⟩, by simp [intOf]; omega⟩
      · by_cases h128 : c < 128
        · have hI : (c : Int) < 128 := by omega
          have hd2 : Hid ((false && onB (l.drop (k + 1))) = false) := by have := hd.out; rw [HN.out] at this; have e : decide (128 ≤ c) = false := decide_eq_false (by omega); rw [e] at this; show _ = _; exact this
          have dI : decide ((128 : Int) ≤ (c : Int)) = false := decide_eq_false (by omega)
          clear hd HN h128
          go_wp2_with fail
          exact ⟨⟨k + 1, false, by omega, by omega, by go_num, rfl, hd2.out⟩, by simp [intOf]; omega⟩
        · have hI : (128 : Int) ≤ (c : Int) := by omega
          have hd2 : Hid ((true && onB (l.drop (k + 1))) = false) := by have := hd.out; rw [HN.out] at this; have e : decide (128 ≤ c) = true := decide_eq_true (by omega); rw [e] at this; show _ = _; exact this
          clear hd HN h128
          go_wp2_with fail
          exact ⟨⟨k + 1, true, by omega, by omega, by go_num, rfl, hd2.out⟩, by simp [intOf]; omega⟩
    · obtain rfl : n = k := by omega
      have hob : ob = false := by
        have := hd.out
        rw [List.drop_of_length_le (by rw [HL.out]; exact Nat.le_refl _)] at this
        simpa [onB] using this
      subst hob
      clear hd hk hk0 hlt
      go_wp2_with fail
      ((with_reducible refine HQ.out.mono ?_); rintro e w1 ⟨rfl, hd1⟩)
      obtain ⟨A1, n1, d1, hR1⟩ := hd1.out.2
      have hb1 : Hid (Below w.heap.size w w1) := ((Below.refl _ w).alloc (Nat.le_refl _) _).trans (hd1.out.1.below (Nat.le_refl _) (by simp))
      have k0 : w1.cell? ⟨w.heap.size, 0, none⟩ = some (.slice A1 n1 d1) := by rw [cell_of_row _ _ _ _ _ _ hR1.1]; rfl
      have k1 : w1.cell? ⟨w.heap.size, 1, none⟩ = some (.bool false) := by rw [cell_of_row _ _ _ _ _ _ hR1.1]; rfl
      have HR1 := Lib.hid hR1
      clear hd1 HQ hR1
      have hxI : (65536 : Int) < (x : Int) := by omega
      go_wp2_with fail
      refine bodyPost_ret (v := .tuple #[.int .u8 0, .slice none 0 0, .int .i64 0, .int .i64 21]) (by simp [results, Try.results8, go_sem]) rfl ⟨rfl, hb1⟩

set_option maxHeartbeats 8000000 in
set_option maxRecDepth 100000 in
theorem rTake_torn (b off n cap : Nat) (c0 : Nat) (l : List UInt8) (w : World) (hn : 1 < n) (hn2 : n ≤ 1000000) (hnc : n ≤ cap) (hcap : cap ≤ maxLen) (hS : SlB w (some ⟨b, off, none⟩) n l) (hc : w.cell? ⟨b, off, none⟩ = some (.int .u8 (c0 : Int))) (hc0 : 0 < c0)
    (hopen : (decide (n < 11) && onB (l.drop 1)) = false) (x : Nat) (t : List UInt8) (hr : rdN (l.drop 1) false 18446744073709551615 = (x, t, false)) (hx : x ≤ 65536) (ht : t.length < x + 4) :
    Calls Try.prog 8 #[.slice (some ⟨b, off, none⟩) n cap] w (None1 w 31) := by
  have hnI : (0 : Int) < (n : Int) := by omega
  have hnN : 0 < n := by omega
  have hn0 : ((n : Int) == 0) = false := by simp; omega
  have hn2I : (n : Int) ≤ 1000000 := by omega
  have hz : ((c0 : Int) == 0) = false := by simp; omega
  have hncI : (n : Int) ≤ (cap : Int) := by omega
  have hcapI : (cap : Int) ≤ 9223372036854775807 := by unfold maxLen at hcap; omega
  have HO : Hid ((decide ((n : Int) < 11) && onB (l.drop 1)) = false) := by
    have e : decide ((n : Int) < 11) = decide (n < 11) := by simp only [decide_eq_decide]; omega
    show _ = _; rw [e]; exact hopen
  have HL := Lib.hid hS.1
  have HSl := Lib.hid hS
  have HCap := Lib.hid hcap
  have HC : Hid (∀ i, i < n → w.cell? ⟨b, off + i, none⟩ = some (byt (l.getD i 0))) := by
    rcases hS.2 with h0 | ⟨b', off', ha, _, hcl⟩
    · omega
    · injection ha with ha
      injection ha with h1 h2 _
      subst h1; subst h2
      exact hcl
  clear hopen hS hcap
  have hcI : (1 : Int) < (cap : Int) := by omega
  have hcN : ¬ cap = 1 := by omega
  have e1 : ((n : Int) - 1).toNat = n - 1 := by omega
  have hq : RR (w.alloc (.cells #[.slice (some ⟨b, off + 1, none⟩) (n - 1) (cap - 1), .bool false] 52)) w.heap.size w.heap.size (l.drop 1) false := by
    refine ⟨some ⟨b, off + 1, none⟩, n - 1, cap - 1, heap_alloc_new w _, ?_, by omega, by have := HCap.out; omega, Nat.le_refl _, ?_⟩
    · have := (HSl.out.fr0 (S := fun _ => False) (Fr.of_below ((Below.refl _ w).alloc (Nat.le_refl _) (.cells #[.slice (some ⟨b, off + 1, none⟩) (n - 1) (cap - 1), .bool false] 52))) (fun _ _ _ h => h)).drop 1 (by omega)
      simpa [addr_add] using this
    · intro a ha _
      injection ha with ha
      rw [← ha]
      exact World.block_lt_of_cell? w ⟨b, off + 0, none⟩ (HC.out 0 hnN)
  have HQ := Lib.hid (qNat_c w.heap.size w.heap.size (l.drop 1) false 18446744073709551615 _ hq x t false hr)
  unfold QT at HQ
  rw [show ((18446744073709551615 : Nat) : Int) = 18446744073709551615 from rfl] at HQ
  have HR := Lib.hid hr
  clear hq hr
  go_enter Try.func8, Try.ntmps8
  go_wp2_with fail
  go_loop [6, 7] (fun o i => ∃ (k : Nat) (ob : Bool), 1 ≤ k ∧ k ≤ n ∧ i = .int .i64 (k : Int) ∧ o = .bool ob ∧ Hid ((ob && onB (l.drop k)) = false)) (fun _ i => n - (intOf i).toNat)
  case atStart => exact ⟨1, _, by omega, by omega, rfl, rfl, HO.out⟩
  case round =>
    clear HO
    obtain ⟨k, ob, hk1, hk, rfl, rfl, hd⟩ := hrel
    have hk0 : (0 : Int) ≤ (k : Int) := by omega
    by_cases hlt : k < n
    · have hltI : (k : Int) < (n : Int) := by omega
      have p0 : w.cell? ⟨b, off + k, none⟩ = some (.int .u8 ((l.getD k 0).toNat : Int)) := HC.out k hlt
      have HN := Lib.hid (onB_drop l k (by rw [HL.out]; exact hlt))
      have hcb := (l.getD k 0).toNat_lt
      obtain ⟨c, hcc⟩ : ∃ c, c = (l.getD k 0).toNat := ⟨_, rfl⟩
      rw [← hcc] at p0 hcb HN
      clear hcc
      cases ob
      · have hd2 : Hid ((false && onB (l.drop (k + 1))) = false) := by have := hd.out; show _ = _; exact this
        clear hd HN
        go_wp2_with fail
        exact ⟨⟨k + 1, false, by omega, by omega, by go_num, rfl, hd2.out⟩, by simp [intOf]; omega⟩
      · by_cases h128 : c < 128
        · have hI : (c : Int) < 128 := by omega
          have hd2 : Hid ((false && onB (l.drop (k + 1))) = false) := by have := hd.out; rw [HN.out] at this; have e : decide (128 ≤ c) = false := decide_eq_false (by omega); rw [e] at this; show _ = _; exact this
          have dI : decide ((128 : Int) ≤ (c : Int)) = false := decide_eq_false (by omega)
          clear hd HN h128
          go_wp2_with fail
          exact ⟨⟨k + 1, false, by omega, by omega, by go_num, rfl, hd2.out⟩, by simp [intOf]; omega⟩
        · have hI : (128 : Int) ≤ (c : Int) := by omega
          have hd2 : Hid ((true && onB (l.drop (k + 1))) = false) := by have := hd.out; rw [HN.out] at this; have e : decide (128 ≤ c) = true := decide_eq_true (by omega); rw [e] at this; show _ = _; exact this
          clear hd HN h128
          go_wp2_with fail
          exact ⟨⟨k + 1, true, by omega, by omega, by go_num, rfl, hd2.out⟩, by simp [intOf]; omega⟩
    · obtain rfl : n = k := by omega
      have hob : ob = false := by
        have := hd.out
        rw [List.drop_of_length_le (by rw [HL.out]; exact Nat.le_refl _)] at this
        simpa [onB] using this
      subst hob
      clear hd hk hk0 hlt
      go_wp2_with fail
      ((with_reducible refine HQ.out.mono ?_); rintro e w1 ⟨rfl, hd1⟩)
      obtain ⟨A1, n1, d1, hR1⟩ := hd1.out.2
      have hb1 : Hid (Below w.heap.size w w1) := ((Below.refl _ w).alloc (Nat.le_refl _) _).trans (hd1.out.1.below (Nat.le_refl _) (by simp))
      have k0 : w1.cell? ⟨w.heap.size, 0, none⟩ = some (.slice A1 n1 d1) := by rw [cell_of_row _ _ _ _ _ _ hR1.1]; rfl
      have k1 : w1.cell? ⟨w.heap.size, 1, none⟩ = some (.bool false) := by rw [cell_of_row _ _ _ _ _ _ hR1.1]; rfl
      have HR1 := Lib.hid hR1
      clear hd1 HQ hR1
      have hxI : (x : Int) ≤ 65536 := by omega
      have htI : (n1 : Int) < (x : Int) + 4 := by have := HR1.out.2.1.1; omega
      go_wp2_with fail
      refine bodyPost_ret (v := .tuple #[.int .u8 0, .slice none 0 0, .int .i64 0, .int .i64 31]) (by simp [results, Try.results8, go_sem]) rfl ⟨rfl, hb1⟩
end Go.Proofs.Ytgbbckjbpgojaaa
