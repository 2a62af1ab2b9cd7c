/- parcel: the length of a body, at the head of some bytes. -/
import Derived.Test.YtgbbckjbpgojaaaPcG
namespace Go.Proofs.Ytgbbckjbpgojaaa
open Go.RowKit

/-- Each of the bytes tells that another one comes. -/
def onB (l : List UInt8) : Bool := l.all (fun c => decide (128 ≤ c.toNat))
theorem onB_drop (l : List UInt8) (k : Nat) (h : k < l.length) : onB (l.drop k) = (decide (128 ≤ (l.getD k 0).toNat) && onB (l.drop (k + 1))) := by
  unfold onB
  rw [List.drop_eq_getElem_cons h, List.all_cons, List.getD_eq_getElem?_getD, List.getElem?_eq_getElem h]
  rfl

set_option maxHeartbeats 4000000 in
set_option maxRecDepth 100000 in
theorem goesOn_c (A : Option Addr) (n cap : Nat) (l : List UInt8) (w : World) (h : SlB w A n l) (hn : n ≤ 1000000) :
    Calls Try.prog 34 #[.slice A n cap] w fun e w' => e = .returned (.bool (onB l)) ∧ w = w' := by
  have HS := Lib.hid h
  have HL := Lib.hid h.1
  have hnI : (n : Int) ≤ 1000000 := by omega
  obtain ⟨r, hr⟩ : ∃ r, r = onB l := ⟨_, rfl⟩
  rw [← hr]
  have HR : Hid (r = onB (l.drop 0)) := hr
  clear h hr
  go_enter Try.func34, Try.ntmps34
  go_wp2_with fail
  go_loop [4, 7] (fun _ i => ∃ k : Nat, k ≤ n ∧ i = .int .i64 (k : Int) ∧ Hid (r = onB (l.drop k))) (fun _ i => n - (intOf i).toNat)
  case atStart => exact ⟨0, by omega, rfl, HR.out⟩
  case round =>
    obtain ⟨k, hk, rfl, hrk⟩ := hrel
    have hk0 : (0 : Int) ≤ (k : Int) := by omega
    by_cases hlt : k < n
    · have hltI : (k : Int) < (n : Int) := by omega
      rcases HS.out.2 with h0 | ⟨b, off, rfl, hb, hc⟩
      · omega
      have p0 : w.cell? ⟨b, off + k, none⟩ = some (.int .u8 ((l.getD k 0).toNat : Int)) := hc k hlt
      have HN := Lib.hid (onB_drop l k (by rw [HL.out]; exact hlt))
      have hcb := (l.getD k 0).toNat_lt
      obtain ⟨c, hcc⟩ : ∃ c, c = (l.getD k 0).toNat := ⟨_, rfl⟩
      rw [← hcc] at p0 hcb HN
      clear hcc hc
      by_cases h128 : c < 128
      · have hI : (c : Int) < 128 := by omega
        have hr0 : r = false := by rw [hrk.out, HN.out]; simp; omega
        subst hr0
        go_wp2_with fail
        go_ret
        exact ⟨rfl, rfl⟩
      · have hI : (128 : Int) ≤ (c : Int) := by omega
        have hr1 : Hid (r = onB (l.drop (k + 1))) := by show _ = _; rw [hrk.out, HN.out]; simp; omega
        clear hrk HN h128
        go_wp2_with fail
        exact ⟨⟨k + 1, by omega, by go_num, hr1.out⟩, by simp [intOf]; omega⟩
    · obtain rfl : k = n := by omega
      have hr0 : r = true := by rw [hrk.out, List.drop_of_length_le (by rw [HL.out]; exact Nat.le_refl _)]; rfl
      subst hr0
      clear hrk
      go_wp2_with fail
      go_ret
      exact ⟨rfl, rfl⟩
theorem SlB.upTo {w : World} {A : Option Addr} {n : Nat} {l : List UInt8} (h : SlB w A n l) (k : Nat) (hk : k ≤ n) : SlB w A k (l.take k) := by
  obtain ⟨hl, h2⟩ := h
  refine ⟨by simp; omega, ?_⟩
  rcases h2 with h0 | ⟨b, off, rfl, hb, hc⟩
  · exact .inl (by omega)
  · refine .inr ⟨b, off, rfl, hb, fun i hi => ?_⟩
    rw [hc i (by omega)]
    simp [List.getD_eq_getElem?_getD, hi]

/-- What 'length' tells: the number, its bytes, and what is wrong. -/
def lenF (l : List UInt8) : Nat × Nat × Nat :=
  if (rdN (l.take 10) false 18446744073709551615).2.2 then (if (l.take 10).length < 10 ∧ onB (l.take 10) then (0, 0, 31) else (0, 0, 20))
  else if 65536 < (rdN (l.take 10) false 18446744073709551615).1 then (0, 0, 21)
  else ((rdN (l.take 10) false 18446744073709551615).1, (l.take 10).length - (rdN (l.take 10) false 18446744073709551615).2.1.length, 0)

set_option maxHeartbeats 8000000 in
set_option maxRecDepth 100000 in
theorem length_c (A : Option Addr) (n cap : Nat) (l : List UInt8) (w : World) (h : SlB w A n l) (hn : n ≤ 1000000) (hc : n ≤ cap) (hc2 : cap ≤ 9223372036854775807) :
    Calls Try.prog 25 #[.slice A n cap] w fun e w' => e = .returned (.tuple #[.int .i64 ((lenF l).1 : Int), .int .i64 ((lenF l).2.1 : Int), .int .i64 ((lenF l).2.2 : Int)]) ∧ Hid (Below w.heap.size w w') := by
  obtain ⟨m, hm⟩ : ∃ m, m = min n 10 := ⟨_, rfl⟩
  have hmn : m ≤ n := by omega
  have hm10 : m ≤ 10 := by omega
  have hl := h.1
  have hlm : (l.take 10).length = m := by rw [List.length_take, hl, hm]; omega
  have htk : l.take 10 = l.take m := by
    rw [hm]
    rcases Nat.le_total n 10 with hh | hh
    · rw [Nat.min_eq_left hh, List.take_of_length_le (by omega), List.take_of_length_le (by omega)]
    · rw [Nat.min_eq_right hh]
  have hS := h.upTo m hmn
  rw [← htk] at hS
  obtain ⟨s, hs⟩ : ∃ s, s = l.take 10 := ⟨_, rfl⟩
  obtain ⟨⟨x, t, b⟩, hr⟩ : ∃ r, r = rdN s false 18446744073709551615 := ⟨_, rfl⟩
  have hF : lenF l = if b then (if m < 10 ∧ onB s then (0, 0, 31) else (0, 0, 20)) else if 65536 < x then (0, 0, 21) else (x, m - t.length, 0) := by
    unfold lenF
    rw [← hs, ← hr, hs, hlm, ← hs]
  rw [← hs] at hS hlm
  obtain ⟨F, hFF⟩ : ∃ F, F = lenF l := ⟨_, rfl⟩
  rw [← hFF] at hF ⊢
  have HF := Lib.hid hF
  have HS := Lib.hid hS
  have hbd := rdN_bound s false 18446744073709551615
  rw [← hr, hlm] at hbd
  simp only at hbd
  obtain ⟨hx1, _, ht1⟩ := hbd
  have HR := Lib.hid hr.symm
  have hmI : min (n : Int) 10 = (m : Int) := by omega
  have hnI : (n : Int) ≤ 1000000 := by omega
  have hcI : (n : Int) ≤ (cap : Int) := by omega
  have hc2I : (cap : Int) ≤ 9223372036854775807 := by omega
  have hmnI : (m : Int) ≤ (n : Int) := by omega
  have hO := fun c => Open_c A m c s w hS
  have HA : Hid (A = none → n = 0) := fun hh => by
    rcases h.2 with h0 | ⟨_, _, h1, _⟩
    · exact h0
    · rw [hh] at h1; cases h1
  have HO := Lib.hid hO
  clear h hl htk hs hr hF hFF hO hS hm hlm
  go_enter Try.func25, Try.ntmps25
  cases A with
  | none =>
    have hn0 := HA.out rfl
    subst hn0
    have hm0 : m = 0 := by omega
    subst hm0
    have hs0 : s = [] := List.eq_nil_of_length_eq_zero HS.out.1
    subst hs0
    obtain ⟨rfl, rfl, rfl⟩ : 0 = x ∧ [] = t ∧ true = b := by
      have := HR.out
      have e : rdN [] false 18446744073709551615 = (0, [], true) := rfl
      rw [e] at this
      injection this with h1 h2
      injection h2 with h2 h3
      exact ⟨h1, h2, h3⟩
    have hF : F = (0, 0, 31) := by rw [HF.out]; rfl
    subst hF
    clear hmI hnI hcI hmnI HF
    have hm00 : min (0 : Int) 10 = 0 := by decide
    go_wp2_with fail
    ((with_reducible refine (HO.out _).mono ?_); rintro e w1 ⟨rfl, hw1⟩)
    have hrb : RB w1 w.heap.size [] false := by rw [← hw1]; exact heap_alloc_new w _
    have hb1 : Below w.heap.size w w1 := by rw [← hw1]; exact (Below.refl _ _).alloc (Nat.le_refl _) _
    have hz1 : w.heap.size ≤ w1.heap.size := hb1.size
    have HNt := Lib.hid (rNat_c w.heap.size [] false 18446744073709551615 w1 hrb 0 [] true HR.out)
    rw [show ((18446744073709551615 : Nat) : Int) = 18446744073709551615 from rfl] at HNt
    have HB1 := Lib.hid hb1
    clear hw1 hrb HO hb1
    go_wp2_with fail
    ((with_reducible refine HNt.out.mono ?_); rintro e w2 ⟨rfl, ht2, hr2⟩)
    have hb2 : Below w.heap.size w w2 := HB1.out.trans ((Fr.tch ht2).below (fun k hk => by rw [hk]; exact Nat.le_refl _) hz1)
    have HB2 := Lib.hid hb2
    have HBad := Lib.hid (Bad_c w.heap.size [] true w2 hr2)
    have HGo : Hid (∀ c, Calls Try.prog 34 #[.slice none 0 c] w2 fun e w' => e = .returned (.bool true) ∧ w2 = w') := fun c => goesOn_c none 0 c [] w2 ⟨rfl, .inl rfl⟩ (by omega)
    clear HNt ht2 hr2 hb2 HB1 HS HR hz1
    go_wp2_with (first | ((with_reducible refine HBad.out.mono ?_); rintro e w3 ⟨rfl, hw⟩; subst hw) | ((with_reducible refine (HGo.out _).mono ?_); rintro e w3 ⟨rfl, hw⟩; subst hw) | fail)
    go_ret3
    exact ⟨rfl, HB2.out⟩
  | some ad =>
    go_wp2_with fail
    ((with_reducible refine (HO.out _).mono ?_); rintro e w1 ⟨rfl, hw1⟩)
    have hrb : RB w1 w.heap.size s false := by rw [← hw1]; exact heap_alloc_new w _
    have hb1 : Below w.heap.size w w1 := by rw [← hw1]; exact (Below.refl _ _).alloc (Nat.le_refl _) _
    have hz1 : w.heap.size ≤ w1.heap.size := hb1.size
    have HNt := Lib.hid (rNat_c w.heap.size s false 18446744073709551615 w1 hrb x t b HR.out)
    rw [show ((18446744073709551615 : Nat) : Int) = 18446744073709551615 from rfl] at HNt
    have HB1 := Lib.hid hb1
    clear hw1 hrb HO hb1
    go_wp2_with fail
    ((with_reducible refine HNt.out.mono ?_); rintro e w2 ⟨rfl, ht2, hr2⟩)
    have hb2 : Below w.heap.size w w2 := HB1.out.trans ((Fr.tch ht2).below (fun k hk => by rw [hk]; exact Nat.le_refl _) hz1)
    have HB2 := Lib.hid hb2
    have HS2 : Hid (SlB w2 (some ad) m s) := HS.out.fr0 (S := fun _ => False) (Fr.of_below hb2) (fun _ _ _ h => h)
    have HBad := Lib.hid (Bad_c w.heap.size t b w2 hr2)
    have HLeft := Lib.hid (Left_c w.heap.size t b w2 hr2)
    have HGo : Hid (∀ c, Calls Try.prog 34 #[.slice (some ad) m c] w2 fun e w' => e = .returned (.bool (onB s)) ∧ w2 = w') := fun c => goesOn_c _ m c s w2 HS2.out (by omega)
    obtain ⟨o, ho⟩ : ∃ o, o = onB s := ⟨_, rfl⟩
    rw [← ho] at HGo HF
    clear HNt ht2 hr2 hb2 HB1 HS ho HS2 HR hz1
    have htI : (t.length : Int) ≤ (m : Int) := by omega
    have hm10I : (m : Int) ≤ 10 := by omega
    have hxI : (x : Int) ≤ 18446744073709551615 := by omega
    cases b with
    | true =>
      by_cases hlt : m < 10
      · have hltI : (m : Int) < 10 := by omega
        cases o with
        | true =>
          have hF : F = (0, 0, 31) := by rw [HF.out]; simp [hlt]
          subst hF
          go_wp2_with (first | ((with_reducible refine HBad.out.mono ?_); rintro e w3 ⟨rfl, hw⟩; subst hw) | ((with_reducible refine (HGo.out _).mono ?_); rintro e w3 ⟨rfl, hw⟩; subst hw) | fail)
          go_ret3
          exact ⟨rfl, HB2.out⟩
        | false =>
          have hF : F = (0, 0, 20) := by rw [HF.out]; simp
          subst hF
          go_wp2_with (first | ((with_reducible refine HBad.out.mono ?_); rintro e w3 ⟨rfl, hw⟩; subst hw) | ((with_reducible refine (HGo.out _).mono ?_); rintro e w3 ⟨rfl, hw⟩; subst hw) | fail)
          go_ret3
          exact ⟨rfl, HB2.out⟩
      · have hltI : ¬ (m : Int) < 10 := by omega
        have hF : F = (0, 0, 20) := by rw [HF.out]; simp [hlt]
        subst hF
        go_wp2_with (first | ((with_reducible refine HBad.out.mono ?_); rintro e w3 ⟨rfl, hw⟩; subst hw) | fail)
        go_ret3
        exact ⟨rfl, HB2.out⟩
    | false =>
      by_cases hlt : 65536 < x
      · have hltI : (65536 : Int) < (x : Int) := by omega
        have hF : F = (0, 0, 21) := by rw [HF.out]; simp [hlt]
        subst hF
        go_wp2_with (first | ((with_reducible refine HBad.out.mono ?_); rintro e w3 ⟨rfl, hw⟩; subst hw) | fail)
        go_ret3
        exact ⟨rfl, HB2.out⟩
      · have hltI : (x : Int) ≤ 65536 := by omega
        have hF : F = (x, m - t.length, 0) := by rw [HF.out]; simp [hlt]
        subst hF
        have hsub : (m : Int) - (t.length : Int) = ((m - t.length : Nat) : Int) := by omega
        go_wp2_with (first | ((with_reducible refine HBad.out.mono ?_); rintro e w3 ⟨rfl, hw⟩; subst hw) | ((with_reducible refine HLeft.out.mono ?_); rintro e w3 ⟨rfl, hw⟩; subst hw) | fail)
        go_ret3
        exact ⟨rfl, HB2.out⟩
end Go.Proofs.Ytgbbckjbpgojaaa
