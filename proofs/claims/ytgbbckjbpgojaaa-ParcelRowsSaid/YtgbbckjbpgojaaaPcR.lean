/- parcel: the reference's End. -/
import Derived.Test.YtgbbckjbpgojaaaPcY
import Derived.Test.YtgbbckjbpgojaaaPcO
namespace Go.Proofs.Ytgbbckjbpgojaaa
open Go.RowKit
set_option linter.unusedVariables false

theorem sizes_nil : sizes [] = [] := sizes_no (by show ¬ (31 : Nat) = 0; decide)
/-- Where the reference stands: behind so many whole parcels. -/
structure AtR (l : List UInt8) (at' m : Nat) : Prop where
  sp : ∃ ps : List Nat, sizes l = ps ++ sizes (l.drop at') ∧ ps.sum = at' ∧ ps.length = m
  le : at' ≤ l.length
theorem AtR.zero (l : List UInt8) : AtR l 0 0 := ⟨⟨[], rfl, rfl, rfl⟩, Nat.zero_le _⟩
theorem AtR.more {l : List UInt8} {a m : Nat} (h : AtR l a m) (he : (firstF (l.drop a)).er = 0) : AtR l (a + parN (l.drop a)) (m + 1) := by
  obtain ⟨⟨ps, h1, h2, h3⟩, h4⟩ := h
  have hl := (parN_le (l.drop a)).1
  rw [List.length_drop] at hl
  refine ⟨⟨ps ++ [parN (l.drop a)], ?_, by simp [h2], by simp [h3]⟩, by omega⟩
  rw [h1, sizes_yes he, List.drop_drop, List.append_assoc]
  rfl
theorem AtR.stop {l : List UInt8} {a m er : Nat} (h : AtR l a m) (hlt : a < l.length) (he : (firstF (l.drop a)).er = er) (h0 : ¬ er = 0) : endN l = a ∧ endEr l = er ∧ (sizes l).length = m := by
  obtain ⟨⟨ps, h1, h2, h3⟩, h4⟩ := h
  have e0 : sizes (l.drop a) = [] := sizes_no (by rw [he]; exact h0)
  rw [e0, List.append_nil] at h1
  have hN : endN l = a := by unfold endN; rw [h1, h2]
  refine ⟨hN, ?_, by rw [h1, h3]⟩
  unfold endEr
  rw [hN, if_neg (by omega), he]
theorem AtR.fin {l : List UInt8} {a m : Nat} (h : AtR l a m) (hge : ¬ a < l.length) : endN l = a ∧ endEr l = 0 ∧ (sizes l).length = m := by
  obtain ⟨⟨ps, h1, h2, h3⟩, h4⟩ := h
  rw [List.drop_eq_nil_of_le (by omega), sizes_nil, List.append_nil] at h1
  have hN : endN l = a := by unfold endN; rw [h1, h2]
  refine ⟨hN, ?_, by rw [h1, h3]⟩
  unfold endEr
  rw [hN, if_pos (by omega)]
theorem AtR.many {l : List UInt8} {a m : Nat} (h : AtR l a m) : m ≤ l.length + 1 := by
  obtain ⟨⟨ps, h1, h2, h3⟩, h4⟩ := h
  have := sizesF_len (l.length + 1) l
  have h5 : (sizes l).length = ps.length + (sizes (l.drop a)).length := by rw [h1, List.length_append]
  unfold sizes at h5 this
  omega
/-- Three results in slots of their own. -/
theorem rEnd3 (x y z : Nat) (l : List UInt8) (h : endN l = x ∧ endEr l = y ∧ (sizes l).length = z) : Ending.returned (.tuple #[.int .i64 (x : Int), .int .i64 (y : Int), .int .i64 (z : Int)]) = .returned (.tuple #[.int .i64 (endN l : Int), .int .i64 (endEr l : Int), .int .i64 ((sizes l).length : Int)]) := by rw [h.1, h.2.1, h.2.2]

theorem meas_add {n a p : Nat} (h : n - (a + p) < n - a) : n - (intOf (.int .i64 ((a : Int) + (p : Int)))).toNat < n - (intOf (.int .i64 (a : Int))).toNat := by
  show n - ((a : Int) + (p : Int)).toNat < n - (a : Int).toNat
  omega
set_option maxHeartbeats 8000000 in
set_option maxRecDepth 100000 in
theorem rEnd_c (A : Option Addr) (n cap : Nat) (l : List UInt8) (w : World) (h : SlB w A n l) (hn : n ≤ 1000000) (hc : n ≤ cap) (hcap : cap ≤ maxLen) :
    Calls Try.prog 6 #[.slice A n cap] w fun e w' => e = .returned (.tuple #[.int .i64 (endN l : Int), .int .i64 (endEr l : Int), .int .i64 ((sizes l).length : Int)]) ∧ Below w.heap.size w w' := by
  have hl := h.1
  have HS := Lib.hid h
  have HL := Lib.hid hl
  have HC := Lib.hid hcap
  have hnI : (n : Int) ≤ 1000000 := by omega
  have hcI : (n : Int) ≤ (cap : Int) := by omega
  have hcapI : (cap : Int) ≤ 9223372036854775807 := by unfold maxLen at hcap; omega
  clear h hl hcap
  go_enter Try.func6, Try.ntmps6
  go_wp2_with fail
  go_loopw [5, 6] (fun a m wr => ∃ a' m' : Nat, a = .int .i64 (a' : Int) ∧ m = .int .i64 (m' : Int) ∧ Hid (AtR l a' m') ∧ Below w.heap.size w wr) (fun a _ _ => n - (intOf a).toNat)
  case atStart => exact ⟨0, 0, rfl, rfl, AtR.zero l, Below.refl _ _⟩
  case round =>
    obtain ⟨a', m', rfl, rfl, hR, bel⟩ := hrel
    have ha0 : (0 : Int) ≤ (a' : Int) := by omega
    have hm0 : (0 : Int) ≤ (m' : Int) := by omega
    by_cases hlt : a' < n
    · have hltI : (a' : Int) < (n : Int) := by omega
      have hacI : (a' : Int) < (cap : Int) := by omega
      have hac : ¬ cap = a' := by omega
      obtain ⟨b, off, rfl, hbl, _⟩ : ∃ b off, A = some ⟨b, off, none⟩ ∧ b < w.heap.size ∧ True := by
        rcases HS.out.2 with h0 | ⟨b, off, h1, h2, _⟩
        · omega
        · exact ⟨b, off, h1, h2, trivial⟩
      have hSd : SlB wr (some ⟨b, off + a', none⟩) (n - a') (l.drop a') := by
        have := (HS.out.below bel).drop a' (by omega)
        simpa [addr_add] using this
      have hTk := (rTake_c (some ⟨b, off + a', none⟩) (n - a') (cap - a') (l.drop a') wr hSd (by omega) (by omega) (by have := HC.out; omega))
      unfold Taken at hTk
      obtain ⟨er, her⟩ : ∃ er, er = (firstF (l.drop a')).er := ⟨_, rfl⟩
      obtain ⟨pn, hpn⟩ : ∃ pn, pn = parN (l.drop a') := ⟨_, rfl⟩
      rw [← her, ← hpn] at hTk
      have HTk := Lib.hid hTk
      have hll : (l.drop a').length = n - a' := by rw [List.length_drop, HL.out]
      have hpl : pn ≤ n - a' := by rw [hpn, ← hll]; exact (parN_le _).1
      have hp5 : er = 0 → 5 ≤ pn := fun h => by rw [hpn]; exact (parN_le _).2 (her ▸ h)
      have Her := Lib.hid her
      have Hpn := Lib.hid hpn
      have HQ : Hid (a' < l.length) := by show _ < _; rw [HL.out]; exact hlt
      have hM := hR.out.many
      clear hSd hTk her hll hpn
      by_cases h0 : er = 0
      · have hp5' := hp5 h0
        have hR2 := hR.out.more (by rw [← Her.out]; exact h0)
        rw [← Hpn.out] at hR2
        have HR2 := Lib.hid hR2
        have hpI : (a' : Int) + (pn : Int) ≤ 1000000 := by omega
        have hp0 : (0 : Int) ≤ (pn : Int) := by omega
        have hmI : (m' : Int) ≤ 1000001 := by have := HL.out; omega
        have HM5 : Hid (n - (a' + pn) < n - a') := by show _ < _; omega
        subst h0
        clear hR2 hp5 hp5' hM hpl
        go_wp2_with fail
        (with_reducible refine HTk.out.mono ?_); rintro e w1 ⟨A1, c1, rfl, hd1⟩
        have HB1 := Lib.hid (bel.trans (hd1.out.2.1.mono bel.size))
        clear hd1
        go_wp2_with fail
        exact ⟨⟨a' + pn, m' + 1, by go_num, by go_num, HR2.out, HB1.out⟩, meas_add HM5.out⟩
      · have HX := Lib.hid (hR.out.stop HQ.out Her.out.symm h0)
        have h0b : ((er : Int) == 0) = false := by simpa using h0
        have h0c : ((er : Int) != 0) = true := by simpa using h0
        clear hp5 hM hpl h0
        go_wp2_with fail
        (with_reducible refine HTk.out.mono ?_); rintro e w1 ⟨A1, c1, rfl, hd1⟩
        have HB1 := Lib.hid (bel.trans (hd1.out.2.1.mono bel.size))
        clear hd1
        go_wp2_with fail
        refine bodyPost_ret (results_tmp3 rfl _ _ _) rfl ?_
        exact ⟨rEnd3 _ _ _ _ HX.out, HB1.out⟩
    · have hge : ¬ a' < l.length := by rw [HL.out]; exact hlt
      have HX := Lib.hid (hR.out.fin hge)
      clear hge
      go_wp2_with fail
      refine bodyPost_ret (results_tmp3 rfl _ _ _) rfl ?_
      exact ⟨rEnd3 _ 0 _ _ HX.out, bel⟩
end Go.Proofs.Ytgbbckjbpgojaaa
