/- chance's statements: whether calls are not more than are looked at. -/
import Derived.Test.YtacfboopkcaobaaAsk
namespace Go.Proofs.Ytacfboopkcaobaa
open Go.RowKit

def Lt5 (nb : Nat) (its : List Asq) : Prop := (∀ i, i < its.length → its[i]!.vL ≤ 60) ∧ nb ≤ 1000 ∧ its.length ≤ 60
def lt5 (nb : Nat) (its : List Asq) : Bool := (List.range its.length).all (fun i => decide (its[i]!.vL ≤ 60)) && (decide (nb ≤ 1000) && decide (its.length ≤ 60))
theorem lt5_iff {nb : Nat} {its : List Asq} : lt5 nb its = true ↔ Lt5 nb its := by
  unfold lt5 Lt5
  simp
theorem lt5_false {nb : Nat} {its : List Asq} (h : ¬ Lt5 nb its) : lt5 nb its = false := by
  cases e : lt5 nb its
  · rfl
  · exact absurd (lt5_iff.1 e) h

set_option maxHeartbeats 4000000 in
set_option maxRecDepth 100000 in
theorem light5_c (Ab : Option Addr) (nb cb : Nat) (a : Option Addr) (len cap : Nat) (its : List Asq) (w : World) (h : Asqs w a len its) (hnb : nb ≤ 9223372036854775807) :
    Calls Try.prog 19 #[.slice Ab nb cb, .slice a len cap] w fun e w' => e = .returned (.bool (lt5 nb its)) ∧ Below w.heap.size w w' := by
  obtain ⟨r, hr⟩ : ∃ r, r = lt5 nb its := ⟨_, rfl⟩
  rw [← hr]
  have HR := Lib.hid hr; clear hr
  have HI := Lib.hid h
  obtain ⟨hl, hm, _, hc⟩ := h
  have HL := Lib.hid hl
  have HC := Lib.hid hc
  have hmI : (len : Int) ≤ 9223372036854775807 := by omega
  have hnI : (nb : Int) ≤ 9223372036854775807 := by omega
  clear hl hc hm hnb
  go_enter Try.func19, Try.ntmps19
  go_wp2_with fail
  go_loopw [9] (fun i wr => ∃ k : Nat, k ≤ len ∧ i = .int .i64 (k : Int) ∧ Hid ((∀ j, j < k → its[j]!.vL ≤ 60) ∧ Below w.heap.size w wr)) (fun i _ => len - (intOf i).toNat)
  case atStart => exact ⟨0, by omega, rfl, fun j hj => by omega, Below.refl _ _⟩
  case round =>
    obtain ⟨k, hk, rfl, hd⟩ := hrel
    by_cases hlt : k < len
    · have hltI : (k : Int) < (len : Int) := by omega
      have hk0 : (0 : Int) ≤ (k : Int) := by omega
      rcases HC.out with h0 | ⟨b, off, rfl, hb, hcells⟩
      · exfalso; omega
      have hsz := hd.out.2.size
      obtain ⟨x, hx⟩ : ∃ x, x = its[k]! := ⟨_, rfl⟩
      have hat : x.at wr b (off + k * 5) := by rw [hx]; exact Asq.at_below (hcells k hlt) hb hd.out.2
      obtain ⟨p0, p1, p2, p3, p4⟩ := hat
      have HX := Lib.hid hx
      clear hx hcells
      obtain ⟨xk, xn, xl, xh, xA, xL, xC, xZ⟩ := x
      simp only at p0 p1 p2 p3 p4
      by_cases hs : 60 < xL
      · have hsI : (60 : Int) < (xL : Int) := by omega
        have hr0 : Hid (r = false) := by
          show r = false
          rw [HR.out]
          exact lt5_false fun h => by
            have h1 := h.1 k (by rw [HL.out]; exact hlt)
            rw [← HX.out] at h1
            simp at h1; omega
        have HB : Hid (Below w.heap.size w wr) := hd.out.2
        clear hs HC HI hd
        go_wp2_with fail
        go_ret
        rw [hr0.out]
        exact ⟨rfl, Below.alloc HB.out hsz _⟩
      · have hsI : (xL : Int) ≤ 60 := by omega
        have hnx : Hid ((∀ j, j < k + 1 → its[j]!.vL ≤ 60) ∧ Below w.heap.size w wr) := by
          refine ⟨fun j hj => ?_, hd.out.2⟩
          by_cases e : j = k
          · subst e; rw [← HX.out]; simp only; omega
          · exact hd.out.1 j (by omega)
        clear hs HC HI hd
        go_wp2_with fail
        exact ⟨⟨k + 1, by omega, by go_num, hnx.out.1, Below.alloc hnx.out.2 hsz _⟩, by simp [intOf]; omega⟩
    · have hkl : k = len := by omega
      subst hkl
      have HB : Hid (Below w.heap.size w wr) := hd.out.2
      have hre : Hid (r = (decide (nb ≤ 1000) && decide (k ≤ 60))) := by
        show r = _
        rw [HR.out]
        by_cases h : Lt5 nb its
        · rw [lt5_iff.2 h]
          have h1 := h.2.1
          have h2 := h.2.2
          rw [HL.out] at h2
          simp [h1, h2]
        · rw [lt5_false h]
          have : ¬ (nb ≤ 1000 ∧ k ≤ 60) := fun h1 => h ⟨fun i hi => hd.out.1 i (by rw [HL.out] at hi; exact hi), h1.1, by rw [HL.out]; exact h1.2⟩
          simp
          omega
      clear hd HI HC
      by_cases h1 : nb ≤ 1000
      · have h1I : (nb : Int) ≤ 1000 := by omega
        by_cases h60 : k ≤ 60
        · have h6 : (k : Int) ≤ 60 := by omega
          have hrt : Hid (r = true) := by show r = true; rw [hre.out]; simp [h1, h60]
          clear h1 h60
          go_wp2_with fail
          go_ret
          rw [hrt.out]
          exact ⟨rfl, HB.out⟩
        · have h6 : (60 : Int) < (k : Int) := by omega
          have h6b : decide ((k : Int) ≤ 60) = false := decide_eq_false (by omega)
          have hrt : Hid (r = false) := by show r = false; rw [hre.out]; simp [h60]
          clear h1 h60
          go_wp2_with fail
          go_ret
          rw [hrt.out]
          exact ⟨rfl, HB.out⟩
      · have h1I : (1000 : Int) < (nb : Int) := by omega
        have h1b : decide ((nb : Int) ≤ 1000) = false := decide_eq_false (by omega)
        have hrt : Hid (r = false) := by show r = false; rw [hre.out]; simp [h1]
        clear h1
        go_wp2_with fail
        go_ret
        rw [hrt.out]
        exact ⟨rfl, HB.out⟩
end Go.Proofs.Ytacfboopkcaobaa
