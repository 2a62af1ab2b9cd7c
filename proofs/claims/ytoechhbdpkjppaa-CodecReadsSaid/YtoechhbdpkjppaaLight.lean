/- Whether items are light. -/
import Derived.Test.YtoechhbdpkjppaaItem
namespace Go.Proofs.Ytoechhbdpkjppaa
open Go.RowKit

def Light (its : List Itm) : Prop := (∀ i, i < its.length → its[i]!.s.size ≤ 1000) ∧ its.length ≤ 60
def lightB (its : List Itm) : Bool := (List.range its.length).all (fun i => decide (its[i]!.s.size ≤ 1000)) && decide (its.length ≤ 60)
theorem lightB_iff {its : List Itm} : lightB its = true ↔ Light its := by
  unfold lightB Light
  simp

theorem Items.below {w w' : World} {a : Option Addr} {len : Nat} {its : List Itm} (h : Items w a len its) (hb : Below w.heap.size w w') : Items w' a len its := by
  obtain ⟨h1, hle, h2, h3⟩ := h
  refine ⟨h1, hle, h2, ?_⟩
  rcases h3 with h0 | ⟨b, off, rfl, hlt, hc⟩
  · exact .inl h0
  · refine .inr ⟨b, off, rfl, Nat.lt_of_lt_of_le hlt hb.size, fun i hi => ?_⟩
    have := hc i hi
    simpa only [hb.cell (p := ⟨b, off + i * 6, none⟩) hlt, hb.cell (p := ⟨b, off + i * 6 + 1, none⟩) hlt, hb.cell (p := ⟨b, off + i * 6 + 2, none⟩) hlt, hb.cell (p := ⟨b, off + i * 6 + 3, none⟩) hlt, hb.cell (p := ⟨b, off + i * 6 + 4, none⟩) hlt, hb.cell (p := ⟨b, off + i * 6 + 5, none⟩) hlt] using this

set_option maxHeartbeats 4000000 in
set_option maxRecDepth 100000 in
theorem light_c (a : Option Addr) (len cap : Nat) (its : List Itm) (w : World) (h : Items w a len its) :
    Calls Try.prog 13 #[.slice a len cap] w fun e w' => e = .returned (.bool (lightB its)) ∧ Below w.heap.size w w' := by
  obtain ⟨r, hr⟩ : ∃ r, r = lightB its := ⟨_, rfl⟩
  rw [← hr]
  have HR := Lib.hid hr; clear hr
  have HI := Lib.hid h
  obtain ⟨hl, hm, _, hc⟩ := h
  have HL := Lib.hid hl
  have HC := Lib.hid hc
  have hmI : (len : Int) ≤ 9223372036854775807 := by omega
  clear hl hc hm
  go_enter Try.func13, Try.ntmps13
  go_wp2_with fail
  go_loopw [7] (fun i wr => ∃ k : Nat, k ≤ len ∧ i = .int .i64 (k : Int) ∧ Hid ((∀ j, j < k → its[j]!.s.size ≤ 1000) ∧ Below w.heap.size w wr)) (fun i _ => len - (intOf i).toNat)
  case atStart => exact ⟨0, by omega, rfl, fun j hj => by omega, Below.refl _ _⟩
  case round =>
    obtain ⟨k, hk, rfl, hd⟩ := hrel
    by_cases hlt : k < len
    · have hltI : (k : Int) < (len : Int) := by omega
      have hk0 : (0 : Int) ≤ (k : Int) := by omega
      rcases HC.out with h0 | ⟨b, off, rfl, hb, hcells⟩
      · exfalso; omega
      obtain ⟨p0, p1, p2, p3, p4, p5⟩ := hcells k hlt
      have HB := Lib.hid hd.out.2
      have hbb := hd.out.2
      rw [← hbb.cell (p := ⟨b, off + k * 6, none⟩) hb] at p0
      rw [← hbb.cell (p := ⟨b, off + k * 6 + 1, none⟩) hb] at p1
      rw [← hbb.cell (p := ⟨b, off + k * 6 + 2, none⟩) hb] at p2
      rw [← hbb.cell (p := ⟨b, off + k * 6 + 3, none⟩) hb] at p3
      rw [← hbb.cell (p := ⟨b, off + k * 6 + 4, none⟩) hb] at p4
      rw [← hbb.cell (p := ⟨b, off + k * 6 + 5, none⟩) hb] at p5
      have hsz := hbb.size
      obtain ⟨x, hx⟩ : ∃ x, x = its[k]! := ⟨_, rfl⟩
      rw [← hx] at p0 p1 p2 p3 p4 p5
      have HX := Lib.hid hx
      clear hx hbb hcells
      obtain ⟨xk, xn, xi, xis, xs, xm⟩ := x
      by_cases hs : 1000 < xs.size
      · have hsI : (1000 : Int) < (xs.size : Int) := by omega
        have hr0 : Hid (r = false) := by
          show r = false
          rw [HR.out]
          cases e : lightB its
          · rfl
          · have h1 := (lightB_iff.1 e).1 k (by rw [HL.out]; exact hlt)
            rw [← HX.out] at h1
            simp at h1; omega
        clear hs HC HI
        go_wp2_with fail
        go_ret
        rw [hr0.out]
        exact ⟨rfl, by have := HB.out; exact Below.alloc this hsz _⟩
      · have hsI : (xs.size : Int) ≤ 1000 := by omega
        have hnx : Hid (∀ j, j < k + 1 → its[j]!.s.size ≤ 1000) := by
          intro j hj
          by_cases e : j = k
          · subst e; rw [← HX.out]; simp only; omega
          · exact hd.out.1 j (by omega)
        clear hs HC HI
        go_wp2_with fail
        exact ⟨⟨k + 1, by omega, by go_num, hnx.out, Below.alloc HB.out hsz _⟩, by simp [intOf]; omega⟩
    · have hkl : k = len := by omega
      subst hkl
      have HB := Lib.hid hd.out.2
      by_cases h60 : k ≤ 60
      · have h6 : (k : Int) ≤ 60 := by omega
        have hr1 : Hid (r = true) := by
          show r = true
          rw [HR.out]
          exact lightB_iff.2 ⟨fun i hi => hd.out.1 i (by rw [HL.out] at hi; exact hi), by rw [HL.out]; exact h60⟩
        clear hd h60
        go_wp2_with fail
        go_ret
        rw [hr1.out]
        exact ⟨rfl, HB.out⟩
      · have h6 : (60 : Int) < (k : Int) := by omega
        have h6b : decide ((k : Int) ≤ 60) = false := decide_eq_false (by omega)
        have hr1 : Hid (r = false) := by
          show r = false
          rw [HR.out]
          cases e : lightB its
          · rfl
          · have := (lightB_iff.1 e).2
            rw [HL.out] at this; omega
        clear hd h60
        go_wp2_with fail
        go_ret
        rw [hr1.out]
        exact ⟨rfl, HB.out⟩
end Go.Proofs.Ytoechhbdpkjppaa
