/- event: known; slices.IndexFunc and ContainsFunc by its closure. -/
import Derived.Test.YtfglncbgifiigaaEvP
namespace Go.Proofs.Ytfglncbgifiigaa
open Go.RowKit Go.Sort Go.Lib

theorem Evs.row {w : World} {A : Option Addr} {n : Nat} {L : List Ev} (h : Evs w A n L) {i : Nat} (hi : i < n) :
    ∃ b off, A = some ⟨b, off, none⟩ ∧ b < w.heap.size ∧ (L[i]!).at w b (off + i * 12) ∧ (L[i]!).ok w := by
  obtain ⟨h1, _, h3, h4⟩ := h
  rcases h4 with h4 | ⟨b, off, ha, hb, hc⟩
  · omega
  · exact ⟨b, off, ha, hb, hc i hi, by rw [getElem!_pos L i (by omega)]; exact h3 _ (List.getElem_mem _)⟩
set_option maxHeartbeats 4000000 in
set_option maxRecDepth 100000 in
theorem kn1_c (x : Ev) (w : World) : Calls Try.prog 34 #[.agg (EC x)] w fun e w' => e = .returned (.bool (!kdOk x)) ∧ Below w.heap.size w w' := by
  by_cases h1 : x.kd < 1
  · have hr : (!kdOk x) = true := by unfold kdOk; rw [decide_eq_false (show ¬ 1 ≤ x.kd by omega)]; rfl
    have g1 : decide (x.kd < 1) = true := decide_eq_true h1
    rw [hr]
    clear hr
    go_enter Try.func34, Try.ntmps34
    go_wp2_with fail
    go_ret
    exact ⟨rfl, by first | (focus ((repeat' (first | (with_reducible exact Below.refl _ _) | (with_reducible assumption) | (with_reducible refine Below.alloc ?_ ?_ _) | (with_reducible refine Below.setCell ?_ ?_ _) | (with_reducible refine Below.row ?_ ?_ _) | (with_reducible refine Below.drew ?_) | (with_reducible refine below_drewN ?_ _) | (focus (first | (simp; done) | omega | (simp; omega))))); done)) | go_grown⟩
  have g1 : decide (x.kd < 1) = false := decide_eq_false h1
  by_cases h2 : 15 < x.kd
  · have hr : (!kdOk x) = true := by unfold kdOk; rw [decide_eq_false (show ¬ x.kd ≤ 15 by omega), Bool.and_false]; rfl
    have g2 : decide (15 < x.kd) = true := decide_eq_true h2
    rw [hr]
    clear hr
    go_enter Try.func34, Try.ntmps34
    go_wp2_with fail
    go_ret
    exact ⟨rfl, by first | (focus ((repeat' (first | (with_reducible exact Below.refl _ _) | (with_reducible assumption) | (with_reducible refine Below.alloc ?_ ?_ _) | (with_reducible refine Below.setCell ?_ ?_ _) | (with_reducible refine Below.row ?_ ?_ _) | (with_reducible refine Below.drew ?_) | (with_reducible refine below_drewN ?_ _) | (focus (first | (simp; done) | omega | (simp; omega))))); done)) | go_grown⟩
  have g2 : decide (15 < x.kd) = false := decide_eq_false h2
  have hr : (!kdOk x) = false := by unfold kdOk; rw [decide_eq_true (show 1 ≤ x.kd by omega), decide_eq_true (show x.kd ≤ 15 by omega)]; rfl
  rw [hr]
  clear hr
  go_enter Try.func34, Try.ntmps34
  go_wp2_with fail
  go_ret
  exact ⟨rfl, by first | (focus ((repeat' (first | (with_reducible exact Below.refl _ _) | (with_reducible assumption) | (with_reducible refine Below.alloc ?_ ?_ _) | (with_reducible refine Below.setCell ?_ ?_ _) | (with_reducible refine Below.row ?_ ?_ _) | (with_reducible refine Below.drew ?_) | (with_reducible refine below_drewN ?_ _) | (focus (first | (simp; done) | omega | (simp; omega))))); done)) | go_grown⟩
/-- What a search for one of no kind tells. -/
def SrcIs (w : World) (b : Bool) (e : Ending) (w' : World) : Prop := ∃ r : Int, e = .returned (.int .i64 r) ∧ (b = true → r = -1) ∧ (b = false → 0 ≤ r) ∧ Below w.heap.size w w'
theorem kds_yes {L : List Ev} (h : ∀ j, j < L.length → kdOk L[j]! = true) : kdsOk L = true := by
  unfold kdsOk
  rw [List.all_eq_true]
  intro x hx
  obtain ⟨i, hi, rfl⟩ := List.getElem_of_mem hx
  have := h i hi
  rwa [getElem!_pos L i hi] at this
theorem kds_no {L : List Ev} {i : Nat} (hi : i < L.length) (h : kdOk L[i]! = false) : kdsOk L = false := by
  unfold kdsOk
  rw [List.all_eq_false]
  refine ⟨L[i], List.getElem_mem _, ?_⟩
  rw [getElem!_pos L i hi] at h
  rw [h]; decide
set_option maxHeartbeats 4000000 in
set_option maxRecDepth 100000 in
theorem idxK_c (A : Option Addr) (n c : Nat) (L : List Ev) (w : World) (H : Evs w A n L) (hn : n ≤ 1000) :
    Calls Try.prog 45 #[.slice A n c, .func (.func 34) #[] #[]] w (SrcIs w (kdsOk L)) := by
  have HO : Aside (Evs w A n L) := H
  have HLn := Lib.hid H.1
  clear H
  go_enter Try.func45, Try.ntmps45
  go_wp2_with fail
  go_loopw [8] (fun i wr => ∃ k : Nat, k ≤ n ∧ i = .int .i64 (k : Int) ∧ Hid ((∀ j, j < k → kdOk L[j]! = true) ∧ Below w.heap.size w wr)) (fun i _ => n - (intOf i).toNat)
  case atStart => exact ⟨0, by omega, rfl, fun j hj => by omega, Below.refl _ _⟩
  case round =>
    obtain ⟨k, hk, rfl, hd⟩ := hrel
    by_cases hlt : k < n
    · have hltI : (k : Int) < (n : Int) := by omega
      have hk0 : (0 : Int) ≤ (k : Int) := by omega
      obtain ⟨b, off, rfl, hb, hx, _⟩ := (HO.out.below hd.out.2).row hlt
      obtain ⟨x, ex⟩ : ∃ x, L[k]! = x := ⟨_, rfl⟩
      rw [ex] at hx
      have EX := Lib.hid ex
      clear ex
      obtain ⟨x0, x1, x2, x3, x4, x5, x6, x7, x8, x9, x10, x11⟩ := hx
      have HC := Lib.hid (fun W => kn1_c x W)
      cases hb1 : kdOk x with
      | true =>
        rw [hb1] at HC
        have HN : Hid (∀ j, j < k + 1 → kdOk L[j]! = true) := Lib.hid (fun j hj => by
          by_cases e : j < k
          · exact hd.out.1 j e
          · obtain rfl : j = k := by omega
            rw [EX.out]; exact hb1)
        clear hb1
        go_wp2_with fail
        ((with_reducible refine (HC.out _).mono ?_); rintro e w1 ⟨rfl, b1⟩)
        have hD : Hid (Below w.heap.size w w1) := Lib.hid (by have s := hd.out.2; first | exact s.trans (b1.mono s.size) | exact (s.alloc s.size _).trans (b1.mono (by have := s.size; simp; omega)))
        clear hd b1 HC
        go_wp2_with fail
        exact ⟨⟨k + 1, by omega, by go_num, HN.out, hD.out⟩, by simp [intOf]; omega⟩
      | false =>
        rw [hb1] at HC
        have HF : Hid (kdsOk L = false) := Lib.hid (kds_no (i := k) (by rw [HLn.out]; exact hlt) (by rw [EX.out]; exact hb1))
        clear hb1
        go_wp2_with fail
        ((with_reducible refine (HC.out _).mono ?_); rintro e w1 ⟨rfl, b1⟩)
        have hD : Hid (Below w.heap.size w w1) := Lib.hid (by have s := hd.out.2; first | exact s.trans (b1.mono s.size) | exact (s.alloc s.size _).trans (b1.mono (by have := s.size; simp; omega)))
        clear hd b1 HC
        go_wp2_with fail
        go_ret
        rw [HF.out]
        exact ⟨_, rfl, (fun h => by cases h), fun _ => hk0, hD.out⟩
    · have HF : Hid (kdsOk L = true) := Lib.hid (kds_yes (fun j hj => hd.out.1 j (by have := HLn.out; omega)))
      have hkl : k = n := by omega
      subst hkl
      go_wp2_with fail
      go_ret
      rw [HF.out]
      exact ⟨_, rfl, fun _ => rfl, (fun h => by cases h), hd.out.2⟩
set_option maxHeartbeats 4000000 in
set_option maxRecDepth 100000 in
theorem contK_c (A : Option Addr) (n c : Nat) (L : List Ev) (w : World) (H : Evs w A n L) (hn : n ≤ 1000) :
    Calls Try.prog 35 #[.slice A n c, .func (.func 34) #[] #[]] w fun e w' => e = .returned (.bool (!kdsOk L)) ∧ Below w.heap.size w w' := by
  have HI := Lib.hid (idxK_c A n c L w H hn)
  clear H
  generalize kdsOk L = k at HI ⊢
  go_enter Try.func35, Try.ntmps35
  go_wp2_with fail
  refine HI.out.mono ?_
  rintro e w1 ⟨r, rfl, h1, h2, b1⟩
  clear HI
  have HB := Lib.hid b1
  clear b1
  cases k with
  | true =>
    obtain rfl := h1 rfl
    clear h1 h2
    go_wp2_with fail
    go_ret
    exact ⟨rfl, HB.out⟩
  | false =>
    have h0 := h2 rfl
    clear h1 h2
    go_wp2_with fail
    go_ret
    exact ⟨rfl, HB.out⟩
set_option maxHeartbeats 4000000 in
set_option maxRecDepth 100000 in
theorem known_c (A : Option Addr) (n c : Nat) (L : List Ev) (w : World) (H : Evs w A n L) (hn : n ≤ 1000) :
    Calls Try.prog 21 #[.slice A n c] w fun e w' => e = .returned (.bool (kdsOk L)) ∧ Below w.heap.size w w' := by
  have HC := Lib.hid (contK_c A n c L w H hn)
  clear H
  generalize kdsOk L = k at HC ⊢
  go_enter Try.func21, Try.ntmps21
  go_wp2_with fail
  refine HC.out.mono ?_
  rintro e w1 ⟨rfl, b1⟩
  clear HC
  have HB := Lib.hid b1
  clear b1
  cases k with
  | true =>
    go_wp2_with fail
    go_ret
    exact ⟨rfl, HB.out⟩
  | false =>
    go_wp2_with fail
    go_ret
    exact ⟨rfl, HB.out⟩
end Go.Proofs.Ytfglncbgifiigaa
