/- Two rows of events held against each other: slices.Equal, event.Same, the reference's Same. (By mkevs.py.) -/
import Derived.Test.YtfglncbgifiigaaEvK
namespace Go.Proofs.Ytfglncbgifiigaa
open Go.RowKit Go.Sort Go.Lib
set_option linter.unusedVariables false

def EqIs (w : World) (b : Bool) (e : Ending) (w' : World) : Prop := e = .returned (.bool b) ∧ Below w.heap.size w w'
set_option maxHeartbeats 4000000 in
set_option maxRecDepth 1000000 in
theorem equalE_c (A B : Option Addr) (n m c c' : Nat) (L M : List Ev) (w : World) (H : Evs w A n L) (K : Evs w B m M) (hn : n ≤ 1000) (hm : m ≤ 1000) :
    Calls Try.prog 33 #[.slice A n c, .slice B m c'] w (EqIs w (eqEs L M)) := by
  have mixed : Try.prog.follows .mixedOrders = true := by kernel_rfl
  obtain ⟨hl, _, _, h⟩ := H
  obtain ⟨kl, _, _, k⟩ := K
  by_cases enm : n = m
  rotate_left
  · have HF : Hid (eqEs L M = false) := Lib.hid (eqEs_len (by rw [hl, kl]; exact enm))
    have enn : ((n : Int) == (m : Int)) = false := by simp; omega
    have hne : ¬ ((n : Int) = (m : Int)) := by omega
    rw [HF.out]
    clear hl kl h k HF
    go_enter Try.func33, Try.ntmps33
    go_wp2_with fail
    go_ret
    exact ⟨rfl, Below.refl _ _⟩
  subst enm
  have HLn := Lib.hid hl
  have KLn := Lib.hid kl
  have HH := Lib.hid h
  have KK := Lib.hid k
  have HE := Lib.hid (fun q : Nat => (show EqIs w (eqEs L M) (.returned (.bool (eqEs L M))) (w.drewN q) from ⟨rfl, below_drewN (Below.refl _ _) _⟩))
  clear hl kl h k
  go_enter Try.func33, Try.ntmps33
  have enn : ((n : Int) == (n : Int)) = true := by simp
  go_wp2
  go_loopg [13] n (fun kx s13 wr => ∃ i q : Nat, s13 = .int .i64 i ∧ i ≤ n ∧ n - i ≤ kx ∧ wr = w.drewN q ∧ Hid (∀ j, j < i → L[j]! = M[j]!))
  case atStart => exact ⟨0, 0, rfl, by omega, by omega, rfl, Lib.hid (fun j hj => by omega)⟩
  case round =>
    obtain ⟨i, q, rfl, hin, hkx, rfl, HI⟩ := hrel
    by_cases hlt : i < n
    · have hltz : (i : Int) < (n : Int) := by omega
      have h1 := HH.out
      have k1 := KK.out
      rcases h1 with h1 | ⟨b, off, rfl, _, hc⟩
      · omega
      rcases k1 with k1 | ⟨b', off', rfl, _, kc⟩
      · omega
      have hx := hc i hlt
      have hy := kc i hlt
      clear hc kc
      obtain ⟨x, ex⟩ : ∃ x, L[i]! = x := ⟨_, rfl⟩
      obtain ⟨y, ey⟩ : ∃ y, M[i]! = y := ⟨_, rfl⟩
      rw [ex] at hx
      rw [ey] at hy
      have XY : Hid (L[i]! = x ∧ M[i]! = y) := ⟨ex, ey⟩
      clear ex ey
      obtain ⟨x0, x1, x2, x3, x4, x5, x6, x7, x8, x9, x10, x11⟩ := hx
      obtain ⟨y0, y1, y2, y3, y4, y5, y6, y7, y8, y9, y10, y11⟩ := hy
      have hq := neqE x y
      cases he : eqE x y with
      | true =>
        rw [he] at hq
        have HN : Hid (∀ j, j < i + 1 → L[j]! = M[j]!) := Lib.hid (fun j hj => by
          by_cases e : j < i
          · exact HI.out j e
          · obtain rfl : j = i := by omega
            rw [XY.out.1, XY.out.2]; exact (eqE_iff x y).1 he)
        clear he
        go_wp2_with fail
        go_quiet (fail)
        go_wp2_with fail
        go_roundg (n - (i + 1))
        case measure => omega
        case rel => exact ⟨i + 1, q + nq, by go_num, by omega, by omega, (by first | rfl | exact World.drewN_drewN _ _ _), HN⟩
      | false =>
        rw [he] at hq
        have HF : Hid (eqEs L M = false) := Lib.hid (eqEs_no (i := i) (by rw [HLn.out]; exact hlt) (by rw [HLn.out, KLn.out]) (by rw [XY.out.1, XY.out.2]; exact he))
        clear he
        go_wp2_with fail
        go_quiet (fail)
        go_wp2_with fail
        go_ret
        try rw [World.drewN_drewN]
        have := HE.out (q + nq)
        rw [HF.out] at this
        rw [HF.out]
        exact this
    · have hltz : ¬ (i : Int) < (n : Int) := by omega
      obtain rfl : i = n := by omega
      have HF : Hid (eqEs L M = true) := Lib.hid (eqEs_yes (by rw [HLn.out, KLn.out]) (fun j hj => HI.out j (by rw [HLn.out] at hj; exact hj)))
      go_wp2
      go_ret
      have := HE.out q
      rw [HF.out] at this
      rw [HF.out]
      exact this
set_option maxHeartbeats 4000000 in
set_option maxRecDepth 1000000 in
theorem rSameE_c (A B : Option Addr) (n m c c' : Nat) (L M : List Ev) (w : World) (H : Evs w A n L) (K : Evs w B m M) (hn : n ≤ 1000) (hm : m ≤ 1000) :
    Calls Try.prog 14 #[.slice A n c, .slice B m c'] w (EqIs w (eqEs L M)) := by
  have mixed : Try.prog.follows .mixedOrders = true := by kernel_rfl
  obtain ⟨hl, _, _, h⟩ := H
  obtain ⟨kl, _, _, k⟩ := K
  by_cases enm : n = m
  rotate_left
  · have HF : Hid (eqEs L M = false) := Lib.hid (eqEs_len (by rw [hl, kl]; exact enm))
    have enn : ((n : Int) == (m : Int)) = false := by simp; omega
    have hne : ¬ ((n : Int) = (m : Int)) := by omega
    rw [HF.out]
    clear hl kl h k HF
    go_enter Try.func14, Try.ntmps14
    go_wp2_with fail
    go_ret
    exact ⟨rfl, Below.refl _ _⟩
  subst enm
  have HLn := Lib.hid hl
  have KLn := Lib.hid kl
  have HH := Lib.hid h
  have KK := Lib.hid k
  have HE := Lib.hid (fun q : Nat => (show EqIs w (eqEs L M) (.returned (.bool (eqEs L M))) (w.drewN q) from ⟨rfl, below_drewN (Below.refl _ _) _⟩))
  clear hl kl h k
  go_enter Try.func14, Try.ntmps14
  have enn : ((n : Int) == (n : Int)) = true := by simp
  go_wp2
  go_loopg [5] n (fun kx s13 wr => ∃ i q : Nat, s13 = .int .i64 i ∧ i ≤ n ∧ n - i ≤ kx ∧ wr = w.drewN q ∧ Hid (∀ j, j < i → L[j]! = M[j]!))
  case atStart => exact ⟨0, 0, rfl, by omega, by omega, rfl, Lib.hid (fun j hj => by omega)⟩
  case round =>
    obtain ⟨i, q, rfl, hin, hkx, rfl, HI⟩ := hrel
    by_cases hlt : i < n
    · have hltz : (i : Int) < (n : Int) := by omega
      have h1 := HH.out
      have k1 := KK.out
      rcases h1 with h1 | ⟨b, off, rfl, _, hc⟩
      · omega
      rcases k1 with k1 | ⟨b', off', rfl, _, kc⟩
      · omega
      have hx := hc i hlt
      have hy := kc i hlt
      clear hc kc
      obtain ⟨x, ex⟩ : ∃ x, L[i]! = x := ⟨_, rfl⟩
      obtain ⟨y, ey⟩ : ∃ y, M[i]! = y := ⟨_, rfl⟩
      rw [ex] at hx
      rw [ey] at hy
      have XY : Hid (L[i]! = x ∧ M[i]! = y) := ⟨ex, ey⟩
      clear ex ey
      obtain ⟨x0, x1, x2, x3, x4, x5, x6, x7, x8, x9, x10, x11⟩ := hx
      obtain ⟨y0, y1, y2, y3, y4, y5, y6, y7, y8, y9, y10, y11⟩ := hy
      have hq := neqE x y
      cases he : eqE x y with
      | true =>
        rw [he] at hq
        have HN : Hid (∀ j, j < i + 1 → L[j]! = M[j]!) := Lib.hid (fun j hj => by
          by_cases e : j < i
          · exact HI.out j e
          · obtain rfl : j = i := by omega
            rw [XY.out.1, XY.out.2]; exact (eqE_iff x y).1 he)
        clear he
        go_wp2_with fail
        go_quiet (fail)
        go_wp2_with fail
        go_roundg (n - (i + 1))
        case measure => omega
        case rel => exact ⟨i + 1, q + nq, by go_num, by omega, by omega, (by first | rfl | exact World.drewN_drewN _ _ _), HN⟩
      | false =>
        rw [he] at hq
        have HF : Hid (eqEs L M = false) := Lib.hid (eqEs_no (i := i) (by rw [HLn.out]; exact hlt) (by rw [HLn.out, KLn.out]) (by rw [XY.out.1, XY.out.2]; exact he))
        clear he
        go_wp2_with fail
        go_quiet (fail)
        go_wp2_with fail
        go_ret
        try rw [World.drewN_drewN]
        have := HE.out (q + nq)
        rw [HF.out] at this
        rw [HF.out]
        exact this
    · have hltz : ¬ (i : Int) < (n : Int) := by omega
      obtain rfl : i = n := by omega
      have HF : Hid (eqEs L M = true) := Lib.hid (eqEs_yes (by rw [HLn.out, KLn.out]) (fun j hj => HI.out j (by rw [HLn.out] at hj; exact hj)))
      go_wp2
      go_ret
      have := HE.out q
      rw [HF.out] at this
      rw [HF.out]
      exact this
set_option maxHeartbeats 4000000 in
set_option maxRecDepth 100000 in
theorem sameE_c (A B : Option Addr) (n m c c' : Nat) (L M : List Ev) (w : World) (H : Evs w A n L) (K : Evs w B m M) (hn : n ≤ 1000) (hm : m ≤ 1000) :
    Calls Try.prog 19 #[.slice A n c, .slice B m c'] w (EqIs w (eqEs L M)) := by
  have HC := Lib.hid (equalE_c A B n m c c' L M w H K hn hm)
  clear H K
  generalize eqEs L M = k at HC ⊢
  go_enter Try.func19, Try.ntmps19
  go_wp2_with fail
  refine HC.out.mono ?_
  rintro e w1 ⟨rfl, b1⟩
  clear HC
  go_wp2_with fail
  go_ret
  exact ⟨rfl, b1⟩
end Go.Proofs.Ytfglncbgifiigaa
