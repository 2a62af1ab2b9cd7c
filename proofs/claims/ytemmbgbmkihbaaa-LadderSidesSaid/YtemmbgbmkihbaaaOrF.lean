/- slices.Equal at orders. -/
import Derived.Test.YtemmbgbmkihbaaaOrE
import Derived.Deep.LoopGhost
namespace Go.Proofs.Ytemmbgbmkihbaaa
open Go.RowKit Go.Sort Go.Lib Go.Shelf

def eqL : List Od → List Od → Bool
  | [], [] => true
  | x :: l, y :: m => eqO x y && eqL l m
  | _, _ => false
theorem eqL_iff : ∀ (l m : List Od), eqL l m = true ↔ l = m
  | [], [] => by simp [eqL]
  | x :: l, y :: m => by simp [eqL, eqO_iff, eqL_iff l m]
  | [], y :: m => by simp [eqL]
  | x :: l, [] => by simp [eqL]
theorem eqL_no {l m : List Od} {i : Nat} (_hi : i < l.length) (_hl : l.length = m.length) (h : eqO l[i]! m[i]! = false) : eqL l m = false := by
  cases e : eqL l m with
  | false => rfl
  | true =>
    rw [eqL_iff] at e
    subst e
    have := (eqO_iff l[i]! l[i]!).2 rfl
    rw [h] at this; cases this
theorem eqL_yes {l m : List Od} (hl : l.length = m.length) (h : ∀ i, i < l.length → l[i]! = m[i]!) : eqL l m = true := by
  rw [eqL_iff]
  apply List.ext_getElem hl
  intro i h1 h2
  have := h i h1
  rwa [getElem!_pos l i h1, getElem!_pos m i h2] at this
def EqIs (w : World) (b : Bool) (e : Ending) (w' : World) : Prop := e = .returned (.bool b) ∧ Gw w w'
set_option maxHeartbeats 4000000 in
set_option maxRecDepth 1000000 in
theorem equal_c (A B : Option Addr) (n c c' : Nat) (L M : List Od) (w : World) (H : Ods w A n L) (K : Ods w B n M) (hn : n ≤ 1000) :
    Calls Try.prog 65 #[.slice A n c, .slice B n c'] w (EqIs w (eqL L M)) := by
  have mixed : Try.prog.follows .mixedOrders = true := by kernel_rfl
  obtain ⟨hl, _, _, h⟩ := H
  obtain ⟨kl, _, _, k⟩ := K
  have HLn := Lib.hid hl
  have KLn := Lib.hid kl
  have HH := Lib.hid h
  have KK := Lib.hid k
  have HE := Lib.hid (fun q : Nat => (show EqIs w (eqL L M) (.returned (.bool (eqL L M))) (w.drewN q) from ⟨rfl, ⟨below_drewN (Below.refl _ _) _, Nat.le_add_right _ _⟩⟩))
  clear hl kl h k
  go_enter Try.func65, Try.ntmps65
  go_wp2
  go_loopg [13] n (fun kx s13 wr => ∃ i q : Nat, s13 = .int .i64 i ∧ i ≤ n ∧ n - i ≤ kx ∧ wr = w.drewN q ∧ Hid (∀ j, j < i → L[j]! = M[j]!))
  case atStart => exact ⟨0, 0, rfl, by omega, by omega, rfl, Lib.hid (fun j hj => by omega)⟩
  case round =>
    obtain ⟨i, q, rfl, hin, hkx, rfl, HI⟩ := hrel
    by_cases hlt : i < n
    · have hltz : (i : Int) < (n : Int) := by omega
      have h1 := HH.out
      have k1 := KK.out
      rcases h1 with h1 | ⟨b, off, rfl, _, hc⟩
      · omega
      rcases k1 with k1 | ⟨b', off', rfl, _, kc⟩
      · omega
      have hx := hc i hlt
      have hy := kc i hlt
      clear hc kc
      obtain ⟨x, ex⟩ : ∃ x, L[i]! = x := ⟨_, rfl⟩
      obtain ⟨y, ey⟩ : ∃ y, M[i]! = y := ⟨_, rfl⟩
      rw [ex] at hx
      rw [ey] at hy
      have XY : Hid (L[i]! = x ∧ M[i]! = y) := ⟨ex, ey⟩
      clear ex ey
      obtain ⟨x0, x1, x2, x3, x4, x5⟩ := hx
      obtain ⟨y0, y1, y2, y3, y4, y5⟩ := hy
      have hq := neqP x y
      cases he : eqO x y with
      | true =>
        rw [he] at hq
        have HN : Hid (∀ j, j < i + 1 → L[j]! = M[j]!) := Lib.hid (fun j hj => by
          by_cases e : j < i
          · exact HI.out j e
          · obtain rfl : j = i := by omega
            rw [XY.out.1, XY.out.2]; exact (eqO_iff x y).1 he)
        clear he
        go_wp2_with fail
        go_quiet (fail)
        go_wp2_with fail
        go_roundg (n - (i + 1))
        case measure => omega
        case rel => exact ⟨i + 1, q + nq, by go_num, by omega, by omega, (by first | rfl | exact World.drewN_drewN _ _ _), HN⟩
      | false =>
        rw [he] at hq
        have HF : Hid (eqL L M = false) := Lib.hid (eqL_no (i := i) (by rw [HLn.out]; exact hlt) (by rw [HLn.out, KLn.out]) (by rw [XY.out.1, XY.out.2]; exact he))
        clear he
        go_wp2_with fail
        go_quiet (fail)
        go_wp2_with fail
        go_ret
        try rw [World.drewN_drewN]
        have := HE.out (q + nq)
        rw [HF.out] at this
        rw [HF.out]
        exact this
    · have hltz : ¬ (i : Int) < (n : Int) := by omega
      obtain rfl : i = n := by omega
      have HF : Hid (eqL L M = true) := Lib.hid (eqL_yes (by rw [HLn.out, KLn.out]) (fun j hj => HI.out j (by rw [HLn.out] at hj; exact hj)))
      go_wp2
      go_ret
      have := HE.out q
      rw [HF.out] at this
      rw [HF.out]
      exact this
end Go.Proofs.Ytemmbgbmkihbaaa
