/- event: Trades, Count. -/
import Derived.Test.YtfglncbgifiigaaEvS
namespace Go.Proofs.Ytfglncbgifiigaa
open Go.RowKit Go.Sort Go.Lib

def trdE (x : Ev) : Bool := decide (1 ≤ x.kd) && decide (x.kd ≤ 7)
set_option maxHeartbeats 4000000 in
set_option maxRecDepth 100000 in
theorem trades_c (x : Ev) (w : World) : Calls Try.prog 18 #[.agg (EC x)] w fun e w' => e = .returned (.bool (trdE x)) ∧ Below w.heap.size w w' := by
  by_cases h1 : 1 ≤ x.kd
  · have g1 : decide (1 ≤ x.kd) = true := decide_eq_true h1
    by_cases h2 : x.kd ≤ 7
    · have hr : trdE x = true := by unfold trdE; rw [decide_eq_true h1, decide_eq_true h2]; rfl
      have g2 : decide (x.kd ≤ 7) = true := decide_eq_true h2
      rw [hr]
      clear hr
      go_enter Try.func18, Try.ntmps18
      go_wp2_with fail
      go_ret
      exact ⟨rfl, by first | (focus ((repeat' (first | (with_reducible exact Below.refl _ _) | (with_reducible assumption) | (with_reducible refine Below.alloc ?_ ?_ _) | (with_reducible refine Below.setCell ?_ ?_ _) | (with_reducible refine Below.row ?_ ?_ _) | (with_reducible refine Below.drew ?_) | (with_reducible refine below_drewN ?_ _) | (focus (first | (simp; done) | omega | (simp; omega))))); done)) | go_grown⟩
    · have hr : trdE x = false := by unfold trdE; rw [decide_eq_false h2, Bool.and_false]
      have g2 : decide (x.kd ≤ 7) = false := decide_eq_false h2
      rw [hr]
      clear hr
      go_enter Try.func18, Try.ntmps18
      go_wp2_with fail
      go_ret
      exact ⟨rfl, by first | (focus ((repeat' (first | (with_reducible exact Below.refl _ _) | (with_reducible assumption) | (with_reducible refine Below.alloc ?_ ?_ _) | (with_reducible refine Below.setCell ?_ ?_ _) | (with_reducible refine Below.row ?_ ?_ _) | (with_reducible refine Below.drew ?_) | (with_reducible refine below_drewN ?_ _) | (focus (first | (simp; done) | omega | (simp; omega))))); done)) | go_grown⟩
  · have hr : trdE x = false := by unfold trdE; rw [decide_eq_false h1, Bool.false_and]
    have g1 : decide (1 ≤ x.kd) = false := decide_eq_false h1
    rw [hr]
    clear hr
    go_enter Try.func18, Try.ntmps18
    go_wp2_with fail
    go_ret
    exact ⟨rfl, by first | (focus ((repeat' (first | (with_reducible exact Below.refl _ _) | (with_reducible assumption) | (with_reducible refine Below.alloc ?_ ?_ _) | (with_reducible refine Below.setCell ?_ ?_ _) | (with_reducible refine Below.row ?_ ?_ _) | (with_reducible refine Below.drew ?_) | (with_reducible refine below_drewN ?_ _) | (focus (first | (simp; done) | omega | (simp; omega))))); done)) | go_grown⟩
/-- How many are of a kind. -/
def cntE (k : Int) (L : List Ev) : Nat := (L.filter fun x => x.kd == k).length
theorem cnt_take {k : Int} {L : List Ev} {i : Nat} (h : i < L.length) : cntE k (L.take (i + 1)) = cntE k (L.take i) + if L[i]!.kd = k then 1 else 0 := by
  unfold cntE
  rw [List.take_succ_eq_append_getElem h, List.filter_append, List.length_append, getElem!_pos L i h]
  congr 1
  by_cases e : (L[i]).kd = k
  · simp [e]
  · simp [e]
theorem cnt_le (k : Int) (L : List Ev) : cntE k L ≤ L.length := List.length_filter_le _ _
set_option maxHeartbeats 4000000 in
set_option maxRecDepth 100000 in
theorem count_c (A : Option Addr) (n c : Nat) (k : Int) (L : List Ev) (w : World) (H : Evs w A n L) (hn : n ≤ 1000) :
    Calls Try.prog 20 #[.slice A n c, .int .i64 k] w fun e w' => e = .returned (.int .i64 (cntE k L)) ∧ Below w.heap.size w w' := by
  have HO : Aside (Evs w A n L) := H
  have HLn := Lib.hid H.1
  clear H
  go_enter Try.func20, Try.ntmps20
  go_wp2_with fail
  go_loopg [5, 10] n (fun kx s5 s10 wr => ∃ i m : Nat, s5 = .int .i64 m ∧ s10 = .int .i64 i ∧ i ≤ n ∧ n - i ≤ kx ∧ m ≤ i ∧ Hid (m = cntE k (L.take i)) ∧ Hid (Below w.heap.size w wr))
  case atStart => exact ⟨0, 0, rfl, rfl, by omega, by omega, by omega, Lib.hid (by simp [cntE]), Below.refl _ _⟩
  case round =>
    obtain ⟨i, m, rfl, rfl, hin, hkx, hmi, HM, hd⟩ := hrel
    by_cases hlt : i < n
    · have hltz : (i : Int) < (n : Int) := by omega
      obtain ⟨b, off, rfl, hb, hx, _⟩ := (HO.out.below hd.out).row hlt
      have HC := Lib.hid (cnt_take (k := k) (L := L) (i := i) (by rw [HLn.out]; exact hlt))
      obtain ⟨x, ex⟩ : ∃ x, L[i]! = x := ⟨_, rfl⟩
      rw [ex] at hx HC
      clear ex
      obtain ⟨x0, x1, x2, x3, x4, x5, x6, x7, x8, x9, x10, x11⟩ := hx
      have hsz := hd.out.size
      by_cases e : x.kd = k
      · have g : (x.kd == k) = true := by simp [e]
        have HM2 : Hid (m + 1 = cntE k (L.take (i + 1))) := Lib.hid (by rw [HC.out, if_pos e, HM.out])
        clear HM HC
        go_wp2_with fail
        go_roundg (n - (i + 1))
        case measure => omega
        case rel => exact ⟨i + 1, m + 1, by go_num, by go_num, by omega, by omega, by omega, HM2, Lib.hid (hd.out.alloc hsz _)⟩
      · have g : (x.kd == k) = false := by simp [e]
        have HM2 : Hid (m = cntE k (L.take (i + 1))) := Lib.hid (by rw [HC.out, if_neg e, HM.out]; rfl)
        clear HM HC
        go_wp2_with fail
        go_roundg (n - (i + 1))
        case measure => omega
        case rel => exact ⟨i + 1, m, rfl, by go_num, by omega, by omega, by omega, HM2, Lib.hid (hd.out.alloc hsz _)⟩
    · have hltz : ¬ (i : Int) < (n : Int) := by omega
      obtain rfl : i = n := by omega
      have HM2 : Hid (m = cntE k L) := Lib.hid (by rw [HM.out, List.take_of_length_le (by rw [HLn.out]; exact Nat.le_refl _)])
      clear HM
      go_wp2_with fail
      go_ret
      rw [← HM2.out]
      exact ⟨rfl, hd.out⟩
end Go.Proofs.Ytfglncbgifiigaa
