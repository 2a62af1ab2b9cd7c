/- grid: counts, the code's and the reference's. -/
import Derived.Test.YtacfboopkcaobabGrT
namespace Go.Proofs.Ytacfboopkcaobab
open Go.RowKit

theorem may9 (t : List Tk) (p : Int) : May (t.take 9) p ↔ May t p := by
  rcases take9 t with h | ⟨h1, h2⟩
  · rw [h]
  · exact ⟨fun h => absurd h.1 h2, fun h => absurd h.1 h1⟩
theorem count9 (t : List Tk) (lo hi : Int) : countN (t.take 9) lo hi = countN t lo hi := by
  rcases take9 t with h | ⟨h1, h2⟩
  · rw [h]
  · unfold countN
    rw [if_neg (fun h => h2 h.1.1), if_neg (fun h => h1 h.1.1)]

set_option maxHeartbeats 4000000 in
set_option maxRecDepth 100000 in
theorem rCount_no1 (lo hi : Int) (a : Option Addr) (len cap : Nat) (t : List Tk) (w : World) (h : Tks w a len t) (hl : ¬ May t lo) :
    Calls Try.prog 31 #[.slice a len cap, .int .i64 lo, .int .i64 hi] w (Got w (.int .i64 0)) := by
  have M1 := Lib.hid (rmay_c lo a len cap t w h false (decide_eq_false hl).symm)
  clear h hl
  go_enter Try.func31, Try.ntmps31
  go_wp2_with fail
  ((with_reducible refine M1.out.mono ?_); rintro e w1 ⟨rfl, b1⟩)
  go_wp2_with fail
  go_ret
  exact ⟨rfl, b1⟩
set_option maxHeartbeats 4000000 in
set_option maxRecDepth 100000 in
theorem rCount_no2 (lo hi : Int) (a : Option Addr) (len cap : Nat) (t : List Tk) (w : World) (h : Tks w a len t) (hl : May t lo) (hh : ¬ May t hi) :
    Calls Try.prog 31 #[.slice a len cap, .int .i64 lo, .int .i64 hi] w (Got w (.int .i64 0)) := by
  have M1 := Lib.hid (rmay_c lo a len cap t w h true (decide_eq_true hl).symm)
  have M2 := Lib.hid (fun (W : World) (hW : Below w.heap.size w W) => rmay_c hi a len cap t W (h.below hW) false (decide_eq_false hh).symm)
  clear h hl hh
  go_enter Try.func31, Try.ntmps31
  go_wp2_with fail
  ((with_reducible refine M1.out.mono ?_); rintro e w1 ⟨rfl, b1⟩)
  have N := Lib.hid (M2.out w1 b1)
  have B1 := Lib.hid b1
  clear b1 M1 M2
  go_wp2_with fail
  ((with_reducible refine N.out.mono ?_); rintro e w2 ⟨rfl, b2⟩)
  have B2 : Hid (Below w.heap.size w w2) := B1.out.trans (b2.mono B1.out.size)
  clear b2 N B1
  go_wp2_with fail
  go_ret
  exact ⟨rfl, B2.out⟩
theorem rCount_c (lo hi : Int) (a : Option Addr) (len cap : Nat) (t : List Tk) (w : World) (h : Tks w a len t) :
    Calls Try.prog 31 #[.slice a len cap, .int .i64 lo, .int .i64 hi] w (Got w (.int .i64 (countN t lo hi))) := by
  rw [count_ref]
  by_cases hl : May t lo
  · by_cases hm : May t hi
    · rw [if_pos ⟨hl, hm⟩, h.1]
      exact rCount_yes lo hi a len cap t w h hl hm
    · rw [if_neg (fun x => hm x.2)]
      exact rCount_no2 lo hi a len cap t w h hl hm
  · rw [if_neg (fun x => hl x.1)]
    exact rCount_no1 lo hi a len cap t w h hl
end Go.Proofs.Ytacfboopkcaobab
