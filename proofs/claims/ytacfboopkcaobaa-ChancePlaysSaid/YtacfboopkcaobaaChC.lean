/- chance: a number between two others. -/
import Derived.Test.YtacfboopkcaobaaChB
namespace Go.Proofs.Ytacfboopkcaobaa
open Go.RowKit

set_option maxHeartbeats 4000000 in
set_option maxRecDepth 100000 in
theorem between_c (p : Option Addr) (low high : Int) (l : List UInt8) (w : World) (h : ST 89 w p l) (hl0 : -9223372036854775808 ≤ low) (hl1 : low ≤ 9223372036854775807) (hh0 : -9223372036854775808 ≤ high) (hh1 : high ≤ 9223372036854775807) :
    Calls Try.prog 26 #[.pointer p, .int .i64 low, .int .i64 high] w (TookP 89 w p (betweenN l low high).2 (.int .i64 (betweenN l low high).1)) := by
  by_cases hle : high ≤ low
  · rw [betweenN_low l hle]
    have hD : Hid (TP p w w ∧ ST 89 w p l) := ⟨TP.refl p w, h⟩
    clear h
    go_enter Try.func26, Try.ntmps26
    go_wp2_with fail
    go_ret
    exact ⟨rfl, hD.out⟩
  · have hlt : low < high := by omega
    clear hle
    have e1 : IntKind.u64.wrap (IntKind.u64.wrap high - IntKind.u64.wrap low) = high - low := by
      simp only [IntKind.wrap_u64]; omega
    by_cases hall : high - low = 18446744073709551615
    · have e2 : low = -9223372036854775808 := by omega
      have e3 : high = 9223372036854775807 := by omega
      rw [show betweenN l low high = (low + ((takeN l 8).1 : Int), (takeN l 8).2) by unfold betweenN; rw [if_neg (by omega), if_pos hall]]
      have HN := Lib.hid (number_c p 8 l w h (by omega))
      have t1 := takeN_64 l (k := 8) (by omega)
      obtain ⟨x, hx⟩ : ∃ x, x = (takeN l 8).1 := ⟨_, rfl⟩
      rw [← hx] at HN t1 ⊢
      rw [show ((8 : Nat) : Int) = 8 from rfl] at HN
      subst e2; subst e3
      have e4 : wrap64 (-9223372036854775808 + wrap64 (x : Int)) = -9223372036854775808 + (x : Int) := by
        unfold wrap64; omega
      have hz : (IntKind.u64.wrap (IntKind.u64.wrap (9223372036854775807 - IntKind.u64.wrap (-9223372036854775808)) + 1) == 0) = true := by decide
      clear h hx hall e1 hh0 hh1 hl0 hl1 hlt
      go_enter Try.func26, Try.ntmps26
      go_wp2_with fail
      ((with_reducible refine HN.out.mono ?_); rintro e w1 ⟨rfl, hd1⟩)
      have He := Lib.hid e4; clear e4
      go_wp2_with fail
      go_ret
      exact ⟨by rw [← He.out]; rfl, hd1.out⟩
    · obtain ⟨d, hd⟩ : ∃ d : Nat, (d : Int) = high - low := ⟨(high - low).toNat, by omega⟩
      have ht : (high - low).toNat = d := by omega
      rw [show betweenN l low high = (low + ((belowN l (d + 1)).1 : Int), (belowN l (d + 1)).2) by unfold betweenN; rw [if_neg (by omega), if_neg hall, ht]]
      have HN := Lib.hid (below_c p (d + 1) l w h (by omega))
      have t1 := belowN_lt l (d + 1)
      obtain ⟨x, hx⟩ : ∃ x, x = (belowN l (d + 1)).1 := ⟨_, rfl⟩
      rw [← hx] at HN t1 ⊢
      rw [← hd] at e1
      have e4 : wrap64 (low + wrap64 (x : Int)) = low + (x : Int) := by
        unfold wrap64; omega
      have He := Lib.hid e4
      obtain ⟨m, hm⟩ : ∃ m, m = d + 1 := ⟨_, rfl⟩
      rw [← hm] at HN ⊢
      have b1 : IntKind.u64.wrap ((d : Int) + 1) = (m : Int) := by rw [IntKind.wrap_u64]; omega
      have b2 : ((m : Int) == 0) = false := by simp; omega
      clear h hx hd ht hall hh0 hh1 hl0 hl1 t1 e4 hm
      go_enter Try.func26, Try.ntmps26
      go_wp2_with fail
      ((with_reducible refine HN.out.mono ?_); rintro e w1 ⟨rfl, hd1⟩)
      clear e1 b1 b2
      go_wp2_with fail
      go_ret
      exact ⟨by rw [← He.out]; rfl, hd1.out⟩
end Go.Proofs.Ytacfboopkcaobaa
