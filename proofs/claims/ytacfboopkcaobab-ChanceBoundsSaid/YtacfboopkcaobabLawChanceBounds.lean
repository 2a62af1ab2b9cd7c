/-
  ChanceBounds: for every input the law returns true, and each argument reads behind the call as it read before. No condition.
-/
import Derived.Test.YtacfboopkcaobabRows
import Derived.WalkKit
import Derived.ProofKit
import Derived.OpenShut
import Derived.ShutString
import Derived.ChangeOld
import Derived.Below
import Derived.Carry
import Derived.Test.YtacfboopkcaobabBnd
namespace Go.Proofs.Ytacfboopkcaobab.chanceBounds
open Go.ChangeShapes Go.WideShapes Go.ChangeAt Go.RowKit
open Go.ChangeMaps (open_string shut_string)
set_option linter.unusedVariables false

theorem own : ownKnob Try.prog.godebug = none := by kernel_rfl
theorem laidOut : laidOutB Try.prog = true := by kernel_rfl

/-- A slice of bytes that came in, as the form reads it. -/
def IsRow (w : World) (a : Option Addr) (len cap : Nat) (zs : List Int) : Prop :=
  (a = none ∧ len = 0 ∧ cap = 0 ∧ zs = []) ∨ ∃ x, a = some x ∧ len ≤ cap ∧ cap ≤ maxLen ∧ zs.length = cap ∧ (∀ i, i < zs.length → w.cell? (x.add i) = some (.int .u8 (zs.getD i 0))) ∧ ∀ n ∈ zs, (Lit.int .u8 n).wf = true

set_option maxHeartbeats 8000000 in
set_option maxRecDepth 100000 in
theorem walk (a0 : Option Addr) (len0 cap0 : Nat) (z0 : List Int) (x1 : Asq) (w : World) (w0 : IsRow w a0 len0 cap0 z0) (w1 : x1.ok w) :
    Calls Try.prog 3 #[.slice a0 len0 cap0, x1.val] w fun e w' => e = .returned (.bool true) ∧ Below w.heap.size w w' := by
  obtain ⟨l, hsl⟩ := slB_of_row w0
  have hlm : len0 ≤ 9223372036854775807 := by
    rcases w0 with ⟨_, h, _⟩ | ⟨_, _, h1, h2, _⟩
    · omega
    · unfold maxLen at h2; omega
  obtain ⟨xk, xn, xl, xh, xA, xL, xC, xZ⟩ := x1
  unfold Asq.val
  obtain ⟨b0, b1, b2, b3, b4, b5, b6⟩ := w1
  simp only at b0 b1 b2 b3 b4 b5 b6
  obtain ⟨n, rfl⟩ : ∃ n : Nat, (n : Int) = xn := ⟨xn.toNat, by omega⟩
  have Hn : Hid (n < 18446744073709551616) := by show _ < _; omega
  have Hl := Lib.hid b2
  have Hh := Lib.hid b3
  have hnI : (0 : Int) ≤ (n : Int) := by omega
  obtain ⟨W1, hW1⟩ : ∃ W1 : World, W1 = (w.alloc (.cells #[.int .i64 xk, .int .u64 (n : Int), .int .i64 xl, .int .i64 xh, .slice xA xL xC] 26)).alloc (.cells #[.int .i64 xk, .int .u64 (n : Int), .int .i64 xl, .int .i64 xh, .slice xA xL xC] 26) := ⟨_, rfl⟩
  have hbW : Hid (Below w.heap.size w W1 ∧ W1.heap.size = w.heap.size + 2) := by
    rw [hW1]
    exact ⟨((Below.refl _ _).alloc (Nat.le_refl _) _).alloc (by simp) _, by simp⟩
  have hq : Hid (W1.heap[w.heap.size]? = some (.cells #[.int .i64 xk, .int .u64 (n : Int), .int .i64 xl, .int .i64 xh, .slice xA xL xC] 26 (0, 0))) := by
    show _ = _
    rw [hW1, Below.heap_alloc _ _ _ (by simp)]
    exact heap_alloc_new w _
  have hA1 : Asqs W1 (some ⟨w.heap.size + 1, 0, none⟩) 1 [⟨xk, (n : Int), xl, xh, xA, xL, xC, xZ⟩] := by
    have hn1 := heap_alloc_new (w.alloc (.cells #[.int .i64 xk, .int .u64 (n : Int), .int .i64 xl, .int .i64 xh, .slice xA xL xC] 26)) (.cells #[.int .i64 xk, .int .u64 (n : Int), .int .i64 xl, .int .i64 xh, .slice xA xL xC] 26)
    rw [World.size_alloc, ← hW1] at hn1
    refine ⟨rfl, by omega, fun y hy => ?_, .inr ⟨w.heap.size + 1, 0, rfl, by rw [hbW.out.2]; omega, fun i hi => ?_⟩⟩
    · rw [List.mem_singleton] at hy
      subst hy
      exact Asq.ok_below ⟨b0, b1, b2, b3, b4, b5, b6⟩ hbW.out.1
    · obtain rfl : i = 0 := by omega
      refine ⟨?_, ?_, ?_, ?_, ?_⟩ <;> (rw [cell_of_row _ _ _ _ _ _ hn1]; rfl)
  have HLi := Lib.hid (light5_c a0 len0 cap0 _ 1 1 _ W1 hA1 hlm)
  have HS := Lib.hid hsl
  have HZ := Lib.hid b4
  have hxC : (xL : Int) ≤ 9223372036854775807 := by unfold maxLen at b6; omega
  clear hsl b0 b1 b2 b3 b4 b5 b6 w0 hA1
  have HW1 := Lib.hid hW1.symm
  clear hW1
  by_cases hlt : Lt5 len0 [⟨xk, (n : Int), xl, xh, xA, xL, xC, xZ⟩]
  · rw [lt5_iff.2 hlt] at HLi
    have h60 : xL ≤ 60 := by simpa using hlt.1 0 (by simp)
    have h1000 : len0 ≤ 1000 := hlt.2.1
    have H60 := Lib.hid h60
    have H1000 := Lib.hid h1000
    have h60I : (xL : Int) ≤ 60 := by omega
    clear hlt h60 h1000 hlm hxC
    obtain ⟨x, hx⟩ : ∃ x, x = (belowN l n).1 := ⟨_, rfl⟩
    obtain ⟨l1, hl1⟩ : ∃ l1, l1 = (belowN l n).2 := ⟨_, rfl⟩
    obtain ⟨y, hy⟩ : ∃ y, y = (betweenN l1 xl xh).1 := ⟨_, rfl⟩
    obtain ⟨l2, hl2⟩ : ∃ l2, l2 = (betweenN l1 xl xh).2 := ⟨_, rfl⟩
    obtain ⟨z, hz⟩ : ∃ z, z = (pickN l2 xZ).1 := ⟨_, rfl⟩
    have C1 : Hid (∀ W g, SQ w.heap.size w W g w.heap.size ⟨xk, (n : Int), xl, xh, xA, xL, xC, xZ⟩ l → Calls Try.prog 11 #[.pointer (some ⟨g, 0, none⟩), .int .u64 (n : Int)] W fun e w' => e = .returned (.int .u64 (x : Int)) ∧ CQ w' w.heap.size ⟨xk, (n : Int), xl, xh, xA, xL, xC, xZ⟩ ∧ Hid (SQ w.heap.size w w' g w.heap.size ⟨xk, (n : Int), xl, xh, xA, xL, xC, xZ⟩ l1)) := by
      intro W g h; rw [hx, hl1]; exact sq_below h Hn.out
    have C2 : Hid (∀ W g, SQ w.heap.size w W g w.heap.size ⟨xk, (n : Int), xl, xh, xA, xL, xC, xZ⟩ l1 → Calls Try.prog 12 #[.pointer (some ⟨g, 0, none⟩), .int .i64 xl, .int .i64 xh] W fun e w' => e = .returned (.int .i64 y) ∧ CQ w' w.heap.size ⟨xk, (n : Int), xl, xh, xA, xL, xC, xZ⟩ ∧ Hid (SQ w.heap.size w w' g w.heap.size ⟨xk, (n : Int), xl, xh, xA, xL, xC, xZ⟩ l2)) := by
      intro W g h; rw [hy, hl2]; exact sq_between h Hl.out.1 Hl.out.2 Hh.out.1 Hh.out.2
    have C3 : Hid (∀ W g, SQ w.heap.size w W g w.heap.size ⟨xk, (n : Int), xl, xh, xA, xL, xC, xZ⟩ l2 → Calls Try.prog 13 #[.pointer (some ⟨g, 0, none⟩), .slice xA xL xC] W fun e w' => e = .returned (.int .i64 (z : Int)) ∧ CQ w' w.heap.size ⟨xk, (n : Int), xl, xh, xA, xL, xC, xZ⟩ ∧ Hid (SQ w.heap.size w w' g w.heap.size ⟨xk, (n : Int), xl, xh, xA, xL, xC, xZ⟩ (pickN l2 xZ).2)) := by
      intro W g h; rw [hz]; exact sq_pick h H60.out
    have fx : ((x : Int) < (n : Int)) ∨ ((n : Int) ≤ (x : Int) ∧ ((x : Int) != 0) = false ∧ ((x : Int) == 0) = true) := by
      rcases belowN_lt l n with h | h
      · left; rw [hx]; omega
      · rcases Nat.lt_or_ge x n with h1 | h1
        · left; omega
        · right; rw [← hx] at h; subst h; exact ⟨by omega, rfl, rfl⟩
    have fy : xl ≤ y ∧ (y ≤ xh ∨ (xh < y ∧ (y != xl) = false ∧ (y == xl) = true)) := by
      have hb := Hl.out
      have hc := Hh.out
      rcases Int.lt_or_le xl xh with h | h
      · have := betweenN_in l1 h (by omega)
        rw [← hy] at this
        exact ⟨this.1, .inl this.2⟩
      · have e : y = xl := by rw [hy, betweenN_low l1 h]
        refine ⟨by omega, ?_⟩
        rcases Int.lt_or_le xh y with h1 | h1
        · right; rw [e]; rw [e] at h1; exact ⟨h1, by simp, by simp⟩
        · exact .inl h1
    have fz : Hid ((anyW xZ = true → z < xL ∧ 0 < xZ.getD z 0) ∧ (anyW xZ = false → z = 0)) := by
      rw [hz]
      refine ⟨fun h => ?_, fun h => anyW_false h⟩
      have := anyW_true (l := l2) h
      rw [HZ.out.1] at this
      exact this
    clear hx hl1 hy hl2 hz
    obtain ⟨fy0, fy⟩ := fy
    go_enter Try.func3, Try.ntmps3
    go_wp2_with fail
    rw [HW1.out]
    ((with_reducible refine HLi.out.mono ?_); rintro e w2 ⟨rfl, b2⟩)
    have hb2 : Hid (Below w.heap.size w w2 ∧ w2.heap[w.heap.size]? = some (.cells #[.int .i64 xk, .int .u64 (n : Int), .int .i64 xl, .int .i64 xh, .slice xA xL xC] 26 (0, 0))) :=
      ⟨hbW.out.1.trans (b2.mono hbW.out.1.size), (b2.block _ (blk_lt hq.out)).trans hq.out⟩
    have HNw := Lib.hid (new_c a0 len0 cap0 l w2 (HS.out.fr0 (Fr.of_below (S := fun _ => False) hb2.out.1) (fun _ _ _ h => h)) (by have := H1000.out; omega))
    clear b2 hq hbW HW1 HLi
    go_wp2_with fail
    ((with_reducible refine HNw.out.mono ?_); rintro e w3 ⟨g, rfl, hd⟩)
    have h0' : Hid (SQ w.heap.size w w3 g w.heap.size ⟨xk, (n : Int), xl, xh, xA, xL, xC, xZ⟩ l) := by
      have hbb : Below w.heap.size w w3 := hb2.out.1.trans (hd.out.2.1.mono hb2.out.1.size)
      exact ⟨hbb, hbb.size, Nat.le_trans hb2.out.1.size hd.out.1, (hd.out.2.1.block _ (blk_lt hb2.out.2)).trans hb2.out.2, hd.out.2.2, HZ.out.below hbb⟩
    have h0 := Lib.hid h0'.out.drew
    clear h0'
    obtain ⟨c1, c2, c3, c4⟩ := h0.out.all
    simp only at c1 c2 c3 c4
    clear hb2 HNw hd
    obtain ⟨q, hq⟩ : ∃ q, q = w.heap.size := ⟨_, rfl⟩
    go_wp2_with fail
    go_region_held3 (fun w' => w'.cell? ⟨w.heap.size, 1, none⟩ = some (.int .u64 (n : Int)) ∧ w'.cell? ⟨w.heap.size, 2, none⟩ = some (.int .i64 xl) ∧ w'.cell? ⟨w.heap.size, 3, none⟩ = some (.int .i64 xh) ∧ w'.cell? ⟨w.heap.size, 4, none⟩ = some (.slice xA xL xC)) (go_keep)
      (first
        | ((with_reducible refine (C1.out _ _ h0.out).mono ?_); rintro e y1 ⟨rfl, ⟨c1, c2, c3, c4⟩, G1⟩; clear h0 C1)
        | ((with_reducible refine (C2.out _ _ G1.out).mono ?_); rintro e y1 ⟨rfl, ⟨c1, c2, c3, c4⟩, G2⟩; clear G1 C2)
        | ((with_reducible refine (C3.out _ _ G2.out).mono ?_); rintro e y1 ⟨rfl, ⟨c1, c2, c3, c4⟩, G3⟩; clear G2 C3)
        | fail)

    have fy0d : decide (y < xl) = false := decide_eq_false (by omega)
    obtain ⟨w4, hw4⟩ : ∃ w4, w4 = y1 := ⟨_, rfl⟩
    have HF : Hid (Below w.heap.size w w4 ∧ w.heap.size ≤ w4.heap.size ∧ SlI w4 xA xL xZ) := by rw [hw4]; exact ⟨G3.out.1, G3.out.2.1, G3.out.2.2.2.2.2⟩
    rw [← hw4] at c1 c2 c3 c4 ⊢
    clear hw4 G3
    rcases fx with fx | ⟨fx, fx1, fx2⟩ <;> rcases fy with fy | ⟨fy, fy1, fy2⟩
    all_goals
      go_wp2_with fail
      clear fx fy c1 c2 c3
      go_loop [9, 63] (fun u i => ∃ (k : Nat) (b : Bool), k ≤ xL ∧ i = .int .i64 (k : Int) ∧ u = .bool b ∧ Hid (b = anyW (xZ.take k))) (fun _ i => xL - (intOf i).toNat)
      case atStart => exact ⟨0, false, by omega, rfl, rfl, rfl⟩
      case round =>
        obtain ⟨k, b, hk, rfl, rfl, hb⟩ := hrel
        by_cases hlt : k < xL
        · have hltI : (k : Int) < (xL : Int) := by omega
          have hk0 : (0 : Int) ≤ (k : Int) := by omega
          obtain ⟨bb, off, hAe, p0⟩ : ∃ b off, xA = some ⟨b, off, none⟩ ∧ w4.cell? ⟨b, off + k, none⟩ = some (.int .i64 (xZ.getD k 0)) := by
            rcases HF.out.2.2.2.2 with h0 | ⟨b, off, hA, _, hcell⟩
            · omega
            · exact ⟨b, off, hA, hcell k hlt⟩
          subst hAe
          have hn : Hid (anyW (xZ.take (k + 1)) = (b || decide (0 < xZ.getD k 0))) := by show _ = _; rw [anyW_take (by rw [HZ.out.1]; exact hlt), hb.out]
          obtain ⟨v, hv⟩ : ∃ v, v = xZ.getD k 0 := ⟨_, rfl⟩
          rw [← hv] at p0 hn
          clear hv
          cases b
          · by_cases hp : 0 < v
            · have hpd : decide (0 < v) = true := decide_eq_true hp
              go_wp2_with fail
              exact ⟨⟨k + 1, true, by omega, by go_num, rfl, by show _ = _; rw [hn.out, hpd]; rfl⟩, by simp [intOf]; omega⟩
            · have hpd : decide (0 < v) = false := decide_eq_false hp
              have hp2 : v ≤ 0 := by omega
              go_wp2_with fail
              exact ⟨⟨k + 1, false, by omega, by go_num, rfl, by show _ = _; rw [hn.out, hpd]; rfl⟩, by simp [intOf]; omega⟩
          · go_wp2_with fail
            exact ⟨⟨k + 1, true, by omega, by go_num, rfl, by show _ = _; rw [hn.out]; rfl⟩, by simp [intOf]; omega⟩
        · have hkx : k = xL := by omega
          subst hkx
          have hbt : b = anyW xZ := by rw [hb.out, List.take_of_length_le (by rw [HZ.out.1]; exact Nat.le_refl _)]
          cases b
          · have hz0 : z = 0 := fz.out.2 hbt.symm
            subst hz0
            clear hb hbt
            go_wp2_with fail
            ((with_reducible refine (lives5_c _).mono ?_); rintro e w5 ⟨rfl, b5⟩)
            go_wp2_with fail
            go_ret
            exact ⟨rfl, HF.out.1.trans (b5.mono HF.out.2.1)⟩
          · obtain ⟨hz1, hz2⟩ := fz.out.1 hbt.symm
            have hz1I : (z : Int) < (k : Int) := by omega
            have hz0 : (0 : Int) ≤ (z : Int) := by omega
            obtain ⟨bb, off, hAe, p0⟩ : ∃ b off, xA = some ⟨b, off, none⟩ ∧ w4.cell? ⟨b, off + z, none⟩ = some (.int .i64 (xZ.getD z 0)) := by
              rcases HF.out.2.2.2.2 with h0 | ⟨b, off, hA, _, hcell⟩
              · omega
              · exact ⟨b, off, hA, hcell z hz1⟩
            subst hAe
            obtain ⟨v, hv⟩ : ∃ v, v = xZ.getD z 0 := ⟨_, rfl⟩
            rw [← hv] at p0 hz2
            clear hv hb hbt hlt
            go_wp2_with fail
            ((with_reducible refine (lives5_c _).mono ?_); rintro e w5 ⟨rfl, b5⟩)
            go_wp2_with fail
            go_ret
            exact ⟨rfl, HF.out.1.trans (b5.mono HF.out.2.1)⟩
  · rw [lt5_false hlt] at HLi
    clear hlt hlm
    go_enter Try.func3, Try.ntmps3
    go_wp2_with fail
    rw [HW1.out]
    ((with_reducible refine HLi.out.mono ?_); rintro e w2 ⟨rfl, b2⟩)
    go_wp2_with fail
    ((with_reducible refine (lives5_c _).mono ?_); rintro e w5 ⟨rfl, b5⟩)
    have HB : Hid (Below w.heap.size w w5) := by
      have h1 := hbW.out.1.trans (b2.mono hbW.out.1.size)
      exact h1.trans (b5.mono h1.size)
    clear b2 b5
    go_wp2_with fail
    go_ret
    exact ⟨rfl, HB.out⟩

set_option maxRecDepth 100000 in
theorem lifted (os : Os) (started : os.Started) (H : Type) (enc : TypeId × Value → H) :
    ReturnsInHanded {} Try.checked os 3 .any (Rows.chanceBoundsSpec.pre6 enc Try.prog Try.f3 Rows.chanceBoundsRow.domain false) (Rows.chanceBoundsSpec.post enc Try.prog Try.f3 false true false false) := by
  refine returnsInHanded_of_change (C := Try.checked) own started (by kernel_rfl) Try.func3
    (ChangeSpec.witness6 (enc := enc) (C := Try.checked) false ⟨#[], #[.slice none 0 0, .agg #[.int .i64 0, .int .u64 0, .int .i64 0, .int .i64 0, .slice none 0 0]], []⟩ 8 (by kernel_rfl) (by kernel_rfl) (by kernel_rfl) (by kernel_rfl)) ?_
  intro W base args ds gs before hval0 hW hcnd _
  have hval : ∀ (j : Nat) t v, Try.f3.params[j]? = some t → args[j]? = some v → Value.okWide Try.prog W .any base t v := hval0
  have hW' := hW
  obtain ⟨p, q, hA0, hV, rfl, hfz, hnd⟩ := hW
  have hA : DataW.TrodAll enc Try.prog W 0 (fun _ => true) true Try.f3.params.toList args.toList ds p := hA0
  rw [Try.params3] at hA hval
  obtain ⟨v0, vs0, d0, ds0, p0, q0, hargs, rfl, rfl, h0, r0⟩ := trodAll_cons hA
  obtain ⟨v1, vs1, d1, ds1, p1, q1, rfl, rfl, rfl, h1, r1⟩ := trodAll_cons r0
  obtain ⟨rfl, rfl, rfl⟩ := trodAll_nil r1
  obtain rfl : args = #[v0, v1] := by cases args; simp_all
  obtain ⟨rfl, rfl⟩ := trodVars_none hV
  have k0 := h0
  have lt0 : ∀ x ∈ p0, x.block < W.heap.size := by obtain ⟨m, hm⟩ := k0; exact DataW.trod_lt m _ _ _ hm
  obtain ⟨a0, len0, cap0, rfl⟩ := okWide_slice Try.underlying22 (hval 0 22 v0 rfl rfl)
  obtain ⟨z0, w0⟩ : ∃ zs, IsRow W a0 len0 cap0 zs := by
    obtain ⟨fuel, hf⟩ := h0
    rcases open_ints Try.underlying22 Try.underlying5 (by kernel_rfl) hf with ⟨hcs, _⟩ | ⟨x, l, c, zs, hcs, _, hl, hm, hz, _, hcell, hwz⟩
    · simp [Value.cells] at hcs
      obtain ⟨rfl, rfl, rfl⟩ := hcs
      exact ⟨[], .inl ⟨rfl, rfl, rfl, rfl⟩⟩
    · simp [Value.cells] at hcs
      obtain ⟨rfl, rfl, rfl⟩ := hcs
      exact ⟨zs, .inr ⟨_, rfl, hl, hm, by simpa using hz, hcell, hwz⟩⟩
  have k1 := h1
  have lt1 : ∀ x ∈ p1, x.block < W.heap.size := by obtain ⟨m, hm⟩ := k1; exact DataW.trod_lt m _ _ _ hm
  obtain ⟨x1, w1, rfl⟩ := open_asq_val (hval 1 26 v1 rfl rfl) h1
  clear hA0 hval0
  refine (walk a0 len0 cap0 z0 x1 W w0 w1).mono fun e W' ⟨he, bel⟩ => ?_
  subst he
  exact ⟨_, rfl, _, _, _, [], _, [], hW', trodAll_mk1 (shut_bool Try.underlying4 _), (trodAll_cons_mk (Below.trod laidOut (by kernel_rfl) (of_decide_eq_true (by kernel_rfl)) k0 bel lt0) (trodAll_cons_mk (Below.trod laidOut (by kernel_rfl) (of_decide_eq_true (by kernel_rfl)) k1 bel lt1) trodAll_mk0)), rfl, bel.frame _, fun h => by cases h⟩

theorem over : Rows.chanceBoundsRow.holds Try.pinned (OpenSpec.ofChange Rows.chanceBoundsSpec) :=
  OpenClaim.holds_of_wide 3 Try.f3 rfl rfl rfl rfl rfl rfl rfl ⟨rfl, rfl, rfl, rfl, rfl⟩ rfl rfl rfl rfl rfl (by kernel_rfl) Try.func3 (by kernel_rfl)
    (of_decide_eq_true (by kernel_rfl)) (by unfold Func.isWrapper; first | (rw [if_pos (by decide +kernel)]; kernel_rfl) | (rw [if_neg (by decide +kernel)]; exact ⟨rfl, rfl⟩))
    (fun os started H enc _ => lifted os started H enc)

theorem proved : Rows.ChanceBoundsSaid := over
end Go.Proofs.Ytacfboopkcaobab.chanceBounds
