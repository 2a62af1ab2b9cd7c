/-
  CoinOrder: for every input the law returns true, and each argument reads behind the call as it read before. No condition.
  (The frame is the kit's shell of a proof, by program; the walk is mine.)
-/
import Derived.Test.YtceipiidhlekgaaRows
import Derived.WalkKit
import Derived.ProofKit
import Derived.OpenShut
import Derived.ShutString
import Derived.ChangeOld
import Derived.Below
import Derived.Test.YtceipiidhlekgaaCoinG
import Derived.Test.YtceipiidhlekgaaCoinT
namespace Go.Proofs.Ytceipiidhlekgaa.coinOrder
open Go.ChangeShapes Go.WideShapes Go.ChangeAt Go.RowKit
open Go.ChangeMaps (open_string shut_string)
set_option linter.unusedVariables false

theorem own : ownKnob Try.prog.godebug = none := by kernel_rfl
theorem laidOut : laidOutB Try.prog = true := by kernel_rfl

/-- WHAT THE WALK IS TOLD OF A SLICE OF INTEGERS THAT CAME IN: it is nil; or it leads to a row of 'cap' cells, the numbers 'zs' (the first 'len' are its elements, the rest its spare room), each fitting its kind. -/
def IsRow (k : IntKind) (w : World) (a : Option Addr) (len cap : Nat) (zs : List Int) : Prop :=
  (a = none ∧ len = 0 ∧ cap = 0 ∧ zs = []) ∨
  ∃ x, a = some x ∧ len ≤ cap ∧ cap ≤ maxLen ∧ zs.length = cap ∧ (∀ i, i < zs.length → w.cell? (x.add i) = some (.int k (zs.getD i 0))) ∧ ∀ n ∈ zs, (Lit.int k n).wf = true

/-! ### STEP 1: THE WALK: the Go text returns true, AND WRITES NOTHING THAT WAS THERE: 'Below w.heap.size w w'' (Derived/Below.lean: '.refl', '.alloc', '.drew', '.setCell' at a new block, '.trans'). Open each 'IsRow' by 'rcases' AHEAD of 'go_enter'; part every test ahead of the walk. -/
set_option maxHeartbeats 4000000 in
set_option maxRecDepth 100000 in
theorem walk (a0 : Option Addr) (len0 cap0 : Nat) (z0 : List Int) (a1 : Int) (a2 : Int) (w : World) (w0 : IsRow .i64 w a0 len0 cap0 z0) (w1 : (Lit.int .i64 a1).wf = true) (w2 : (Lit.int .i64 a2).wf = true) :
    Calls Try.prog 6 #[.slice a0 len0 cap0, .int .i64 a1, .int .i64 a2] w fun e w' => e = .returned (.bool true) ∧ Below w.heap.size w w' := by
  have h1 : Hid (InR a1) := bounds_i64 w1
  have h2 : Hid (InR a2) := bounds_i64 w2
  have key : ∃ len1 zs, SlI w a0 len1 zs ∧ len1 ≤ 200 ∧ ((len0 ≤ 200 ∧ len1 = len0) ∨ (200 < len0 ∧ len1 = 200 ∧ 200 ≤ cap0 ∧ ∃ b off, a0 = some ⟨b, off, none⟩)) := by
    rcases w0 with ⟨rfl, rfl, rfl, rfl⟩ | ⟨x, rfl, hl, hm, hz, hc, hwf⟩
    · exact ⟨0, [], ⟨rfl, by simp, Or.inl rfl⟩, by omega, Or.inl ⟨by omega, rfl⟩⟩
    · by_cases h0 : len0 = 0
      · subst h0
        exact ⟨0, [], ⟨rfl, by simp, Or.inl rfl⟩, by omega, Or.inl ⟨by omega, rfl⟩⟩
      · obtain ⟨b, off, rfl, hc'⟩ := ints_at hc (by omega)
        have sl : ∀ n, n ≤ len0 → SlI w (some ⟨b, off, none⟩) n (z0.take n) := fun n hn =>
          ⟨by simp; omega, fun m hm => bounds_i64 (hwf m (List.mem_of_mem_take hm)), Or.inr ⟨b, off, rfl, fun i hi => by
            rw [hc' i (by omega)]
            congr 2
            simp only [List.getD_eq_getElem?_getD, List.getElem?_take, if_pos hi]⟩⟩
        by_cases h2 : len0 ≤ 200
        · exact ⟨len0, _, sl len0 (by omega), h2, Or.inl ⟨h2, rfl⟩⟩
        · exact ⟨200, _, sl 200 (by omega), by omega, Or.inr ⟨by omega, rfl, by omega, b, off, rfl⟩⟩
  obtain ⟨len1, zs, hsl, hl1, hcase⟩ := key
  clear w0 w1 w2
  have Hsl := Lib.hid hsl; clear hsl
  obtain ⟨i0, hi, iz0, iz1, iz2⟩ := info_parts info2
  have Hl : Hid (zs.length = len1) := Hsl.out.1
  rcases hcase with ⟨hle, rfl⟩ | ⟨hgt, rfl, hcap, b, off, rfl⟩
  · have hI : ¬ (200 : Int) < (len1 : Int) := by omega
    go_enter Try.func6, Try.ntmps6
    go_wp2_with fail
    go_loopw [7, 8] (fun v i wr => ∃ j : Nat, j ≤ len1 ∧ i = .int .i64 ((j : Int) - 1) ∧ Hid (wr.ownsRow w.heap.size 2 1 v (len1 - j) (revV zs j)) ∧ Below w.heap.size w wr) (fun _ i _ => (intOf i + 1).toNat)
    case atStart =>
      refine ⟨len1, by omega, by simp, ?_, by (focus ((repeat' (first | (with_reducible exact Below.refl _ _) | (with_reducible assumption) | (with_reducible refine Below.alloc ?_ ?_ _) | (with_reducible refine Below.setCell ?_ ?_ _) | (with_reducible refine Below.row ?_ ?_ _) | (with_reducible refine Below.drew ?_) | (with_reducible refine below_drewN ?_ _) | (focus (first | (simp; done) | omega | (simp; omega))))); done))⟩
      show World.ownsRow _ _ _ _ _ _ _
      rw [revV_none zs _ (by have := Hl.out; omega), Nat.sub_self]
      exact ⟨rfl, Or.inr ⟨w.heap.size, 0, #[], rfl, Nat.le_refl _, by (focus ((repeat' (first | (with_reducible assumption) | ((with_reducible refine heap_last ?_); (focus (first | (simp; done) | omega | (simp; omega)))) | ((with_reducible refine heap_prev ?_ ?_); (focus (first | (simp; done) | omega | (simp; omega)))) | (with_reducible refine drew_heap ?_) | (with_reducible refine drewN_heap ?_))); done)), Nat.le_refl _, Nat.zero_le _, rfl, rfl⟩⟩
    case round =>
      obtain ⟨j, hj, rfl, hown, hB⟩ := hrel
      have hz1 : w.heap.size ≤ wr.heap.size := hB.size
      by_cases hlt : 0 < j
      · obtain ⟨k, rfl⟩ : ∃ k, j = k + 1 := ⟨j - 1, by omega⟩
        rw [show (((k + 1 : Nat) : Int) - 1) = (k : Int) by omega]
        have hk : k < len1 := by omega
        have hkI : (k : Int) < ((len1 : Nat) : Int) := by omega
        have hk0 : (0 : Int) ≤ (k : Int) := by omega
        have hn9 : ((len1 : Nat) : Int) ≤ 200 := by omega
        have hrow := Hsl.out.2.2
        rcases hrow with h0 | ⟨b', off', hab, hcells⟩
        · exfalso; omega
        subst hab
        have ck := cell_below hB (hcells k hk)
        obtain ⟨z, hzz⟩ : ∃ z, z = zs.getD k 0 := ⟨_, rfl⟩
        rw [← hzz] at ck
        have hrev := rev_step zs k (by have := Hl.out; omega)
        rw [← hzz] at hrev
        have Hrev := Lib.hid hrev
        have Hzz := Lib.hid hzz
        have Hcells := Lib.hid hcells
        clear hrev hzz hcells
        have hn1 : len1 - (k + 1) + 1 = len1 - k := by omega
        have Hn1 := Lib.hid hn1; clear hn1
        go_wp2_with (at_builtin; (refine wpList_append_own _ rfl _ _ 32 rfl w.heap.size 2 i0 (.int .i64 0) 1 8 Try.underlying32 hi iz0 iz1 iz2 rfl (by decide) _ _ _ rfl (hown.out.alloc _) ⟨wr.heap.size, 0, none⟩ 1 1 [.int .i64 z] rfl rfl ?c1 ?c2 ?c3 ?c4 ?c5 ?_))
        case c1 => exact cell_one_new _ _ _
        case c2 => intro u hu; simp at hu; subst hu; rfl
        case c3 => simp only [maxLen]; omega
        case c4 => omega
        case c5 => simp; omega
        intro v' w1 hown1 hgrow _
        have hown2 : Hid (w1.ownsRow w.heap.size 2 1 v' (len1 - k) (revV zs k)) := by
          show World.ownsRow _ _ _ _ _ _ _
          rw [Hrev.out]
          first | exact hown1 | (rw [show len1 - k = len1 - (k + 1) + 1 by omega]; exact hown1) | (rw [show len1 - k = 199 - k + 1 by omega]; exact hown1)
        clear hown1
        have hB1 : Below w.heap.size w w1 := by
          refine Below.grown (Below.alloc hB hz1 _) hgrow (by simp; omega) (fun q hq => ?_)
          rcases hown.out.2 with ⟨rfl, _⟩ | ⟨g, cap, cur, rfl, hg, _⟩
          · cases hq
          · simp only [Value.ownBlock, Option.some.injEq] at hq; omega
        clear hgrow hown ck
        go_wp2
        exact ⟨⟨k, by omega, rfl, hown2, hB1⟩, by simp [intOf]⟩
      · obtain rfl : j = 0 := by omega
        have hown0 := hown.out
        rw [revV_all, Nat.sub_zero] at hown0
        obtain ⟨av, capv, rfl, hsv⟩ := own_SlI hown0 Hsl.out.2.1
        have Hsv := Lib.hid hsv
        clear hown hown0 hsv
        have HS2 : Hid (∀ u, Below wr.heap.size wr u → Calls Try.prog 22 #[.slice av len1 capv] u fun e w' => e = .returned (.tuple #[.int .i64 (tv zs.sum), .int .i64 (te zs.sum)]) ∧ Below u.heap.size u w') := by
          intro u hu
          have := Sum_c av len1 capv zs.reverse u (Hsv.out.below hu) (by omega)
          rw [sum_rev] at this
          exact this
        go_wp2_with fail
        ((with_reducible refine (Sum_c a0 len1 cap0 zs _ (Hsl.out.below hB) (by omega)).mono ?_); rintro e u1 ⟨rfl, b1⟩)
        go_wp2_with fail
        ((with_reducible refine (HS2.out _ b1).mono ?_); rintro e u2 ⟨rfl, b2⟩)
        go_wp2_with fail
        by_cases hin : InR (a1 + a2)
        · have HA : Hid (∀ w, Calls Try.prog 13 #[.int .i64 a1, .int .i64 a2] w fun e w' => e = .returned (.tuple #[.int .i64 (a1 + a2), .int .i64 0]) ∧ Below w.heap.size w w') := by
            intro w; have := Add_c a1 a2 h1.out h2.out w; rw [tv_in hin, te_in hin] at this; exact this
          have HSb : Hid (∀ w, Calls Try.prog 14 #[.int .i64 (a1 + a2), .int .i64 a2] w fun e w' => e = .returned (.tuple #[.int .i64 a1, .int .i64 0]) ∧ Below w.heap.size w w') := by
            intro w
            have := Sub_c (a1 + a2) a2 hin h2.out w
            rw [show a1 + a2 - a2 = a1 by omega, tv_in h1.out, te_in h1.out] at this
            exact this
          have Hin2 := Lib.hid hin; clear hin
          ((with_reducible refine (HA.out _).mono ?_); rintro e u3 ⟨rfl, b3⟩)
          go_wp2_with fail
          ((with_reducible refine (HSb.out _).mono ?_); rintro e u4 ⟨rfl, b4⟩)
          go_wp2_with fail
          ((with_reducible refine (lives_c _).mono ?_); rintro e u5 ⟨rfl, b5⟩)
          have s1 := b1.size
          have s2 := b2.size
          have s3 := b3.size
          have s4 := b4.size
          have hB9 : Below w.heap.size w u5 := ((((hB.trans (b1.mono (by omega))).trans (b2.mono (by omega))).trans (b3.mono (by omega))).trans (b4.mono (by omega))).trans (b5.mono (by omega))
          clear b1 b2 b3 b4 b5 s1 s2 s3 s4
          go_wp2_with fail
          go_ret
          first | exact ⟨rfl, hB9⟩ | exact hB9
        · have HA : Hid (∀ w, Calls Try.prog 13 #[.int .i64 a1, .int .i64 a2] w fun e w' => e = .returned (.tuple #[.int .i64 0, .int .i64 10]) ∧ Below w.heap.size w w') := by
            intro w; have := Add_c a1 a2 h1.out h2.out w; rw [tv_out hin, te_out hin] at this; exact this
          have Hin2 := Lib.hid hin; clear hin
          ((with_reducible refine (HA.out _).mono ?_); rintro e u3 ⟨rfl, b3⟩)
          go_wp2_with fail
          ((with_reducible refine (Sub_c 0 a2 (by unfold InR; omega) h2.out _).mono ?_); rintro e u4 ⟨rfl, b4⟩)
          go_wp2_with fail
          ((with_reducible refine (lives_c _).mono ?_); rintro e u5 ⟨rfl, b5⟩)
          have s1 := b1.size
          have s2 := b2.size
          have s3 := b3.size
          have s4 := b4.size
          have hB9 : Below w.heap.size w u5 := ((((hB.trans (b1.mono (by omega))).trans (b2.mono (by omega))).trans (b3.mono (by omega))).trans (b4.mono (by omega))).trans (b5.mono (by omega))
          clear b1 b2 b3 b4 b5 s1 s2 s3 s4
          go_wp2_with fail
          go_ret
          first | exact ⟨rfl, hB9⟩ | exact hB9
  · have hI : (200 : Int) < (len0 : Int) := by omega
    have hcI : (200 : Int) ≤ (cap0 : Int) := by omega
    go_enter Try.func6, Try.ntmps6
    go_wp2_with fail
    go_loopw [7, 8] (fun v i wr => ∃ j : Nat, j ≤ 200 ∧ i = .int .i64 ((j : Int) - 1) ∧ Hid (wr.ownsRow w.heap.size 2 1 v (200 - j) (revV zs j)) ∧ Below w.heap.size w wr) (fun _ i _ => (intOf i + 1).toNat)
    case atStart =>
      refine ⟨200, by omega, by simp, ?_, by (focus ((repeat' (first | (with_reducible exact Below.refl _ _) | (with_reducible assumption) | (with_reducible refine Below.alloc ?_ ?_ _) | (with_reducible refine Below.setCell ?_ ?_ _) | (with_reducible refine Below.row ?_ ?_ _) | (with_reducible refine Below.drew ?_) | (with_reducible refine below_drewN ?_ _) | (focus (first | (simp; done) | omega | (simp; omega))))); done))⟩
      show World.ownsRow _ _ _ _ _ _ _
      rw [revV_none zs _ (by have := Hl.out; omega), Nat.sub_self]
      exact ⟨rfl, Or.inr ⟨w.heap.size, 0, #[], rfl, Nat.le_refl _, by (focus ((repeat' (first | (with_reducible assumption) | ((with_reducible refine heap_last ?_); (focus (first | (simp; done) | omega | (simp; omega)))) | ((with_reducible refine heap_prev ?_ ?_); (focus (first | (simp; done) | omega | (simp; omega)))) | (with_reducible refine drew_heap ?_) | (with_reducible refine drewN_heap ?_))); done)), Nat.le_refl _, Nat.zero_le _, rfl, rfl⟩⟩
    case round =>
      obtain ⟨j, hj, rfl, hown, hB⟩ := hrel
      have hz1 : w.heap.size ≤ wr.heap.size := hB.size
      by_cases hlt : 0 < j
      · obtain ⟨k, rfl⟩ : ∃ k, j = k + 1 := ⟨j - 1, by omega⟩
        rw [show (((k + 1 : Nat) : Int) - 1) = (k : Int) by omega]
        have hk : k < 200 := by omega
        have hkI : (k : Int) < ((200 : Nat) : Int) := by omega
        have hk0 : (0 : Int) ≤ (k : Int) := by omega
        have hn9 : ((200 : Nat) : Int) ≤ 200 := by omega
        have hrow := Hsl.out.2.2
        rcases hrow with h0 | ⟨b', off', hab, hcells⟩
        · exfalso; omega
        cases hab
        have ck := cell_below hB (hcells k hk)
        obtain ⟨z, hzz⟩ : ∃ z, z = zs.getD k 0 := ⟨_, rfl⟩
        rw [← hzz] at ck
        have hrev := rev_step zs k (by have := Hl.out; omega)
        rw [← hzz] at hrev
        have Hrev := Lib.hid hrev
        have Hzz := Lib.hid hzz
        have Hcells := Lib.hid hcells
        clear hrev hzz hcells
        have hn1 : 200 - (k + 1) + 1 = 200 - k := by omega
        have Hn1 := Lib.hid hn1; clear hn1
        go_wp2_with (at_builtin; (refine wpList_append_own _ rfl _ _ 32 rfl w.heap.size 2 i0 (.int .i64 0) 1 8 Try.underlying32 hi iz0 iz1 iz2 rfl (by decide) _ _ _ rfl (hown.out.alloc _) ⟨wr.heap.size, 0, none⟩ 1 1 [.int .i64 z] rfl rfl ?c1 ?c2 ?c3 ?c4 ?c5 ?_))
        case c1 => exact cell_one_new _ _ _
        case c2 => intro u hu; simp at hu; subst hu; rfl
        case c3 => simp only [maxLen]; omega
        case c4 => omega
        case c5 => simp; omega
        intro v' w1 hown1 hgrow _
        have hown2 : Hid (w1.ownsRow w.heap.size 2 1 v' (200 - k) (revV zs k)) := by
          show World.ownsRow _ _ _ _ _ _ _
          rw [Hrev.out]
          first | exact hown1 | (rw [show 200 - k = 200 - (k + 1) + 1 by omega]; exact hown1) | (rw [show 200 - k = 199 - k + 1 by omega]; exact hown1)
        clear hown1
        have hB1 : Below w.heap.size w w1 := by
          refine Below.grown (Below.alloc hB hz1 _) hgrow (by simp; omega) (fun q hq => ?_)
          rcases hown.out.2 with ⟨rfl, _⟩ | ⟨g, cap, cur, rfl, hg, _⟩
          · cases hq
          · simp only [Value.ownBlock, Option.some.injEq] at hq; omega
        clear hgrow hown ck
        go_wp2
        exact ⟨⟨k, by omega, rfl, hown2, hB1⟩, by simp [intOf]⟩
      · obtain rfl : j = 0 := by omega
        have hown0 := hown.out
        rw [revV_all, Nat.sub_zero] at hown0
        obtain ⟨av, capv, rfl, hsv⟩ := own_SlI hown0 Hsl.out.2.1
        have Hsv := Lib.hid hsv
        clear hown hown0 hsv
        have HS2 : Hid (∀ u, Below wr.heap.size wr u → Calls Try.prog 22 #[.slice av 200 capv] u fun e w' => e = .returned (.tuple #[.int .i64 (tv zs.sum), .int .i64 (te zs.sum)]) ∧ Below u.heap.size u w') := by
          intro u hu
          have := Sum_c av 200 capv zs.reverse u (Hsv.out.below hu) (by omega)
          rw [sum_rev] at this
          exact this
        go_wp2_with fail
        ((with_reducible refine (Sum_c (some ⟨b, off, none⟩) 200 cap0 zs _ (Hsl.out.below hB) (by omega)).mono ?_); rintro e u1 ⟨rfl, b1⟩)
        go_wp2_with fail
        ((with_reducible refine (HS2.out _ b1).mono ?_); rintro e u2 ⟨rfl, b2⟩)
        go_wp2_with fail
        by_cases hin : InR (a1 + a2)
        · have HA : Hid (∀ w, Calls Try.prog 13 #[.int .i64 a1, .int .i64 a2] w fun e w' => e = .returned (.tuple #[.int .i64 (a1 + a2), .int .i64 0]) ∧ Below w.heap.size w w') := by
            intro w; have := Add_c a1 a2 h1.out h2.out w; rw [tv_in hin, te_in hin] at this; exact this
          have HSb : Hid (∀ w, Calls Try.prog 14 #[.int .i64 (a1 + a2), .int .i64 a2] w fun e w' => e = .returned (.tuple #[.int .i64 a1, .int .i64 0]) ∧ Below w.heap.size w w') := by
            intro w
            have := Sub_c (a1 + a2) a2 hin h2.out w
            rw [show a1 + a2 - a2 = a1 by omega, tv_in h1.out, te_in h1.out] at this
            exact this
          have Hin2 := Lib.hid hin; clear hin
          ((with_reducible refine (HA.out _).mono ?_); rintro e u3 ⟨rfl, b3⟩)
          go_wp2_with fail
          ((with_reducible refine (HSb.out _).mono ?_); rintro e u4 ⟨rfl, b4⟩)
          go_wp2_with fail
          ((with_reducible refine (lives_c _).mono ?_); rintro e u5 ⟨rfl, b5⟩)
          have s1 := b1.size
          have s2 := b2.size
          have s3 := b3.size
          have s4 := b4.size
          have hB9 : Below w.heap.size w u5 := ((((hB.trans (b1.mono (by omega))).trans (b2.mono (by omega))).trans (b3.mono (by omega))).trans (b4.mono (by omega))).trans (b5.mono (by omega))
          clear b1 b2 b3 b4 b5 s1 s2 s3 s4
          go_wp2_with fail
          go_ret
          first | exact ⟨rfl, hB9⟩ | exact hB9
        · have HA : Hid (∀ w, Calls Try.prog 13 #[.int .i64 a1, .int .i64 a2] w fun e w' => e = .returned (.tuple #[.int .i64 0, .int .i64 10]) ∧ Below w.heap.size w w') := by
            intro w; have := Add_c a1 a2 h1.out h2.out w; rw [tv_out hin, te_out hin] at this; exact this
          have Hin2 := Lib.hid hin; clear hin
          ((with_reducible refine (HA.out _).mono ?_); rintro e u3 ⟨rfl, b3⟩)
          go_wp2_with fail
          ((with_reducible refine (Sub_c 0 a2 (by unfold InR; omega) h2.out _).mono ?_); rintro e u4 ⟨rfl, b4⟩)
          go_wp2_with fail
          ((with_reducible refine (lives_c _).mono ?_); rintro e u5 ⟨rfl, b5⟩)
          have s1 := b1.size
          have s2 := b2.size
          have s3 := b3.size
          have s4 := b4.size
          have hB9 : Below w.heap.size w u5 := ((((hB.trans (b1.mono (by omega))).trans (b2.mono (by omega))).trans (b3.mono (by omega))).trans (b4.mono (by omega))).trans (b5.mono (by omega))
          clear b1 b2 b3 b4 b5 s1 s2 s3 s4
          go_wp2_with fail
          go_ret
          first | exact ⟨rfl, hB9⟩ | exact hB9

/-! ### THE ROW's STEP: WRITTEN OUT: LEAVE IT -/
set_option maxRecDepth 100000 in
theorem lifted (os : Os) (started : os.Started) (H : Type) (enc : TypeId × Value → H) :
    ReturnsInHanded {} Try.checked os 6 .any (Rows.coinOrderSpec.pre6 enc Try.prog Try.f6 Rows.coinOrderRow.domain false) (Rows.coinOrderSpec.post enc Try.prog Try.f6 false true false false) := by
  refine returnsInHanded_of_change (C := Try.checked) own started (by kernel_rfl) Try.func6
    (ChangeSpec.witness6 (enc := enc) (C := Try.checked) false ⟨#[], #[.slice none 0 0, .int .i64 0, .int .i64 0], []⟩ 8 (by kernel_rfl) (by kernel_rfl) (by kernel_rfl) (by kernel_rfl)) ?_
  intro W base args ds gs before hval0 hW hcnd _
  have hval : ∀ (j : Nat) t v, Try.f6.params[j]? = some t → args[j]? = some v → Value.okWide Try.prog W .any base t v := hval0
  have hW' := hW
  obtain ⟨p, q, hA0, hV, rfl, hfz, hnd⟩ := hW
  have hA : DataW.TrodAll enc Try.prog W 0 (fun _ => true) true Try.f6.params.toList args.toList ds p := hA0
  rw [Try.params6] at hA hval
  obtain ⟨v0, vs0, d0, ds0, p0, q0, hargs, rfl, rfl, h0, r0⟩ := trodAll_cons hA
  obtain ⟨v1, vs1, d1, ds1, p1, q1, rfl, rfl, rfl, h1, r1⟩ := trodAll_cons r0
  obtain ⟨v2, vs2, d2, ds2, p2, q2, rfl, rfl, rfl, h2, r2⟩ := trodAll_cons r1
  obtain ⟨rfl, rfl, rfl⟩ := trodAll_nil r2
  obtain rfl : args = #[v0, v1, v2] := by cases args; simp_all
  obtain ⟨rfl, rfl⟩ := trodVars_none hV
  obtain ⟨a0, len0, cap0, rfl⟩ := okWide_slice Try.underlying32 (hval 0 32 v0 rfl rfl)
  have k0 := h0
  have lt0 : ∀ x ∈ p0, x.block < W.heap.size := by obtain ⟨m, hm⟩ := k0; exact DataW.trod_lt m _ _ _ hm
  obtain ⟨z0, w0⟩ : ∃ zs, IsRow .i64 W a0 len0 cap0 zs := by
    obtain ⟨fuel, hf⟩ := h0
    rcases open_ints Try.underlying32 Try.underlying2 (by kernel_rfl) hf with ⟨hcs, _⟩ | ⟨x, l, c, zs, hcs, _, hl, hm, hz, _, hcell, hwz⟩
    · simp [Value.cells] at hcs
      obtain ⟨rfl, rfl, rfl⟩ := hcs
      exact ⟨[], .inl ⟨rfl, rfl, rfl, rfl⟩⟩
    · simp [Value.cells] at hcs
      obtain ⟨rfl, rfl, rfl⟩ := hcs
      exact ⟨zs, .inr ⟨_, rfl, hl, hm, by simpa using hz, hcell, hwz⟩⟩
  obtain ⟨a1, rfl, rfl, rfl, w1⟩ := open_int Try.underlying2 (hval 1 2 v1 rfl rfl) h1
  obtain ⟨a2, rfl, rfl, rfl, w2⟩ := open_int Try.underlying2 (hval 2 2 v2 rfl rfl) h2
  clear hA0 hval0
  refine (walk a0 len0 cap0 z0 a1 a2 W w0 w1 w2).mono fun e W' ⟨he, bel⟩ => ?_
  subst he
  exact ⟨_, rfl, _, _, _, [], _, [], hW', trodAll_mk1 (shut_bool Try.underlying4 _), (trodAll_cons_mk (Below.trod laidOut (by kernel_rfl) (of_decide_eq_true (by kernel_rfl)) k0 bel lt0) (trodAll_cons_mk (shut_int Try.underlying2 w1) (trodAll_cons_mk (shut_int Try.underlying2 w2) trodAll_mk0))), rfl, bel.frame _, fun h => by cases h⟩

theorem over : Rows.coinOrderRow.holds Try.pinned (OpenSpec.ofChange Rows.coinOrderSpec) :=
  OpenClaim.holds_of_wide 6 Try.f6 rfl rfl rfl rfl rfl rfl rfl ⟨rfl, rfl, rfl, rfl, rfl⟩ rfl rfl rfl rfl rfl (by kernel_rfl) Try.func6 (by kernel_rfl)
    (of_decide_eq_true (by kernel_rfl)) (by unfold Func.isWrapper; first | (rw [if_pos (by decide +kernel)]; kernel_rfl) | (rw [if_neg (by decide +kernel)]; exact ⟨rfl, rfl⟩))
    (fun os started H enc _ => lifted os started H enc)

/-- ████ THE STATEMENT ████ -/
theorem proved : Rows.CoinOrderSaid := over
end Go.Proofs.Ytceipiidhlekgaa.coinOrder
