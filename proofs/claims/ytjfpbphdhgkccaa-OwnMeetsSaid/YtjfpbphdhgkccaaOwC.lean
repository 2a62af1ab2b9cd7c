/- own: Run, Meet; the reference's Run. (By mkowc.py.) -/
import Derived.Test.YtjfpbphdhgkccaaOwB
import Derived.Laws.CopyRow
import Derived.Laws.CopyOwn
import Derived.Laws.OwnMore
namespace Go.Proofs.Ytjfpbphdhgkccaa
open Go.RowKit Go.Lib Go.Sort
set_option linter.unusedVariables false

def pBoxes (w : World) (p a : Int) : World := (w.alloc (.cells #[.int .i64 p] 3)).alloc (.cells #[.int .i64 a] 3)
theorem pBoxes_ok (w : World) (p a : Int) : Bxs (pBoxes w p a) w.heap.size p a ∧ Below w.heap.size w (pBoxes w p a) := by
  refine ⟨⟨?_, ?_⟩, ((Below.refl _ _).alloc (Nat.le_refl _) _).alloc (by simp) _⟩
  · show ((w.heap.push _).push _)[w.heap.size]? = _; rw [Array.getElem?_push_lt (by simp), Array.getElem_push_eq]
  · show ((w.heap.push _).push _)[w.heap.size + 1]? = _
    have e : w.heap.size + 1 = (w.heap.push (.cells #[.int .i64 p] 3)).size := by simp
    rw [e, Array.getElem?_push_size]
set_option maxHeartbeats 4000000 in
set_option maxRecDepth 100000 in
theorem ownOf_c (p a : Int) (w : World) :
    Calls Try.prog 19 #[.int .i64 p, .int .i64 a] w fun e w' => ∃ g, e = .returned (.func (.func 24) #[] #[.pointer (some ⟨g, 0, none⟩), .pointer (some ⟨g + 1, 0, none⟩)]) ∧ Hid (Bxs w' g p a ∧ Below w.heap.size w w') := by
  go_enter Try.func19, Try.ntmps19
  go_wp2_with fail
  go_ret
  exact ⟨_, rfl, pBoxes_ok w p a⟩

/-- How many stand ahead of the first own one; 0 if there is no such policy. -/
def runN (p a : Int) (L : List Od) : Nat := if isPol p = true then frO p a L else 0
theorem runN_le (p a : Int) (L : List Od) : runN p a L ≤ L.length := by
  unfold runN; split
  · exact frO_le p a L
  · omega

set_option maxHeartbeats 4000000 in
set_option maxRecDepth 100000 in
theorem run_c (p a : Int) (A : Option Addr) (n c : Nat) (L : List Od) (w : World) (H : Ods w A n L) :
    Calls Try.prog 9 #[.int .i64 p, .int .i64 a, .slice A n c] w fun e w' => e = .returned (.int .i64 (runN p a L)) ∧ Below w.heap.size w w' := by
  obtain ⟨r, hr⟩ : ∃ r, r = runN p a L := ⟨_, rfl⟩
  rw [← hr]
  unfold runN at hr
  have HL := H.1
  have HH := Lib.hid H
  have HD : Hid (Calls Try.prog 17 #[.int .i64 p] w fun e w' => e = .returned (.tuple #[.agg #[.bool (drN p), .bool (stN p)], .bool (isPol p)]) ∧ Below w.heap.size w w') := Lib.hid (deeds_c p w)
  clear H
  generalize drN p = d at HD
  generalize stN p = s at HD
  cases hp : isPol p with
  | false =>
    rw [hp] at hr HD
    obtain rfl : r = 0 := by rw [hr]; rfl
    clear hr HL HH hp
    go_enter Try.func9, Try.ntmps9
    go_wp2_with fail
    ((with_reducible refine HD.out.mono ?_); rintro e w1 ⟨rfl, b1⟩)
    go_wp2_with fail
    go_ret
    exact ⟨rfl, b1.alloc b1.size _⟩
  | true =>
    rw [hp] at hr HD
    rw [if_pos rfl] at hr
    clear hp
    have HI : Hid (∀ wr g, Below w.heap.size w wr → Bxs wr g p a → Calls Try.prog 18 #[.slice A n c, .func (.func 24) #[] #[.pointer (some ⟨g, 0, none⟩), .pointer (some ⟨g + 1, 0, none⟩)]] wr fun e w' => e = .returned (.int .i64 (idxN p a L)) ∧ Below wr.heap.size wr w') :=
      Lib.hid fun wr g hb hx => idx_c g p a A n c L wr (HH.out.below hb) hx
    have hi : idxN p a L = if r < n then (r : Int) else -1 := by unfold idxN; rw [← hr, HL]
    have hrl : r ≤ n := by rw [hr, ← HL]; exact frO_le p a L
    generalize idxN p a L = ix at HI hi
    by_cases hlt : r < n
    · rw [if_pos hlt] at hi
      subst hi
      clear hr HL HH
      have g0 : ¬ ((r : Int) < 0) := by omega
      have g1 : decide ((r : Int) < 0) = false := decide_eq_false g0
      go_enter Try.func9, Try.ntmps9
      go_wp2_with fail
      ((with_reducible refine HD.out.mono ?_); rintro e w1 ⟨rfl, b1⟩)
      have b1' := b1.alloc b1.size (.cells #[.bool d, .bool s] 43)
      clear HD b1
      go_wp2_with fail
      ((with_reducible refine (ownOf_c p a _).mono ?_); rintro e w2 ⟨g, rfl, h2⟩)
      have b2 := b1'.trans (h2.out.2.mono b1'.size)
      have x2 := h2.out.1
      clear h2 b1'
      go_wp2_with fail
      ((with_reducible refine (HI.out _ _ b2 x2).mono ?_); rintro e w3 ⟨rfl, b3⟩)
      have b4 := b2.trans (b3.mono b2.size)
      clear HI b2 x2 b3
      go_wp2_with fail
      go_ret
      exact ⟨rfl, b4⟩
    · rw [if_neg hlt] at hi
      subst hi
      obtain rfl : r = n := by omega
      clear hr HL HH
      go_enter Try.func9, Try.ntmps9
      go_wp2_with fail
      ((with_reducible refine HD.out.mono ?_); rintro e w1 ⟨rfl, b1⟩)
      have b1' := b1.alloc b1.size (.cells #[.bool d, .bool s] 43)
      clear HD b1
      go_wp2_with fail
      ((with_reducible refine (ownOf_c p a _).mono ?_); rintro e w2 ⟨g, rfl, h2⟩)
      have b2 := b1'.trans (h2.out.2.mono b1'.size)
      have x2 := h2.out.1
      clear h2 b1'
      go_wp2_with fail
      ((with_reducible refine (HI.out _ _ b2 x2).mono ?_); rintro e w3 ⟨rfl, b3⟩)
      have b4 := b2.trans (b3.mono b2.size)
      clear HI b2 x2 b3
      go_wp2_with fail
      go_ret
      exact ⟨rfl, b4⟩

set_option maxHeartbeats 4000000 in
set_option maxRecDepth 100000 in
theorem rRun_c (p a : Int) (A : Option Addr) (n c : Nat) (L : List Od) (w : World) (H : Ods w A n L) (hn : n ≤ 1000) :
    Calls Try.prog 7 #[.int .i64 p, .int .i64 a, .slice A n c] w fun e w' => e = .returned (.int .i64 (runN p a L)) ∧ Below w.heap.size w w' := by
  obtain ⟨r, hr⟩ : ∃ r, r = runN p a L := ⟨_, rfl⟩
  rw [← hr]
  unfold runN at hr
  have HL := Lib.hid H.1
  have HH := Lib.hid H
  clear H
  by_cases l1 : p < 1
  · obtain rfl : r = 0 := by rw [hr, if_neg]; unfold isPol; simp; omega
    clear hr HL HH
    have g1 : decide (p < 1) = true := decide_eq_true l1
    go_enter Try.func7, Try.ntmps7
    go_wp2_with fail
    go_ret
    exact ⟨rfl, Below.refl _ _⟩
  by_cases l2 : 4 < p
  · obtain rfl : r = 0 := by rw [hr, if_neg]; unfold isPol; simp; omega
    clear hr HL HH
    go_enter Try.func7, Try.ntmps7
    go_wp2_with fail
    go_ret
    exact ⟨rfl, Below.refl _ _⟩
  have hpol : isPol p = true := by unfold isPol; simp; omega
  rw [if_pos hpol] at hr
  have HR := Lib.hid hr
  clear hr hpol
  go_enter Try.func7, Try.ntmps7
  go_wp2_with fail
  go_loopg [7] n (fun kx s7 wr => ∃ k : Nat, s7 = .int .i64 (k : Int) ∧ k ≤ n ∧ n - k ≤ kx ∧ w = wr ∧ Hid (∀ j, j < k → isOwn p a L[j]! = false))
  case atStart => exact ⟨0, rfl, by omega, by omega, rfl, Lib.hid fun j hj => by omega⟩
  case round =>
    obtain ⟨k, rfl, hk, hkx, rfl, hd⟩ := hrel
    by_cases hlt : k < n
    · have hltI : (k : Int) < (n : Int) := by omega
      have hk0 : (0 : Int) ≤ (k : Int) := by omega
      obtain ⟨b, off, rfl, hb, hc⟩ : ∃ b off, A = some ⟨b, off, none⟩ ∧ b < w.heap.size ∧ ∀ i, i < n → (L[i]!).at w b (off + i * 6) := by
        rcases HH.out.2.2.2 with h | h
        · omega
        · exact h
      have x1 := (hc k hlt).2.1
      obtain ⟨x, ex⟩ : ∃ x, L[k]! = x := ⟨_, rfl⟩
      rw [ex] at x1
      have HX := Lib.hid ex
      clear ex hc
      have HN : isOwn p a x = false → Hid (∀ j, j < k + 1 → isOwn p a L[j]! = false) := fun hbd => Lib.hid (fun j hj => by
          by_cases e : j < k
          · exact hd.out j e
          · obtain rfl : j = k := by omega
            rw [HX.out]; exact hbd)
      have HY : isOwn p a x = true → Hid (r = k) := fun hbd => Lib.hid (by
          rw [HR.out]
          exact frO_at (by rw [HL.out]; exact hlt) hd.out (by rw [HX.out]; exact hbd))
      unfold isOwn at HN HY
      generalize x.acc = ac at x1 HN HY
      by_cases p1 : p = 1
      · have e2 : (p != 1) = false := by simp [p1]
        have HF := HN (by rw [p1]; rfl)
        clear HN HY
        go_wp2_with fail
        go_roundg (n - (k + 1))
        case measure => omega
        case rel => exact ⟨k + 1, by go_num, by omega, by omega, rfl, HF⟩
      · have e1 : (p == 1) = false := by simp [p1]
        have e2 : (p != 1) = true := by simp [p1]
        by_cases aa : ac = a
        · have HF := HY (by rw [e1]; simp [aa])
          have e3 : (ac == a) = true := by simp [aa]
          clear HN HY
          go_wp2_with fail
          go_ret
          rw [HF.out]
          exact ⟨rfl, Below.refl _ _⟩
        · have e3 : (ac == a) = false := by simp [aa]
          have HF := HN (by rw [e1, e3]; rfl)
          clear HN HY
          go_wp2_with fail
          go_roundg (n - (k + 1))
          case measure => omega
          case rel => exact ⟨k + 1, by go_num, by omega, by omega, rfl, HF⟩
    · have hltI : ¬ (k : Int) < (n : Int) := by omega
      have HF : Hid (r = n) := Lib.hid (by
        have e := frO_none (p := p) (a := a) (L := L) (fun j hj => hd.out j (by rw [HL.out] at hj; omega))
        rw [HR.out, e, HL.out])
      go_wp2_with fail
      go_ret
      rw [HF.out]
      exact ⟨rfl, Below.refl _ _⟩
end Go.Proofs.Ytjfpbphdhgkccaa
