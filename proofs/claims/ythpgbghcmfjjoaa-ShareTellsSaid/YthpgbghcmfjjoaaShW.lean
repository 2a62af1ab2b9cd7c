/- share: ShareTells, walked. -/
import Derived.Test.YthpgbghcmfjjoaaShV
import Derived.Test.YthpgbghcmfjjoaaShT
namespace Go.Proofs.Ythpgbghcmfjjoaa
open Go.RowKit Go.Lib
set_option linter.unusedVariables false

theorem rShare_any (mode : Int) (A : Option Addr) (n c : Nat) (L : List Od) (qty lot : Int) (hlot : InR lot) (w : World) (HO : Ods w A n L) (hn : n ≤ 1000) :
    Calls Try.prog 10 #[.int .i64 mode, .slice A n c, .int .i64 qty, .int .i64 lot] w (ShAny w mode n (qs L) qty lot) := by
  by_cases h : NoSh mode (qs L) qty lot
  · exact (rShare_no mode A n c L qty lot hlot w HO hn h).mono fun e w' hh => ⟨none, 0, 0, hh.1, Lib.hid ⟨hh.2, .inl rfl, .inl ⟨rfl, h⟩⟩, by omega⟩
  · obtain ⟨hm, hok⟩ := shOk h
    rcases hm with rfl | rfl
    · exact (rShare_1 A n c L qty lot hlot w HO hn hok).mono fun e w' ⟨b, h1, h2, h3, h4⟩ => ⟨_, n, n, h1, Lib.hid ⟨h3, RowN.of h4, .inr ⟨rfl, .inl rfl, hok⟩⟩, Nat.le_refl _⟩
    · exact (rShare_2 A n c L qty lot hlot w HO hn hok).mono fun e w' ⟨b, h1, h2, h3, h4⟩ => ⟨_, n, n, h1, Lib.hid ⟨h3, RowN.of h4, .inr ⟨rfl, .inr rfl, hok⟩⟩, Nat.le_refl _⟩
theorem any_same {mode : Int} {n m m' : Nat} {Q : List Int} {qty lot : Int} (h : (m = 0 ∧ NoSh mode Q qty lot) ∨ (m = n ∧ (mode = 1 ∨ mode = 2) ∧ ShOk Q qty lot)) (h' : (m' = 0 ∧ NoSh mode Q qty lot) ∨ (m' = n ∧ (mode = 1 ∨ mode = 2) ∧ ShOk Q qty lot)) : m' = m := by
  have no : ∀ {Q : List Int}, NoSh mode Q qty lot → (mode = 1 ∨ mode = 2) → ShOk Q qty lot → False := by
    intro Q a b c
    rcases a with a | a | a | a
    · exact a b
    · have := c.t; have := c.t1; omega
    · have := c.y1; omega
    · have := c.y2; omega
  rcases h with ⟨rfl, a⟩ | ⟨rfl, b, c⟩
  · rcases h' with ⟨rfl, _⟩ | ⟨_, b, c⟩
    · rfl
    · exact (no a b c).elim
  · rcases h' with ⟨rfl, a⟩ | ⟨rfl, _⟩
    · exact (no a b c).elim
    · rfl

set_option maxHeartbeats 4000000 in
set_option maxRecDepth 100000 in
theorem tells_w (mode : Int) (A : Option Addr) (n c : Nat) (L : List Od) (qty lot : Int) (hlot : InR lot) (w : World) (HO : Ods w A n L) :
    Calls Try.prog 3 #[.int .i64 mode, .slice A n c, .int .i64 qty, .int .i64 lot] w fun e w' => e = .returned (.bool true) ∧ Below w.heap.size w w' := by
  by_cases h1 : 100 < n
  · have h1I : (100 : Int) < (n : Int) := by omega
    clear HO
    go_enter Try.func3, Try.ntmps3
    go_wp2_with ((with_reducible refine (lives16_c _).mono ?_); rintro e w5 ⟨rfl, b5⟩)
    go_ret
    exact ⟨rfl, b5⟩
  have h1I : ¬ (100 : Int) < (n : Int) := by omega
  have hn : n ≤ 100 := by omega
  have HP : Hid (Calls Try.prog 7 #[.slice A n c] w (RowIs w L)) := Lib.hid (plain_c A n c L w HO (by omega))
  have HS : Hid (∀ wr, Below w.heap.size w wr → Calls Try.prog 9 #[.int .i64 mode, .slice A n c, .int .i64 qty, .int .i64 lot] wr (ShAny wr mode n (qs L) qty lot)) := Lib.hid (fun wr hb => share_any mode A n c L qty lot hlot wr (HO.below hb) (by omega))
  have HT : Hid (∀ wr, Below w.heap.size w wr → Calls Try.prog 11 #[.slice A n c, .int .i64 lot] wr fun e w' => e = .returned (.int .i64 (totN (qs L) lot)) ∧ Below wr.heap.size wr w') := Lib.hid (tot_on (wr := w) hlot HO (by omega))
  have HL := Lib.hid hlot
  have HLn := Lib.hid HO.1
  clear HO h1 hlot
  go_enter Try.func3, Try.ntmps3
  go_wp2_with fail
  ((with_reducible refine HP.out.mono ?_); rintro e w1 ⟨B, n', c', rfl, h1⟩)
  obtain rfl : n = n' := by rw [← HLn.out]; exact h1.out.2.1.1
  have S1 := Lib.hid (HS.out w1 h1.out.1)
  clear HS HP
  go_wp2_with fail
  ((with_reducible refine S1.out.mono ?_); rintro e w2 ⟨A1, m1, c1, rfl, h2, hm1⟩)
  have b2 : Below w.heap.size w w2 := h1.out.1.trans (h2.out.1.mono h1.out.1.size)
  have S2 := Lib.hid (rShare_any mode B n c' L qty lot HL.out w2 (h1.out.2.1.below h2.out.1) (by omega))
  clear S1
  go_wp2_with fail
  ((with_reducible refine S2.out.mono ?_); rintro e w3 ⟨A2, m2, c2, rfl, h3, hm2⟩)
  obtain rfl : m1 = m2 := any_same h3.out.2.2 h2.out.2.2
  have b3 : Below w.heap.size w w3 := b2.trans (h3.out.1.mono b2.size)
  have S3 := Lib.hid (same16_c A1 A2 m1 c1 c2 _ _ w3 (h2.out.2.1.below h3.out.1) h3.out.2.1 (by omega) (fun _ _ => rfl))
  clear S2
  go_wp2_with fail
  ((with_reducible refine S3.out.mono ?_); rintro e w4 ⟨rfl, b4⟩)
  have B4 : Below w.heap.size w w4 := b3.trans (b4.mono b3.size)
  have S4 := Lib.hid (HT.out w4 B4)
  have HB := h1.out.2.1.below (h2.out.1.trans ((h3.out.1.trans (b4.mono h3.out.1.size)).mono h2.out.1.size))
  obtain ⟨T, hT⟩ : ∃ T, T = totN (qs L) lot := ⟨_, rfl⟩
  rw [← hT] at S4
  have HB2 := Lib.hid HB
  have HTT := Lib.hid hT
  have eTT : (T == T) = true := by simp
  clear S3 HT HB hT b4
  go_wp2_with fail
  ((with_reducible refine S4.out.mono ?_); rintro e w5 ⟨rfl, b5⟩)
  have B5 : Below w.heap.size w w5 := B4.trans (b5.mono B4.size)
  have S5 : Hid (Calls Try.prog 12 #[.slice B n c', .int .i64 lot] w5 fun e w' => e = .returned (.int .i64 T) ∧ w5 = w') := Lib.hid (by rw [HTT.out]; exact rTotal_c B n c' L lot HL.out w5 (HB2.out.below b5) (by omega))
  clear S4 b5
  go_wp2_with (first | ((with_reducible refine S5.out.mono ?_); rintro e w6 ⟨rfl, rfl⟩) | ((with_reducible refine (lives16_c _).mono ?_); rintro e w7 ⟨rfl, b7⟩))
  have B7 := B5.trans (b7.mono B5.size)
  go_ret
  exact ⟨rfl, B7⟩
end Go.Proofs.Ythpgbghcmfjjoaa
