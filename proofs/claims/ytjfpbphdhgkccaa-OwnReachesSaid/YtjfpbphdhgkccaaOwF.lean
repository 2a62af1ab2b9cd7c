/- own: the laws, walked. (By mkowf.py.) -/
import Derived.Test.YtjfpbphdhgkccaaOwE
namespace Go.Proofs.Ytjfpbphdhgkccaa
open Go.RowKit Go.Lib Go.Sort
set_option linter.unusedVariables false

def exM : List Od := [⟨1, 1, 0, 0, 5, 0⟩, ⟨2, 2, 0, 0, 5, 0⟩, ⟨3, 3, 0, 0, 5, 0⟩]
def exC : Array Value := #[.int .u64 1, .int .i64 1, .int .i64 0, .int .i64 0, .int .i64 5, .int .u64 0, .int .u64 2, .int .i64 2, .int .i64 0, .int .i64 0, .int .i64 5, .int .u64 0, .int .u64 3, .int .i64 3, .int .i64 0, .int .i64 0, .int .i64 5, .int .u64 0]
theorem ex_ods (w : World) : Ods (w.alloc (.cells exC 35)) (some ⟨w.heap.size, 0, none⟩) 3 exM := by
  have hb : (w.alloc (.cells exC 35)).heap[w.heap.size]? = some (.cells exC 35 (0, 0)) := heap_alloc_new _ _
  refine ods_block rfl (by omega) ?_ hb
  intro x hx
  simp only [exM, List.mem_cons, List.not_mem_nil, or_false] at hx
  rcases hx with rfl | rfl | rfl <;> (unfold Od.ok; decide)

set_option maxHeartbeats 4000000 in
set_option maxRecDepth 100000 in
theorem lives17_c (w : World) : Calls Try.prog 5 #[] w fun e w' => e = .returned (.bool true) ∧ Below w.heap.size w w' := by
  have b0 : Below w.heap.size w (w.alloc (.cells exC 35)) := (Below.refl _ _).alloc (Nat.le_refl _) _
  have HM := Lib.hid (meet_c 3 2 (some ⟨w.heap.size, 0, none⟩) 3 3 exM _ (ex_ods w) (by omega))
  have HR : Hid (∀ w2, Below (w.heap.size + 1) (w.alloc (.cells exC 35)) w2 → Calls Try.prog 15 #[.int .i64 3, .int .i64 2, .slice (some ⟨w.heap.size, 0, none⟩) 3 3, .int .i64 1] w2 fun e w' => e = .returned (.tuple #[.int .i64 10, .bool false]) ∧ Below w2.heap.size w2 w') :=
    Lib.hid fun w2 h2 => reach_c 3 2 (some ⟨w.heap.size, 0, none⟩) 3 3 exM 1 (by unfold InR; omega) w2 ((ex_ods w).below (h2.mono (by simp))) (by omega)
  have eM : runN 3 2 exM = 1 ∧ mtM 3 2 exM = 1 ∧ mtS 3 2 exM = false ∧ frO 3 2 exM = 1 := by decide
  unfold MeetIs at HM
  rw [eM.1, eM.2.1, eM.2.2.1, eM.2.2.2] at HM
  have B0 := Lib.hid b0
  clear eM b0
  unfold exC at HM HR B0
  go_enter Try.func5, Try.ntmps5
  go_wp2_with fail
  ((with_reducible refine HM.out.mono ?_); rintro e w1 ⟨R, rc, D, dc, rfl, h1⟩)
  have b1 := h1.out.1
  have hz1 : (w.alloc (.cells exC 35)).heap.size = w.heap.size + 1 := by simp
  unfold exC at hz1
  have b1' := b1
  rw [hz1] at b1'
  have C := Lib.hid (HR.out w1 b1')
  obtain ⟨b, off, rfl, hb, hc⟩ : ∃ b off, R = some ⟨b, off, none⟩ ∧ b < w1.heap.size ∧ ∀ i, i < 1 → ((exM.take 1)[i]!).at w1 b (off + i * 6) := by
    rcases h1.out.2.1.2.2.2 with h | h
    · omega
    · exact h
  obtain ⟨b', rfl, hb', hc'⟩ := h1.out.2.2 (by trivial)
  have x0 : w1.cell? ⟨b, off, none⟩ = some (.int .u64 1) := (hc 0 (by omega)).1
  have y0 : w1.cell? ⟨b', 0, none⟩ = some (.int .u64 2) := hc'
  have B1 := Lib.hid (B0.out.trans (b1.mono B0.out.size))
  clear hc hc' h1 HM HR b1 b1' hz1 B0
  go_wp2_with fail
  ((with_reducible refine C.out.mono ?_); rintro e w2 ⟨rfl, b2⟩)
  have x2 := (b2.cell (p := ⟨b, off, none⟩) hb).trans x0
  have y2 := (b2.cell (p := ⟨b', 0, none⟩) hb').trans y0
  have B2 := Lib.hid (B1.out.trans (b2.mono B1.out.size))
  clear x0 y0 C b2 hb hb' B1
  go_wp2_with fail
  go_ret
  exact ⟨rfl, B2.out⟩

theorem ods_take {w : World} {A : Option Addr} {n m : Nat} {L : List Od} (h : Ods w A n L) (hm : m ≤ n) : Ods w A m (L.take m) := by
  refine ⟨by rw [List.length_take, h.1]; omega, by have := h.2.1; omega, fun x hx => h.2.2.1 x (List.mem_of_mem_take hx), ?_⟩
  rcases h.2.2.2 with h0 | ⟨b, off, ha, hb, hc⟩
  · exact .inl (by omega)
  · exact .inr ⟨b, off, ha, hb, fun i hi => by rw [take_get hi]; exact hc i (by omega)⟩
theorem eqL_self (L : List Od) : eqL L L = true := (eqL_iff L L).2 rfl

set_option maxHeartbeats 4000000 in
set_option maxRecDepth 100000 in
theorem reaches_w (p a : Int) (A : Option Addr) (n c : Nat) (L : List Od) (lot : Int) (hlot : InR lot) (w : World) (H : Ods w A n L) :
    Calls Try.prog 4 #[.int .i64 p, .int .i64 a, .slice A n c, .int .i64 lot] w fun e w' => e = .returned (.bool true) ∧ Below w.heap.size w w' := by
  by_cases h1 : 100 < n
  · have h1I : (100 : Int) < (n : Int) := by omega
    clear H
    go_enter Try.func4, Try.ntmps4
    go_wp2_with ((with_reducible refine (lives17_c _).mono ?_); rintro e w5 ⟨rfl, b5⟩)
    go_ret
    exact ⟨rfl, b5⟩
  have h1I : ¬ (100 : Int) < (n : Int) := by omega
  have hn : n ≤ 1000 := by omega
  have HP := Lib.hid (plain_c A n c L w H hn)
  have HC : Hid (∀ pp w2, Below w.heap.size w w2 → Calls Try.prog 15 #[.int .i64 pp, .int .i64 a, .slice A n c, .int .i64 lot] w2 fun e w' => e = .returned (.tuple #[.int .i64 (rchN pp a lot L).1, .bool (rchN pp a lot L).2]) ∧ Below w2.heap.size w2 w') :=
    Lib.hid fun pp w2 h2 => reach_c pp a A n c L lot hlot w2 (H.below h2) hn
  have HV : Hid (∀ B nn cc w2, Ods w2 B nn L → nn ≤ 1000 → Calls Try.prog 16 #[.int .i64 p, .int .i64 a, .slice B nn cc, .int .i64 lot] w2 fun e w' => e = .returned (.tuple #[.int .i64 (rchN p a lot L).1, .bool (rchN p a lot L).2]) ∧ Below w2.heap.size w2 w') :=
    Lib.hid fun B nn cc w2 h2 hh => rReach_c p a B nn cc L lot hlot w2 h2 hh
  have eN : (rchN 1 a lot L).2 = false := by unfold rchN; rw [if_pos (by decide)]; exact rch_allow a lot L 0
  have eL : (rchN p a lot L).1 ≤ (rchN 1 a lot L).1 := by
    have e1 : rchN 1 a lot L = rch 1 a lot 0 L := if_pos (by decide)
    rw [e1]
    unfold rchN
    split
    · exact rch_le p a lot L 0 0 (fun x hx => (H.2.2.1 x hx).2.2.2.2.1.2) (by omega) (by omega) (by omega)
    · exact rch_up a lot L 0 (fun x hx => (H.2.2.1 x hx).2.2.2.2.1.2) (by omega) (by omega)
  have HL := H.1
  have HCA := Lib.hid (HC.out 1)
  rw [eN] at HCA
  have HCP := Lib.hid (HC.out p)
  have HX := Lib.hid HL
  clear HC eN H HL h1
  generalize (rchN 1 a lot L).1 = y at HCA eL
  generalize (rchN p a lot L).1 = x at HCP HV eL
  generalize (rchN p a lot L).2 = s at HCP HV
  have ex : (x == x) = true := by simp
  have es : (s == s) = true := by simp
  have ey : decide (x ≤ y) = true := decide_eq_true eL
  go_enter Try.func4, Try.ntmps4
  go_wp2_with fail
  ((with_reducible refine HP.out.mono ?_); rintro e w1 ⟨A1, n1, c1, rfl, h1⟩)
  have n1n : n1 = n := by rw [← h1.out.2.1.1]; exact HX.out
  subst n1n
  have C1 := HCP.out _ h1.out.1
  clear HP HCP
  go_wp2_with fail
  ((with_reducible refine C1.mono ?_); rintro e w2 ⟨rfl, b2⟩)
  have B2 := h1.out.1.trans (b2.mono h1.out.1.size)
  have O2 := h1.out.2.1.below b2
  have C2 := HV.out A1 _ c1 _ O2 hn
  clear C1 HV h1 b2 O2
  go_wp2_with fail
  ((with_reducible refine C2.mono ?_); rintro e w3 ⟨rfl, b3⟩)
  have B3 := B2.trans (b3.mono B2.size)
  have C3 := HCA.out _ B3
  clear C2 HCA B2 b3
  go_wp2_with fail
  ((with_reducible refine C3.mono ?_); rintro e w4 ⟨rfl, b4⟩)
  have B4 := B3.trans (b4.mono B3.size)
  clear C3 B3 b4
  go_wp2_with fail
  ((with_reducible refine (lives17_c _).mono ?_); rintro e w5 ⟨rfl, b5⟩)
  have B5 := B4.trans (b5.mono B4.size)
  go_wp2_with fail
  go_ret
  exact ⟨rfl, B5⟩

set_option maxHeartbeats 4000000 in
set_option maxRecDepth 100000 in
theorem meets_no (p a : Int) (A : Option Addr) (n c : Nat) (L : List Od) (w : World) (H : Ods w A n L) (h1 : ¬ 100 < n) (hp : isPol p = false) :
    Calls Try.prog 3 #[.int .i64 p, .int .i64 a, .slice A n c] w fun e w' => e = .returned (.bool true) ∧ Below w.heap.size w w' := by
  have h1I : ¬ (100 : Int) < (n : Int) := by omega
  have hn : n ≤ 1000 := by omega
  have HP := Lib.hid (plain_c A n c L w H hn)
  have HX := Lib.hid H.1
  have hrn : runN p a L ≤ n := by rw [← H.1]; exact runN_le p a L
  have HV : Hid (∀ B nn cc w2, Ods w2 B nn L → nn ≤ 1000 → Calls Try.prog 7 #[.int .i64 p, .int .i64 a, .slice B nn cc] w2 fun e w' => e = .returned (.int .i64 (runN p a L)) ∧ Below w2.heap.size w2 w') :=
    Lib.hid fun B nn cc w2 h2 hh => rRun_c p a B nn cc L w2 h2 hh
  have HR : Hid (∀ w2, Below w.heap.size w w2 → Calls Try.prog 9 #[.int .i64 p, .int .i64 a, .slice A n c] w2 fun e w' => e = .returned (.int .i64 (runN p a L)) ∧ Below w2.heap.size w2 w') :=
    Lib.hid fun w2 h2 => run_c p a A n c L w2 (H.below h2)
  have HM : Hid (∀ w2, Below w.heap.size w w2 → Calls Try.prog 8 #[.int .i64 p, .int .i64 a, .slice A n c] w2 (MeetIs p a L w2)) :=
    Lib.hid fun w2 h2 => meet_c p a A n c L w2 (H.below h2) hn
  have HSm : Hid (∀ B B' cc cc' w2, Ods w2 B (runN p a L) (L.take (runN p a L)) → Ods w2 B' (runN p a L) (L.take (runN p a L)) → Calls Try.prog 14 #[.slice B (runN p a L) cc, .slice B' (runN p a L) cc'] w2 (EqIs w2 true)) :=
    Lib.hid fun B B' cc cc' w2 h2 h3 => by
      have := same_c B B' _ cc cc' _ _ w2 h2 h3 (by omega)
      rw [eqL_self] at this
      exact this
  have HDr := Lib.hid (drops_c p)
  have HSt := Lib.hid (stops_c p)
  have HRD := Lib.hid (rdrops_c p)
  have HRS := Lib.hid (rstops_c p)
  unfold MeetIs at HM
  have e2 : mtM p a L = 0 := by unfold mtM; rw [hp]; simp
  have e3 : mtS p a L = true := by unfold mtS; rw [hp]; rfl
  rw [e2, e3] at HM
  generalize runN p a L = r at HV HR HM HSm hrn
  generalize drN p = d at HDr HRD
  generalize stN p = s at HSt HRS
  have err : ((r : Int) == (r : Int)) = true := by simp
  have err2 : ((r : Int) != (r : Int)) = false := by simp
  have edd : (d == d) = true := by simp
  have edd2 : (d != d) = false := by simp
  have ess : (s == s) = true := by simp
  have ess2 : (s != s) = false := by simp
  have hr0 : (0 : Int) ≤ (r : Int) := by omega
  have hpp : p < 1 ∨ 4 < p := by unfold isPol at hp; simp at hp; omega
  have HPP := Lib.hid hpp
  clear e2 e3 hp H h1 hpp
  go_enter Try.func3, Try.ntmps3
  go_wp2_with fail
  ((with_reducible refine HP.out.mono ?_); rintro e w1 ⟨A1, n1, c1, rfl, h1⟩)
  have n1n : n = n1 := HX.out.symm.trans h1.out.2.1.1
  subst n1n
  have B1 := h1.out.1
  have O1 := h1.out.2.1
  have hcap := h1.out.2.2.1
  have C1 := Lib.hid (HV.out A1 _ c1 _ O1 hn)
  clear HP HV h1
  go_wp2_with fail
  ((with_reducible refine C1.out.mono ?_); rintro e w2 ⟨rfl, b2⟩)
  have B2 := B1.trans (b2.mono B1.size)
  have O2 := O1.below b2
  have C2 := Lib.hid (HM.out _ B2)
  clear C1 HM B1 O1 b2
  go_wp2_with fail
  ((with_reducible refine C2.out.mono ?_); rintro e w3 ⟨R, rc, D, dc, rfl, h3⟩)
  have B3 := B2.trans (h3.out.1.mono B2.size)
  have O3 := O2.below h3.out.1
  have R3 := h3.out.2.1
  have C3 := Lib.hid (HR.out _ B3)
  clear C2 HR B2 O2 h3
  go_wp2_with fail
  ((with_reducible refine C3.out.mono ?_); rintro e w4 ⟨rfl, b4⟩)
  have B4 := B3.trans (b4.mono B3.size)
  have O4 := O3.below b4
  have R4 := R3.below b4
  clear C3 B3 O3 R3 b4
  go_wp2_with fail
  ((with_reducible refine (HDr.out _).mono ?_); rintro e w5 ⟨rfl, b5⟩)
  have B5 := B4.trans (b5.mono B4.size)
  have O5 := O4.below b5
  have R5 := R4.below b5
  clear HDr B4 O4 R4 b5
  go_wp2_with fail
  ((with_reducible refine (HRD.out _).mono ?_); rintro e w6 ⟨rfl, rfl⟩)
  go_wp2_with fail
  ((with_reducible refine (HSt.out _).mono ?_); rintro e w6 ⟨rfl, b6⟩)
  have B6 := B5.trans (b6.mono B5.size)
  have O6 := O5.below b6
  have R6 := R5.below b6
  clear HSt B5 O5 R5 b6
  go_wp2_with fail
  ((with_reducible refine (HRS.out _).mono ?_); rintro e w7 ⟨rfl, rfl⟩)
  have C7 := Lib.hid (HSm.out R A1 rc c1 _ R6 (ods_take O6 hrn))
  clear HSm R6 O6
  go_wp2_with fail
  ((with_reducible refine C7.out.mono ?_); rintro e w9 ⟨rfl, h9⟩)
  have B9 := Lib.hid (B6.trans (h9.b.mono B6.size))
  clear C7 B6 h9
  rcases HPP.out with hq | hq
  · have q1 : decide (p < 1) = true := decide_eq_true hq
    go_wp2_with ((with_reducible refine (lives17_c _).mono ?_); rintro e w5 ⟨rfl, b5⟩)
    go_ret
    exact ⟨rfl, B9.out.trans (b5.mono B9.out.size)⟩
  · have q1 : decide (p < 1) = false := decide_eq_false (by omega)
    have q2 : decide (4 < p) = true := decide_eq_true hq
    go_wp2_with ((with_reducible refine (lives17_c _).mono ?_); rintro e w5 ⟨rfl, b5⟩)
    go_ret
    exact ⟨rfl, B9.out.trans (b5.mono B9.out.size)⟩

set_option maxHeartbeats 4000000 in
set_option maxRecDepth 100000 in
theorem meets_all (p a : Int) (A : Option Addr) (n c : Nat) (L : List Od) (w : World) (H : Ods w A n L) (h1 : ¬ 100 < n) (hp : isPol p = true) (hr : frO p a L = n) :
    Calls Try.prog 3 #[.int .i64 p, .int .i64 a, .slice A n c] w fun e w' => e = .returned (.bool true) ∧ Below w.heap.size w w' := by
  have h1I : ¬ (100 : Int) < (n : Int) := by omega
  have hn : n ≤ 1000 := by omega
  have HP := Lib.hid (plain_c A n c L w H hn)
  have HX := Lib.hid H.1
  have hrn : runN p a L ≤ n := by rw [← H.1]; exact runN_le p a L
  have HV : Hid (∀ B nn cc w2, Ods w2 B nn L → nn ≤ 1000 → Calls Try.prog 7 #[.int .i64 p, .int .i64 a, .slice B nn cc] w2 fun e w' => e = .returned (.int .i64 (runN p a L)) ∧ Below w2.heap.size w2 w') :=
    Lib.hid fun B nn cc w2 h2 hh => rRun_c p a B nn cc L w2 h2 hh
  have HR : Hid (∀ w2, Below w.heap.size w w2 → Calls Try.prog 9 #[.int .i64 p, .int .i64 a, .slice A n c] w2 fun e w' => e = .returned (.int .i64 (runN p a L)) ∧ Below w2.heap.size w2 w') :=
    Lib.hid fun w2 h2 => run_c p a A n c L w2 (H.below h2)
  have HM : Hid (∀ w2, Below w.heap.size w w2 → Calls Try.prog 8 #[.int .i64 p, .int .i64 a, .slice A n c] w2 (MeetIs p a L w2)) :=
    Lib.hid fun w2 h2 => meet_c p a A n c L w2 (H.below h2) hn
  have HSm : Hid (∀ B B' cc cc' w2, Ods w2 B (runN p a L) (L.take (runN p a L)) → Ods w2 B' (runN p a L) (L.take (runN p a L)) → Calls Try.prog 14 #[.slice B (runN p a L) cc, .slice B' (runN p a L) cc'] w2 (EqIs w2 true)) :=
    Lib.hid fun B B' cc cc' w2 h2 h3 => by
      have := same_c B B' _ cc cc' _ _ w2 h2 h3 (by omega)
      rw [eqL_self] at this
      exact this
  have HDr := Lib.hid (drops_c p)
  have HSt := Lib.hid (stops_c p)
  have HRD := Lib.hid (rdrops_c p)
  have HRS := Lib.hid (rstops_c p)
  unfold MeetIs at HM
  have hL := H.1
  have e1 : runN p a L = n := by unfold runN; rw [if_pos hp, hr]
  have e2 : mtM p a L = 0 := by unfold mtM; rw [if_neg (by omega)]
  have e3 : mtS p a L = false := by unfold mtS; rw [hp, if_pos rfl, if_neg (by omega)]
  rw [e2, e3] at HM
  rw [e1] at HV HR HM HSm hrn
  generalize drN p = d at HDr HRD
  generalize stN p = s at HSt HRS
  have err : ((n : Int) == (n : Int)) = true := by simp
  have err2 : ((n : Int) != (n : Int)) = false := by simp
  have edd : (d == d) = true := by simp
  have edd2 : (d != d) = false := by simp
  have ess : (s == s) = true := by simp
  have ess2 : (s != s) = false := by simp
  have hr0 : (0 : Int) ≤ (n : Int) := by omega
  have hpp : 1 ≤ p ∧ p ≤ 4 := by unfold isPol at hp; simp at hp; omega
  have q1 : decide (p < 1) = false := decide_eq_false (by omega)
  have q2 : decide (4 < p) = false := decide_eq_false (by omega)
  have q3 : ¬ p < 1 := by omega
  have q4 : ¬ 4 < p := by omega
  clear e1 e2 e3 hp H h1 hpp hr hL
  go_enter Try.func3, Try.ntmps3
  go_wp2_with fail
  ((with_reducible refine HP.out.mono ?_); rintro e w1 ⟨A1, n1, c1, rfl, h1⟩)
  have n1n : n = n1 := HX.out.symm.trans h1.out.2.1.1
  subst n1n
  have B1 := h1.out.1
  have O1 := h1.out.2.1
  have hcap := h1.out.2.2.1
  have C1 := Lib.hid (HV.out A1 _ c1 _ O1 hn)
  clear HP HV h1
  go_wp2_with fail
  ((with_reducible refine C1.out.mono ?_); rintro e w2 ⟨rfl, b2⟩)
  have B2 := B1.trans (b2.mono B1.size)
  have O2 := O1.below b2
  have C2 := Lib.hid (HM.out _ B2)
  clear C1 HM B1 O1 b2
  go_wp2_with fail
  ((with_reducible refine C2.out.mono ?_); rintro e w3 ⟨R, rc, D, dc, rfl, h3⟩)
  have B3 := B2.trans (h3.out.1.mono B2.size)
  have O3 := O2.below h3.out.1
  have R3 := h3.out.2.1
  have C3 := Lib.hid (HR.out _ B3)
  clear C2 HR B2 O2 h3
  go_wp2_with fail
  ((with_reducible refine C3.out.mono ?_); rintro e w4 ⟨rfl, b4⟩)
  have B4 := B3.trans (b4.mono B3.size)
  have O4 := O3.below b4
  have R4 := R3.below b4
  clear C3 B3 O3 R3 b4
  go_wp2_with fail
  ((with_reducible refine (HDr.out _).mono ?_); rintro e w5 ⟨rfl, b5⟩)
  have B5 := B4.trans (b5.mono B4.size)
  have O5 := O4.below b5
  have R5 := R4.below b5
  clear HDr B4 O4 R4 b5
  go_wp2_with fail
  ((with_reducible refine (HRD.out _).mono ?_); rintro e w6 ⟨rfl, rfl⟩)
  go_wp2_with fail
  ((with_reducible refine (HSt.out _).mono ?_); rintro e w6 ⟨rfl, b6⟩)
  have B6 := B5.trans (b6.mono B5.size)
  have O6 := O5.below b6
  have R6 := R5.below b6
  clear HSt B5 O5 R5 b6
  go_wp2_with fail
  ((with_reducible refine (HRS.out _).mono ?_); rintro e w7 ⟨rfl, rfl⟩)
  have C7 := Lib.hid (HSm.out R A1 rc c1 _ R6 (ods_take O6 hrn))
  clear HSm R6 O6
  go_wp2_with fail
  ((with_reducible refine C7.out.mono ?_); rintro e w9 ⟨rfl, h9⟩)
  have B9 := Lib.hid (B6.trans (h9.b.mono B6.size))
  clear C7 B6 h9
  go_wp2_with ((with_reducible refine (lives17_c _).mono ?_); rintro e w5 ⟨rfl, b5⟩)
  go_ret
  exact ⟨rfl, B9.out.trans (b5.mono B9.out.size)⟩

set_option maxHeartbeats 4000000 in
set_option maxRecDepth 100000 in
theorem meets_stay (p a : Int) (A : Option Addr) (n c : Nat) (L : List Od) (w : World) (H : Ods w A n L) (h1 : ¬ 100 < n) (hp : isPol p = true) (hr : frO p a L < n) (hdr : drN p = false) :
    Calls Try.prog 3 #[.int .i64 p, .int .i64 a, .slice A n c] w fun e w' => e = .returned (.bool true) ∧ Below w.heap.size w w' := by
  have h1I : ¬ (100 : Int) < (n : Int) := by omega
  have hn : n ≤ 1000 := by omega
  have HP := Lib.hid (plain_c A n c L w H hn)
  have HX := Lib.hid H.1
  have hrn : runN p a L ≤ n := by rw [← H.1]; exact runN_le p a L
  have HV : Hid (∀ B nn cc w2, Ods w2 B nn L → nn ≤ 1000 → Calls Try.prog 7 #[.int .i64 p, .int .i64 a, .slice B nn cc] w2 fun e w' => e = .returned (.int .i64 (runN p a L)) ∧ Below w2.heap.size w2 w') :=
    Lib.hid fun B nn cc w2 h2 hh => rRun_c p a B nn cc L w2 h2 hh
  have HR : Hid (∀ w2, Below w.heap.size w w2 → Calls Try.prog 9 #[.int .i64 p, .int .i64 a, .slice A n c] w2 fun e w' => e = .returned (.int .i64 (runN p a L)) ∧ Below w2.heap.size w2 w') :=
    Lib.hid fun w2 h2 => run_c p a A n c L w2 (H.below h2)
  have HM : Hid (∀ w2, Below w.heap.size w w2 → Calls Try.prog 8 #[.int .i64 p, .int .i64 a, .slice A n c] w2 (MeetIs p a L w2)) :=
    Lib.hid fun w2 h2 => meet_c p a A n c L w2 (H.below h2) hn
  have HSm : Hid (∀ B B' cc cc' w2, Ods w2 B (runN p a L) (L.take (runN p a L)) → Ods w2 B' (runN p a L) (L.take (runN p a L)) → Calls Try.prog 14 #[.slice B (runN p a L) cc, .slice B' (runN p a L) cc'] w2 (EqIs w2 true)) :=
    Lib.hid fun B B' cc cc' w2 h2 h3 => by
      have := same_c B B' _ cc cc' _ _ w2 h2 h3 (by omega)
      rw [eqL_self] at this
      exact this
  have HDr := Lib.hid (drops_c p)
  have HSt := Lib.hid (stops_c p)
  have HRD := Lib.hid (rdrops_c p)
  have HRS := Lib.hid (rstops_c p)
  unfold MeetIs at HM
  have hL := H.1
  have e1 : runN p a L = frO p a L := by unfold runN; rw [if_pos hp]
  have e3 : mtS p a L = stN p := by unfold mtS; rw [hp, if_pos rfl, if_pos (by omega)]
  have e4 : (L[frO p a L]!).acc = a := by
    have := frO_own (p := p) (a := a) (L := L) (by omega)
    simp only [isOwn, Bool.and_eq_true, beq_iff_eq] at this
    exact this.2
  have HO := Lib.hid H
  have e2 : mtM p a L = 0 := by unfold mtM; rw [if_neg (by rw [hdr]; simp)]
  rw [e2, e3] at HM
  rw [e1] at HV HR HM HSm hrn
  rw [hdr] at HDr HRD
  generalize frO p a L = r at HV HR HM HSm hrn hr e4
  generalize stN p = s at HSt HRS HM
  obtain ⟨d, hd⟩ : ∃ d, d = false := ⟨_, rfl⟩
  have err : ((r : Int) == (r : Int)) = true := by simp
  have err2 : ((r : Int) != (r : Int)) = false := by simp
  have edd : (d == d) = true := by simp
  have edd2 : (d != d) = false := by simp
  have ess : (s == s) = true := by simp
  have ess2 : (s != s) = false := by simp
  have hr0 : (0 : Int) ≤ (r : Int) := by omega
  have hpp : 1 ≤ p ∧ p ≤ 4 := by unfold isPol at hp; simp at hp; omega
  have q1 : decide (p < 1) = false := decide_eq_false (by omega)
  have q2 : decide (4 < p) = false := decide_eq_false (by omega)
  have q3 : ¬ p < 1 := by omega
  have q4 : ¬ 4 < p := by omega
  have hlt : r < n := hr
  have hltI : (r : Int) < (n : Int) := by omega
  have enn : ((r : Int) == (n : Int)) = false := by simp; omega
  have eaa : (a == a) = true := by simp
  have E4 := Lib.hid e4
  clear e1 e2 e3 e4 hp H h1 hpp hr hL hdr hd
  go_enter Try.func3, Try.ntmps3
  go_wp2_with fail
  ((with_reducible refine HP.out.mono ?_); rintro e w1 ⟨A1, n1, c1, rfl, h1⟩)
  have n1n : n = n1 := HX.out.symm.trans h1.out.2.1.1
  subst n1n
  have B1 := h1.out.1
  have O1 := h1.out.2.1
  have hcap := h1.out.2.2.1
  have C1 := Lib.hid (HV.out A1 _ c1 _ O1 hn)
  clear HP HV h1
  go_wp2_with fail
  ((with_reducible refine C1.out.mono ?_); rintro e w2 ⟨rfl, b2⟩)
  have B2 := B1.trans (b2.mono B1.size)
  have O2 := O1.below b2
  have C2 := Lib.hid (HM.out _ B2)
  clear C1 HM B1 O1 b2
  go_wp2_with fail
  ((with_reducible refine C2.out.mono ?_); rintro e w3 ⟨R, rc, D, dc, rfl, h3⟩)
  have B3 := B2.trans (h3.out.1.mono B2.size)
  have O3 := O2.below h3.out.1
  have R3 := h3.out.2.1
  have C3 := Lib.hid (HR.out _ B3)
  clear C2 HR B2 O2 h3
  go_wp2_with fail
  ((with_reducible refine C3.out.mono ?_); rintro e w4 ⟨rfl, b4⟩)
  have B4 := B3.trans (b4.mono B3.size)
  have O4 := O3.below b4
  have R4 := R3.below b4
  clear C3 B3 O3 R3 b4
  go_wp2_with fail
  ((with_reducible refine (HDr.out _).mono ?_); rintro e w5 ⟨rfl, b5⟩)
  have B5 := B4.trans (b5.mono B4.size)
  have O5 := O4.below b5
  have R5 := R4.below b5
  clear HDr B4 O4 R4 b5
  go_wp2_with fail
  ((with_reducible refine (HRD.out _).mono ?_); rintro e w6 ⟨rfl, rfl⟩)
  go_wp2_with fail
  ((with_reducible refine (HSt.out _).mono ?_); rintro e w6 ⟨rfl, b6⟩)
  have B6 := B5.trans (b6.mono B5.size)
  have O6 := O5.below b6
  have R6 := R5.below b6
  clear HSt B5 O5 R5 b6
  go_wp2_with fail
  ((with_reducible refine (HRS.out _).mono ?_); rintro e w7 ⟨rfl, rfl⟩)
  have C7 := Lib.hid (HSm.out R A1 rc c1 _ R6 (ods_take O6 hrn))
  clear HSm R6 O6
  go_wp2_with fail
  ((with_reducible refine C7.out.mono ?_); rintro e w9 ⟨rfl, h9⟩)
  have B9 := Lib.hid (B6.trans (h9.b.mono B6.size))
  clear C7 B6 h9
  have HLT := Lib.hid hlt
  have HOB := Lib.hid ((HO.out).below B9.out)
  obtain ⟨b, off, rfl, hb, hc⟩ : ∃ b off, A = some ⟨b, off, none⟩ ∧ b < w9.heap.size ∧ ∀ i, i < n → (L[i]!).at w9 b (off + i * 6) := by
    rcases HOB.out.2.2.2 with h | h
    · omega
    · exact h
  have x := hc r hlt
  have HA9 : Hid (∀ W, Below w9.heap.size w9 W → W.cell? ⟨b, off + r * 6 + 1, none⟩ = some (.int .i64 a)) := Lib.hid fun W h => (h.cell (p := ⟨b, off + r * 6 + 1, none⟩) hb).trans (by rw [← E4.out]; exact x.2.1)
  have HI9 : Hid (∀ W, Below w9.heap.size w9 W → W.cell? ⟨b, off + r * 6, none⟩ = some (.int .u64 (L[r]!).id)) := Lib.hid fun W h => (h.cell (p := ⟨b, off + r * 6, none⟩) hb).trans x.1
  clear hc x HOB HO
  clear HI9
  go_wp2_with fail
  refine wp_region_held_drew (S := fun W => Below w9.heap.size w9 W) (by kernel_rfl) (by exact (Below.refl _ _).drew) (fun hHeld => ?_)
  refine wpAnyH_take (i := 0) (oi := ⟨some 87, _, _, _, _, _⟩) (v := ?_) rfl (by kernel_rfl) (by kernel_rfl) (by kernel_rfl) (fun _ _ _ h => h) (Or.inl ⟨by kernel_rfl, ?_⟩) (by assumption) ?_
  rotate_left
  · (intro w hSw; (try dsimp only at hSw); go_simp; try with_reducible rfl)
  (repeat (first | simp only [Act.put] | simp only [List.setIfInBounds_toArray] | simp only [List.set_cons_succ] | simp only [List.set_cons_zero]))
  refine wpAnyH_take (i := 1) (oi := ⟨some 88, _, _, _, _, _⟩) (v := ?_) rfl (by kernel_rfl) (by kernel_rfl) (by kernel_rfl) (fun _ _ _ h => h) (Or.inl ⟨by kernel_rfl, ?_⟩) (by assumption) ?_
  rotate_left
  · (intro w hSw; (try dsimp only at hSw); go_simp; try with_reducible rfl)
  (repeat (first | simp only [Act.put] | simp only [List.setIfInBounds_toArray] | simp only [List.set_cons_succ] | simp only [List.set_cons_zero]))
  refine wpAnyH_ready (rs := [2]) (by kernel_rfl) (by simp) ?_
  refine AllReadyH.cons (o := ⟨some 89, _, _, _, _, _⟩) rfl (fun K hK => ?_) AllReadyH.nil
  go_simp
  ((with_reducible refine (HRS.out _).mono ?_); rintro e y1 ⟨rfl, rfl⟩)
  refine hK.out _ _ (by exact hHeld) (fun hHeld => ?_)
  clear hK K
  (repeat (first | simp only [Act.put] | simp only [List.setIfInBounds_toArray] | simp only [List.set_cons_succ] | simp only [List.set_cons_zero]))
  refine wpAnyH_take (i := 3) (oi := ⟨some 90, _, _, _, _, _⟩) (v := ?_) rfl (by kernel_rfl) (by kernel_rfl) (by kernel_rfl) (fun _ _ _ h => h) (Or.inl ⟨by kernel_rfl, ?_⟩) (by assumption) ?_
  rotate_left
  · (intro w hSw; (try dsimp only at hSw); go_simp; try with_reducible rfl)
  (repeat (first | simp only [Act.put] | simp only [List.setIfInBounds_toArray] | simp only [List.set_cons_succ] | simp only [List.set_cons_zero]))
  refine wpAnyH_take (i := 4) (oi := ⟨some 91, _, _, _, _, _⟩) (v := ?_) rfl (by kernel_rfl) (by kernel_rfl) (by kernel_rfl) (fun _ _ _ h => h) (Or.inl ⟨by kernel_rfl, ?_⟩) (by assumption) ?_
  rotate_left
  · (intro w hSw; (try dsimp only at hSw); go_simp; try with_reducible rfl)
  (repeat (first | simp only [Act.put] | simp only [List.setIfInBounds_toArray] | simp only [List.set_cons_succ] | simp only [List.set_cons_zero]))
  refine wpAnyH_take (i := 5) (oi := ⟨some 92, _, _, _, _, _⟩) (v := ?_) rfl (by kernel_rfl) (by kernel_rfl) (by kernel_rfl) (fun _ _ _ h => h) (Or.inl ⟨by kernel_rfl, ?_⟩) (by assumption) ?_
  rotate_left
  · (intro w hSw; (try dsimp only at hSw); go_simp; try with_reducible rfl)
  (repeat (first | simp only [Act.put] | simp only [List.setIfInBounds_toArray] | simp only [List.set_cons_succ] | simp only [List.set_cons_zero]))
  refine wpAnyH_ready (rs := [6]) (by kernel_rfl) (by simp) ?_
  refine AllReadyH.cons (o := ⟨some 93, _, _, _, _, _⟩) rfl (fun K hK => ?_) AllReadyH.nil
  go_simp
  ((with_reducible refine (HRD.out _).mono ?_); rintro e y1 ⟨rfl, rfl⟩)
  refine hK.out _ _ (by exact hHeld) (fun hHeld => ?_)
  clear hK K
  (repeat (first | simp only [Act.put] | simp only [List.setIfInBounds_toArray] | simp only [List.set_cons_succ] | simp only [List.set_cons_zero]))
  refine wpAnyH_take (i := 7) (oi := ⟨some 94, _, _, _, _, _⟩) (v := ?_) rfl (by kernel_rfl) (by kernel_rfl) (by kernel_rfl) (fun _ _ _ h => h) (Or.inl ⟨by kernel_rfl, ?_⟩) (by assumption) ?_
  rotate_left
  · (intro w hSw; (try dsimp only at hSw); go_simp; try with_reducible rfl)
  (repeat (first | simp only [Act.put] | simp only [List.setIfInBounds_toArray] | simp only [List.set_cons_succ] | simp only [List.set_cons_zero]))
  refine wpAnyH_take (i := 8) (oi := ⟨some 95, _, _, _, _, _⟩) (v := undef) rfl (by kernel_rfl) (by kernel_rfl) (by kernel_rfl) (fun _ _ _ h => h) (Or.inr ⟨by kernel_rfl, rfl⟩) (by assumption) ?_
  (repeat (first | simp only [Act.put] | simp only [List.setIfInBounds_toArray] | simp only [List.set_cons_succ] | simp only [List.set_cons_zero]))
  refine wpAnyH_take (i := 9) (oi := ⟨some 96, _, _, _, _, _⟩) (v := undef) rfl (by kernel_rfl) (by kernel_rfl) (by kernel_rfl) (fun _ _ _ h => h) (Or.inr ⟨by kernel_rfl, rfl⟩) (by assumption) ?_
  (repeat (first | simp only [Act.put] | simp only [List.setIfInBounds_toArray] | simp only [List.set_cons_succ] | simp only [List.set_cons_zero]))
  refine wpAnyH_take (i := 10) (oi := ⟨some 97, _, _, _, _, _⟩) (v := undef) rfl (by kernel_rfl) (by kernel_rfl) (by kernel_rfl) (fun _ _ _ h => h) (Or.inr ⟨by kernel_rfl, rfl⟩) (by assumption) ?_
  (repeat (first | simp only [Act.put] | simp only [List.setIfInBounds_toArray] | simp only [List.set_cons_succ] | simp only [List.set_cons_zero]))
  refine wpAnyH_take (i := 11) (oi := ⟨some 98, _, _, _, _, _⟩) (v := ?_) rfl (by kernel_rfl) (by kernel_rfl) (by kernel_rfl) (fun _ _ _ h => h) (Or.inl ⟨by kernel_rfl, ?_⟩) (by assumption) ?_
  rotate_left
  · (intro w hSw; (try dsimp only at hSw); go_simp; try with_reducible rfl)
  (repeat (first | simp only [Act.put] | simp only [List.setIfInBounds_toArray] | simp only [List.set_cons_succ] | simp only [List.set_cons_zero]))
  refine wpAnyH_take (i := 12) (oi := ⟨some 99, _, _, _, _, _⟩) (v := ?_) rfl (by kernel_rfl) (by kernel_rfl) (by kernel_rfl) (fun _ _ _ h => h) (Or.inl ⟨by kernel_rfl, ?_⟩) (by assumption) ?_
  rotate_left
  · (intro w hSw; (try dsimp only at hSw); go_simp; try with_reducible rfl)
  (repeat (first | simp only [Act.put] | simp only [List.setIfInBounds_toArray] | simp only [List.set_cons_succ] | simp only [List.set_cons_zero]))
  refine wpAnyH_take (i := 13) (oi := ⟨some 100, _, _, _, _, _⟩) (v := undef) rfl (by kernel_rfl) (by kernel_rfl) (by kernel_rfl) (fun _ _ _ h => h) (Or.inr ⟨by kernel_rfl, rfl⟩) (by assumption) ?_
  (repeat (first | simp only [Act.put] | simp only [List.setIfInBounds_toArray] | simp only [List.set_cons_succ] | simp only [List.set_cons_zero]))
  refine wpAnyH_take (i := 14) (oi := ⟨some 101, _, _, _, _, _⟩) (v := undef) rfl (by kernel_rfl) (by kernel_rfl) (by kernel_rfl) (fun _ _ _ h => h) (Or.inr ⟨by kernel_rfl, rfl⟩) (by assumption) ?_
  (repeat (first | simp only [Act.put] | simp only [List.setIfInBounds_toArray] | simp only [List.set_cons_succ] | simp only [List.set_cons_zero]))
  refine wpAnyH_take (i := 15) (oi := ⟨some 102, _, _, _, _, _⟩) (v := undef) rfl (by kernel_rfl) (by kernel_rfl) (by kernel_rfl) (fun _ _ _ h => h) (Or.inr ⟨by kernel_rfl, rfl⟩) (by assumption) ?_
  (repeat (first | simp only [Act.put] | simp only [List.setIfInBounds_toArray] | simp only [List.set_cons_succ] | simp only [List.set_cons_zero]))
  refine wpAnyH_take (i := 16) (oi := ⟨some 103, _, _, _, _, _⟩) (v := undef) rfl (by kernel_rfl) (by kernel_rfl) (by kernel_rfl) (fun _ _ _ h => h) (Or.inr ⟨by kernel_rfl, rfl⟩) (by assumption) ?_
  (repeat (first | simp only [Act.put] | simp only [List.setIfInBounds_toArray] | simp only [List.set_cons_succ] | simp only [List.set_cons_zero]))
  refine wpAnyH_take (i := 17) (oi := ⟨some 104, _, _, _, _, _⟩) (v := undef) rfl (by kernel_rfl) (by kernel_rfl) (by kernel_rfl) (fun _ _ _ h => h) (Or.inr ⟨by kernel_rfl, rfl⟩) (by assumption) ?_
  (repeat (first | simp only [Act.put] | simp only [List.setIfInBounds_toArray] | simp only [List.set_cons_succ] | simp only [List.set_cons_zero]))
  refine wpAnyH_take (i := 18) (oi := ⟨some 105, _, _, _, _, _⟩) (v := undef) rfl (by kernel_rfl) (by kernel_rfl) (by kernel_rfl) (fun _ _ _ h => h) (Or.inr ⟨by kernel_rfl, rfl⟩) (by assumption) ?_
  (repeat (first | simp only [Act.put] | simp only [List.setIfInBounds_toArray] | simp only [List.set_cons_succ] | simp only [List.set_cons_zero]))
  refine wpAnyH_take (i := 19) (oi := ⟨some 106, _, _, _, _, _⟩) (v := undef) rfl (by kernel_rfl) (by kernel_rfl) (by kernel_rfl) (fun _ _ _ h => h) (Or.inr ⟨by kernel_rfl, rfl⟩) (by assumption) ?_
  (repeat (first | simp only [Act.put] | simp only [List.setIfInBounds_toArray] | simp only [List.set_cons_succ] | simp only [List.set_cons_zero]))
  refine wpAnyH_take (i := 20) (oi := ⟨some 107, _, _, _, _, _⟩) (v := undef) rfl (by kernel_rfl) (by kernel_rfl) (by kernel_rfl) (fun _ _ _ h => h) (Or.inr ⟨by kernel_rfl, rfl⟩) (by assumption) ?_
  (repeat (first | simp only [Act.put] | simp only [List.setIfInBounds_toArray] | simp only [List.set_cons_succ] | simp only [List.set_cons_zero]))
  refine wpAnyH_take (i := 21) (oi := ⟨some 108, _, _, _, _, _⟩) (v := undef) rfl (by kernel_rfl) (by kernel_rfl) (by kernel_rfl) (fun _ _ _ h => h) (Or.inr ⟨by kernel_rfl, rfl⟩) (by assumption) ?_
  (repeat (first | simp only [Act.put] | simp only [List.setIfInBounds_toArray] | simp only [List.set_cons_succ] | simp only [List.set_cons_zero]))
  refine wpAnyH_take (i := 22) (oi := ⟨some 109, _, _, _, _, _⟩) (v := ?_) rfl (by kernel_rfl) (by kernel_rfl) (by kernel_rfl) (fun _ _ _ h => h) (Or.inl ⟨by kernel_rfl, ?_⟩) (by assumption) ?_
  rotate_left
  · (intro w hSw; (try dsimp only at hSw); go_simp; try with_reducible rfl)
  (repeat (first | simp only [Act.put] | simp only [List.setIfInBounds_toArray] | simp only [List.set_cons_succ] | simp only [List.set_cons_zero]))
  refine wpAnyH_take (i := 23) (oi := ⟨some 110, _, _, _, _, _⟩) (v := ?_) rfl (by kernel_rfl) (by kernel_rfl) (by kernel_rfl) (fun _ _ _ h => h) (Or.inl ⟨by kernel_rfl, ?_⟩) (by assumption) ?_
  rotate_left
  · (intro w hSw; (try dsimp only at hSw); go_simp; try with_reducible rfl)
  (repeat (first | simp only [Act.put] | simp only [List.setIfInBounds_toArray] | simp only [List.set_cons_succ] | simp only [List.set_cons_zero]))
  refine wpAnyH_take (i := 24) (oi := ⟨some 111, _, _, _, _, _⟩) (v := ?_) rfl (by kernel_rfl) (by kernel_rfl) (by kernel_rfl) (fun _ _ _ h => h) (Or.inl ⟨by kernel_rfl, ?_⟩) (by assumption) ?_
  rotate_left
  · (intro w hSw; (try dsimp only at hSw); go_simp; try with_reducible rfl)
  (repeat (first | simp only [Act.put] | simp only [List.setIfInBounds_toArray] | simp only [List.set_cons_succ] | simp only [List.set_cons_zero]))
  refine wpAnyH_ready (rs := [25]) (by kernel_rfl) (by simp) ?_
  refine AllReadyH.cons (o := ⟨some 112, _, _, _, _, _⟩) rfl (fun K hK => ?_) AllReadyH.nil
  go_simp
  ((with_reducible refine (HRD.out _).mono ?_); rintro e y1 ⟨rfl, rfl⟩)
  refine hK.out _ _ (by exact hHeld) (fun hHeld => ?_)
  clear hK K
  (repeat (first | simp only [Act.put] | simp only [List.setIfInBounds_toArray] | simp only [List.set_cons_succ] | simp only [List.set_cons_zero]))
  refine wpAnyH_take (i := 26) (oi := ⟨some 113, _, _, _, _, _⟩) (v := ?_) rfl (by kernel_rfl) (by kernel_rfl) (by kernel_rfl) (fun _ _ _ h => h) (Or.inl ⟨by kernel_rfl, ?_⟩) (by assumption) ?_
  rotate_left
  · (intro w hSw; (try dsimp only at hSw); go_simp; try with_reducible rfl)
  (repeat (first | simp only [Act.put] | simp only [List.setIfInBounds_toArray] | simp only [List.set_cons_succ] | simp only [List.set_cons_zero]))
  refine wpAnyH_take (i := 27) (oi := ⟨some 114, _, _, _, _, _⟩) (v := ?_) rfl (by kernel_rfl) (by kernel_rfl) (by kernel_rfl) (fun _ _ _ h => h) (Or.inl ⟨by kernel_rfl, ?_⟩) (by assumption) ?_
  rotate_left
  · (intro w hSw; (try dsimp only at hSw); go_simp; try with_reducible rfl)
  (repeat (first | simp only [Act.put] | simp only [List.setIfInBounds_toArray] | simp only [List.set_cons_succ] | simp only [List.set_cons_zero]))
  refine wpAnyH_take (i := 28) (oi := ⟨some 115, _, _, _, _, _⟩) (v := ?_) rfl (by kernel_rfl) (by kernel_rfl) (by kernel_rfl) (fun _ _ _ h => h) (Or.inl ⟨by kernel_rfl, ?_⟩) (by assumption) ?_
  rotate_left
  · (intro w hSw; (try dsimp only at hSw); go_simp; try with_reducible rfl)
  (repeat (first | simp only [Act.put] | simp only [List.setIfInBounds_toArray] | simp only [List.set_cons_succ] | simp only [List.set_cons_zero]))
  refine wpAnyH_take (i := 29) (oi := ⟨some 116, _, _, _, _, _⟩) (v := ?_) rfl (by kernel_rfl) (by kernel_rfl) (by kernel_rfl) (fun _ _ _ h => h) (Or.inl ⟨by kernel_rfl, ?_⟩) (by assumption) ?_
  rotate_left
  · (intro w hSw; (try dsimp only at hSw); go_simp; try with_reducible rfl)
  (repeat (first | simp only [Act.put] | simp only [List.setIfInBounds_toArray] | simp only [List.set_cons_succ] | simp only [List.set_cons_zero]))
  refine wpAnyH_take (i := 30) (oi := ⟨some 117, _, _, _, _, _⟩) (v := ?_) rfl (by kernel_rfl) (by kernel_rfl) (by kernel_rfl) (fun _ _ _ h => h) (Or.inl ⟨by kernel_rfl, ?_⟩) (by assumption) ?_
  rotate_left
  · (intro w hSw; (try dsimp only at hSw); go_simp; try with_reducible rfl)
  (repeat (first | simp only [Act.put] | simp only [List.setIfInBounds_toArray] | simp only [List.set_cons_succ] | simp only [List.set_cons_zero]))
  refine wpAnyH_take (i := 31) (oi := ⟨some 118, _, _, _, _, _⟩) (v := ?_) rfl (by kernel_rfl) (by kernel_rfl) (by kernel_rfl) (fun _ _ _ h => h) (Or.inl ⟨by kernel_rfl, ?_⟩) (by assumption) ?_
  rotate_left
  · (intro w hSw; (try dsimp only at hSw); go_simp; try with_reducible rfl)
  (repeat (first | simp only [Act.put] | simp only [List.setIfInBounds_toArray] | simp only [List.set_cons_succ] | simp only [List.set_cons_zero]))
  refine wpAnyH_take (i := 32) (oi := ⟨some 119, _, _, _, _, _⟩) (v := ?_) rfl (by kernel_rfl) (by kernel_rfl) (by kernel_rfl) (fun _ _ _ h => h) (Or.inl ⟨by kernel_rfl, ?_⟩) (by assumption) ?_
  rotate_left
  · (intro w hSw; (try dsimp only at hSw); go_simp; try with_reducible rfl)
  (repeat (first | simp only [Act.put] | simp only [List.setIfInBounds_toArray] | simp only [List.set_cons_succ] | simp only [List.set_cons_zero]))
  refine wpAnyH_take (i := 33) (oi := ⟨some 120, _, _, _, _, _⟩) (v := ?_) rfl (by kernel_rfl) (by kernel_rfl) (by kernel_rfl) (fun _ _ _ h => h) (Or.inl ⟨by kernel_rfl, ?_⟩) (by assumption) ?_
  rotate_left
  · (intro w hSw; (try dsimp only at hSw); go_simp; try with_reducible rfl)
  (repeat (first | simp only [Act.put] | simp only [List.setIfInBounds_toArray] | simp only [List.set_cons_succ] | simp only [List.set_cons_zero]))
  refine wpAnyH_take (i := 34) (oi := ⟨some 121, _, _, _, _, _⟩) (v := ?_) rfl (by kernel_rfl) (by kernel_rfl) (by kernel_rfl) (fun _ _ _ h => h) (Or.inl ⟨by kernel_rfl, ?_⟩) (by assumption) ?_
  rotate_left
  · (intro w hSw; (try dsimp only at hSw); go_simp; try with_reducible rfl)
  (repeat (first | simp only [Act.put] | simp only [List.setIfInBounds_toArray] | simp only [List.set_cons_succ] | simp only [List.set_cons_zero]))
  refine wpAnyH_take (i := 35) (oi := ⟨some 122, _, _, _, _, _⟩) (v := ?_) rfl (by kernel_rfl) (by kernel_rfl) (by kernel_rfl) (fun _ _ _ h => h) (Or.inl ⟨by kernel_rfl, ?_⟩) (by assumption) ?_
  rotate_left
  · (intro w hSw; (try dsimp only at hSw); go_simp; try with_reducible rfl)
  (repeat (first | simp only [Act.put] | simp only [List.setIfInBounds_toArray] | simp only [List.set_cons_succ] | simp only [List.set_cons_zero]))
  refine wpAnyH_take (i := 36) (oi := ⟨some 123, _, _, _, _, _⟩) (v := ?_) rfl (by kernel_rfl) (by kernel_rfl) (by kernel_rfl) (fun _ _ _ h => h) (Or.inl ⟨by kernel_rfl, ?_⟩) (by assumption) ?_
  rotate_left
  · (intro w hSw; (try dsimp only at hSw); go_simp; try with_reducible rfl)
  (repeat (first | simp only [Act.put] | simp only [List.setIfInBounds_toArray] | simp only [List.set_cons_succ] | simp only [List.set_cons_zero]))
  refine wpAnyH_take (i := 37) (oi := ⟨some 124, _, _, _, _, _⟩) (v := ?_) rfl (by kernel_rfl) (by kernel_rfl) (by kernel_rfl) (fun _ _ _ h => h) (Or.inl ⟨by kernel_rfl, ?_⟩) (by assumption) ?_
  rotate_left
  · (intro w hSw; (try dsimp only at hSw); go_simp; try with_reducible rfl)
  (repeat (first | simp only [Act.put] | simp only [List.setIfInBounds_toArray] | simp only [List.set_cons_succ] | simp only [List.set_cons_zero]))
  refine wpAnyH_take (i := 38) (oi := ⟨some 125, _, _, _, _, _⟩) (v := ?_) rfl (by kernel_rfl) (by kernel_rfl) (by kernel_rfl) (fun _ _ _ h => h) (Or.inl ⟨by kernel_rfl, ?_⟩) (by assumption) ?_
  rotate_left
  · (intro w hSw; (try dsimp only at hSw); go_simp; try with_reducible rfl)
  (repeat (first | simp only [Act.put] | simp only [List.setIfInBounds_toArray] | simp only [List.set_cons_succ] | simp only [List.set_cons_zero]))
  refine wpAnyH_take (i := 39) (oi := ⟨some 126, _, _, _, _, _⟩) (v := ?_) rfl (by kernel_rfl) (by kernel_rfl) (by kernel_rfl) (fun _ _ _ h => h) (Or.inl ⟨by kernel_rfl, ?_⟩) (by assumption) ?_
  rotate_left
  · (intro w hSw; have hs := HA9.out _ hSw; (try dsimp only at hSw); go_simp; try with_reducible rfl)
  (repeat (first | simp only [Act.put] | simp only [List.setIfInBounds_toArray] | simp only [List.set_cons_succ] | simp only [List.set_cons_zero]))
  refine wpAnyH_take (i := 40) (oi := ⟨some 127, _, _, _, _, _⟩) (v := ?_) rfl (by kernel_rfl) (by kernel_rfl) (by kernel_rfl) (fun _ _ _ h => h) (Or.inl ⟨by kernel_rfl, ?_⟩) (by assumption) ?_
  rotate_left
  · (intro w hSw; (try dsimp only at hSw); go_simp; try with_reducible rfl)
  (repeat (first | simp only [Act.put] | simp only [List.setIfInBounds_toArray] | simp only [List.set_cons_succ] | simp only [List.set_cons_zero]))
  refine wpAnyH_take (i := 41) (oi := ⟨some 128, _, _, _, _, _⟩) (v := ?_) rfl (by kernel_rfl) (by kernel_rfl) (by kernel_rfl) (fun _ _ _ h => h) (Or.inl ⟨by kernel_rfl, ?_⟩) (by assumption) ?_
  rotate_left
  · (intro w hSw; (try dsimp only at hSw); go_simp; try with_reducible rfl)
  (repeat (first | simp only [Act.put] | simp only [List.setIfInBounds_toArray] | simp only [List.set_cons_succ] | simp only [List.set_cons_zero]))
  refine wpAnyH_take (i := 42) (oi := ⟨some 129, _, _, _, _, _⟩) (v := ?_) rfl (by kernel_rfl) (by kernel_rfl) (by kernel_rfl) (fun _ _ _ h => h) (Or.inl ⟨by kernel_rfl, ?_⟩) (by assumption) ?_
  rotate_left
  · (intro w hSw; (try dsimp only at hSw); go_simp; try with_reducible rfl)
  (repeat (first | simp only [Act.put] | simp only [List.setIfInBounds_toArray] | simp only [List.set_cons_succ] | simp only [List.set_cons_zero]))
  refine wpAnyH_take (i := 43) (oi := ⟨some 130, _, _, _, _, _⟩) (v := ?_) rfl (by kernel_rfl) (by kernel_rfl) (by kernel_rfl) (fun _ _ _ h => h) (Or.inl ⟨by kernel_rfl, ?_⟩) (by assumption) ?_
  rotate_left
  · (intro w hSw; (try dsimp only at hSw); go_simp; try with_reducible rfl)
  (repeat (first | simp only [Act.put] | simp only [List.setIfInBounds_toArray] | simp only [List.set_cons_succ] | simp only [List.set_cons_zero]))
  refine wpAnyH_ready (rs := [44]) (by kernel_rfl) (by simp) ?_
  refine AllReadyH.cons (o := ⟨some 131, _, _, _, _, _⟩) rfl (fun K hK => ?_) AllReadyH.nil
  go_simp
  ((with_reducible refine (lives17_c _).mono ?_); rintro e y5 ⟨rfl, hb'⟩; have hb := Lib.hid hb'; clear hb')
  refine hK.out _ _ (by exact hHeld.trans (hb.out.mono hHeld.size)) (fun hHeld => ?_)
  clear hK K
  (repeat (first | simp only [Act.put] | simp only [List.setIfInBounds_toArray] | simp only [List.set_cons_succ] | simp only [List.set_cons_zero]))
  refine wpAnyH_take (i := 45) (oi := ⟨some 132, _, _, _, _, _⟩) (v := ?_) rfl (by kernel_rfl) (by kernel_rfl) (by kernel_rfl) (fun _ _ _ h => h) (Or.inl ⟨by kernel_rfl, ?_⟩) (by assumption) ?_
  rotate_left
  · (intro w hSw; (try dsimp only at hSw); go_simp; try with_reducible rfl)
  (repeat (first | simp only [Act.put] | simp only [List.setIfInBounds_toArray] | simp only [List.set_cons_succ] | simp only [List.set_cons_zero]))
  refine wpAnyH_take (i := 46) (oi := ⟨some 6, _, _, _, _, _⟩) (v := ?_) rfl (by kernel_rfl) (by kernel_rfl) (by kernel_rfl) (fun _ _ _ h => h) (Or.inl ⟨by kernel_rfl, ?_⟩) (by assumption) ?_
  rotate_left
  · (intro w hSw; (try dsimp only at hSw); go_simp; try with_reducible rfl)
  (repeat (first | simp only [Act.put] | simp only [List.setIfInBounds_toArray] | simp only [List.set_cons_succ] | simp only [List.set_cons_zero]))
  refine wpAnyH_done (by kernel_rfl) ?_ _
  go_wp2_with fail
  go_ret
  exact ⟨rfl, B9.out.trans (hHeld.mono B9.out.size)⟩

set_option maxHeartbeats 4000000 in
set_option maxRecDepth 100000 in
theorem meets_go (p a : Int) (A : Option Addr) (n c : Nat) (L : List Od) (w : World) (H : Ods w A n L) (h1 : ¬ 100 < n) (hp : isPol p = true) (hr : frO p a L < n) (hdr : drN p = true) :
    Calls Try.prog 3 #[.int .i64 p, .int .i64 a, .slice A n c] w fun e w' => e = .returned (.bool true) ∧ Below w.heap.size w w' := by
  have h1I : ¬ (100 : Int) < (n : Int) := by omega
  have hn : n ≤ 1000 := by omega
  have HP := Lib.hid (plain_c A n c L w H hn)
  have HX := Lib.hid H.1
  have hrn : runN p a L ≤ n := by rw [← H.1]; exact runN_le p a L
  have HV : Hid (∀ B nn cc w2, Ods w2 B nn L → nn ≤ 1000 → Calls Try.prog 7 #[.int .i64 p, .int .i64 a, .slice B nn cc] w2 fun e w' => e = .returned (.int .i64 (runN p a L)) ∧ Below w2.heap.size w2 w') :=
    Lib.hid fun B nn cc w2 h2 hh => rRun_c p a B nn cc L w2 h2 hh
  have HR : Hid (∀ w2, Below w.heap.size w w2 → Calls Try.prog 9 #[.int .i64 p, .int .i64 a, .slice A n c] w2 fun e w' => e = .returned (.int .i64 (runN p a L)) ∧ Below w2.heap.size w2 w') :=
    Lib.hid fun w2 h2 => run_c p a A n c L w2 (H.below h2)
  have HM : Hid (∀ w2, Below w.heap.size w w2 → Calls Try.prog 8 #[.int .i64 p, .int .i64 a, .slice A n c] w2 (MeetIs p a L w2)) :=
    Lib.hid fun w2 h2 => meet_c p a A n c L w2 (H.below h2) hn
  have HSm : Hid (∀ B B' cc cc' w2, Ods w2 B (runN p a L) (L.take (runN p a L)) → Ods w2 B' (runN p a L) (L.take (runN p a L)) → Calls Try.prog 14 #[.slice B (runN p a L) cc, .slice B' (runN p a L) cc'] w2 (EqIs w2 true)) :=
    Lib.hid fun B B' cc cc' w2 h2 h3 => by
      have := same_c B B' _ cc cc' _ _ w2 h2 h3 (by omega)
      rw [eqL_self] at this
      exact this
  have HDr := Lib.hid (drops_c p)
  have HSt := Lib.hid (stops_c p)
  have HRD := Lib.hid (rdrops_c p)
  have HRS := Lib.hid (rstops_c p)
  unfold MeetIs at HM
  have hL := H.1
  have e1 : runN p a L = frO p a L := by unfold runN; rw [if_pos hp]
  have e3 : mtS p a L = stN p := by unfold mtS; rw [hp, if_pos rfl, if_pos (by omega)]
  have e4 : (L[frO p a L]!).acc = a := by
    have := frO_own (p := p) (a := a) (L := L) (by omega)
    simp only [isOwn, Bool.and_eq_true, beq_iff_eq] at this
    exact this.2
  have HO := Lib.hid H
  have e2 : mtM p a L = 1 := by unfold mtM; rw [if_pos ⟨hp, by omega, hdr⟩]
  rw [e2, e3] at HM
  rw [e1] at HV HR HM HSm hrn
  rw [hdr] at HDr HRD
  generalize frO p a L = r at HV HR HM HSm hrn hr e4
  generalize stN p = s at HSt HRS HM
  obtain ⟨d, hd⟩ : ∃ d, d = true := ⟨_, rfl⟩
  have err : ((r : Int) == (r : Int)) = true := by simp
  have err2 : ((r : Int) != (r : Int)) = false := by simp
  have edd : (d == d) = true := by simp
  have edd2 : (d != d) = false := by simp
  have ess : (s == s) = true := by simp
  have ess2 : (s != s) = false := by simp
  have hr0 : (0 : Int) ≤ (r : Int) := by omega
  have hpp : 1 ≤ p ∧ p ≤ 4 := by unfold isPol at hp; simp at hp; omega
  have q1 : decide (p < 1) = false := decide_eq_false (by omega)
  have q2 : decide (4 < p) = false := decide_eq_false (by omega)
  have q3 : ¬ p < 1 := by omega
  have q4 : ¬ 4 < p := by omega
  have hlt : r < n := hr
  have hltI : (r : Int) < (n : Int) := by omega
  have enn : ((r : Int) == (n : Int)) = false := by simp; omega
  have eaa : (a == a) = true := by simp
  have E4 := Lib.hid e4
  have ezz : ((L[r]!).id == (L[r]!).id) = true := by simp
  clear e1 e2 e3 e4 hp H h1 hpp hr hL hdr hd
  go_enter Try.func3, Try.ntmps3
  go_wp2_with fail
  ((with_reducible refine HP.out.mono ?_); rintro e w1 ⟨A1, n1, c1, rfl, h1⟩)
  have n1n : n = n1 := HX.out.symm.trans h1.out.2.1.1
  subst n1n
  have B1 := h1.out.1
  have O1 := h1.out.2.1
  have hcap := h1.out.2.2.1
  have C1 := Lib.hid (HV.out A1 _ c1 _ O1 hn)
  clear HP HV h1
  go_wp2_with fail
  ((with_reducible refine C1.out.mono ?_); rintro e w2 ⟨rfl, b2⟩)
  have B2 := B1.trans (b2.mono B1.size)
  have O2 := O1.below b2
  have C2 := Lib.hid (HM.out _ B2)
  clear C1 HM B1 O1 b2
  go_wp2_with fail
  ((with_reducible refine C2.out.mono ?_); rintro e w3 ⟨R, rc, D, dc, rfl, h3⟩)
  have B3 := B2.trans (h3.out.1.mono B2.size)
  have O3 := O2.below h3.out.1
  have R3 := h3.out.2.1
  obtain ⟨k, rfl, kb3, kc3⟩ := h3.out.2.2 (by trivial)
  have C3 := Lib.hid (HR.out _ B3)
  clear C2 HR B2 O2 h3
  go_wp2_with fail
  ((with_reducible refine C3.out.mono ?_); rintro e w4 ⟨rfl, b4⟩)
  have B4 := B3.trans (b4.mono B3.size)
  have O4 := O3.below b4
  have R4 := R3.below b4
  have kc4 := (b4.cell (p := ⟨k, 0, none⟩) kb3).trans kc3
  have kb4 := Nat.lt_of_lt_of_le kb3 b4.size
  clear kc3 kb3
  clear C3 B3 O3 R3 b4
  go_wp2_with fail
  ((with_reducible refine (HDr.out _).mono ?_); rintro e w5 ⟨rfl, b5⟩)
  have B5 := B4.trans (b5.mono B4.size)
  have O5 := O4.below b5
  have R5 := R4.below b5
  have kc5 := (b5.cell (p := ⟨k, 0, none⟩) kb4).trans kc4
  have kb5 := Nat.lt_of_lt_of_le kb4 b5.size
  clear kc4 kb4
  clear HDr B4 O4 R4 b5
  go_wp2_with fail
  ((with_reducible refine (HRD.out _).mono ?_); rintro e w6 ⟨rfl, rfl⟩)
  go_wp2_with fail
  ((with_reducible refine (HSt.out _).mono ?_); rintro e w6 ⟨rfl, b6⟩)
  have B6 := B5.trans (b6.mono B5.size)
  have O6 := O5.below b6
  have R6 := R5.below b6
  have kc6 := (b6.cell (p := ⟨k, 0, none⟩) kb5).trans kc5
  have kb6 := Nat.lt_of_lt_of_le kb5 b6.size
  clear kc5 kb5
  clear HSt B5 O5 R5 b6
  go_wp2_with fail
  ((with_reducible refine (HRS.out _).mono ?_); rintro e w7 ⟨rfl, rfl⟩)
  have C7 := Lib.hid (HSm.out R A1 rc c1 _ R6 (ods_take O6 hrn))
  clear HSm R6 O6
  go_wp2_with fail
  ((with_reducible refine C7.out.mono ?_); rintro e w9 ⟨rfl, h9⟩)
  have B9 := Lib.hid (B6.trans (h9.b.mono B6.size))
  have kc9 := (h9.b.cell (p := ⟨k, 0, none⟩) kb6).trans kc6
  have kb9 := Nat.lt_of_lt_of_le kb6 h9.b.size
  clear kc6 kb6
  clear C7 B6 h9
  have HLT := Lib.hid hlt
  have HOB := Lib.hid ((HO.out).below B9.out)
  obtain ⟨b, off, rfl, hb, hc⟩ : ∃ b off, A = some ⟨b, off, none⟩ ∧ b < w9.heap.size ∧ ∀ i, i < n → (L[i]!).at w9 b (off + i * 6) := by
    rcases HOB.out.2.2.2 with h | h
    · omega
    · exact h
  have x := hc r hlt
  have HA9 : Hid (∀ W, Below w9.heap.size w9 W → W.cell? ⟨b, off + r * 6 + 1, none⟩ = some (.int .i64 a)) := Lib.hid fun W h => (h.cell (p := ⟨b, off + r * 6 + 1, none⟩) hb).trans (by rw [← E4.out]; exact x.2.1)
  have HI9 : Hid (∀ W, Below w9.heap.size w9 W → W.cell? ⟨b, off + r * 6, none⟩ = some (.int .u64 (L[r]!).id)) := Lib.hid fun W h => (h.cell (p := ⟨b, off + r * 6, none⟩) hb).trans x.1
  clear hc x HOB HO
  have HD9 : Hid (∀ W, Below w9.heap.size w9 W → W.cell? ⟨k, 0, none⟩ = some (.int .u64 (L[r]!).id)) := Lib.hid fun W h => (h.cell (p := ⟨k, 0, none⟩) kb9).trans kc9
  clear kc9 kb9
  generalize (L[r]!).id = z at HI9 HD9 ezz
  go_wp2_with fail
  refine wp_region_held_drew (S := fun W => Below w9.heap.size w9 W) (by kernel_rfl) (by exact (Below.refl _ _).drew) (fun hHeld => ?_)
  refine wpAnyH_take (i := 0) (oi := ⟨some 87, _, _, _, _, _⟩) (v := ?_) rfl (by kernel_rfl) (by kernel_rfl) (by kernel_rfl) (fun _ _ _ h => h) (Or.inl ⟨by kernel_rfl, ?_⟩) (by assumption) ?_
  rotate_left
  · (intro w hSw; (try dsimp only at hSw); go_simp; try with_reducible rfl)
  (repeat (first | simp only [Act.put] | simp only [List.setIfInBounds_toArray] | simp only [List.set_cons_succ] | simp only [List.set_cons_zero]))
  refine wpAnyH_take (i := 1) (oi := ⟨some 88, _, _, _, _, _⟩) (v := ?_) rfl (by kernel_rfl) (by kernel_rfl) (by kernel_rfl) (fun _ _ _ h => h) (Or.inl ⟨by kernel_rfl, ?_⟩) (by assumption) ?_
  rotate_left
  · (intro w hSw; (try dsimp only at hSw); go_simp; try with_reducible rfl)
  (repeat (first | simp only [Act.put] | simp only [List.setIfInBounds_toArray] | simp only [List.set_cons_succ] | simp only [List.set_cons_zero]))
  refine wpAnyH_ready (rs := [2]) (by kernel_rfl) (by simp) ?_
  refine AllReadyH.cons (o := ⟨some 89, _, _, _, _, _⟩) rfl (fun K hK => ?_) AllReadyH.nil
  go_simp
  ((with_reducible refine (HRS.out _).mono ?_); rintro e y1 ⟨rfl, rfl⟩)
  refine hK.out _ _ (by exact hHeld) (fun hHeld => ?_)
  clear hK K
  (repeat (first | simp only [Act.put] | simp only [List.setIfInBounds_toArray] | simp only [List.set_cons_succ] | simp only [List.set_cons_zero]))
  refine wpAnyH_take (i := 3) (oi := ⟨some 90, _, _, _, _, _⟩) (v := ?_) rfl (by kernel_rfl) (by kernel_rfl) (by kernel_rfl) (fun _ _ _ h => h) (Or.inl ⟨by kernel_rfl, ?_⟩) (by assumption) ?_
  rotate_left
  · (intro w hSw; (try dsimp only at hSw); go_simp; try with_reducible rfl)
  (repeat (first | simp only [Act.put] | simp only [List.setIfInBounds_toArray] | simp only [List.set_cons_succ] | simp only [List.set_cons_zero]))
  refine wpAnyH_take (i := 4) (oi := ⟨some 91, _, _, _, _, _⟩) (v := ?_) rfl (by kernel_rfl) (by kernel_rfl) (by kernel_rfl) (fun _ _ _ h => h) (Or.inl ⟨by kernel_rfl, ?_⟩) (by assumption) ?_
  rotate_left
  · (intro w hSw; (try dsimp only at hSw); go_simp; try with_reducible rfl)
  (repeat (first | simp only [Act.put] | simp only [List.setIfInBounds_toArray] | simp only [List.set_cons_succ] | simp only [List.set_cons_zero]))
  refine wpAnyH_take (i := 5) (oi := ⟨some 92, _, _, _, _, _⟩) (v := ?_) rfl (by kernel_rfl) (by kernel_rfl) (by kernel_rfl) (fun _ _ _ h => h) (Or.inl ⟨by kernel_rfl, ?_⟩) (by assumption) ?_
  rotate_left
  · (intro w hSw; (try dsimp only at hSw); go_simp; try with_reducible rfl)
  (repeat (first | simp only [Act.put] | simp only [List.setIfInBounds_toArray] | simp only [List.set_cons_succ] | simp only [List.set_cons_zero]))
  refine wpAnyH_ready (rs := [6]) (by kernel_rfl) (by simp) ?_
  refine AllReadyH.cons (o := ⟨some 93, _, _, _, _, _⟩) rfl (fun K hK => ?_) AllReadyH.nil
  go_simp
  ((with_reducible refine (HRD.out _).mono ?_); rintro e y1 ⟨rfl, rfl⟩)
  refine hK.out _ _ (by exact hHeld) (fun hHeld => ?_)
  clear hK K
  (repeat (first | simp only [Act.put] | simp only [List.setIfInBounds_toArray] | simp only [List.set_cons_succ] | simp only [List.set_cons_zero]))
  refine wpAnyH_take (i := 7) (oi := ⟨some 94, _, _, _, _, _⟩) (v := ?_) rfl (by kernel_rfl) (by kernel_rfl) (by kernel_rfl) (fun _ _ _ h => h) (Or.inl ⟨by kernel_rfl, ?_⟩) (by assumption) ?_
  rotate_left
  · (intro w hSw; (try dsimp only at hSw); go_simp; try with_reducible rfl)
  (repeat (first | simp only [Act.put] | simp only [List.setIfInBounds_toArray] | simp only [List.set_cons_succ] | simp only [List.set_cons_zero]))
  refine wpAnyH_take (i := 8) (oi := ⟨some 95, _, _, _, _, _⟩) (v := ?_) rfl (by kernel_rfl) (by kernel_rfl) (by kernel_rfl) (fun _ _ _ h => h) (Or.inl ⟨by kernel_rfl, ?_⟩) (by assumption) ?_
  rotate_left
  · (intro w hSw; (try dsimp only at hSw); go_simp; try with_reducible rfl)
  (repeat (first | simp only [Act.put] | simp only [List.setIfInBounds_toArray] | simp only [List.set_cons_succ] | simp only [List.set_cons_zero]))
  refine wpAnyH_take (i := 9) (oi := ⟨some 96, _, _, _, _, _⟩) (v := ?_) rfl (by kernel_rfl) (by kernel_rfl) (by kernel_rfl) (fun _ _ _ h => h) (Or.inl ⟨by kernel_rfl, ?_⟩) (by assumption) ?_
  rotate_left
  · (intro w hSw; (try dsimp only at hSw); go_simp; try with_reducible rfl)
  (repeat (first | simp only [Act.put] | simp only [List.setIfInBounds_toArray] | simp only [List.set_cons_succ] | simp only [List.set_cons_zero]))
  refine wpAnyH_take (i := 10) (oi := ⟨some 97, _, _, _, _, _⟩) (v := ?_) rfl (by kernel_rfl) (by kernel_rfl) (by kernel_rfl) (fun _ _ _ h => h) (Or.inl ⟨by kernel_rfl, ?_⟩) (by assumption) ?_
  rotate_left
  · (intro w hSw; (try dsimp only at hSw); go_simp; try with_reducible rfl)
  (repeat (first | simp only [Act.put] | simp only [List.setIfInBounds_toArray] | simp only [List.set_cons_succ] | simp only [List.set_cons_zero]))
  refine wpAnyH_take (i := 11) (oi := ⟨some 98, _, _, _, _, _⟩) (v := ?_) rfl (by kernel_rfl) (by kernel_rfl) (by kernel_rfl) (fun _ _ _ h => h) (Or.inl ⟨by kernel_rfl, ?_⟩) (by assumption) ?_
  rotate_left
  · (intro w hSw; (try dsimp only at hSw); go_simp; try with_reducible rfl)
  (repeat (first | simp only [Act.put] | simp only [List.setIfInBounds_toArray] | simp only [List.set_cons_succ] | simp only [List.set_cons_zero]))
  refine wpAnyH_take (i := 12) (oi := ⟨some 99, _, _, _, _, _⟩) (v := ?_) rfl (by kernel_rfl) (by kernel_rfl) (by kernel_rfl) (fun _ _ _ h => h) (Or.inl ⟨by kernel_rfl, ?_⟩) (by assumption) ?_
  rotate_left
  · (intro w hSw; (try dsimp only at hSw); go_simp; try with_reducible rfl)
  (repeat (first | simp only [Act.put] | simp only [List.setIfInBounds_toArray] | simp only [List.set_cons_succ] | simp only [List.set_cons_zero]))
  refine wpAnyH_take (i := 13) (oi := ⟨some 100, _, _, _, _, _⟩) (v := ?_) rfl (by kernel_rfl) (by kernel_rfl) (by kernel_rfl) (fun _ _ _ h => h) (Or.inl ⟨by kernel_rfl, ?_⟩) (by assumption) ?_
  rotate_left
  · (intro w hSw; (try dsimp only at hSw); go_simp; try with_reducible rfl)
  (repeat (first | simp only [Act.put] | simp only [List.setIfInBounds_toArray] | simp only [List.set_cons_succ] | simp only [List.set_cons_zero]))
  refine wpAnyH_take (i := 14) (oi := ⟨some 101, _, _, _, _, _⟩) (v := ?_) rfl (by kernel_rfl) (by kernel_rfl) (by kernel_rfl) (fun _ _ _ h => h) (Or.inl ⟨by kernel_rfl, ?_⟩) (by assumption) ?_
  rotate_left
  · (intro w hSw; (try dsimp only at hSw); go_simp; try with_reducible rfl)
  (repeat (first | simp only [Act.put] | simp only [List.setIfInBounds_toArray] | simp only [List.set_cons_succ] | simp only [List.set_cons_zero]))
  refine wpAnyH_take (i := 15) (oi := ⟨some 102, _, _, _, _, _⟩) (v := ?_) rfl (by kernel_rfl) (by kernel_rfl) (by kernel_rfl) (fun _ _ _ h => h) (Or.inl ⟨by kernel_rfl, ?_⟩) (by assumption) ?_
  rotate_left
  · (intro w hSw; have hs := HD9.out _ hSw; (try dsimp only at hSw); go_simp; try with_reducible rfl)
  (repeat (first | simp only [Act.put] | simp only [List.setIfInBounds_toArray] | simp only [List.set_cons_succ] | simp only [List.set_cons_zero]))
  refine wpAnyH_take (i := 16) (oi := ⟨some 103, _, _, _, _, _⟩) (v := ?_) rfl (by kernel_rfl) (by kernel_rfl) (by kernel_rfl) (fun _ _ _ h => h) (Or.inl ⟨by kernel_rfl, ?_⟩) (by assumption) ?_
  rotate_left
  · (intro w hSw; (try dsimp only at hSw); go_simp; try with_reducible rfl)
  (repeat (first | simp only [Act.put] | simp only [List.setIfInBounds_toArray] | simp only [List.set_cons_succ] | simp only [List.set_cons_zero]))
  refine wpAnyH_take (i := 17) (oi := ⟨some 104, _, _, _, _, _⟩) (v := ?_) rfl (by kernel_rfl) (by kernel_rfl) (by kernel_rfl) (fun _ _ _ h => h) (Or.inl ⟨by kernel_rfl, ?_⟩) (by assumption) ?_
  rotate_left
  · (intro w hSw; (try dsimp only at hSw); go_simp; try with_reducible rfl)
  (repeat (first | simp only [Act.put] | simp only [List.setIfInBounds_toArray] | simp only [List.set_cons_succ] | simp only [List.set_cons_zero]))
  refine wpAnyH_take (i := 18) (oi := ⟨some 105, _, _, _, _, _⟩) (v := ?_) rfl (by kernel_rfl) (by kernel_rfl) (by kernel_rfl) (fun _ _ _ h => h) (Or.inl ⟨by kernel_rfl, ?_⟩) (by assumption) ?_
  rotate_left
  · (intro w hSw; (try dsimp only at hSw); go_simp; try with_reducible rfl)
  (repeat (first | simp only [Act.put] | simp only [List.setIfInBounds_toArray] | simp only [List.set_cons_succ] | simp only [List.set_cons_zero]))
  refine wpAnyH_take (i := 19) (oi := ⟨some 106, _, _, _, _, _⟩) (v := ?_) rfl (by kernel_rfl) (by kernel_rfl) (by kernel_rfl) (fun _ _ _ h => h) (Or.inl ⟨by kernel_rfl, ?_⟩) (by assumption) ?_
  rotate_left
  · (intro w hSw; (try dsimp only at hSw); go_simp; try with_reducible rfl)
  (repeat (first | simp only [Act.put] | simp only [List.setIfInBounds_toArray] | simp only [List.set_cons_succ] | simp only [List.set_cons_zero]))
  refine wpAnyH_take (i := 20) (oi := ⟨some 107, _, _, _, _, _⟩) (v := ?_) rfl (by kernel_rfl) (by kernel_rfl) (by kernel_rfl) (fun _ _ _ h => h) (Or.inl ⟨by kernel_rfl, ?_⟩) (by assumption) ?_
  rotate_left
  · (intro w hSw; have hs := HI9.out _ hSw; (try dsimp only at hSw); go_simp; try with_reducible rfl)
  (repeat (first | simp only [Act.put] | simp only [List.setIfInBounds_toArray] | simp only [List.set_cons_succ] | simp only [List.set_cons_zero]))
  refine wpAnyH_take (i := 21) (oi := ⟨some 108, _, _, _, _, _⟩) (v := ?_) rfl (by kernel_rfl) (by kernel_rfl) (by kernel_rfl) (fun _ _ _ h => h) (Or.inl ⟨by kernel_rfl, ?_⟩) (by assumption) ?_
  rotate_left
  · (intro w hSw; (try dsimp only at hSw); go_simp; try with_reducible rfl)
  (repeat (first | simp only [Act.put] | simp only [List.setIfInBounds_toArray] | simp only [List.set_cons_succ] | simp only [List.set_cons_zero]))
  refine wpAnyH_take (i := 22) (oi := ⟨some 109, _, _, _, _, _⟩) (v := ?_) rfl (by kernel_rfl) (by kernel_rfl) (by kernel_rfl) (fun _ _ _ h => h) (Or.inl ⟨by kernel_rfl, ?_⟩) (by assumption) ?_
  rotate_left
  · (intro w hSw; (try dsimp only at hSw); go_simp; try with_reducible rfl)
  (repeat (first | simp only [Act.put] | simp only [List.setIfInBounds_toArray] | simp only [List.set_cons_succ] | simp only [List.set_cons_zero]))
  refine wpAnyH_take (i := 23) (oi := ⟨some 110, _, _, _, _, _⟩) (v := ?_) rfl (by kernel_rfl) (by kernel_rfl) (by kernel_rfl) (fun _ _ _ h => h) (Or.inl ⟨by kernel_rfl, ?_⟩) (by assumption) ?_
  rotate_left
  · (intro w hSw; (try dsimp only at hSw); go_simp; try with_reducible rfl)
  (repeat (first | simp only [Act.put] | simp only [List.setIfInBounds_toArray] | simp only [List.set_cons_succ] | simp only [List.set_cons_zero]))
  refine wpAnyH_take (i := 24) (oi := ⟨some 111, _, _, _, _, _⟩) (v := undef) rfl (by kernel_rfl) (by kernel_rfl) (by kernel_rfl) (fun _ _ _ h => h) (Or.inr ⟨by kernel_rfl, rfl⟩) (by assumption) ?_
  (repeat (first | simp only [Act.put] | simp only [List.setIfInBounds_toArray] | simp only [List.set_cons_succ] | simp only [List.set_cons_zero]))
  refine wpAnyH_take (i := 25) (oi := ⟨some 112, _, _, _, _, _⟩) (v := undef) rfl (by kernel_rfl) (by kernel_rfl) (by kernel_rfl) (fun _ _ _ h => h) (Or.inr ⟨by kernel_rfl, rfl⟩) (by assumption) ?_
  (repeat (first | simp only [Act.put] | simp only [List.setIfInBounds_toArray] | simp only [List.set_cons_succ] | simp only [List.set_cons_zero]))
  refine wpAnyH_take (i := 26) (oi := ⟨some 113, _, _, _, _, _⟩) (v := undef) rfl (by kernel_rfl) (by kernel_rfl) (by kernel_rfl) (fun _ _ _ h => h) (Or.inr ⟨by kernel_rfl, rfl⟩) (by assumption) ?_
  (repeat (first | simp only [Act.put] | simp only [List.setIfInBounds_toArray] | simp only [List.set_cons_succ] | simp only [List.set_cons_zero]))
  refine wpAnyH_take (i := 27) (oi := ⟨some 114, _, _, _, _, _⟩) (v := undef) rfl (by kernel_rfl) (by kernel_rfl) (by kernel_rfl) (fun _ _ _ h => h) (Or.inr ⟨by kernel_rfl, rfl⟩) (by assumption) ?_
  (repeat (first | simp only [Act.put] | simp only [List.setIfInBounds_toArray] | simp only [List.set_cons_succ] | simp only [List.set_cons_zero]))
  refine wpAnyH_take (i := 28) (oi := ⟨some 115, _, _, _, _, _⟩) (v := undef) rfl (by kernel_rfl) (by kernel_rfl) (by kernel_rfl) (fun _ _ _ h => h) (Or.inr ⟨by kernel_rfl, rfl⟩) (by assumption) ?_
  (repeat (first | simp only [Act.put] | simp only [List.setIfInBounds_toArray] | simp only [List.set_cons_succ] | simp only [List.set_cons_zero]))
  refine wpAnyH_take (i := 29) (oi := ⟨some 116, _, _, _, _, _⟩) (v := undef) rfl (by kernel_rfl) (by kernel_rfl) (by kernel_rfl) (fun _ _ _ h => h) (Or.inr ⟨by kernel_rfl, rfl⟩) (by assumption) ?_
  (repeat (first | simp only [Act.put] | simp only [List.setIfInBounds_toArray] | simp only [List.set_cons_succ] | simp only [List.set_cons_zero]))
  refine wpAnyH_take (i := 30) (oi := ⟨some 117, _, _, _, _, _⟩) (v := undef) rfl (by kernel_rfl) (by kernel_rfl) (by kernel_rfl) (fun _ _ _ h => h) (Or.inr ⟨by kernel_rfl, rfl⟩) (by assumption) ?_
  (repeat (first | simp only [Act.put] | simp only [List.setIfInBounds_toArray] | simp only [List.set_cons_succ] | simp only [List.set_cons_zero]))
  refine wpAnyH_take (i := 31) (oi := ⟨some 118, _, _, _, _, _⟩) (v := undef) rfl (by kernel_rfl) (by kernel_rfl) (by kernel_rfl) (fun _ _ _ h => h) (Or.inr ⟨by kernel_rfl, rfl⟩) (by assumption) ?_
  (repeat (first | simp only [Act.put] | simp only [List.setIfInBounds_toArray] | simp only [List.set_cons_succ] | simp only [List.set_cons_zero]))
  refine wpAnyH_take (i := 32) (oi := ⟨some 119, _, _, _, _, _⟩) (v := ?_) rfl (by kernel_rfl) (by kernel_rfl) (by kernel_rfl) (fun _ _ _ h => h) (Or.inl ⟨by kernel_rfl, ?_⟩) (by assumption) ?_
  rotate_left
  · (intro w hSw; (try dsimp only at hSw); go_simp; try with_reducible rfl)
  (repeat (first | simp only [Act.put] | simp only [List.setIfInBounds_toArray] | simp only [List.set_cons_succ] | simp only [List.set_cons_zero]))
  refine wpAnyH_take (i := 33) (oi := ⟨some 120, _, _, _, _, _⟩) (v := ?_) rfl (by kernel_rfl) (by kernel_rfl) (by kernel_rfl) (fun _ _ _ h => h) (Or.inl ⟨by kernel_rfl, ?_⟩) (by assumption) ?_
  rotate_left
  · (intro w hSw; (try dsimp only at hSw); go_simp; try with_reducible rfl)
  (repeat (first | simp only [Act.put] | simp only [List.setIfInBounds_toArray] | simp only [List.set_cons_succ] | simp only [List.set_cons_zero]))
  refine wpAnyH_take (i := 34) (oi := ⟨some 121, _, _, _, _, _⟩) (v := ?_) rfl (by kernel_rfl) (by kernel_rfl) (by kernel_rfl) (fun _ _ _ h => h) (Or.inl ⟨by kernel_rfl, ?_⟩) (by assumption) ?_
  rotate_left
  · (intro w hSw; (try dsimp only at hSw); go_simp; try with_reducible rfl)
  (repeat (first | simp only [Act.put] | simp only [List.setIfInBounds_toArray] | simp only [List.set_cons_succ] | simp only [List.set_cons_zero]))
  refine wpAnyH_take (i := 35) (oi := ⟨some 122, _, _, _, _, _⟩) (v := ?_) rfl (by kernel_rfl) (by kernel_rfl) (by kernel_rfl) (fun _ _ _ h => h) (Or.inl ⟨by kernel_rfl, ?_⟩) (by assumption) ?_
  rotate_left
  · (intro w hSw; (try dsimp only at hSw); go_simp; try with_reducible rfl)
  (repeat (first | simp only [Act.put] | simp only [List.setIfInBounds_toArray] | simp only [List.set_cons_succ] | simp only [List.set_cons_zero]))
  refine wpAnyH_take (i := 36) (oi := ⟨some 123, _, _, _, _, _⟩) (v := ?_) rfl (by kernel_rfl) (by kernel_rfl) (by kernel_rfl) (fun _ _ _ h => h) (Or.inl ⟨by kernel_rfl, ?_⟩) (by assumption) ?_
  rotate_left
  · (intro w hSw; (try dsimp only at hSw); go_simp; try with_reducible rfl)
  (repeat (first | simp only [Act.put] | simp only [List.setIfInBounds_toArray] | simp only [List.set_cons_succ] | simp only [List.set_cons_zero]))
  refine wpAnyH_take (i := 37) (oi := ⟨some 124, _, _, _, _, _⟩) (v := ?_) rfl (by kernel_rfl) (by kernel_rfl) (by kernel_rfl) (fun _ _ _ h => h) (Or.inl ⟨by kernel_rfl, ?_⟩) (by assumption) ?_
  rotate_left
  · (intro w hSw; (try dsimp only at hSw); go_simp; try with_reducible rfl)
  (repeat (first | simp only [Act.put] | simp only [List.setIfInBounds_toArray] | simp only [List.set_cons_succ] | simp only [List.set_cons_zero]))
  refine wpAnyH_take (i := 38) (oi := ⟨some 125, _, _, _, _, _⟩) (v := ?_) rfl (by kernel_rfl) (by kernel_rfl) (by kernel_rfl) (fun _ _ _ h => h) (Or.inl ⟨by kernel_rfl, ?_⟩) (by assumption) ?_
  rotate_left
  · (intro w hSw; (try dsimp only at hSw); go_simp; try with_reducible rfl)
  (repeat (first | simp only [Act.put] | simp only [List.setIfInBounds_toArray] | simp only [List.set_cons_succ] | simp only [List.set_cons_zero]))
  refine wpAnyH_take (i := 39) (oi := ⟨some 126, _, _, _, _, _⟩) (v := ?_) rfl (by kernel_rfl) (by kernel_rfl) (by kernel_rfl) (fun _ _ _ h => h) (Or.inl ⟨by kernel_rfl, ?_⟩) (by assumption) ?_
  rotate_left
  · (intro w hSw; have hs := HA9.out _ hSw; (try dsimp only at hSw); go_simp; try with_reducible rfl)
  (repeat (first | simp only [Act.put] | simp only [List.setIfInBounds_toArray] | simp only [List.set_cons_succ] | simp only [List.set_cons_zero]))
  refine wpAnyH_take (i := 40) (oi := ⟨some 127, _, _, _, _, _⟩) (v := ?_) rfl (by kernel_rfl) (by kernel_rfl) (by kernel_rfl) (fun _ _ _ h => h) (Or.inl ⟨by kernel_rfl, ?_⟩) (by assumption) ?_
  rotate_left
  · (intro w hSw; (try dsimp only at hSw); go_simp; try with_reducible rfl)
  (repeat (first | simp only [Act.put] | simp only [List.setIfInBounds_toArray] | simp only [List.set_cons_succ] | simp only [List.set_cons_zero]))
  refine wpAnyH_take (i := 41) (oi := ⟨some 128, _, _, _, _, _⟩) (v := ?_) rfl (by kernel_rfl) (by kernel_rfl) (by kernel_rfl) (fun _ _ _ h => h) (Or.inl ⟨by kernel_rfl, ?_⟩) (by assumption) ?_
  rotate_left
  · (intro w hSw; (try dsimp only at hSw); go_simp; try with_reducible rfl)
  (repeat (first | simp only [Act.put] | simp only [List.setIfInBounds_toArray] | simp only [List.set_cons_succ] | simp only [List.set_cons_zero]))
  refine wpAnyH_take (i := 42) (oi := ⟨some 129, _, _, _, _, _⟩) (v := ?_) rfl (by kernel_rfl) (by kernel_rfl) (by kernel_rfl) (fun _ _ _ h => h) (Or.inl ⟨by kernel_rfl, ?_⟩) (by assumption) ?_
  rotate_left
  · (intro w hSw; (try dsimp only at hSw); go_simp; try with_reducible rfl)
  (repeat (first | simp only [Act.put] | simp only [List.setIfInBounds_toArray] | simp only [List.set_cons_succ] | simp only [List.set_cons_zero]))
  refine wpAnyH_take (i := 43) (oi := ⟨some 130, _, _, _, _, _⟩) (v := ?_) rfl (by kernel_rfl) (by kernel_rfl) (by kernel_rfl) (fun _ _ _ h => h) (Or.inl ⟨by kernel_rfl, ?_⟩) (by assumption) ?_
  rotate_left
  · (intro w hSw; (try dsimp only at hSw); go_simp; try with_reducible rfl)
  (repeat (first | simp only [Act.put] | simp only [List.setIfInBounds_toArray] | simp only [List.set_cons_succ] | simp only [List.set_cons_zero]))
  refine wpAnyH_ready (rs := [44]) (by kernel_rfl) (by simp) ?_
  refine AllReadyH.cons (o := ⟨some 131, _, _, _, _, _⟩) rfl (fun K hK => ?_) AllReadyH.nil
  go_simp
  ((with_reducible refine (lives17_c _).mono ?_); rintro e y5 ⟨rfl, hb'⟩; have hb := Lib.hid hb'; clear hb')
  refine hK.out _ _ (by exact hHeld.trans (hb.out.mono hHeld.size)) (fun hHeld => ?_)
  clear hK K
  (repeat (first | simp only [Act.put] | simp only [List.setIfInBounds_toArray] | simp only [List.set_cons_succ] | simp only [List.set_cons_zero]))
  refine wpAnyH_take (i := 45) (oi := ⟨some 132, _, _, _, _, _⟩) (v := ?_) rfl (by kernel_rfl) (by kernel_rfl) (by kernel_rfl) (fun _ _ _ h => h) (Or.inl ⟨by kernel_rfl, ?_⟩) (by assumption) ?_
  rotate_left
  · (intro w hSw; (try dsimp only at hSw); go_simp; try with_reducible rfl)
  (repeat (first | simp only [Act.put] | simp only [List.setIfInBounds_toArray] | simp only [List.set_cons_succ] | simp only [List.set_cons_zero]))
  refine wpAnyH_take (i := 46) (oi := ⟨some 6, _, _, _, _, _⟩) (v := ?_) rfl (by kernel_rfl) (by kernel_rfl) (by kernel_rfl) (fun _ _ _ h => h) (Or.inl ⟨by kernel_rfl, ?_⟩) (by assumption) ?_
  rotate_left
  · (intro w hSw; (try dsimp only at hSw); go_simp; try with_reducible rfl)
  (repeat (first | simp only [Act.put] | simp only [List.setIfInBounds_toArray] | simp only [List.set_cons_succ] | simp only [List.set_cons_zero]))
  refine wpAnyH_done (by kernel_rfl) ?_ _
  go_wp2_with fail
  go_ret
  exact ⟨rfl, B9.out.trans (hHeld.mono B9.out.size)⟩

set_option maxHeartbeats 4000000 in
set_option maxRecDepth 100000 in
theorem meets_w (p a : Int) (A : Option Addr) (n c : Nat) (L : List Od) (w : World) (H : Ods w A n L) :
    Calls Try.prog 3 #[.int .i64 p, .int .i64 a, .slice A n c] w fun e w' => e = .returned (.bool true) ∧ Below w.heap.size w w' := by
  by_cases h1 : 100 < n
  · have h1I : (100 : Int) < (n : Int) := by omega
    clear H
    go_enter Try.func3, Try.ntmps3
    go_wp2_with ((with_reducible refine (lives17_c _).mono ?_); rintro e w5 ⟨rfl, b5⟩)
    go_ret
    exact ⟨rfl, b5⟩
  cases hp : isPol p with
  | false => exact meets_no p a A n c L w H h1 hp
  | true =>
    by_cases hr : frO p a L = n
    · exact meets_all p a A n c L w H h1 hp hr
    · have := frO_le p a L
      rw [H.1] at this
      cases hd : drN p with
      | false => exact meets_stay p a A n c L w H h1 hp (by omega) hd
      | true => exact meets_go p a A n c L w H h1 hp (by omega) hd
end Go.Proofs.Ytjfpbphdhgkccaa
