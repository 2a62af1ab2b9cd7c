/- slices.Sort at uint64: choosePivot. (By mksuh.py.) -/
import Derived.Test.YtemmbgbmkihbaaaSuG
namespace Go.Proofs.Ytemmbgbmkihbaaa
open Go.RowKit Go.Sort Go.Lib Go.Shelf


set_option maxHeartbeats 4000000 in
set_option maxRecDepth 1000000 in
theorem ord2_c (blk off cap : Nat) (a b : Nat) (za zb : Int) (hza : za = a) (hzb : zb = b) (d0 d : Array Int) (w0 w : World) (n : Nat) (hn : n = d.size) (R : Row1 eU w0 blk off d0) (hs : d0.size = d.size) (S : SW eU w0 blk off d w) (hsz : d.size < 4611686018427387904) (c : Nat) (s : Int) (C : BoxU w0 c (.int .i64 s) w) (ha : a < d.size) (hb : b < d.size) :
    Calls Try.prog 131 #[.slice (some ⟨blk, off, none⟩) n cap, .int .i64 za, .int .i64 zb, .pointer (some ⟨c, 0, none⟩)] w fun e w' => ∃ x y : Nat, e = .returned (.tuple #[.int .i64 x, .int .i64 y]) ∧ ((x = a ∧ y = b) ∨ (x = b ∧ y = a)) ∧ SW eU w0 blk off d w' ∧ ∃ s', BoxU w0 c (.int .i64 s') w' := by
  subst hn hza hzb
  have _hz := hsz
  have HD : Hid (d.size ≤ d.size) := Nat.le_refl _
  have C0 : Aside (BoxU w0 c (.int .i64 s) w) := C
  clear C
  have mixed : Try.prog.follows .mixedOrders = true := by kernel_rfl
  have S0 : Aside (SW eU w0 blk off d w) := S
  have HS := Lib.hid hs
  have HL := Lib.hid lessU_c
  clear S hs
  go_enter Try.func131, Try.ntmps131
  go_wp2_with fail
  have hsz2 := HD.out
  obtain ⟨x, hx⟩ : ∃ x, d[b]! = x := ⟨_, rfl⟩
  have cx := S0.out.c1 R HS.out.symm (b) (by omega)
  rw [hx] at cx
  replace cx : w.cell? ⟨blk, off + b, none⟩ = some (.int .u64 x) := cx
  have Xx := Lib.hid hx
  clear hx
  have bbx : (b : Int) < (d.size : Int) := by omega
  obtain ⟨y, hy⟩ : ∃ x, d[a]! = x := ⟨_, rfl⟩
  have cy := S0.out.c1 R HS.out.symm (a) (by omega)
  rw [hy] at cy
  replace cy : w.cell? ⟨blk, off + a, none⟩ = some (.int .u64 y) := cy
  have Xy := Lib.hid hy
  clear hy
  have bby : (a : Int) < (d.size : Int) := by omega
  clear hsz2
  cases hl : ltInt x y with
  | true =>
    go_wp2_with fail
    go_quiet ((go_at_call 114; with_reducible exact Calls.quiet_of_same (HL.out _ _ _)))
    have S1 : Aside (SW eU w0 blk off d (w.drewN nq)) := S0.out.drewN nq
    have C1 : Aside (BoxU w0 c (.int .i64 s) (w.drewN nq)) := C0.out.drewN nq
    clear C0
    clear cx bbx cy bby S0
    generalize w.drewN nq = wq at S1 C1 ⊢
    have c1 := C1.out.cell
    have f1 := C1.out.froz
    rw [hl]
    go_wp2_with fail
    go_ret2
    exact ⟨b, a, rfl, .inr ⟨rfl, rfl⟩, S1.out.setCell_new c 0 _ C1.out.old, _, C1.out.set _⟩
  | false =>
    go_wp2_with fail
    go_quiet ((go_at_call 114; with_reducible exact Calls.quiet_of_same (HL.out _ _ _)))
    have S1 : Aside (SW eU w0 blk off d (w.drewN nq)) := S0.out.drewN nq
    have C1 : Aside (BoxU w0 c (.int .i64 s) (w.drewN nq)) := C0.out.drewN nq
    clear C0
    clear cx bbx cy bby S0
    generalize w.drewN nq = wq at S1 C1 ⊢
    rw [hl]
    go_wp2_with fail
    go_ret2
    exact ⟨a, b, rfl, .inl ⟨rfl, rfl⟩, S1.out, _, C1.out⟩

set_option maxHeartbeats 4000000 in
set_option maxRecDepth 1000000 in
theorem med_c (blk off cap : Nat) (a b c3 : Nat) (za zb zc : Int) (hza : za = a) (hzb : zb = b) (hzc : zc = c3) (d0 d : Array Int) (w0 w : World) (n : Nat) (hn : n = d.size) (R : Row1 eU w0 blk off d0) (hs : d0.size = d.size) (S : SW eU w0 blk off d w) (hsz : d.size < 4611686018427387904) (c : Nat) (s : Int) (C : BoxU w0 c (.int .i64 s) w) (ha : a < d.size) (hb : b < d.size) (hc : c3 < d.size) :
    Calls Try.prog 127 #[.slice (some ⟨blk, off, none⟩) n cap, .int .i64 za, .int .i64 zb, .int .i64 zc, .pointer (some ⟨c, 0, none⟩)] w fun e w' => ∃ m : Nat, e = .returned (.int .i64 m) ∧ (m = a ∨ m = b ∨ m = c3) ∧ SW eU w0 blk off d w' ∧ ∃ s', BoxU w0 c (.int .i64 s') w' := by
  subst hn hza hzb hzc
  have HO := Lib.hid (fun a b W S c s C ha hb => ord2_c blk off cap a b a b rfl rfl d0 d w0 W d.size rfl R hs S hsz c s C ha hb)
  have C0 : Aside (BoxU w0 c (.int .i64 s) w) := C
  clear C
  have mixed : Try.prog.follows .mixedOrders = true := by kernel_rfl
  have S0 : Aside (SW eU w0 blk off d w) := S
  have HS := Lib.hid hs
  have HL := Lib.hid lessU_c
  clear S hs
  go_enter Try.func127, Try.ntmps127
  go_wp2_with fail
  refine (HO.out a b _ S0.out c s C0.out ha hb).mono ?_
  rintro e w1 ⟨x1, y1, rfl, h1, S1', s1, C1'⟩
  have S1 : Aside (SW eU w0 blk off d w1) := S1'
  have C1 : Aside (BoxU w0 c (.int .i64 s1) w1) := C1'
  have H1 := Lib.hid h1
  have k1 : x1 < d.size := by omega
  have k2 : y1 < d.size := by omega
  clear S1' C1' h1 S0 C0
  go_wp2_with fail
  refine (HO.out y1 c3 _ S1.out c s1 C1.out k2 hc).mono ?_
  rintro e w2 ⟨x2, y2, rfl, h2, S2', s2, C2'⟩
  have S2 : Aside (SW eU w0 blk off d w2) := S2'
  have C2 : Aside (BoxU w0 c (.int .i64 s2) w2) := C2'
  have H2 := Lib.hid h2
  have k3 : x2 < d.size := by omega
  clear S2' C2' h2 S1 C1
  go_wp2_with fail
  refine (HO.out x1 x2 _ S2.out c s2 C2.out k1 k3).mono ?_
  rintro e w3 ⟨x3, y3, rfl, h3, S3', s3, C3'⟩
  have S3 : Aside (SW eU w0 blk off d w3) := S3'
  have C3 : Aside (BoxU w0 c (.int .i64 s3) w3) := C3'
  have HF : Hid (y3 = a ∨ y3 = b ∨ y3 = c3) := by
    have := H1.out
    have := H2.out
    show _ ∨ _
    omega
  clear S3' C3' h3 S2 C2
  go_wp2_with fail
  go_ret
  exact ⟨y3, rfl, HF.out, S3.out, s3, C3.out⟩

set_option maxHeartbeats 4000000 in
set_option maxRecDepth 1000000 in
theorem adj_c (blk off cap : Nat) (a : Nat) (za : Int) (hza : za = a) (d0 d : Array Int) (w0 w : World) (n : Nat) (hn : n = d.size) (R : Row1 eU w0 blk off d0) (hs : d0.size = d.size) (S : SW eU w0 blk off d w) (hsz : d.size < 4611686018427387904) (c : Nat) (s : Int) (C : BoxU w0 c (.int .i64 s) w) (h0 : 1 ≤ a) (ha : a + 1 < d.size) :
    Calls Try.prog 126 #[.slice (some ⟨blk, off, none⟩) n cap, .int .i64 za, .pointer (some ⟨c, 0, none⟩)] w fun e w' => ∃ m : Nat, e = .returned (.int .i64 m) ∧ (m + 1 = a ∨ m = a ∨ m = a + 1) ∧ SW eU w0 blk off d w' ∧ ∃ s', BoxU w0 c (.int .i64 s') w' := by
  subst hn hza
  obtain ⟨p, hp⟩ : ∃ p, p = a - 1 := ⟨_, rfl⟩
  have z1 : (a : Int) - 1 = (p : Int) := by omega
  have z2 : (a : Int) + 1 = ((a + 1 : Nat) : Int) := by omega
  have HO := Lib.hid (med_c blk off cap p a (a + 1) p a ((a : Int) + 1) rfl rfl z2 d0 d w0 w d.size rfl R hs S hsz c s C (by omega) (by omega) ha)
  have l1 : p + 1 ≤ a := by omega
  have l2 : a ≤ p + 1 := by omega
  clear C hp z2
  have mixed : Try.prog.follows .mixedOrders = true := by kernel_rfl
  have S0 : Aside (SW eU w0 blk off d w) := S
  have HS := Lib.hid hs
  have HL := Lib.hid lessU_c
  clear S hs
  go_enter Try.func126, Try.ntmps126
  go_wp2_with fail
  refine (HO.out).mono ?_
  rintro e w1 ⟨m, rfl, h1, S1', s1, C1'⟩
  have S1 : Aside (SW eU w0 blk off d w1) := S1'
  have C1 : Aside (BoxU w0 c (.int .i64 s1) w1) := C1'
  have HF : Hid (m + 1 = a ∨ m = a ∨ m = a + 1) := by show _ ∨ _; omega
  clear S1' C1' h1 S0
  go_wp2_with fail
  go_ret
  exact ⟨m, rfl, HF.out, S1.out, s1, C1.out⟩

set_option maxHeartbeats 4000000 in
set_option maxRecDepth 1000000 in
theorem piv_c (blk off cap : Nat) (a b : Nat) (za zb : Int) (hza : za = a) (hzb : zb = b) (d0 d : Array Int) (w0 w : World) (n : Nat) (hn : n = d.size) (R : Row1 eU w0 blk off d0) (hs : d0.size = d.size) (S : SW eU w0 blk off d w) (hsz : d.size < 4611686018427387904) (hab : a + 12 < b) (hb : b ≤ d.size) :
    Calls Try.prog 111 #[.slice (some ⟨blk, off, none⟩) n cap, .int .i64 za, .int .i64 zb] w fun e w' => ∃ p h : Nat, e = .returned (.tuple #[.int .i64 p, .int .i64 h]) ∧ a ≤ p ∧ p < b ∧ h ≤ 2 ∧ SW eU w0 blk off d w' := by
  subst hn hza hzb
  have HMe := Lib.hid (fun a b c3 W S c s C ha hb hc => med_c blk off cap a b c3 a b c3 rfl rfl rfl d0 d w0 W d.size rfl R hs S hsz c s C ha hb hc)
  have HAd := Lib.hid (fun a W S c s C h0 ha => adj_c blk off cap a a rfl d0 d w0 W d.size rfl R hs S hsz c s C h0 ha)
  have mixed : Try.prog.follows .mixedOrders = true := by kernel_rfl
  have S0 : Aside (SW eU w0 blk off d w) := S
  have HS := Lib.hid hs
  have HL := Lib.hid lessU_c
  clear S hs
  obtain ⟨ln, hln⟩ : ∃ x, x = b - a := ⟨_, rfl⟩
  obtain ⟨q4, hq4⟩ : ∃ x, x = ln / 4 := ⟨_, rfl⟩
  obtain ⟨i, hi⟩ : ∃ x, x = a + q4 := ⟨_, rfl⟩
  obtain ⟨j, hj⟩ : ∃ x, x = a + q4 * 2 := ⟨_, rfl⟩
  obtain ⟨k, hk⟩ : ∃ x, x = a + q4 * 3 := ⟨_, rfl⟩
  have z1 : (b : Int) - (a : Int) = (ln : Int) := by omega
  have z2 : (ln : Int) / 4 = (q4 : Int) := by omega
  have z2' : (ln : Int).tdiv 4 = (q4 : Int) := by rw [Int.tdiv_eq_ediv_of_nonneg (by omega)]; exact z2
  have z3 : (a : Int) + (q4 : Int) = (i : Int) := by omega
  have z4 : (a : Int) + (q4 : Int) * 2 = (j : Int) := by omega
  have z5 : (a : Int) + (q4 : Int) * 3 = (k : Int) := by omega
  have l1 : 13 ≤ ln := by omega
  have l8 : (8 : Int) ≤ (ln : Int) := by omega
  have l2 : a + 3 ≤ i := by omega
  have l3 : i < j := by omega
  have l4 : j < k := by omega
  have l5 : k + 1 < b := by omega
  have ST := Lib.hid (fun (W : World) (hW : SW eU w0 blk off d W) => And.intro (hW.alloc (.cells #[.int .i64 0] 3)) (BoxU.start hW (.int .i64 0) 3))
  have ST0 := Lib.hid (ST.out w S0.out)
  clear hln hq4 hi hj hk ST
  go_enter Try.func111, Try.ntmps111
  go_upto_if 32 with fail
  have S1 : Aside (SW eU w0 blk off d (w.alloc (.cells #[.int .i64 0] 3))) := ST0.out.1
  have C1 : Aside (BoxU w0 w.heap.size (.int .i64 0) (w.alloc (.cells #[.int .i64 0] 3))) := ST0.out.2
  clear ST0 S0
  generalize w.alloc (.cells #[.int .i64 0] 3) = w1 at S1 C1 ⊢
  obtain ⟨c, hc⟩ : ∃ c, c = w.heap.size := ⟨_, rfl⟩
  rw [← hc] at C1 ⊢
  clear hc
  go_cut [11] (fun s11 wx => ∃ (p : Nat) (s : Int), s11 = .int .i64 p ∧ a ≤ p ∧ p < b ∧ Aside (SW eU w0 blk off d wx) ∧ Aside (BoxU w0 c (.int .i64 s) wx))
  case first =>
    by_cases h50 : 50 ≤ ln
    · have z50 : (50 : Int) ≤ (ln : Int) := by omega
      go_wp2_with fail
      refine (HAd.out i _ S1.out c 0 C1.out (by omega) (by omega)).mono ?_
      rintro e w2 ⟨i', rfl, hi', S2', s2, C2'⟩
      have S2 : Aside (SW eU w0 blk off d w2) := S2'
      have C2 : Aside (BoxU w0 c (.int .i64 s2) w2) := C2'
      have m1 : a ≤ i' := by omega
      have m2 : i' < b := by omega
      clear hi' S2' C2' S1 C1
      go_wp2_with fail
      refine (HAd.out j _ S2.out c s2 C2.out (by omega) (by omega)).mono ?_
      rintro e w3 ⟨j', rfl, hj', S3', s3, C3'⟩
      have S3 : Aside (SW eU w0 blk off d w3) := S3'
      have C3 : Aside (BoxU w0 c (.int .i64 s3) w3) := C3'
      have m3 : a ≤ j' := by omega
      have m4 : j' < b := by omega
      clear hj' S3' C3' S2 C2
      go_wp2_with fail
      refine (HAd.out k _ S3.out c s3 C3.out (by omega) (by omega)).mono ?_
      rintro e w4 ⟨k', rfl, hk', S4', s4, C4'⟩
      have S4 : Aside (SW eU w0 blk off d w4) := S4'
      have C4 : Aside (BoxU w0 c (.int .i64 s4) w4) := C4'
      have m5 : a ≤ k' := by omega
      have m6 : k' < b := by omega
      clear hk' S4' C4' S3 C3
      go_wp2_with fail
      refine (HMe.out i' j' k' _ S4.out c s4 C4.out (by omega) (by omega) (by omega)).mono ?_
      rintro e w5 ⟨m, rfl, hm, S5', s5, C5'⟩
      have S5 : Aside (SW eU w0 blk off d w5) := S5'
      have C5 : Aside (BoxU w0 c (.int .i64 s5) w5) := C5'
      have m7 : a ≤ m := by omega
      have m8 : m < b := by omega
      clear hm S5' C5' S4 C4
      go_wp2_with fail
      go_meet
      case rel => exact ⟨m, s5, rfl, m7, m8, S5, C5⟩
    · have z50 : ¬ (50 : Int) ≤ (ln : Int) := by omega
      go_wp2_with fail
      refine (HMe.out i j k _ S1.out c 0 C1.out (by omega) (by omega) (by omega)).mono ?_
      rintro e w5 ⟨m, rfl, hm, S5', s5, C5'⟩
      have S5 : Aside (SW eU w0 blk off d w5) := S5'
      have C5 : Aside (BoxU w0 c (.int .i64 s5) w5) := C5'
      have m7 : a ≤ m := by omega
      have m8 : m < b := by omega
      clear hm S5' C5' S1 C1
      go_wp2_with fail
      go_meet
      case rel => exact ⟨m, s5, rfl, m7, m8, S5, C5⟩
  case rest =>
  obtain ⟨p, s, rfl, hp1, hp2, S5, C5⟩ := hcut
  clear S1 C1
  have c5 := C5.out.cell
  by_cases h0 : s = 0
  · have e0 : (s == 0) = true := by simp [h0]
    clear h0
    go_wp2_with fail
    go_ret2
    exact ⟨p, 1, rfl, hp1, hp2, by omega, S5.out⟩
  · have e0 : (s == 0) = false := by simp [h0]
    by_cases h12 : s = 12
    · have e12 : (s == 12) = true := by simp [h12]
      clear h0 h12
      go_wp2_with fail
      go_ret2
      exact ⟨p, 2, rfl, hp1, hp2, by omega, S5.out⟩
    · have e12 : (s == 12) = false := by simp [h12]
      clear h0 h12
      go_wp2_with fail
      go_ret2
      exact ⟨p, 0, rfl, hp1, hp2, by omega, S5.out⟩
end Go.Proofs.Ytemmbgbmkihbaaa
