/- slices.Sort at uint64: breakPatterns. (By mksug.py.) -/
import Derived.Test.YtemmbgbmkihbaaaSuF
import Derived.OpenShut
namespace Go.Proofs.Ytemmbgbmkihbaaa
open Go.RowKit Go.Sort Go.Lib Go.Shelf Go.ChangeShapes Go.WideShapes

/-- A box since the sort began, that holds v. -/
structure BoxU (w0 : World) (c : Nat) (v : Value) (W : World) : Prop where
  cell : W.cell? ⟨c, 0, none⟩ = some v
  froz : W.frozen? ⟨c, 0, none⟩ = false
  old : w0.heap.size ≤ c
  lt : c < W.heap.size
theorem bits_in (op : BinOp) (x y : Int) : 0 ≤ bits op .u64 x y ∧ bits op .u64 x y < 18446744073709551616 := by
  have h := bounds_u64 (wf_bits op .u64 x y)
  omega
theorem BoxU.set {w0 W : World} {c : Nat} {v : Value} (h : BoxU w0 c v W) (u : Value) : BoxU w0 c u (W.setCell ⟨c, 0, none⟩ u) :=
  ⟨World.cell?_setCell_same' _ _ _ (by rw [h.cell]; rfl), by rw [World.frozen?_setCell]; exact h.froz, h.old, by simpa using h.lt⟩
theorem BoxU.drew {w0 W : World} {c : Nat} {v : Value} (h : BoxU w0 c v W) : BoxU w0 c v W.drew := ⟨h.cell, h.froz, h.old, h.lt⟩
theorem BoxU.drewN {w0 W : World} {c : Nat} {v : Value} (h : BoxU w0 c v W) (n : Nat) : BoxU w0 c v (W.drewN n) := ⟨h.cell, h.froz, h.old, h.lt⟩
theorem BoxU.start {w0 W : World} {blk off : Nat} {d : Array Int} (S : SW eU w0 blk off d W) (v : Value) (t : TypeId) : BoxU w0 W.heap.size v (W.alloc (.cells #[v] t)) :=
  ⟨by rw [cell_of_row _ _ _ _ _ _ (heap_alloc_new W _)]; rfl, frozen_of_row _ _ _ _ _ (heap_alloc_new W _), S.le, by simp⟩
/-- Behind an exchange in the row. -/
theorem BoxU.swapped {w0 W : World} {blk x y c : Nat} {v : Value} (h : BoxU w0 c v W) (hb : blk < w0.heap.size) (u u' : Value) : BoxU w0 c v ((W.setCell ⟨blk, x, none⟩ u).setCell ⟨blk, y, none⟩ u').drew := by
  have hne : c ≠ blk := by have := h.old; omega
  have hk := box_kept_swap1 hne h.cell h.froz x y u u'
  exact ⟨hk.1, hk.2, h.old, by have := h.lt; simpa using this⟩
set_option maxHeartbeats 4000000 in
set_option maxRecDepth 1000000 in
theorem next_c (blk off c : Nat) (x : Int) (d : Array Int) (w0 w : World) (S : SW eU w0 blk off d w) (C : BoxU w0 c (.int .u64 x) w) (_h0 : 0 ≤ x) (_h1 : x < 18446744073709551616) :
    Calls Try.prog 125 #[.pointer (some ⟨c, 0, none⟩)] w fun e w' => ∃ y : Int, e = .returned (.int .u64 y) ∧ 0 ≤ y ∧ y < 18446744073709551616 ∧ SW eU w0 blk off d w' ∧ BoxU w0 c (.int .u64 y) w' := by
  have mixed : Try.prog.follows .mixedOrders = true := by kernel_rfl
  have c0 := C.cell
  have f0 := C.froz
  have S0 : Aside (SW eU w0 blk off d w) := S
  have C0 : Aside (BoxU w0 c (.int .u64 x) w) := C
  clear S C
  go_enter Try.func125, Try.ntmps125
  go_wp2_with fail
  go_big_region
  have S1 : Aside (SW eU w0 blk off d (w.setCell ⟨c, 0, none⟩ (.int .u64 (bits .xor .u64 x (IntKind.u64.wrap (x * 8192))))).drew) := (S0.out.setCell_new c 0 _ C0.out.old).drew
  have C1 : Aside (BoxU w0 c (.int .u64 (bits .xor .u64 x (IntKind.u64.wrap (x * 8192)))) (w.setCell ⟨c, 0, none⟩ (.int .u64 (bits .xor .u64 x (IntKind.u64.wrap (x * 8192))))).drew) := (C0.out.set _).drew
  have B1 := bits_in .xor x (IntKind.u64.wrap (x * 8192))
  clear c0 f0 S0 C0
  generalize (w.setCell ⟨c, 0, none⟩ (.int .u64 (bits .xor .u64 x (IntKind.u64.wrap (x * 8192))))).drew = w1 at S1 C1 ⊢
  generalize bits .xor .u64 x (IntKind.u64.wrap (x * 8192)) = x1 at C1 B1 ⊢
  obtain ⟨b10, b11⟩ := B1
  have c1 := C1.out.cell
  have f1 := C1.out.froz
  go_wp2_with fail
  go_big_region
  have S2 : Aside (SW eU w0 blk off d (w1.setCell ⟨c, 0, none⟩ (.int .u64 (bits .xor .u64 x1 (x1 / 128)))).drew) := (S1.out.setCell_new c 0 _ C1.out.old).drew
  have C2 : Aside (BoxU w0 c (.int .u64 (bits .xor .u64 x1 (x1 / 128))) (w1.setCell ⟨c, 0, none⟩ (.int .u64 (bits .xor .u64 x1 (x1 / 128)))).drew) := (C1.out.set _).drew
  have B2 := bits_in .xor x1 (x1 / 128)
  clear c1 f1 S1 C1 b10 b11
  generalize (w1.setCell ⟨c, 0, none⟩ (.int .u64 (bits .xor .u64 x1 (x1 / 128)))).drew = w2 at S2 C2 ⊢
  generalize bits .xor .u64 x1 (x1 / 128) = x2 at C2 B2 ⊢
  obtain ⟨b20, b21⟩ := B2
  have c2 := C2.out.cell
  have f2 := C2.out.froz
  go_wp2_with fail
  go_big_region
  have S3 : Aside (SW eU w0 blk off d (w2.setCell ⟨c, 0, none⟩ (.int .u64 (bits .xor .u64 x2 (IntKind.u64.wrap (x2 * 131072))))).drew) := (S2.out.setCell_new c 0 _ C2.out.old).drew
  have C3 : Aside (BoxU w0 c (.int .u64 (bits .xor .u64 x2 (IntKind.u64.wrap (x2 * 131072)))) (w2.setCell ⟨c, 0, none⟩ (.int .u64 (bits .xor .u64 x2 (IntKind.u64.wrap (x2 * 131072))))).drew) := (C2.out.set _).drew
  have B3 := bits_in .xor x2 (IntKind.u64.wrap (x2 * 131072))
  clear c2 f2 S2 C2 b20 b21
  generalize (w2.setCell ⟨c, 0, none⟩ (.int .u64 (bits .xor .u64 x2 (IntKind.u64.wrap (x2 * 131072))))).drew = w3 at S3 C3 ⊢
  generalize bits .xor .u64 x2 (IntKind.u64.wrap (x2 * 131072)) = x3 at C3 B3 ⊢
  obtain ⟨b30, b31⟩ := B3
  have c3 := C3.out.cell
  have f3 := C3.out.froz
  go_wp2_with fail
  go_ret
  exact ⟨x3, rfl, b30, b31, S3.out, C3.out⟩
theorem bl_cases : ∀ n : Fin 65, 8 ≤ n.val → (Lib.bitLen n.val = 4 ∧ 8 ≤ n.val) ∨ (Lib.bitLen n.val = 5 ∧ 16 ≤ n.val) ∨ (Lib.bitLen n.val = 6 ∧ 32 ≤ n.val) ∨ (Lib.bitLen n.val = 7 ∧ 64 ≤ n.val) := by decide +kernel
set_option maxHeartbeats 4000000 in
theorem nextPow_c (n : Nat) (h8 : 8 ≤ n) (h64 : n ≤ 64) (w : World) : Calls Try.prog 124 #[.int .i64 n] w fun e w' => ∃ m : Nat, e = .returned (.int .u64 m) ∧ 1 ≤ m ∧ m ≤ 2 * n ∧ w' = w := by
  have hl := bl_cases ⟨n, by omega⟩ h8
  have HLn := fun W => len_c (n : Int) W (by omega) (by omega)
  rw [Int.toNat_natCast] at HLn
  have wz : IntKind.u64.wrap (n : Int) = (n : Int) := by rw [IntKind.wrap_u64]; omega
  rcases hl with ⟨hb, hn⟩ | ⟨hb, hn⟩ | ⟨hb, hn⟩ | ⟨hb, hn⟩
  · simp only at hb
    rw [hb] at HLn
    have H := Lib.hid HLn
    have hm : 16 ≤ 2 * n := by simp only at hn; omega
    clear HLn hb hn
    go_enter Try.func124, Try.ntmps124
    go_wp2_with ((with_reducible refine (H.out _).mono ?_); rintro e w' ⟨rfl, rfl⟩)
    go_ret
    exact ⟨16, rfl, by omega, hm, rfl⟩
  · simp only at hb
    rw [hb] at HLn
    have H := Lib.hid HLn
    have hm : 32 ≤ 2 * n := by simp only at hn; omega
    clear HLn hb hn
    go_enter Try.func124, Try.ntmps124
    go_wp2_with ((with_reducible refine (H.out _).mono ?_); rintro e w' ⟨rfl, rfl⟩)
    go_ret
    exact ⟨32, rfl, by omega, hm, rfl⟩
  · simp only at hb
    rw [hb] at HLn
    have H := Lib.hid HLn
    have hm : 64 ≤ 2 * n := by simp only at hn; omega
    clear HLn hb hn
    go_enter Try.func124, Try.ntmps124
    go_wp2_with ((with_reducible refine (H.out _).mono ?_); rintro e w' ⟨rfl, rfl⟩)
    go_ret
    exact ⟨64, rfl, by omega, hm, rfl⟩
  · simp only at hb
    rw [hb] at HLn
    have H := Lib.hid HLn
    have hm : 128 ≤ 2 * n := by simp only at hn; omega
    clear HLn hb hn
    go_enter Try.func124, Try.ntmps124
    go_wp2_with ((with_reducible refine (H.out _).mono ?_); rintro e w' ⟨rfl, rfl⟩)
    go_ret
    exact ⟨128, rfl, by omega, hm, rfl⟩

set_option maxHeartbeats 4000000 in
set_option maxRecDepth 1000000 in
theorem brk_c (blk off cap : Nat) (a b : Nat) (za zb : Int) (hza : za = a) (hzb : zb = b) (d0 d : Array Int) (w0 w : World) (n : Nat) (hn : n = d.size) (R : Row1 eU w0 blk off d0) (hs : d0.size = d.size) (S : SW eU w0 blk off d w) (hsz : d.size < 4611686018427387904) (hab : a + 12 < b) (hb : b ≤ d.size) (h64 : b ≤ a + 64) :
    Calls Try.prog 110 #[.slice (some ⟨blk, off, none⟩) n cap, .int .i64 za, .int .i64 zb] w fun e w' => e = .returned (.tuple #[]) ∧ ∃ d', SW eU w0 blk off d' w' ∧ PermIn a b d d' := by
  subst hn hza hzb
  have mixed : Try.prog.follows .mixedOrders = true := by kernel_rfl
  have S0 : Aside (SW eU w0 blk off d w) := S
  have HS := Lib.hid hs
  have HL := Lib.hid lessU_c
  clear S hs
  obtain ⟨ln, hln⟩ : ∃ x, x = b - a := ⟨_, rfl⟩
  obtain ⟨q4, hq4⟩ : ∃ x, x = ln / 4 := ⟨_, rfl⟩
  obtain ⟨i0, hi0⟩ : ∃ x, x = a + q4 * 2 - 1 := ⟨_, rfl⟩
  obtain ⟨i2, hi2⟩ : ∃ x, x = a + q4 * 2 + 1 := ⟨_, rfl⟩
  have z1 : (b : Int) - (a : Int) = (ln : Int) := by omega
  have z2 : (ln : Int) / 4 = (q4 : Int) := by omega
  have z2' : (ln : Int).tdiv 4 = (q4 : Int) := by rw [Int.tdiv_eq_ediv_of_nonneg (by omega)]; exact z2
  have z3 : (a : Int) + (q4 : Int) * 2 - 1 = (i0 : Int) := by omega
  have z4 : (a : Int) + (q4 : Int) * 2 + 1 = (i2 : Int) := by omega
  have l1 : 8 ≤ ln := by omega
  have l2 : ln ≤ 64 := by omega
  have l3 : a ≤ i0 := by omega
  have l4 : i2 < b := by omega
  have l5 : i0 + 2 ≤ i2 := by omega
  have l6 : a + ln ≤ b := by omega
  have l7 : i2 ≤ i0 + 2 := by omega
  have wl : IntKind.u64.wrap (ln : Int) = (ln : Int) := by rw [IntKind.wrap_u64]; omega
  have HP2 := Lib.hid (fun W => nextPow_c ln l1 l2 W)
  have HNX := Lib.hid (fun c x d W S C h0 h1 => next_c blk off c x d w0 W S C h0 h1)
  have ST := Lib.hid (fun (W : World) (hW : SW eU w0 blk off d W) => And.intro (hW.alloc (.cells #[.int .u64 (ln : Int)] 167)) (BoxU.start hW (.int .u64 (ln : Int)) 167))
  have ST0 := Lib.hid (ST.out w S0.out)
  clear hln hq4 hi0 hi2 ST
  go_enter Try.func110, Try.ntmps110
  go_wp2_with fail
  refine (HP2.out _).mono ?_
  rintro e w1 ⟨m, rfl, m1, m2, rfl⟩
  obtain ⟨k, hk⟩ : ∃ k, m = k + 1 := ⟨m - 1, by omega⟩
  have zm : (m : Int) - 1 = (k : Int) := by omega
  have lk : k < 2 * ln := by omega
  clear hk
  have S1 : Aside (SW eU w0 blk off d (w.alloc (.cells #[.int .u64 (ln : Int)] 167))) := ST0.out.1
  have C1 : Aside (BoxU w0 w.heap.size (.int .u64 (ln : Int)) (w.alloc (.cells #[.int .u64 (ln : Int)] 167))) := ST0.out.2
  clear ST0 S0 HP2
  generalize w.alloc (.cells #[.int .u64 (ln : Int)] 167) = w1 at S1 C1 ⊢
  obtain ⟨c, hc⟩ : ∃ c, c = w.heap.size := ⟨_, rfl⟩
  rw [← hc] at C1 ⊢
  clear hc
  go_wp2_with fail
  go_loopg [9] 3 (fun kx s9 wr => ∃ (i : Nat) (x : Int) (dk : Array Int), s9 = .int .i64 i ∧ a ≤ i ∧ i ≤ i2 + 1 ∧ i2 + 1 - i ≤ kx ∧ 0 ≤ x ∧ x < 18446744073709551616 ∧ Aside (SW eU w0 blk off dk wr) ∧ Aside (BoxU w0 c (.int .u64 x) wr) ∧ PermIn a b d dk)
  case atStart => exact ⟨i0, (ln : Int), d, rfl, by omega, by omega, by omega, by omega, by omega, S1, C1, permIn_refl _ _ _⟩
  case round =>
    clear S1 C1
    obtain ⟨i, x, dk, rfl, hai, hii, hkx, hx0, hx1, S1, C1, HPm⟩ := hrel
    have HD : Hid (dk.size = d.size) := HPm.1
    by_cases hlt : i ≤ i2
    · have hz : (i : Int) ≤ (i2 : Int) := by omega
      go_wp2_with fail
      refine (HNX.out c x dk _ S1.out C1.out hx0 hx1).mono ?_
      rintro e w2 ⟨y, rfl, hy0, hy1, S2', C2'⟩
      have S2 : Aside (SW eU w0 blk off dk w2) := S2'
      have C2 : Aside (BoxU w0 c (.int .u64 y) w2) := C2'
      obtain ⟨Y, rfl⟩ : ∃ Y : Nat, y = (Y : Int) := ⟨y.toNat, by omega⟩
      obtain ⟨o, ho⟩ : ∃ o, o = Y &&& k := ⟨_, rfl⟩
      have zb : bits .and .u64 (Y : Int) (k : Int) = (o : Int) := by rw [bits_and_u64_nat Y k (by omega) (by omega), ho]
      have lo : o ≤ k := by rw [ho]; exact Nat.and_le_right
      clear ho S1 C1 S2' C2' hx0 hx1
      have S9 := S2
      clear S2
      by_cases hge : ln ≤ o
      · have hz2 : (ln : Int) ≤ (o : Int) := by omega
        obtain ⟨o2, ho2⟩ : ∃ x, x = o - ln := ⟨_, rfl⟩
        have q8 : (o : Int) - (ln : Int) = (o2 : Int) := by omega
        have lo2 : o2 < ln := by omega
        clear ho2
        go_wp2_with fail
        obtain ⟨ao, hao⟩ : ∃ x, x = a + o2 := ⟨_, rfl⟩
        have q9 : IntKind.i64.wrap ((a : Int) + (o2 : Int)) = (ao : Int) := by rw [IntKind.wrap_i64]; omega
        have la1 : a ≤ ao := by omega
        have la2 : ao < b := by omega
        have HPn : PermIn a b d (swp dk i ao) := permIn_trans _ _ _ _ _ HPm (swp_permIn dk a b i ao (by omega) (by omega) (by omega) (by omega) (by rw [HD.out]; omega))
        have hbk := R.hblk
        have C3 := fun u u' => C2.out.swapped (x := off + i) (y := off + ao) hbk u u'
        have C3' : Aside (∀ (u u' : Value), BoxU w0 c (.int .u64 (Y : Int)) ((w2.setCell ⟨blk, off + i, none⟩ u).setCell ⟨blk, off + ao, none⟩ u').drew) := C3
        clear hao HPm C2 C3 hbk
        go_wp2_with fail
        have hsz2 := HD.out
        have bI : (i : Int) < (d.size : Int) := by omega
        have bJ : (ao : Int) < (d.size : Int) := by omega
        have S2 := S9.out.swapped R (i) (ao) (by omega) (by omega)
        have ca := S9.out.c1 R (by rw [HD.out]; exact HS.out.symm) (i) (by omega)
        have cb := S9.out.c1 R (by rw [HD.out]; exact HS.out.symm) (ao) (by omega)
        have fa := S9.out.f1 R (by rw [HD.out]; exact HS.out.symm) (i) (by omega)
        have fb := S9.out.f1 R (by rw [HD.out]; exact HS.out.symm) (ao) (by omega)
        obtain ⟨uc, cc⟩ := S9.out.c2 R (by rw [HD.out]; exact HS.out.symm) (i) (ao) (by omega) (by omega) (eU dk[ao]!)
        clear hsz2
        generalize dk[i]! = vI at S2 ca cc
        generalize dk[ao]! = vJ at S2 cb cc
        replace S2 : Aside (SW eU w0 blk off (swp dk (i) (ao)) ((w2.setCell ⟨blk, off + i, none⟩ (.int .u64 vJ)).setCell ⟨blk, off + ao, none⟩ (.int .u64 vI)).drew) := S2
        replace ca : w2.cell? ⟨blk, off + i, none⟩ = some (.int .u64 vI) := ca
        replace cb : w2.cell? ⟨blk, off + ao, none⟩ = some (.int .u64 vJ) := cb
        replace cc : (w2.setCell ⟨blk, off + i, none⟩ (.int .u64 vJ)).cell? ⟨blk, off + ao, none⟩ = some uc := cc
        clear S9
        go_wp2_with fail
        go_big_region
        clear ca cb fa fb cc bI bJ
        have C4 := C3'.out (.int .u64 vJ) (.int .u64 vI)
        generalize ((w2.setCell ⟨blk, off + i, none⟩ (.int .u64 vJ)).setCell ⟨blk, off + ao, none⟩ (.int .u64 vI)).drew = w3 at S2 C4 ⊢
        have C5 : Aside (BoxU w0 c (.int .u64 (Y : Int)) w3) := C4
        clear C4 C3'
        go_wp2_with fail
        go_roundg (i2 + 1 - (i + 1))
        case measure => omega
        case rel => exact ⟨i + 1, (Y : Int), swp dk i ao, by go_num, by omega, by omega, Nat.le_refl _, by omega, by omega, S2, C5, HPn⟩
      · have hz2 : ¬ (ln : Int) ≤ (o : Int) := by omega
        have lo2 : o < ln := by omega
        go_wp2_with fail
        obtain ⟨ao, hao⟩ : ∃ x, x = a + o := ⟨_, rfl⟩
        have q9 : IntKind.i64.wrap ((a : Int) + (o : Int)) = (ao : Int) := by rw [IntKind.wrap_i64]; omega
        have la1 : a ≤ ao := by omega
        have la2 : ao < b := by omega
        have HPn : PermIn a b d (swp dk i ao) := permIn_trans _ _ _ _ _ HPm (swp_permIn dk a b i ao (by omega) (by omega) (by omega) (by omega) (by rw [HD.out]; omega))
        have hbk := R.hblk
        have C3 := fun u u' => C2.out.swapped (x := off + i) (y := off + ao) hbk u u'
        have C3' : Aside (∀ (u u' : Value), BoxU w0 c (.int .u64 (Y : Int)) ((w2.setCell ⟨blk, off + i, none⟩ u).setCell ⟨blk, off + ao, none⟩ u').drew) := C3
        clear hao HPm C2 C3 hbk
        go_wp2_with fail
        have hsz2 := HD.out
        have bI : (i : Int) < (d.size : Int) := by omega
        have bJ : (ao : Int) < (d.size : Int) := by omega
        have S2 := S9.out.swapped R (i) (ao) (by omega) (by omega)
        have ca := S9.out.c1 R (by rw [HD.out]; exact HS.out.symm) (i) (by omega)
        have cb := S9.out.c1 R (by rw [HD.out]; exact HS.out.symm) (ao) (by omega)
        have fa := S9.out.f1 R (by rw [HD.out]; exact HS.out.symm) (i) (by omega)
        have fb := S9.out.f1 R (by rw [HD.out]; exact HS.out.symm) (ao) (by omega)
        obtain ⟨uc, cc⟩ := S9.out.c2 R (by rw [HD.out]; exact HS.out.symm) (i) (ao) (by omega) (by omega) (eU dk[ao]!)
        clear hsz2
        generalize dk[i]! = vI at S2 ca cc
        generalize dk[ao]! = vJ at S2 cb cc
        replace S2 : Aside (SW eU w0 blk off (swp dk (i) (ao)) ((w2.setCell ⟨blk, off + i, none⟩ (.int .u64 vJ)).setCell ⟨blk, off + ao, none⟩ (.int .u64 vI)).drew) := S2
        replace ca : w2.cell? ⟨blk, off + i, none⟩ = some (.int .u64 vI) := ca
        replace cb : w2.cell? ⟨blk, off + ao, none⟩ = some (.int .u64 vJ) := cb
        replace cc : (w2.setCell ⟨blk, off + i, none⟩ (.int .u64 vJ)).cell? ⟨blk, off + ao, none⟩ = some uc := cc
        clear S9
        go_wp2_with fail
        go_big_region
        clear ca cb fa fb cc bI bJ
        have C4 := C3'.out (.int .u64 vJ) (.int .u64 vI)
        generalize ((w2.setCell ⟨blk, off + i, none⟩ (.int .u64 vJ)).setCell ⟨blk, off + ao, none⟩ (.int .u64 vI)).drew = w3 at S2 C4 ⊢
        have C5 : Aside (BoxU w0 c (.int .u64 (Y : Int)) w3) := C4
        clear C4 C3'
        go_wp2_with fail
        go_roundg (i2 + 1 - (i + 1))
        case measure => omega
        case rel => exact ⟨i + 1, (Y : Int), swp dk i ao, by go_num, by omega, by omega, Nat.le_refl _, by omega, by omega, S2, C5, HPn⟩
    · have hz : ¬ (i : Int) ≤ (i2 : Int) := by omega
      clear HD
      go_wp2
      go_end0
      exact ⟨rfl, dk, S1.out, HPm⟩
end Go.Proofs.Ytemmbgbmkihbaaa
