/- codec: an item's parts, written one by one, and read one by one, beside its copy. -/
import Derived.Test.YtoechhbdpkjppaaBack
namespace Go.Proofs.Ytoechhbdpkjppaa
open Go.RowKit

/-- The cells of an item's copy that are read on. -/
def CpyC (w : World) (q : Nat) (x : Itm) : Prop := w.cell? ⟨q, 1, none⟩ = some (.int .u64 x.n) ∧ w.cell? ⟨q, 2, none⟩ = some (.int .i64 x.i) ∧ w.cell? ⟨q, 3, none⟩ = some (.bool x.is) ∧ w.cell? ⟨q, 4, none⟩ = some (.string x.s)
theorem Cpy.all {w : World} {q : Nat} {x : Itm} (h : Cpy w q x) : CpyC w q x := ⟨h.c1, h.c2, h.c3, h.c4⟩

/-- A writer, and an item's copy beside it. -/
def WKq (base : Nat) (w0 w : World) (g : Nat) (bs : List UInt8) (q : Nat) (x : Itm) : Prop :=
  Below base w0 w ∧ base ≤ w.heap.size ∧ Cpy w q x ∧ ∃ S, WS w g S bs ∧ (∀ k, S k → base ≤ k) ∧ ¬ S q
theorem WKq.wk {base g q : Nat} {w0 w : World} {bs : List UInt8} {x : Itm} (h : WKq base w0 w g bs q x) : WK base w0 w g bs := by
  obtain ⟨h1, _, _, S, h2, h3, _⟩ := h
  exact ⟨h1, S, h2, h3⟩
theorem WKq.added {base g q : Nat} {w0 w w' : World} {bs' : List UInt8} {x : Itm} {S : Nat → Prop} (hb : Below base w0 w) (hB : base ≤ w.heap.size) (hc : Cpy w q x) (hS : ∀ k, S k → base ≤ k) (hq : ¬ S q)
    (h : Added g S bs' w (.returned (.tuple #[])) w') : WKq base w0 w' g bs' q x := by
  obtain ⟨_, S2, hws2, hfr, hsub⟩ := h
  refine ⟨hb.trans (hfr.below hS hB), Nat.le_trans hB hfr.size, hfr.blk hc hq, S2, hws2, fun k hk => ?_, fun hk => ?_⟩
  · rcases hsub k hk with h | h
    · exact hS k h
    · omega
  · rcases hsub q hk with h | h
    · exact hq h
    · have := blk_lt hc; omega
/-- .. just made. -/
theorem WK.copy {base g : Nat} {w0 w : World} {bs : List UInt8} (h : WK base w0 w g bs) (hB : base ≤ w.heap.size) (x : Itm) :
    WKq base w0 (w.alloc (.cells #[.int .i64 x.k, .int .u64 x.n, .int .i64 x.i, .bool x.is, .string x.s, .int .i64 x.m] 31)) g bs w.heap.size x := by
  obtain ⟨h1, S, h2, h3⟩ := h
  have hb : Below w.heap.size w (w.alloc (.cells #[.int .i64 x.k, .int .u64 x.n, .int .i64 x.i, .bool x.is, .string x.s, .int .i64 x.m] 31)) := (Below.refl _ _).alloc (Nat.le_refl _) _
  exact ⟨h1.trans (hb.mono hB), by simp; omega, heap_alloc_new w _, S, h2.below hb, h3, fun hS => by have := h2.lt _ hS; omega⟩

theorem wkq_nat {base g q n : Nat} {w0 W : World} {bs : List UInt8} {x : Itm} (h : WKq base w0 W g bs q x) (hn : n < 2 ^ 64) (hsum : bs.length ≤ 100000) :
    Calls Try.prog 15 #[.pointer (some ⟨g, 0, none⟩), .slice (some ⟨W.heap.size, 0, none⟩) 1 1] (W.alloc (.cells #[.int .u64 (n : Int)] 29)) fun e w' => e = .returned (.tuple #[]) ∧ CpyC w' q x ∧ Hid (WKq base w0 w' g (bs ++ natB n) q x) := by
  obtain ⟨h1, hB, hc, S, h2, h3, h4⟩ := h
  refine (wNat1_c g n S bs W h2 hn (by omega)).mono fun e w' h => ?_
  have hk := WKq.added h1 hB hc h3 h4 h.2
  exact ⟨h.1, hk.2.2.1.all, hk⟩
theorem wkq_int {base g q : Nat} {i : Int} {w0 W : World} {bs : List UInt8} {x : Itm} (h : WKq base w0 W g bs q x) (hi : -9223372036854775808 ≤ i ∧ i ≤ 9223372036854775807) (hsum : bs.length ≤ 100000) :
    Calls Try.prog 17 #[.pointer (some ⟨g, 0, none⟩), .slice (some ⟨W.heap.size, 0, none⟩) 1 1] (W.alloc (.cells #[.int .i64 i] 2)) fun e w' => e = .returned (.tuple #[]) ∧ CpyC w' q x ∧ Hid (WKq base w0 w' g (bs ++ natB (fz i)) q x) := by
  obtain ⟨h1, hB, hc, S, h2, h3, h4⟩ := h
  refine (wInt1_c g i S bs W h2 hi (by omega)).mono fun e w' h => ?_
  have hk := WKq.added h1 hB hc h3 h4 h.2
  exact ⟨h.1, hk.2.2.1.all, hk⟩
theorem wkq_flag {base g q : Nat} {is : Bool} {w0 W : World} {bs : List UInt8} {x : Itm} (h : WKq base w0 W g bs q x) (hsum : bs.length ≤ 100000) :
    Calls Try.prog 19 #[.pointer (some ⟨g, 0, none⟩), .bool is] W fun e w' => e = .returned (.tuple #[]) ∧ CpyC w' q x ∧ Hid (WKq base w0 w' g (bs ++ natB (if is then 1 else 0)) q x) := by
  obtain ⟨h1, hB, hc, S, h2, h3, h4⟩ := h
  refine (wFlag_c g is S bs W h2 (by omega)).mono fun e w' h => ?_
  have hk := WKq.added h1 hB hc h3 h4 h.2
  exact ⟨h.1, hk.2.2.1.all, hk⟩
theorem wkq_text {base g q : Nat} {s : ByteArray} {w0 W : World} {bs : List UInt8} {x : Itm} (h : WKq base w0 W g bs q x) (hsum : bs.length ≤ 100000) (hs : s.size ≤ 1000) :
    Calls Try.prog 21 #[.pointer (some ⟨g, 0, none⟩), .string s] W fun e w' => e = .returned (.tuple #[]) ∧ CpyC w' q x ∧ Hid (WKq base w0 w' g (bs ++ natB s.size ++ s.data.toList) q x) := by
  obtain ⟨h1, hB, hc, S, h2, h3, h4⟩ := h
  refine (wText_c g s S bs W h2 (by omega)).mono fun e w' h => ?_
  have hk := WKq.added h1 hB hc h3 h4 h.2
  exact ⟨h.1, hk.2.2.1.all, hk⟩

/-- A reader, and an item's copy beside it. -/
def RKq (base : Nat) (w0 w : World) (g : Nat) (l : List UInt8) (q : Nat) (x : Itm) : Prop :=
  Below base w0 w ∧ base ≤ w.heap.size ∧ base ≤ g ∧ RB w g l false ∧ Cpy w q x ∧ q ≠ g
theorem RKq.tch {base g q : Nat} {w0 w w' : World} {l t : List UInt8} {x : Itm} (h : RKq base w0 w g l q x) (ht : Tch g w w') (hr : RB w' g t false) : RKq base w0 w' g t q x := by
  obtain ⟨h1, h2, h3, _, h5, h6⟩ := h
  exact ⟨h1.trans (ht.below h3 h2), Nat.le_trans h2 ht.size, h3, hr, ht.blk h5 h6, h6⟩

theorem RKq.drew {base g q : Nat} {w0 w : World} {l : List UInt8} {x : Itm} (h : RKq base w0 w g l q x) : RKq base w0 w.drew g l q x := ⟨h.1.drew, h.2.1, h.2.2.1, h.2.2.2.1, h.2.2.2.2.1, h.2.2.2.2.2⟩

theorem rkq_nat {base g q n most : Nat} {w0 W : World} {t : List UInt8} {x : Itm} (h : RKq base w0 W g (natB n ++ t) q x) (hn : n < 2 ^ 64) (hm : n ≤ most) :
    Calls Try.prog 25 #[.pointer (some ⟨g, 0, none⟩), .int .u64 (most : Int)] W fun e w' => e = .returned (.int .u64 (n : Int)) ∧ CpyC w' q x ∧ Hid (RKq base w0 w' g t q x) := by
  have hr : rdN (natB n ++ t) false most = (n, t, false) := by unfold rdN; rw [readNat_natB t hn hm]
  refine (rNat_c g _ false most W h.2.2.2.1 n t false hr).mono fun e w' hh => ?_
  have hk := h.tch hh.2.1 hh.2.2
  exact ⟨hh.1, hk.2.2.2.2.1.all, hk⟩
theorem rkq_int {base g q : Nat} {i : Int} {w0 W : World} {t : List UInt8} {x : Itm} (h : RKq base w0 W g (natB (fz i) ++ t) q x) (hi : -9223372036854775808 ≤ i ∧ i ≤ 9223372036854775807) :
    Calls Try.prog 27 #[.pointer (some ⟨g, 0, none⟩)] W fun e w' => e = .returned (.int .i64 i) ∧ CpyC w' q x ∧ Hid (RKq base w0 w' g t q x) := by
  have hlt := fz_lt hi.1 hi.2
  have hr : rdN (natB (fz i) ++ t) false 18446744073709551615 = (fz i, t, false) := by unfold rdN; rw [readNat_natB t hlt (by omega)]
  refine (rInt_c g _ false W h.2.2.2.1 _ t false hr).mono fun e w' hh => ?_
  have hk := h.tch hh.2.1 hh.2.2
  exact ⟨by rw [hh.1, zz_fz], hk.2.2.2.2.1.all, hk⟩
theorem rkq_flag {base g q : Nat} {is : Bool} {w0 W : World} {t : List UInt8} {x : Itm} (h : RKq base w0 W g (natB (if is then 1 else 0) ++ t) q x) :
    Calls Try.prog 29 #[.pointer (some ⟨g, 0, none⟩)] W fun e w' => e = .returned (.bool is) ∧ CpyC w' q x ∧ Hid (RKq base w0 w' g t q x) := by
  have hr : rdN (natB (if is then 1 else 0) ++ t) false 1 = (if is then 1 else 0, t, false) := by unfold rdN; rw [readNat_natB t (by split <;> omega) (by split <;> omega)]
  refine (rFlag_c g _ false W h.2.2.2.1 _ t false hr).mono fun e w' hh => ?_
  have hk := h.tch hh.2.1 hh.2.2
  exact ⟨by rw [hh.1]; cases is <;> rfl, hk.2.2.2.2.1.all, hk⟩
theorem rkq_text {base g q : Nat} {s : ByteArray} {w0 W : World} {t : List UInt8} {x : Itm} (h : RKq base w0 W g (natB s.size ++ (s.data.toList ++ t)) q x) (hs : s.size ≤ 1000) (hl : t.length ≤ 1000000) :
    Calls Try.prog 31 #[.pointer (some ⟨g, 0, none⟩), .int .i64 (s.size : Int)] W fun e w' => e = .returned (.string s) ∧ CpyC w' q x ∧ Hid (RKq base w0 w' g t q x) := by
  have e1 : s.data.toList.length = s.size := rfl
  have hr : rdT (natB s.size ++ (s.data.toList ++ t)) false (s.size : Int) = (s.data.toList, t, false) := by
    have hN : rdN (natB s.size ++ (s.data.toList ++ t)) false s.size = (s.size, s.data.toList ++ t, false) := by unfold rdN; rw [readNat_natB _ (by omega) (Nat.le_refl _)]
    unfold rdT
    rw [if_neg (by omega), Int.toNat_natCast, hN]
    simp only
    rw [if_neg (by rw [List.length_append]; omega), List.take_left' e1, List.drop_left' e1]
  have h10 := natB_len10 (n := s.size) (by omega)
  refine (rText_c g _ false (s.size : Int) W h.2.2.2.1 (by omega) (by omega) (by simp only [List.length_append]; omega) _ t false hr).mono fun e w' hh => ?_
  have hk := h.tch hh.2.1 hh.2.2
  exact ⟨by rw [hh.1], hk.2.2.2.2.1.all, hk⟩
end Go.Proofs.Ytoechhbdpkjppaa
