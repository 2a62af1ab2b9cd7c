/- codec: bytes are read by the reader, and by the reference beside it. -/
import Derived.Test.YtoechhbdpkjppaaRefS
import Derived.Test.YtoechhbdpkjppaaBack2
namespace Go.Proofs.Ytoechhbdpkjppaa
open Go.RowKit

theorem RR.lt {w : World} {bs q : Nat} {l : List UInt8} {bd : Bool} (h : RR w bs q l bd) : q < w.heap.size := by
  obtain ⟨A, n, c, h⟩ := h; exact blk_lt h.1
theorem RR.fr {S : Nat → Prop} {w w' : World} {bs q : Nat} {l : List UInt8} {bd : Bool} (h : RR w bs q l bd) (hf : Fr S w w') (hq : ¬ S q) (hs : ∀ k, S k → bs ≤ k) : RR w' bs q l bd := by
  obtain ⟨A, n, c, h1, h2, h3, h4, h5, h6⟩ := h
  exact ⟨A, n, c, hf.blk h1 hq, h2.fr0 hf (fun a e h0 hS => by have := hs _ hS; have := h6 a e (by omega); omega), h3, h4, h5, h6⟩

/-- Both readers. -/
def PR (base : Nat) (w0 w : World) (g : Nat) (lg : List UInt8) (bg : Bool) (q : Nat) (lq : List UInt8) (bq : Bool) : Prop :=
  Below base w0 w ∧ base ≤ w.heap.size ∧ base ≤ g ∧ base ≤ q ∧ g ≠ q ∧ RB w g lg bg ∧ RR w base q lq bq
/-- .. and an item's copy. -/
def PC (base : Nat) (w0 w : World) (g : Nat) (lg : List UInt8) (bg : Bool) (q : Nat) (lq : List UInt8) (bq : Bool) (p : Nat) (x : Itm) : Prop :=
  PR base w0 w g lg bg q lq bq ∧ Cpy w p x ∧ p ≠ g ∧ p ≠ q
def CpyR (w : World) (p : Nat) (x : Itm) : Prop := w.cell? ⟨p, 1, none⟩ = some (.int .u64 x.n) ∧ w.cell? ⟨p, 5, none⟩ = some (.int .i64 x.m)

section
variable {base g q p : Nat} {w0 w w' : World} {lg lq t : List UInt8} {bg bq b : Bool} {x : Itm}
theorem PC.all (h : PC base w0 w g lg bg q lq bq p x) : CpyR w p x := ⟨h.2.1.c1, h.2.1.c5⟩
theorem PR.below (h : PR base w0 w g lg bg q lq bq) (hb : Below w.heap.size w w') : PR base w0 w' g lg bg q lq bq := by
  obtain ⟨h1, h2, h3, h4, h5, h6, h7⟩ := h
  exact ⟨h1.trans (hb.mono h2), Nat.le_trans h2 hb.size, h3, h4, h5, (hb.block g h6.lt).trans h6, h7.fr (S := fun _ => False) (Fr.of_below hb) (fun h => h) (fun _ h => h.elim)⟩
theorem PC.drew (h : PC base w0 w g lg bg q lq bq p x) : PC base w0 w.drew g lg bg q lq bq p x := ⟨h.1.below (Below.refl _ _).drew, h.2⟩
theorem PR.drew (h : PR base w0 w g lg bg q lq bq) : PR base w0 w.drew g lg bg q lq bq := h.below (Below.refl _ _).drew
theorem PR.copy (h : PR base w0 w g lg bg q lq bq) (x : Itm) : PC base w0 (w.alloc (.cells #[.int .i64 x.k, .int .u64 x.n, .int .i64 x.i, .bool x.is, .string x.s, .int .i64 x.m] 31)) g lg bg q lq bq w.heap.size x :=
  ⟨h.below ((Below.refl _ _).alloc (Nat.le_refl _) _), heap_alloc_new w _, by have := h.2.2.2.2.2.1.lt; omega, by have := h.2.2.2.2.2.2.lt; omega⟩
theorem PC.tg (h : PC base w0 w g lg bg q lq bq p x) (hT : Tch g w w') (hR : RB w' g t b) : PC base w0 w' g t b q lq bq p x := by
  obtain ⟨⟨h1, h2, h3, h4, h5, h6, h7⟩, h8, h9, h10⟩ := h
  exact ⟨⟨h1.trans (hT.below h3 h2), Nat.le_trans h2 hT.size, h3, h4, h5, hR, h7.fr (Fr.tch hT) (fun e => h5 e.symm) (fun k hk => by rw [hk]; exact h3)⟩, hT.blk h8 h9, h9, h10⟩
theorem PC.tq (h : PC base w0 w g lg bg q lq bq p x) (hT : Tch q w w') (hR : RR w' base q t b) : PC base w0 w' g lg bg q t b p x := by
  obtain ⟨⟨h1, h2, h3, h4, h5, h6, h7⟩, h8, h9, h10⟩ := h
  exact ⟨⟨h1.trans (hT.below h4 h2), Nat.le_trans h2 hT.size, h3, h4, h5, hT.blk h6 h5, hR⟩, hT.blk h8 h10, h9, h10⟩
theorem pc_g {f : FuncId} {args : Array Value} {v : Value} (h : PC base w0 w g lg bg q lq bq p x) (hc : Calls Try.prog f args w fun e w' => e = .returned v ∧ Tch g w w' ∧ RB w' g t b) :
    Calls Try.prog f args w fun e w' => e = .returned v ∧ CpyR w' p x ∧ Hid (PC base w0 w' g t b q lq bq p x) :=
  hc.mono fun _ _ hh => ⟨hh.1, (h.tg hh.2.1 hh.2.2).all, h.tg hh.2.1 hh.2.2⟩
theorem pc_q {f : FuncId} {args : Array Value} {v : Value} (h : PC base w0 w g lg bg q lq bq p x) (hc : Calls Try.prog f args w fun e w' => e = .returned v ∧ Hid (Tch q w w' ∧ RR w' base q t b)) :
    Calls Try.prog f args w fun e w' => e = .returned v ∧ CpyR w' p x ∧ Hid (PC base w0 w' g lg bg q t b p x) :=
  hc.mono fun _ _ hh => ⟨hh.1, (h.tq hh.2.out.1 hh.2.out.2).all, h.tq hh.2.out.1 hh.2.out.2⟩

/-- What the law compares behind each call. -/
def SameC (w : World) (g q N : Nat) (bd : Bool) (v : Int) : Prop :=
  (Calls Try.prog 35 #[.pointer (some ⟨g, 0, none⟩)] w fun e w' => e = .returned (.int .i64 (N : Int)) ∧ w = w') ∧
  (Calls Try.prog 36 #[.pointer (some ⟨g, 0, none⟩)] w fun e w' => e = .returned (.bool bd) ∧ w = w') ∧
  (Calls Try.prog 37 #[.pointer (some ⟨g, 0, none⟩)] w fun e w' => e = .returned (.int .i64 v) ∧ w = w') ∧
  (Calls Try.prog 38 #[.pointer (some ⟨q, 0, none⟩)] w fun e w' => e = .returned (.int .i64 v) ∧ w = w')
theorem PR.same (h : PR base w0 w g t b q t b) : ∃ (A : Option Addr) (N c : Nat), w.cell? ⟨q, 0, none⟩ = some (.slice A N c) ∧ w.cell? ⟨q, 1, none⟩ = some (.bool b) ∧ Hid (SameC w g q N b (endE t b)) := by
  obtain ⟨h1, h2, h3, h4, h5, h6, h7⟩ := h
  obtain ⟨A, N, c, hr⟩ := h7
  refine ⟨A, N, c, by rw [cell_of_row _ _ _ _ _ _ hr.1]; rfl, by rw [cell_of_row _ _ _ _ _ _ hr.1]; rfl, ?_⟩
  have := Left_c g t b w h6
  rw [hr.2.1.1] at this
  exact ⟨this, Bad_c g t b w h6, End_c g t b w h6, qEnd_c base q t b w ⟨A, N, c, hr⟩⟩
theorem pcg_nat {most n : Nat} (h : PC base w0 w g lg bg q lq bq p x) (hr : rdN lg bg most = (n, t, b)) :
    Calls Try.prog 25 #[.pointer (some ⟨g, 0, none⟩), .int .u64 (most : Int)] w fun e w' => e = .returned (.int .u64 (n : Int)) ∧ CpyR w' p x ∧ Hid (PC base w0 w' g t b q lq bq p x) :=
  pc_g h (rNat_c g lg bg most w h.1.2.2.2.2.2.1 n t b hr)
theorem pcq_nat {most n : Nat} (h : PC base w0 w g lg bg q lq bq p x) (hr : rdN lq bq most = (n, t, b)) :
    Calls Try.prog 26 #[.pointer (some ⟨q, 0, none⟩), .int .u64 (most : Int)] w fun e w' => e = .returned (.int .u64 (n : Int)) ∧ CpyR w' p x ∧ Hid (PC base w0 w' g lg bg q t b p x) :=
  pc_q h (qNat_c base q lq bq most w h.1.2.2.2.2.2.2 n t b hr)
theorem pcg_int {n : Nat} (h : PC base w0 w g lg bg q lq bq p x) (hr : rdN lg bg 18446744073709551615 = (n, t, b)) :
    Calls Try.prog 27 #[.pointer (some ⟨g, 0, none⟩)] w fun e w' => e = .returned (.int .i64 (zz n)) ∧ CpyR w' p x ∧ Hid (PC base w0 w' g t b q lq bq p x) :=
  pc_g h (rInt_c g lg bg w h.1.2.2.2.2.2.1 n t b hr)
theorem pcq_int {n : Nat} (h : PC base w0 w g lg bg q lq bq p x) (hr : rdN lq bq 18446744073709551615 = (n, t, b)) :
    Calls Try.prog 28 #[.pointer (some ⟨q, 0, none⟩)] w fun e w' => e = .returned (.int .i64 (zz n)) ∧ CpyR w' p x ∧ Hid (PC base w0 w' g lg bg q t b p x) :=
  pc_q h (qInt_c base q lq bq w h.1.2.2.2.2.2.2 n t b hr)
theorem pcg_flag {n : Nat} (h : PC base w0 w g lg bg q lq bq p x) (hr : rdN lg bg 1 = (n, t, b)) :
    Calls Try.prog 29 #[.pointer (some ⟨g, 0, none⟩)] w fun e w' => e = .returned (.bool ((n : Int) == 1)) ∧ CpyR w' p x ∧ Hid (PC base w0 w' g t b q lq bq p x) :=
  pc_g h (rFlag_c g lg bg w h.1.2.2.2.2.2.1 n t b hr)
theorem pcq_flag {n : Nat} (h : PC base w0 w g lg bg q lq bq p x) (hr : rdN lq bq 1 = (n, t, b)) :
    Calls Try.prog 30 #[.pointer (some ⟨q, 0, none⟩)] w fun e w' => e = .returned (.bool ((n : Int) == 1)) ∧ CpyR w' p x ∧ Hid (PC base w0 w' g lg bg q t b p x) :=
  pc_q h (qFlag_c base q lq bq w h.1.2.2.2.2.2.2 n t b hr)
theorem pcg_text {m : Int} {s : List UInt8} (h : PC base w0 w g lg bg q lq bq p x) (h0 : -9223372036854775808 ≤ m) (hm : m ≤ 9223372036854775807) (hl : lg.length ≤ 9223372036854775807) (hr : rdT lg bg m = (s, t, b)) :
    Calls Try.prog 31 #[.pointer (some ⟨g, 0, none⟩), .int .i64 m] w fun e w' => e = .returned (Str s) ∧ CpyR w' p x ∧ Hid (PC base w0 w' g t b q lq bq p x) :=
  pc_g h (rText_c g lg bg m w h.1.2.2.2.2.2.1 h0 hm hl s t b hr)
theorem pcq_text {m : Int} {s : List UInt8} (h : PC base w0 w g lg bg q lq bq p x) (hm : m ≤ 9223372036854775807) (hr : rdT lq bq m = (s, t, b)) :
    Calls Try.prog 32 #[.pointer (some ⟨q, 0, none⟩), .int .i64 m] w fun e w' => e = .returned (Str s) ∧ CpyR w' p x ∧ Hid (PC base w0 w' g lg bg q t b p x) :=
  pc_q h (qText_c base q lq bq m w h.1.2.2.2.2.2.2 hm s t b hr)
theorem pcg_fail (h : PC base w0 w g lg bg q lq bq p x) :
    Calls Try.prog 33 #[.pointer (some ⟨g, 0, none⟩)] w fun e w' => e = .returned (.tuple #[]) ∧ CpyR w' p x ∧ Hid (PC base w0 w' g [] true q lq bq p x) :=
  pc_g h (Fail_c g lg bg w h.1.2.2.2.2.2.1)
theorem pcq_fail (h : PC base w0 w g lg bg q lq bq p x) :
    Calls Try.prog 34 #[.pointer (some ⟨q, 0, none⟩)] w fun e w' => e = .returned (.tuple #[]) ∧ CpyR w' p x ∧ Hid (PC base w0 w' g lg bg q [] true p x) :=
  pc_q h (qFail_c base q lq bq w h.1.2.2.2.2.2.2)
theorem rdT_bound (l : List UInt8) (bd : Bool) (most : Int) : (rdT l bd most).2.1.length ≤ l.length := by
  unfold rdT
  have := (rdN_bound l bd most.toNat).2.2
  split
  · simp
  · split
    · simp
    · simp only [List.length_drop]; omega
end
end Go.Proofs.Ytoechhbdpkjppaa
