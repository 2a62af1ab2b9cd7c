/- The reference's Read of events. (Out of XObQ.) -/
import Derived.Test.YtfglncbgifiigaaEvB
import Derived.Test.YtfglncbgifiigaaEvS
namespace Go.Proofs.Ytfglncbgifiigaa
open Go.RowKit Go.Sort Go.Lib
set_option linter.unusedVariables false

theorem rr_fr {S : Nat → Prop} {w w' : World} {bs q : Nat} {l : List UInt8} {bd : Bool} (h : Co.RR w bs q l bd) (hf : Fr S w w') (hq : ¬ S q) (hs : ∀ k, S k → bs ≤ k) : Co.RR w' bs q l bd := by
  obtain ⟨A, n, c, h0, h1, h2, h3, h4, h5⟩ := h
  have hf' : Co.Fr S w w' := ⟨hf.os, hf.tape, hf.output, hf.size, hf.block⟩
  refine ⟨A, n, c, hf.blk h0 hq, ?_, h2, h3, h4, h5⟩
  refine Co.SlB.fr0 h1 hf' (fun a e hn hS => ?_)
  have := h5 a e (by omega)
  have := hs _ hS
  omega
theorem rr_lt {w : World} {bs q : Nat} {l : List UInt8} {bd : Bool} (h : Co.RR w bs q l bd) : bs ≤ q ∧ q < w.heap.size := by
  obtain ⟨A, n, c, h0, _, _, _, h4, _⟩ := h
  exact ⟨h4, blk_lt h0⟩
theorem rr_below {w w' : World} {bs q : Nat} {l : List UInt8} {bd : Bool} (h : Co.RR w bs q l bd) (hb : Below w.heap.size w w') : Co.RR w' bs q l bd := rr_fr (S := fun _ => False) h (Fr.of_below hb) (fun h => h) (fun _ h => h.elim)
theorem rr_wan {w : World} {bs q : Nat} {l : List UInt8} {bd : Bool} (h : Co.RR w bs q l bd) : w.cell? ⟨q, 1, none⟩ = some (.bool bd) := by
  obtain ⟨A, n, c, h0, _⟩ := h
  rw [cell_of_row _ _ _ _ _ _ h0]; rfl
theorem kds_snoc (L : List Ev) (x : Ev) : kdsOk (L ++ [x]) = (kdsOk L && kdOk x) := by simp [kdsOk]
theorem rdEs_one (k : Nat) (l : List UInt8) (bd : Bool) : (rdEs (k + 1) l bd).1 = (rdEs k l bd).1 ++ [(rdE (rdEs k l bd).2.1 (rdEs k l bd).2.2).1] := by rw [rdEs]
/-- What the reference's Read tells. -/
def QReadIs (w : World) (bs q : Nat) (r : Bool × List Ev × List UInt8 × Bool) (e : Ending) (w' : World) : Prop :=
  ∃ A c, e = .returned (.tuple #[.slice A r.2.1.length c, .bool r.1]) ∧ Hid (Evs w' A r.2.1.length r.2.1 ∧ CapOk A r.2.1.length c ∧ Co.Tch q w w' ∧ Co.RR w' bs q r.2.2.1 r.2.2.2)
theorem qreadIs_no {w w' : World} {bs q : Nat} (ht : Co.Tch q w w') (hr : Co.RR w' bs q [] true) : QReadIs w bs q (false, [], [], true) (.returned (.tuple #[.slice none 0 0, .bool false])) w' :=
  ⟨none, 0, rfl, ⟨rfl, by decide, by simp, .inl rfl⟩, ⟨Nat.le_refl _, fun _ => rfl⟩, ht, hr⟩
/-- The reader, with an order that is being read in block p. -/
def Qx (w0 w : World) (bs q p : Nat) (l : List UInt8) (b : Bool) (x : Ev) : Prop := Co.Tch q w0 w ∧ w0.heap.size ≤ p ∧ Co.RR w bs q l b ∧ w.heap[p]? = some (.cells (EC x) 51 (0, 0))
theorem qx_new {w0 w : World} {bs q : Nat} {l : List UInt8} {b : Bool} (ht : Co.Tch q w0 w) (h : Co.RR w bs q l b) : Qx w0 (w.alloc (.cells (EC ⟨0, 0, 0, 0, 0, 0, 0, 0, 0, 0, 0, 0⟩) 51)) bs q w.heap.size l b ⟨0, 0, 0, 0, 0, 0, 0, 0, 0, 0, 0, 0⟩ :=
  ⟨ht.alloc _, ht.size, rr_below h ((Below.refl _ _).alloc (Nat.le_refl _) _), heap_alloc_new w _⟩
theorem qx_call {w0 w w' : World} {bs q p : Nat} {l t : List UInt8} {b b' : Bool} {x : Ev} (h : Qx w0 w bs q p l b x) (hq : q < w0.heap.size) (ht : Co.Tch q w w') (hr : Co.RR w' bs q t b') : Qx w0 w' bs q p t b' x :=
  ⟨h.1.trans ht, h.2.1, hr, (Fr.tch ht).blk h.2.2.2 (by have := h.2.1; omega)⟩
theorem qx_set {w0 w : World} {bs q p k : Nat} {l : List UInt8} {b : Bool} {x x' : Ev} {v : Value} (h : Qx w0 w bs q p l b x) (hq : q < w0.heap.size) (hs : (EC x).setIfInBounds k v = EC x') : Qx w0 (w.setCell ⟨p, k, none⟩ v) bs q p l b x' := by
  have hp := h.2.1
  have hlt := (rr_lt h.2.2.1).1
  refine ⟨?_, hp, rr_fr (S := (· = p)) h.2.2.1 (Fr.set (S := (· = p)) (Fr.refl _ _) (p := ⟨p, k, none⟩) (.inl rfl) v) (by omega) (fun j hj => by omega), by rw [heap_set h.2.2.2, hs]⟩
  have t : w0.grownBy w (some q) := h.1
  have f : Fr (· = q) w0 (w.setCell ⟨p, k, none⟩ v) := Fr.set (Fr.tch h.1) (p := ⟨p, k, none⟩) (.inr hp) v
  exact (show w0.grownBy _ (some q) from ⟨f.os, f.tape, f.output, f.size, fun j hj hn => f.block j hj (fun e => hn (by rw [e]))⟩)
theorem qx_grown {q bs p : Nat} {w w2 w3 : World} {o : Obj} {v : Value} {l : List UInt8} {b : Bool} {x : Ev} (h : Qx w w2 bs q p l b x) (hq : q < w.heap.size) (hbs : bs ≤ w.heap.size) (hv : ∀ k, v.ownBlock = some k → w.heap.size ≤ k ∧ k < w2.heap.size) (hg3 : (w2.alloc o).grownBy w3 v.ownBlock) : Co.Tch q w w3 ∧ Co.RR w3 bs q l b := by
  have a : Co.Tch q w (w2.alloc o) := h.1.alloc o
  have f := (Fr.tch a).grown hg3 (fun j hj => .inr (hv j hj).1)
  refine ⟨(show w.grownBy w3 (some q) from ⟨f.os, f.tape, f.output, f.size, fun k hk hn => f.block k hk (fun e => hn (by rw [e]))⟩), ?_⟩
  have f2 : Fr (fun k => v.ownBlock = some k) w2 w3 := ((Fr.refl _ w2).alloc o).grown hg3 (fun j hj => .inl hj)
  exact rr_fr h.2.2.1 f2 (fun e => by have := (hv q e).1; omega) (fun k hk => by have := (hv k hk).1; omega)
theorem qx_c {w0 w : World} {bs q p : Nat} {l : List UInt8} {b : Bool} {x : Ev} (h : Qx w0 w bs q p l b x) (k : Nat) (v : Value) (hv : (EC x)[k]? = some v) : w.cell? ⟨p, k, none⟩ = some v := by
  rw [cell_of_row _ _ _ _ _ _ h.2.2.2, hv]
theorem qx_f {w0 w : World} {bs q p : Nat} {l : List UInt8} {b : Bool} {x : Ev} (h : Qx w0 w bs q p l b x) (k : Nat) : w.frozen? ⟨p, k, none⟩ = false := frozen_of_row _ _ _ _ _ h.2.2.2
theorem own_set {w : World} {base n size p k : Nat} {e : TypeId} {v u : Value} {xs : List Value} (h : w.ownsRow base e size v n xs) (hn : ∀ j, v.ownBlock = some j → j ≠ p) : (w.setCell ⟨p, k, none⟩ u).ownsRow base e size v n xs :=
  own_fr (S := (· = p)) h (Fr.set (S := (· = p)) (Fr.refl _ _) (p := ⟨p, k, none⟩) (.inl rfl) u) hn
set_option maxHeartbeats 4000000 in
set_option maxRecDepth 100000 in
theorem qread_c (bs q : Nat) (l : List UInt8) (bd : Bool) (w : World) (h : Co.RR w bs q l bd) : Calls Try.prog 16 #[.pointer (some ⟨q, 0, none⟩)] w (QReadIs w bs q (rdAllE l bd)) := by
  have mixed : Try.prog.follows .mixedOrders = true := by kernel_rfl
  obtain ⟨i0, hi0, hz0, hz1, hz2⟩ := info_parts info_ev
  obtain ⟨⟨m, l1, b1⟩, r0⟩ : ∃ q, Co.rdN l bd 256 = q := ⟨_, rfl⟩
  have hm : m ≤ 256 := by have := (Co.rdN_bound l bd 256).1; rw [r0] at this; exact this
  have HG := Lib.hid (rr_lt h)
  have h1 := Co.qNat_c bs q l bd 256 w h m l1 b1 r0
  rw [show ((256 : Nat) : Int) = 256 from rfl] at h1
  have H1 := Lib.hid h1
  have R0 := Lib.hid r0
  have HN : Hid (∀ (W : World) (l : List UInt8) (b : Bool) (h : Co.RR W bs q l b) (n : Nat) (t : List UInt8) (b' : Bool), Co.rdN l b big = (n, t, b') → Calls Try.prog 30 #[.pointer (some ⟨q, 0, none⟩), .int .u64 18446744073709551615] W fun e w' => e = .returned (.int .u64 (n : Int)) ∧ Hid (Co.Tch q W w' ∧ Co.RR w' bs q t b')) := Lib.hid (fun W l b h n t b' hr => Co.qNat_c bs q l b big W h n t b' hr)
  have HI : Hid (∀ (W : World) (l : List UInt8) (b : Bool) (h : Co.RR W bs q l b) (n : Nat) (t : List UInt8) (b' : Bool), Co.rdN l b big = (n, t, b') → Calls Try.prog 31 #[.pointer (some ⟨q, 0, none⟩)] W fun e w' => e = .returned (.int .i64 (Co.zz n)) ∧ Hid (Co.Tch q W w' ∧ Co.RR w' bs q t b')) := Lib.hid (fun W l b h n t b' hr => Co.qInt_c bs q l b W h n t b' hr)
  clear h1 h r0
  go_enter Try.func16, Try.ntmps16
  go_wp2_with fail
  refine H1.out.mono ?_
  rintro e w1 ⟨rfl, h1⟩
  have T1 : Hid (Co.Tch q w w1 ∧ Co.RR w1 bs q l1 b1) := h1
  clear h1 H1
  go_wp2_with fail
  go_loopg [5, 6, 8] m (fun kx v gg s8 wr => ∃ j : Nat, gg = .bool (kdsOk (rdEs j l1 b1).1) ∧ s8 = .int .u64 j ∧ j ≤ m ∧ m - j ≤ kx ∧ wr.ownsRow w.heap.size 51 12 v j (vl (rdEs j l1 b1).1) ∧ Hid (Co.Tch q w wr ∧ Co.RR wr bs q (rdEs j l1 b1).2.1 (rdEs j l1 b1).2.2))
  case atStart => exact ⟨0, rfl, rfl, by omega, by omega, World.ownsRow_nil _ _ _ _, T1⟩
  case round =>
    clear T1
    obtain ⟨j, rfl, rfl, hj, hkx, hown, hT⟩ := hrel
    by_cases hlt : j < m
    · have hltz : (j : Int) < (m : Int) := by omega
      have HO := Lib.hid (vl_rd j l1 b1)
      obtain ⟨t0, ht0⟩ : ∃ t, (rdEs j l1 b1).2.1 = t := ⟨_, rfl⟩
      obtain ⟨c0, hc0⟩ : ∃ c, (rdEs j l1 b1).2.2 = c := ⟨_, rfl⟩
      obtain ⟨⟨n1, t1, c1⟩, r1⟩ : ∃ q, Co.rdN t0 c0 big = q := ⟨_, rfl⟩
      obtain ⟨⟨n2, t2, c2⟩, r2⟩ : ∃ q, Co.rdN t1 c1 big = q := ⟨_, rfl⟩
      obtain ⟨⟨n3, t3, c3⟩, r3⟩ : ∃ q, Co.rdN t2 c2 big = q := ⟨_, rfl⟩
      obtain ⟨⟨n4, t4, c4⟩, r4⟩ : ∃ q, Co.rdN t3 c3 big = q := ⟨_, rfl⟩
      obtain ⟨⟨n5, t5, c5⟩, r5⟩ : ∃ q, Co.rdN t4 c4 big = q := ⟨_, rfl⟩
      obtain ⟨⟨n6, t6, c6⟩, r6⟩ : ∃ q, Co.rdN t5 c5 big = q := ⟨_, rfl⟩
      obtain ⟨⟨n7, t7, c7⟩, r7⟩ : ∃ q, Co.rdN t6 c6 big = q := ⟨_, rfl⟩
      obtain ⟨⟨n8, t8, c8⟩, r8⟩ : ∃ q, Co.rdN t7 c7 big = q := ⟨_, rfl⟩
      obtain ⟨⟨n9, t9, c9⟩, r9⟩ : ∃ q, Co.rdN t8 c8 big = q := ⟨_, rfl⟩
      obtain ⟨⟨n10, t10, c10⟩, r10⟩ : ∃ q, Co.rdN t9 c9 big = q := ⟨_, rfl⟩
      obtain ⟨⟨n11, t11, c11⟩, r11⟩ : ∃ q, Co.rdN t10 c10 big = q := ⟨_, rfl⟩
      obtain ⟨⟨n12, t12, c12⟩, r12⟩ : ∃ q, Co.rdN t11 c11 big = q := ⟨_, rfl⟩
      have ER : rdE (rdEs j l1 b1).2.1 (rdEs j l1 b1).2.2 = (⟨Co.zz n1, Co.zz n2, (n3 : Int), (n4 : Int), Co.zz n5, Co.zz n6, Co.zz n7, Co.zz n8, Co.zz n9, Co.zz n10, Co.zz n11, (n12 : Int)⟩, t12, c12) := by
        rw [ht0, hc0]
        unfold rdE
        simp only [r1, r2, r3, r4, r5, r6, r7, r8, r9, r10, r11, r12]
      have E6 : Hid ((rdEs (j + 1) l1 b1).2 = (t12, c12)) := Lib.hid (by rw [rdEs_two, ER])
      have E7 : Hid (kdsOk (rdEs (j + 1) l1 b1).1 = (kdsOk (rdEs j l1 b1).1 && (decide (1 ≤ Co.zz n1) && decide (Co.zz n1 ≤ 15)))) := Lib.hid (by rw [rdEs_one, kds_snoc, ER]; rfl)
      rw [ER] at HO
      rw [ht0, hc0] at hT
      have R1 := Lib.hid r1
      have R2 := Lib.hid r2
      have R3 := Lib.hid r3
      have R4 := Lib.hid r4
      have R5 := Lib.hid r5
      have R6 := Lib.hid r6
      have R7 := Lib.hid r7
      have R8 := Lib.hid r8
      have R9 := Lib.hid r9
      have R10 := Lib.hid r10
      have R11 := Lib.hid r11
      have R12 := Lib.hid r12
      clear r1 r2 r3 r4 r5 r6 r7 r8 r9 r10 r11 r12 ER ht0 hc0
      obtain ⟨gd, hgd⟩ : ∃ gd, kdsOk (rdEs j l1 b1).1 = gd := ⟨_, rfl⟩
      rw [hgd] at E7 ⊢
      clear hgd
      have Q0 := Lib.hid (qx_new hT.out.1 hT.out.2)
      have HP : Hid (∀ k, u5.ownBlock = some k → k ≠ wr.heap.size) := Lib.hid (fun k hk => by have := (own_lt hown k hk).2; omega)
      have ow : (wr.alloc (.cells (EC ⟨0, 0, 0, 0, 0, 0, 0, 0, 0, 0, 0, 0⟩) 51)).ownsRow w.heap.size 51 12 u5 j (vl (rdEs j l1 b1).1) := hown.alloc _
      clear hown hT
      have HC := Lib.hid (HI.out _ _ _ Q0.out.2.2.1 _ _ _ R1.out)
      go_wp2_with fail
      refine HC.out.mono ?_
      rintro e y1 ⟨rfl, h⟩
      have P1 := Lib.hid (qx_call Q0.out HG.out.2 h.out.1 h.out.2)
      have f1 := qx_f P1.out 0
      have g1 := qx_c P1.out 0 (.int .i64 0) rfl
      have Q1 := Lib.hid (qx_set (k := 0) (x' := ⟨Co.zz n1, 0, 0, 0, 0, 0, 0, 0, 0, 0, 0, 0⟩) (v := .int .i64 (Co.zz n1)) P1.out HG.out.2 rfl)
      replace ow := own_set (p := wr.heap.size) (k := 0) (u := .int .i64 (Co.zz n1)) (own_tch ow h.out.1 HG.out.2) HP.out
      clear HC h Q0 P1
      have HC := Lib.hid (HI.out _ _ _ Q1.out.2.2.1 _ _ _ R2.out)
      go_wp2_with fail
      refine HC.out.mono ?_
      rintro e y2 ⟨rfl, h⟩
      have P2 := Lib.hid (qx_call Q1.out HG.out.2 h.out.1 h.out.2)
      have f2 := qx_f P2.out 1
      have g2 := qx_c P2.out 1 (.int .i64 0) rfl
      have Q2 := Lib.hid (qx_set (k := 1) (x' := ⟨Co.zz n1, Co.zz n2, 0, 0, 0, 0, 0, 0, 0, 0, 0, 0⟩) (v := .int .i64 (Co.zz n2)) P2.out HG.out.2 rfl)
      replace ow := own_set (p := wr.heap.size) (k := 1) (u := .int .i64 (Co.zz n2)) (own_tch ow h.out.1 HG.out.2) HP.out
      clear HC h Q1 P2 f1 g1
      have HC := Lib.hid (HN.out _ _ _ Q2.out.2.2.1 _ _ _ R3.out)
      go_wp2_with fail
      refine HC.out.mono ?_
      rintro e y3 ⟨rfl, h⟩
      have P3 := Lib.hid (qx_call Q2.out HG.out.2 h.out.1 h.out.2)
      have f3 := qx_f P3.out 2
      have g3 := qx_c P3.out 2 (.int .u64 0) rfl
      have Q3 := Lib.hid (qx_set (k := 2) (x' := ⟨Co.zz n1, Co.zz n2, (n3 : Int), 0, 0, 0, 0, 0, 0, 0, 0, 0⟩) (v := .int .u64 ((n3 : Int))) P3.out HG.out.2 rfl)
      replace ow := own_set (p := wr.heap.size) (k := 2) (u := .int .u64 ((n3 : Int))) (own_tch ow h.out.1 HG.out.2) HP.out
      clear HC h Q2 P3 f2 g2
      have HC := Lib.hid (HN.out _ _ _ Q3.out.2.2.1 _ _ _ R4.out)
      go_wp2_with fail
      refine HC.out.mono ?_
      rintro e y4 ⟨rfl, h⟩
      have P4 := Lib.hid (qx_call Q3.out HG.out.2 h.out.1 h.out.2)
      have f4 := qx_f P4.out 3
      have g4 := qx_c P4.out 3 (.int .u64 0) rfl
      have Q4 := Lib.hid (qx_set (k := 3) (x' := ⟨Co.zz n1, Co.zz n2, (n3 : Int), (n4 : Int), 0, 0, 0, 0, 0, 0, 0, 0⟩) (v := .int .u64 ((n4 : Int))) P4.out HG.out.2 rfl)
      replace ow := own_set (p := wr.heap.size) (k := 3) (u := .int .u64 ((n4 : Int))) (own_tch ow h.out.1 HG.out.2) HP.out
      clear HC h Q3 P4 f3 g3
      have HC := Lib.hid (HI.out _ _ _ Q4.out.2.2.1 _ _ _ R5.out)
      go_wp2_with fail
      refine HC.out.mono ?_
      rintro e y5 ⟨rfl, h⟩
      have P5 := Lib.hid (qx_call Q4.out HG.out.2 h.out.1 h.out.2)
      have f5 := qx_f P5.out 4
      have g5 := qx_c P5.out 4 (.int .i64 0) rfl
      have Q5 := Lib.hid (qx_set (k := 4) (x' := ⟨Co.zz n1, Co.zz n2, (n3 : Int), (n4 : Int), Co.zz n5, 0, 0, 0, 0, 0, 0, 0⟩) (v := .int .i64 (Co.zz n5)) P5.out HG.out.2 rfl)
      replace ow := own_set (p := wr.heap.size) (k := 4) (u := .int .i64 (Co.zz n5)) (own_tch ow h.out.1 HG.out.2) HP.out
      clear HC h Q4 P5 f4 g4
      have HC := Lib.hid (HI.out _ _ _ Q5.out.2.2.1 _ _ _ R6.out)
      go_wp2_with fail
      refine HC.out.mono ?_
      rintro e y6 ⟨rfl, h⟩
      have P6 := Lib.hid (qx_call Q5.out HG.out.2 h.out.1 h.out.2)
      have f6 := qx_f P6.out 5
      have g6 := qx_c P6.out 5 (.int .i64 0) rfl
      have Q6 := Lib.hid (qx_set (k := 5) (x' := ⟨Co.zz n1, Co.zz n2, (n3 : Int), (n4 : Int), Co.zz n5, Co.zz n6, 0, 0, 0, 0, 0, 0⟩) (v := .int .i64 (Co.zz n6)) P6.out HG.out.2 rfl)
      replace ow := own_set (p := wr.heap.size) (k := 5) (u := .int .i64 (Co.zz n6)) (own_tch ow h.out.1 HG.out.2) HP.out
      clear HC h Q5 P6 f5 g5
      have HC := Lib.hid (HI.out _ _ _ Q6.out.2.2.1 _ _ _ R7.out)
      go_wp2_with fail
      refine HC.out.mono ?_
      rintro e y7 ⟨rfl, h⟩
      have P7 := Lib.hid (qx_call Q6.out HG.out.2 h.out.1 h.out.2)
      have f7 := qx_f P7.out 6
      have g7 := qx_c P7.out 6 (.int .i64 0) rfl
      have Q7 := Lib.hid (qx_set (k := 6) (x' := ⟨Co.zz n1, Co.zz n2, (n3 : Int), (n4 : Int), Co.zz n5, Co.zz n6, Co.zz n7, 0, 0, 0, 0, 0⟩) (v := .int .i64 (Co.zz n7)) P7.out HG.out.2 rfl)
      replace ow := own_set (p := wr.heap.size) (k := 6) (u := .int .i64 (Co.zz n7)) (own_tch ow h.out.1 HG.out.2) HP.out
      clear HC h Q6 P7 f6 g6
      have HC := Lib.hid (HI.out _ _ _ Q7.out.2.2.1 _ _ _ R8.out)
      go_wp2_with fail
      refine HC.out.mono ?_
      rintro e y8 ⟨rfl, h⟩
      have P8 := Lib.hid (qx_call Q7.out HG.out.2 h.out.1 h.out.2)
      have f8 := qx_f P8.out 7
      have g8 := qx_c P8.out 7 (.int .i64 0) rfl
      have Q8 := Lib.hid (qx_set (k := 7) (x' := ⟨Co.zz n1, Co.zz n2, (n3 : Int), (n4 : Int), Co.zz n5, Co.zz n6, Co.zz n7, Co.zz n8, 0, 0, 0, 0⟩) (v := .int .i64 (Co.zz n8)) P8.out HG.out.2 rfl)
      replace ow := own_set (p := wr.heap.size) (k := 7) (u := .int .i64 (Co.zz n8)) (own_tch ow h.out.1 HG.out.2) HP.out
      clear HC h Q7 P8 f7 g7
      have HC := Lib.hid (HI.out _ _ _ Q8.out.2.2.1 _ _ _ R9.out)
      go_wp2_with fail
      refine HC.out.mono ?_
      rintro e y9 ⟨rfl, h⟩
      have P9 := Lib.hid (qx_call Q8.out HG.out.2 h.out.1 h.out.2)
      have f9 := qx_f P9.out 8
      have g9 := qx_c P9.out 8 (.int .i64 0) rfl
      have Q9 := Lib.hid (qx_set (k := 8) (x' := ⟨Co.zz n1, Co.zz n2, (n3 : Int), (n4 : Int), Co.zz n5, Co.zz n6, Co.zz n7, Co.zz n8, Co.zz n9, 0, 0, 0⟩) (v := .int .i64 (Co.zz n9)) P9.out HG.out.2 rfl)
      replace ow := own_set (p := wr.heap.size) (k := 8) (u := .int .i64 (Co.zz n9)) (own_tch ow h.out.1 HG.out.2) HP.out
      clear HC h Q8 P9 f8 g8
      have HC := Lib.hid (HI.out _ _ _ Q9.out.2.2.1 _ _ _ R10.out)
      go_wp2_with fail
      refine HC.out.mono ?_
      rintro e y10 ⟨rfl, h⟩
      have P10 := Lib.hid (qx_call Q9.out HG.out.2 h.out.1 h.out.2)
      have f10 := qx_f P10.out 9
      have g10 := qx_c P10.out 9 (.int .i64 0) rfl
      have Q10 := Lib.hid (qx_set (k := 9) (x' := ⟨Co.zz n1, Co.zz n2, (n3 : Int), (n4 : Int), Co.zz n5, Co.zz n6, Co.zz n7, Co.zz n8, Co.zz n9, Co.zz n10, 0, 0⟩) (v := .int .i64 (Co.zz n10)) P10.out HG.out.2 rfl)
      replace ow := own_set (p := wr.heap.size) (k := 9) (u := .int .i64 (Co.zz n10)) (own_tch ow h.out.1 HG.out.2) HP.out
      clear HC h Q9 P10 f9 g9
      have HC := Lib.hid (HI.out _ _ _ Q10.out.2.2.1 _ _ _ R11.out)
      go_wp2_with fail
      refine HC.out.mono ?_
      rintro e y11 ⟨rfl, h⟩
      have P11 := Lib.hid (qx_call Q10.out HG.out.2 h.out.1 h.out.2)
      have f11 := qx_f P11.out 10
      have g11 := qx_c P11.out 10 (.int .i64 0) rfl
      have Q11 := Lib.hid (qx_set (k := 10) (x' := ⟨Co.zz n1, Co.zz n2, (n3 : Int), (n4 : Int), Co.zz n5, Co.zz n6, Co.zz n7, Co.zz n8, Co.zz n9, Co.zz n10, Co.zz n11, 0⟩) (v := .int .i64 (Co.zz n11)) P11.out HG.out.2 rfl)
      replace ow := own_set (p := wr.heap.size) (k := 10) (u := .int .i64 (Co.zz n11)) (own_tch ow h.out.1 HG.out.2) HP.out
      clear HC h Q10 P11 f10 g10
      have HC := Lib.hid (HN.out _ _ _ Q11.out.2.2.1 _ _ _ R12.out)
      go_wp2_with fail
      refine HC.out.mono ?_
      rintro e y12 ⟨rfl, h⟩
      have P12 := Lib.hid (qx_call Q11.out HG.out.2 h.out.1 h.out.2)
      have f12 := qx_f P12.out 11
      have g12 := qx_c P12.out 11 (.int .u64 0) rfl
      have Q12 := Lib.hid (qx_set (k := 11) (x' := ⟨Co.zz n1, Co.zz n2, (n3 : Int), (n4 : Int), Co.zz n5, Co.zz n6, Co.zz n7, Co.zz n8, Co.zz n9, Co.zz n10, Co.zz n11, (n12 : Int)⟩) (v := .int .u64 ((n12 : Int))) P12.out HG.out.2 rfl)
      replace ow := own_set (p := wr.heap.size) (k := 11) (u := .int .u64 ((n12 : Int))) (own_tch ow h.out.1 HG.out.2) HP.out
      clear HC h Q11 P12 f11 g11
      have hr6 := Q12.out.2.2.2
      have ez : (y12.setCell ⟨wr.heap.size, 11, none⟩ (.int .u64 (n12 : Int))).heap.size = y12.heap.size := by simp [World.setCell]
      have hsz : w.heap.size ≤ y12.heap.size := by have := Q12.out.1.size; omega
      have EZ := Lib.hid ez
      clear ez
      go_wp2_with (first | ((with_reducible apply loadE); rfl; rfl; rfl; exact hr6; skip) | (at_builtin; refine wpList_append_own _ rfl _ _ 22 rfl w.heap.size 51 i0 (.agg (EC ⟨0, 0, 0, 0, 0, 0, 0, 0, 0, 0, 0, 0⟩)) 12 96 Try.underlying22 hi0 hz0 hz1 hz2 rfl (by decide) _ _ _ rfl (ow.alloc (Obj.cells (EC ⟨Co.zz n1, Co.zz n2, (n3 : Int), (n4 : Int), Co.zz n5, Co.zz n6, Co.zz n7, Co.zz n8, Co.zz n9, Co.zz n10, Co.zz n11, (n12 : Int)⟩) 51)) ⟨y12.heap.size, 0, none⟩ 1 1 (encE ⟨Co.zz n1, Co.zz n2, (n3 : Int), (n4 : Int), Co.zz n5, Co.zz n6, Co.zz n7, Co.zz n8, Co.zz n9, Co.zz n10, Co.zz n11, (n12 : Int)⟩) rfl rfl ?c1 ?c2 ?c3 ?c4 ?c5 ?_))
      case c1 => rw [← EZ.out]; exact news_E _ _
      case c2 => exact enc_oneE _
      case c3 => unfold maxLen; omega
      case c4 => omega
      case c5 => simp; omega
      intro v1 w3 hown3 hg3 _
      have hr7 : w3.heap[wr.heap.size]? = some (.cells (EC ⟨Co.zz n1, Co.zz n2, (n3 : Int), (n4 : Int), Co.zz n5, Co.zz n6, Co.zz n7, Co.zz n8, Co.zz n9, Co.zz n10, Co.zz n11, (n12 : Int)⟩) 51 (0, 0)) :=
        (World.grownBy.block hg3 _ (by have := blk_lt hr6; rw [World.size_alloc]; omega) (fun e => HP.out _ e.symm rfl)).trans (hd_prev (blk_lt hr6) hr6)
      have hT3 : Hid (Co.Tch q w w3 ∧ Co.RR w3 bs q (rdEs (j + 1) l1 b1).2.1 (rdEs (j + 1) l1 b1).2.2) := by
        show _ ∧ _
        rw [E6.out]
        exact qx_grown Q12.out HG.out.2 (by have := HG.out; omega) (own_lt ow) hg3
      rw [← HO.out] at hown3
      have cz : w3.cell? ⟨wr.heap.size, 0, none⟩ = some (.int .i64 (Co.zz n1)) := by rw [cell_of_row _ _ _ _ _ _ hr7]; rfl
      clear hg3 ow Q12 hr6 hr7 f12 g12 EZ HP E6 HO R1 R2 R3 R4 R5 R6 R7 R8 R9 R10 R11 R12
      generalize Co.zz n1 = z at cz E7
      obtain ⟨ge, hge⟩ : ∃ ge, decide (1 ≤ z) = ge := ⟨_, rfl⟩
      obtain ⟨le, hle⟩ : ∃ le, decide (z ≤ 15) = le := ⟨_, rfl⟩
      rw [hge, hle] at E7
      cases gd with
      | false =>
        rw [Bool.false_and] at E7
        go_wp2_with fail
        go_roundg (m - (j + 1))
        case measure => omega
        case rel => exact ⟨j + 1, by rw [E7.out], by go_num, by omega, by omega, hown3, hT3⟩
      | true =>
        rw [Bool.true_and] at E7
        cases ge with
        | false =>
          rw [Bool.false_and] at E7
          go_wp2_with fail
          go_roundg (m - (j + 1))
          case measure => omega
          case rel => exact ⟨j + 1, by rw [E7.out], by go_num, by omega, by omega, hown3, hT3⟩
        | true =>
          rw [Bool.true_and] at E7
          cases le with
          | false =>
            go_wp2_with fail
            go_roundg (m - (j + 1))
            case measure => omega
            case rel => exact ⟨j + 1, by rw [E7.out], by go_num, by omega, by omega, hown3, hT3⟩
          | true =>
            go_wp2_with fail
            go_roundg (m - (j + 1))
            case measure => omega
            case rel => exact ⟨j + 1, by rw [E7.out], by go_num, by omega, by omega, hown3, hT3⟩
    · have hltz : ¬ (j : Int) < (m : Int) := by omega
      obtain rfl : j = m := by omega
      have hlen := rdEs_len j l1 b1
      obtain ⟨A', c', rfl, hc, ht⟩ := own_evs hown (by omega) (fun x hx => rdEs_ok j l1 b1 _ x hx)
      have hwan := rr_wan hT.out.2
      have HF := Lib.hid (fun (W : World) (l : List UInt8) (b : Bool) (h : Co.RR W bs q l b) => Co.qFail_c bs q l b W h)
      have HX : Hid (Evs wr A' j (rdEs j l1 b1).1 ∧ CapOk A' j c' ∧ (rdEs j l1 b1).1.length = j) := ⟨ht, hc, hlen⟩
      clear hown ht hlen hc
      obtain ⟨p, hp⟩ : ∃ p, (rdEs j l1 b1).2.2 = p := ⟨_, rfl⟩
      obtain ⟨p2, hp2⟩ : ∃ p, kdsOk (rdEs j l1 b1).1 = p := ⟨_, rfl⟩
      rw [hp] at hwan
      rw [hp2]
      cases p with
      | true =>
        have E := Lib.hid (rdAll_1 R0.out (.inl hp))
        clear hp hp2
        have HFl := Lib.hid (HF.out wr _ _ hT.out.2)
        go_wp2_with fail
        refine HFl.out.mono ?_
        rintro e w3 ⟨rfl, h3⟩
        have HR := Lib.hid (qreadIs_no (hT.out.1.trans h3.out.1) h3.out.2)
        clear h3 HFl
        go_wp2_with fail
        refine bodyPost_ret (results_tmp2 rfl _ _ _) rfl ?_
        rw [E.out]
        exact HR.out
      | false =>
        have HQ := Lib.hid hp
        clear hp
        cases p2 with
        | true =>
          have E := Lib.hid (rdAll_2 R0.out HQ.out hp2)
          clear hp2
          go_wp2_with fail
          refine bodyPost_ret (results_tmp2 rfl _ _ _) rfl ?_
          rw [E.out]
          refine ⟨A', c', by rw [HX.out.2.2]; rfl, ?_⟩
          have e := HQ.out
          have t := hT.out.2
          rw [e] at t
          show _ ∧ _
          rw [HX.out.2.2]
          exact ⟨HX.out.1, HX.out.2.1, hT.out.1, t⟩
        | false =>
          have E := Lib.hid (rdAll_1 R0.out (.inr hp2))
          clear hp2
          have HFl := Lib.hid (HF.out wr _ _ hT.out.2)
          go_wp2_with fail
          refine HFl.out.mono ?_
          rintro e w4 ⟨rfl, h3⟩
          have HR := Lib.hid (qreadIs_no (hT.out.1.trans h3.out.1) h3.out.2)
          clear h3 HFl
          go_wp2_with fail
          refine bodyPost_ret (results_tmp2 rfl _ _ _) rfl ?_
          rw [E.out]
          exact HR.out
end Go.Proofs.Ytfglncbgifiigaa
