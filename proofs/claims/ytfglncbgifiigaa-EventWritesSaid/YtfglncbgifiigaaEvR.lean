/- event.Read. (By mkevr.py, out of XObM.) -/
import Derived.Test.YtfglncbgifiigaaEvN
namespace Go.Proofs.Ytfglncbgifiigaa
open Go.RowKit Go.Sort Go.Lib

/-- Events that were read from a reader, with what is left of it. -/
def ReadIs (w : World) (g : Nat) (r : Bool × List Ev × List UInt8 × Bool) (e : Ending) (w' : World) : Prop :=
  ∃ A c, e = .returned (.tuple #[.slice A r.2.1.length c, .bool r.1]) ∧ Hid (Evs w' A r.2.1.length r.2.1 ∧ CapOk A r.2.1.length c ∧ Co.Tch g w w' ∧ Co.RB w' g r.2.2.1 r.2.2.2 ∧ ∀ a, A = some a → w.heap.size ≤ a.block)
theorem tch_below {g : Nat} {w w' : World} (h : Below w.heap.size w w') : Co.Tch g w w' := (show w.grownBy w' (some g) from ⟨h.os, h.tape, h.output, h.size, fun k hk _ => h.block k hk⟩)
theorem rb_below {g : Nat} {w w' : World} {l : List UInt8} {b : Bool} (h : Co.RB w g l b) (hb : Below w.heap.size w w') : Co.RB w' g l b := (hb.block g (blk_lt h)).trans h
theorem own_tch {w w' : World} {base n size g : Nat} {e : TypeId} {v : Value} {xs : List Value} (h : w.ownsRow base e size v n xs) (ht : Co.Tch g w w') (hg : g < base) : w'.ownsRow base e size v n xs :=
  own_fr (S := (· = g)) h (Fr.tch ht) (fun k hk e => by have := (own_lt h k hk).1; omega)
theorem grown_tch {g : Nat} {w w2 w3 : World} {o : Obj} {v : Value} {l : List UInt8} {b : Bool} (h : Co.Tch g w w2) (hr : Co.RB w2 g l b) (hg : g < w.heap.size) (hv : ∀ k, v.ownBlock = some k → w.heap.size ≤ k ∧ k < w2.heap.size) (hg3 : (w2.alloc o).grownBy w3 v.ownBlock) : Co.Tch g w w3 ∧ Co.RB w3 g l b := by
  have a : Co.Tch g w (w2.alloc o) := h.alloc o
  have f := (Fr.tch a).grown hg3 (fun j hj => .inr (hv j hj).1)
  refine ⟨(show w.grownBy w3 (some g) from ⟨f.os, f.tape, f.output, f.size, fun k hk hn => f.block k hk (fun e => hn (by rw [e]))⟩), ?_⟩
  have e := hg3.block g (by have := blk_lt hr; simp; omega) (fun e => by have := (hv g e.symm).1; omega)
  exact e.trans (hd_prev (blk_lt hr) hr)
theorem vl_rd (k : Nat) (l : List UInt8) (b : Bool) : vl (rdEs (k + 1) l b).1 = vl (rdEs k l b).1 ++ encE (rdE (rdEs k l b).2.1 (rdEs k l b).2.2).1 := vl_app _ _
theorem readIs_no {w w' : World} {g : Nat} (ht : Co.Tch g w w') (hr : Co.RB w' g [] true) : ReadIs w g (false, [], [], true) (.returned (.tuple #[.slice none 0 0, .bool false])) w' :=
  ⟨none, 0, rfl, ⟨rfl, by decide, by simp, .inl rfl⟩, ⟨Nat.le_refl _, fun _ => rfl⟩, ht, hr, fun a e => by cases e⟩
theorem rdAll_1 {l l1 : List UInt8} {bd b1 : Bool} {m : Nat} (h : Co.rdN l bd 256 = (m, l1, b1)) (k : (rdEs m l1 b1).2.2 = true ∨ kdsOk (rdEs m l1 b1).1 = false) : rdAllE l bd = (false, [], [], true) := by
  unfold rdAllE; simp only [h]; rw [if_pos k]
theorem rdAll_2 {l l1 : List UInt8} {bd b1 : Bool} {m : Nat} (h : Co.rdN l bd 256 = (m, l1, b1)) (k1 : (rdEs m l1 b1).2.2 = false) (k2 : kdsOk (rdEs m l1 b1).1 = true) : rdAllE l bd = (true, (rdEs m l1 b1).1, (rdEs m l1 b1).2.1, false) := by
  unfold rdAllE; simp only [h]; rw [if_neg (by rw [k1, k2]; simp)]
set_option maxHeartbeats 4000000 in
set_option maxRecDepth 100000 in
theorem eread_c (g : Nat) (l : List UInt8) (bd : Bool) (w : World) (h : Co.RB w g l bd) : Calls Try.prog 13 #[.pointer (some ⟨g, 0, none⟩)] w (ReadIs w g (rdAllE l bd)) := by
  have mixed : Try.prog.follows .mixedOrders = true := by kernel_rfl
  obtain ⟨i0, hi0, hz0, hz1, hz2⟩ := info_parts info_ev
  obtain ⟨⟨m, l1, b1⟩, r0⟩ : ∃ q, Co.rdN l bd 256 = q := ⟨_, rfl⟩
  have hm : m ≤ 256 := by have := (Co.rdN_bound l bd 256).1; rw [r0] at this; exact this
  have HG := Lib.hid (blk_lt h)
  have h1 := Co.rNat_c g l bd 256 w h m l1 b1 r0
  rw [show ((256 : Nat) : Int) = 256 from rfl] at h1
  have H1 := Lib.hid h1
  have R0 := Lib.hid r0
  have HNx : Hid (∀ (W : World) (l : List UInt8) (b : Bool) (h : Co.RB W g l b) (x : Ev), (rdE l b).1 = x → Calls Try.prog 28 #[.pointer (some ⟨g, 0, none⟩)] W fun e w' => e = .returned (.agg #[.int .i64 x.kd, .int .i64 x.acc, .int .u64 x.id, .int .u64 x.oth, .int .i64 x.side, .int .i64 x.pr, .int .i64 x.qty, .int .i64 x.fee, .int .i64 x.fee2, .int .i64 x.code, .int .i64 x.ver, .int .u64 x.idx]) ∧ Hid (Co.Tch g W w' ∧ Co.RB w' g (rdE l b).2.1 (rdE l b).2.2)) := Lib.hid (fun W l b h x hx => by rw [← hx]; exact enext_c g l b W h)
  clear h1 h r0
  go_enter Try.func13, Try.ntmps13
  go_wp2_with fail
  refine H1.out.mono ?_
  rintro e w1 ⟨rfl, h1, h2⟩
  have T1 : Hid (Co.Tch g w w1 ∧ Co.RB w1 g l1 b1) := ⟨h1, h2⟩
  clear h1 h2 H1
  go_wp2_with fail
  go_loopg [4, 9] m (fun kx v s9 wr => ∃ j : Nat, s9 = .int .u64 j ∧ j ≤ m ∧ m - j ≤ kx ∧ wr.ownsRow w.heap.size 51 12 v j (vl (rdEs j l1 b1).1) ∧ Hid (Co.Tch g w wr ∧ Co.RB wr g (rdEs j l1 b1).2.1 (rdEs j l1 b1).2.2))
  case atStart => exact ⟨0, rfl, by omega, by omega, World.ownsRow_nil _ _ _ _, T1⟩
  case round =>
    clear T1
    obtain ⟨j, rfl, hj, hkx, hown, hT⟩ := hrel
    by_cases hlt : j < m
    · have hltz : (j : Int) < (m : Int) := by omega
      have HO := Lib.hid (vl_rd j l1 b1)
      obtain ⟨x, hx⟩ : ∃ x, (rdE (rdEs j l1 b1).2.1 (rdEs j l1 b1).2.2).1 = x := ⟨_, rfl⟩
      have hC := HNx.out wr _ _ hT.out.2 x hx
      rw [hx] at HO
      have HC := Lib.hid hC
      clear hC hx
      go_wp2_with fail
      refine HC.out.mono ?_
      rintro e w2 ⟨rfl, h2⟩
      have hT2 : Hid (Co.Tch g w w2 ∧ Co.RB w2 g (rdEs (j + 1) l1 b1).2.1 (rdEs (j + 1) l1 b1).2.2) := by show _ ∧ _; rw [rdEs_two]; exact ⟨hT.out.1.trans h2.out.1, h2.out.2⟩
      have hown2 := own_tch hown h2.out.1 HG.out
      have hsz : w.heap.size ≤ w2.heap.size := hT2.out.1.size
      clear h2 hown hT HC
      go_wp2_with (at_builtin; refine wpList_append_own _ rfl _ _ 22 rfl w.heap.size 51 i0 (.agg (EC ⟨0, 0, 0, 0, 0, 0, 0, 0, 0, 0, 0, 0⟩)) 12 96 Try.underlying22 hi0 hz0 hz1 hz2 rfl (by decide) _ _ _ rfl (hown2.alloc (Obj.cells (EC x) 51)) ⟨w2.heap.size, 0, none⟩ 1 1 (encE x) rfl rfl ?c1 ?c2 ?c3 ?c4 ?c5 ?_)
      case c1 => exact news_E _ x
      case c2 => exact enc_oneE x
      case c3 => unfold maxLen; omega
      case c4 => omega
      case c5 => simp; omega
      intro v1 w3 hown3 hg3 _
      have hT3 : Hid (Co.Tch g w w3 ∧ Co.RB w3 g (rdEs (j + 1) l1 b1).2.1 (rdEs (j + 1) l1 b1).2.2) := grown_tch hT2.out.1 hT2.out.2 HG.out (own_lt hown2) hg3
      rw [← HO.out] at hown3
      clear hg3 hown2 hT2
      go_wp2_with fail
      go_roundg (m - (j + 1))
      case measure => omega
      case rel => exact ⟨j + 1, by go_num, by omega, by omega, hown3, hT3⟩
    · have hltz : ¬ (j : Int) < (m : Int) := by omega
      obtain rfl : j = m := by omega
      have hlen := rdEs_len j l1 b1
      obtain ⟨A', c', rfl, hc, ht⟩ := own_evs hown (by omega) (fun x hx => rdEs_ok j l1 b1 _ x hx)
      have HB := Lib.hid (Co.Bad_c g _ _ wr hT.out.2)
      have HF := Lib.hid (fun (W : World) (l : List UInt8) (b : Bool) (h : Co.RB W g l b) => Co.Fail_c g l b W h)
      have hA : Hid (∀ a, A' = some a → w.heap.size ≤ a.block) := Lib.hid (fun a e => by subst e; exact (own_lt hown a.block rfl).1)
      have HX : Hid (Evs wr A' j (rdEs j l1 b1).1 ∧ CapOk A' j c' ∧ (rdEs j l1 b1).1.length = j) := ⟨ht, hc, hlen⟩
      clear hown ht hlen hc
      obtain ⟨q, hq⟩ : ∃ q, (rdEs j l1 b1).2.2 = q := ⟨_, rfl⟩
      rw [hq] at HB
      cases q with
      | true =>
        have E := Lib.hid (rdAll_1 R0.out (.inl hq))
        clear hq
        go_wp2_with fail
        refine HB.out.mono ?_
        rintro e w2 ⟨rfl, rfl⟩
        have HFl := Lib.hid (HF.out wr _ _ hT.out.2)
        clear HB
        go_wp2_with fail
        refine HFl.out.mono ?_
        rintro e w3 ⟨rfl, h3, h4⟩
        have HR := Lib.hid (readIs_no (hT.out.1.trans h3) h4)
        clear h3 h4 HFl
        go_wp2_with fail
        refine bodyPost_ret (results_tmp2 rfl _ _ _) rfl ?_
        rw [E.out]
        exact HR.out
      | false =>
        have HBk := Lib.hid (known_c A' j c' (rdEs j l1 b1).1 wr HX.out.1 (by omega))
        obtain ⟨p, hp⟩ : ∃ p, kdsOk (rdEs j l1 b1).1 = p := ⟨_, rfl⟩
        rw [hp] at HBk
        have HQ := Lib.hid hq
        clear hq
        go_wp2_with fail
        refine HB.out.mono ?_
        rintro e w2 ⟨rfl, rfl⟩
        clear HB
        go_wp2_with fail
        refine HBk.out.mono ?_
        rintro e w3 ⟨rfl, k3⟩
        have HT3 : Hid (Co.Tch g w w3 ∧ Co.RB w3 g (rdEs j l1 b1).2.1 (rdEs j l1 b1).2.2 ∧ Evs w3 A' j (rdEs j l1 b1).1) := ⟨hT.out.1.trans (tch_below k3), rb_below hT.out.2 k3, HX.out.1.below k3⟩
        clear k3 HBk
        cases p with
        | true =>
          have E := Lib.hid (rdAll_2 R0.out HQ.out hp)
          clear hp
          go_wp2_with fail
          refine bodyPost_ret (results_tmp2 rfl _ _ _) rfl ?_
          rw [E.out]
          refine ⟨A', c', by rw [HX.out.2.2]; rfl, ?_⟩
          have e := HQ.out
          have t := HT3.out.2.1
          rw [e] at t
          show _ ∧ _
          rw [HX.out.2.2]
          exact ⟨HT3.out.2.2, HX.out.2.1, HT3.out.1, t, hA.out⟩
        | false =>
          have E := Lib.hid (rdAll_1 R0.out (.inr hp))
          clear hp
          have HFl := Lib.hid (HF.out w3 _ _ HT3.out.2.1)
          go_wp2_with fail
          refine HFl.out.mono ?_
          rintro e w4 ⟨rfl, h3, h4⟩
          have HR := Lib.hid (readIs_no (HT3.out.1.trans h3) h4)
          clear h3 h4 HFl
          go_wp2_with fail
          refine bodyPost_ret (results_tmp2 rfl _ _ _) rfl ?_
          rw [E.out]
          exact HR.out
end Go.Proofs.Ytfglncbgifiigaa
