/- chance: a place by weights. -/
import Derived.Test.YtacfboopkcaobaaChC
namespace Go.Proofs.Ytacfboopkcaobaa
open Go.RowKit

/-- A slice of whole numbers. -/
def SlI (w : World) (A : Option Addr) (n : Nat) (zs : List Int) : Prop :=
  zs.length = n ∧ (∀ z ∈ zs, -9223372036854775808 ≤ z ∧ z ≤ 9223372036854775807) ∧ (n = 0 ∨ ∃ b off, A = some ⟨b, off, none⟩ ∧ b < w.heap.size ∧ ∀ i, i < n → w.cell? ⟨b, off + i, none⟩ = some (.int .i64 (zs.getD i 0)))
theorem SlI.fr {S : Nat → Prop} {w w' : World} {A : Option Addr} {n : Nat} {l : List Int} (h : SlI w A n l) (hf : Fr S w w') (hn : ∀ a, A = some a → 0 < n → ¬ S a.block) : SlI w' A n l := by
  obtain ⟨h1, h2, h3⟩ := h
  refine ⟨h1, h2, ?_⟩
  rcases Nat.eq_zero_or_pos n with h0 | h0
  · exact .inl h0
  rcases h3 with h3 | ⟨b, off, rfl, hb, hc⟩
  · exact .inl h3
  · refine .inr ⟨b, off, rfl, Nat.lt_of_lt_of_le hb hf.size, fun i hi => ?_⟩
    rw [World.cell?_of_block (w := w) (hf.block b hb (hn _ rfl h0))]
    exact hc i hi
theorem SlI.below {w w' : World} {A : Option Addr} {n : Nat} {l : List Int} (h : SlI w A n l) (hb : Below w.heap.size w w') : SlI w' A n l :=
  h.fr (S := fun _ => False) (Fr.of_below hb) (fun _ _ _ h => h)

/-- A captured number. -/
def Box (T : TypeId) (w : World) (c : Nat) (v : Value) : Prop := w.heap[c]? = some (.cells #[v] T (0, 0))
theorem Box.c0 {T : TypeId} {w : World} {c : Nat} {v : Value} (h : Box T w c v) : w.cell? ⟨c, 0, none⟩ = some v := by rw [cell_of_row _ _ _ _ _ _ h]; rfl
theorem Box.f0 {T : TypeId} {w : World} {c : Nat} {v : Value} (h : Box T w c v) : w.frozen? ⟨c, 0, none⟩ = false := frozen_of_row _ _ _ _ _ h
theorem Box.set {T : TypeId} {w : World} {c : Nat} {v : Value} (h : Box T w c v) (u : Value) : Box T (w.setCell ⟨c, 0, none⟩ u) c u := by unfold Box at h ⊢; rw [heap_set h]; rfl

set_option maxHeartbeats 4000000 in
set_option maxRecDepth 100000 in
theorem weight_c (c a : Nat) (z : Int) (w : World) (h : Box 58 w c (.int .u64 (a : Int))) (ha : a ≤ 100000) :
    Calls Try.prog 47 #[.int .i64 z, .pointer (some ⟨c, 0, none⟩)] w fun e w' => e = .returned (.int .u64 ((a + wgt z : Nat) : Int)) ∧ Hid (Tch c w w' ∧ Box 58 w' c (.int .u64 ((a + wgt z : Nat) : Int))) := by
  have k0 := h.c0
  have f0 := h.f0
  have HB := Lib.hid (fun u => h.set u)
  have hv : (a : Int) + min (max z 0) 1000 = ((a + wgt z : Nat) : Int) := by unfold wgt; omega
  have HV := Lib.hid hv
  clear h hv
  go_enter Try.func47, Try.ntmps47
  go_wp2_with fail
  go_ret
  rw [← HV.out]
  exact ⟨rfl, (Tch.refl c w).set 0 _, HB.out _⟩

theorem Tch.fresh {g c : Nat} {a b b' : World} (h : Tch g a b) (k : Tch c b b') (hc : a.heap.size ≤ c) : Tch g a b' :=
  ⟨k.1.trans h.1, k.2.trans h.2, k.3.trans h.3, Nat.le_trans h.size k.size, fun i hi hne => (World.grownBy.block k i (Nat.lt_of_lt_of_le hi h.size) (fun e => by injection e with e; omega)).trans (World.grownBy.block h i hi hne)⟩
theorem SlI.away {T : TypeId} {w : World} {g : Nat} {A A' : Option Addr} {n n' c : Nat} {l : List Int} (hg : w.heap[g]? = some (.cells #[.slice A' n' c] T (0, 0))) (h : SlI w A n l) : ∀ a, A = some a → 0 < n → a.block ≠ g := by
  intro a ha h0 e
  obtain ⟨hl, _, h2⟩ := h
  rcases h2 with h2 | ⟨b, off, rfl, hb, hc⟩
  · omega
  · injection ha with ha
    subst ha
    have e' : b = g := e
    subst e'
    have h3 := hc 0 h0
    rw [Nat.add_zero, cell_of_row _ _ _ _ _ _ hg] at h3
    match off, h3 with
    | 0, h3 => simp at h3
    | k + 1, h3 => simp at h3
theorem Box.tp {T : TypeId} {w w' : World} {c : Nat} {p : Option Addr} {v : Value} (h : Box T w c v) (ht : TP p w w') (hne : ∀ x, p = some x → c ≠ x.block) : Box T w' c v := ht.blk h hne

theorem Tch.of_below (g : Nat) {a b : World} (h : Below a.heap.size a b) : Tch g a b := ⟨h.os, h.tape, h.output, h.size, fun i hi _ => h.block i hi⟩
theorem SRC.box {T T' : TypeId} {w w' : World} {g c : Nat} {l : List UInt8} {x : Int} (h : SRC T w g l) (hb : Box T' w c (.int .u64 x)) (hne : g ≠ c) (ht : Tch c w w') : SRC T w' g l := by
  obtain ⟨A, n, cc, h0, hs, h1, h2⟩ := h
  refine ⟨A, n, cc, ht.blk h0 hne, hs.fr0 (Fr.tch ht) (fun a ha hn e => ?_), h1, h2⟩
  rcases hs.2 with h3 | ⟨b, off, rfl, _, hc⟩
  · omega
  · injection ha with ha
    subst ha
    have e' : b = c := e
    subst e'
    have h3 := hc 0 hn
    rw [Nat.add_zero, cell_of_row _ _ _ _ _ _ hb] at h3
    match off, h3 with
    | 0, h3 => simp [byt] at h3
    | k + 1, h3 => simp at h3
theorem Fr.tp {p : Option Addr} {a b : World} (h : TP p a b) : Fr (fun k => ∃ x, p = some x ∧ k = x.block) a b := ⟨h.os, h.tape, h.output, h.size, fun k hk hn => World.grownBy.block h k hk (fun e => hn (by
    cases p with
    | none => cases e
    | some x => exact ⟨x, rfl, by simpa using e⟩))⟩
theorem SlI.tp {w w' : World} {p : Option Addr} {A : Option Addr} {n : Nat} {l : List Int} (h : SlI w A n l) (ht : TP p w w') (ha : ∀ a, A = some a → 0 < n → ∀ x, p = some x → a.block ≠ x.block) : SlI w' A n l := h.fr (Fr.tp ht) (fun a e h0 ⟨x, hx, e2⟩ => ha a e h0 x hx e2)
theorem ST.box {T T' : TypeId} {w w' : World} {p : Option Addr} {c : Nat} {l : List UInt8} {x : Int} (h : ST T w p l) (hb : Box T' w c (.int .u64 x)) (hne : ∀ x, p = some x → x.block < c) (ht : Tch c w w') : ST T w' p l := by
  rcases h with h | ⟨g, rfl, h⟩
  · exact .inl h
  · exact .inr ⟨g, rfl, h.box hb (Nat.ne_of_lt (hne _ rfl)) ht⟩

set_option maxHeartbeats 8000000 in
set_option maxRecDepth 100000 in
theorem pick_c (p : Option Addr) (A : Option Addr) (n cap : Nat) (zs : List Int) (l : List UInt8) (w : World) (h : ST 89 w p l) (hz : SlI w A n zs) (hn : n ≤ 60) :
    Calls Try.prog 28 #[.pointer p, .slice A n cap] w (TookP 89 w p (pickN l zs).2 (.int .i64 ((pickN l zs).1 : Int))) := by
  have hlen := hz.1
  have hsum := sumW_le zs
  have hsmall : ∀ k, sumW (zs.take k) ≤ 100000 := fun k => by have := sumW_take_le zs k; omega
  have HSm := Lib.hid hsmall
  have HSum : Hid (sumW zs < 18446744073709551616) := by show _ < _; omega
  have hnI : (n : Int) ≤ 60 := by omega
  have HG := Lib.hid h.lt
  have HA : Hid (∀ a, A = some a → 0 < n → ∀ x, p = some x → a.block ≠ x.block) := by
    intro a ha h0 x hx
    rcases h with ⟨h, _⟩ | ⟨g, hp, h⟩
    · rw [h] at hx; cases hx
    · rw [hp] at hx; injection hx with hx; rw [← hx]
      obtain ⟨A', n', c', h0', _⟩ := h
      exact hz.away h0' a ha h0
  have HZ := Lib.hid hz
  have HS := Lib.hid h
  have HL := Lib.hid hlen
  clear h hz hlen hsum hsmall
  go_enter Try.func28, Try.ntmps28
  go_wp2_with fail
  obtain ⟨c, hc⟩ : ∃ c, c = w.heap.size := ⟨_, rfl⟩
  have hbox : Hid (Box 58 (w.alloc (.cells #[.int .u64 0] 58)) c (.int .u64 0)) := by rw [hc]; exact heap_alloc_new w _
  rw [← hc]
  have HC := Lib.hid hc
  have HPc : Hid (∀ x, p = some x → x.block < c) := fun x hx => by rw [HC.out]; exact HG.out x hx
  clear hc
  go_loopw [15] (fun i wr => ∃ k : Nat, k ≤ n ∧ i = .int .i64 (k : Int) ∧ Hid (Below w.heap.size w wr ∧ c < wr.heap.size ∧ Box 58 wr c (.int .u64 (sumW (zs.take k) : Int)))) (fun i _ => n - (intOf i).toNat)
  case atStart => exact ⟨0, by omega, rfl, (Below.refl _ _).alloc (Nat.le_refl _) _, blk_lt hbox.out, hbox.out⟩
  case round =>
    clear hbox
    obtain ⟨k, hk, rfl, hd⟩ := hrel
    by_cases hlt : k < n
    · have hltI : (k : Int) < (n : Int) := by omega
      have hk0 : (0 : Int) ≤ (k : Int) := by omega
      obtain ⟨b, off, hAe, p0⟩ : ∃ b off, A = some ⟨b, off, none⟩ ∧ wr.cell? ⟨b, off + k, none⟩ = some (.int .i64 (zs.getD k 0)) := by
        rcases (HZ.out.below hd.out.1).2.2 with h0 | ⟨b, off, hA, _, hcell⟩
        · omega
        · exact ⟨b, off, hA, hcell k hlt⟩
      subst hAe
      have HW := Lib.hid (weight_c c (sumW (zs.take k)) (zs.getD k 0) wr hd.out.2.2 (HSm.out k))
      rw [← sumW_take (by rw [HL.out]; exact hlt)] at HW
      obtain ⟨z, hz⟩ : ∃ z, z = zs.getD k 0 := ⟨_, rfl⟩
      rw [← hz] at p0 HW
      clear hz
      go_wp2_with fail
      ((with_reducible refine HW.out.mono ?_); rintro e w1 ⟨rfl, hd1⟩)
      have hD : Hid (Below w.heap.size w w1 ∧ c < w1.heap.size ∧ Box 58 w1 c (.int .u64 (sumW (zs.take (k + 1)) : Int))) :=
        ⟨hd.out.1.trans (hd1.out.1.below (by rw [HC.out]; exact Nat.le_refl _) hd.out.1.size), Nat.lt_of_lt_of_le hd.out.2.1 hd1.out.1.size, hd1.out.2⟩
      clear hd hd1 HW
      go_wp2_with fail
      exact ⟨⟨k + 1, by omega, by go_num, hD.out⟩, by simp [intOf]; omega⟩
    · have hkn : k = n := by omega
      subst hkn
      have hw0 : wr.cell? ⟨c, 0, none⟩ = some (.int .u64 (sumW zs : Int)) := by
        have := hd.out.2.2.c0
        rw [List.take_of_length_le (by rw [HL.out]; exact Nat.le_refl _)] at this
        exact this
      have HBl := Lib.hid (below_c p (sumW zs) l wr (HS.out.below hd.out.1) HSum.out)
      obtain ⟨x, hx⟩ : ∃ x, x = (belowN l (sumW zs)).1 := ⟨_, rfl⟩
      obtain ⟨t, ht⟩ : ∃ t, t = (belowN l (sumW zs)).2 := ⟨_, rfl⟩
      rw [← hx, ← ht] at HBl
      have HP : Hid (pickN l zs = (pickAt zs x 0, t)) := by show pickN l zs = _; unfold pickN; rw [← hx, ← ht]
      clear hx ht
      obtain ⟨s, hs⟩ : ∃ s, s = sumW zs := ⟨_, rfl⟩
      rw [← hs] at hw0 HBl
      clear hs HSum
      go_wp2_with fail
      ((with_reducible refine HBl.out.mono ?_); rintro e w1 ⟨rfl, hd1⟩)
      have hbx : Hid (Box 58 w1 c (.int .u64 (sumW (zs.take k) : Int))) := hd.out.2.2.tp hd1.out.1 (fun x hx => Nat.ne_of_gt (HPc.out x hx))
      have hc0 := hbx.out.c0
      have hf0 := hbx.out.f0
      have hD : Hid (TP p w (w1.setCell ⟨c, 0, none⟩ (.int .u64 0)) ∧ ST 89 (w1.setCell ⟨c, 0, none⟩ (.int .u64 0)) p t ∧ Box 58 (w1.setCell ⟨c, 0, none⟩ (.int .u64 0)) c (.int .u64 0)) := by
        have h1 : TP p w w1 := (TP.of_below p hd.out.1).trans hd1.out.1
        have h2 : Tch c w1 (w1.setCell ⟨c, 0, none⟩ (.int .u64 0)) := (Tch.refl c w1).set 0 _
        exact ⟨h1.fresh h2 (by rw [HC.out]; exact Nat.le_refl _), hd1.out.2.box hbx.out HPc.out h2, hbx.out.set _⟩
      clear hd hd1 HBl hw0 hbx
      go_wp2_with fail
      obtain ⟨W, hW⟩ : ∃ W, W = w1.setCell ⟨c, 0, none⟩ (.int .u64 0) := ⟨_, rfl⟩
      rw [← hW] at hD ⊢
      clear hW hc0 hf0
      go_loopw [28] (fun i wr => ∃ j : Nat, j ≤ k ∧ i = .int .i64 (j : Int) ∧ Hid (pickAt zs x 0 = pickAt zs x j ∧ TP p w wr ∧ ST 89 wr p t ∧ Box 58 wr c (.int .u64 (sumW (zs.take j) : Int)))) (fun i _ => k - (intOf i).toNat)
      case atStart => exact ⟨0, by omega, rfl, rfl, hD.out.1, hD.out.2.1, hD.out.2.2⟩
      case round =>
        clear hD
        obtain ⟨j, hj, rfl, hd⟩ := hrel
        by_cases hlt : j < k
        · have hltI : (j : Int) < (k : Int) := by omega
          have hk0 : (0 : Int) ≤ (j : Int) := by omega
          obtain ⟨b, off, hAe, p0⟩ : ∃ b off, A = some ⟨b, off, none⟩ ∧ wr.cell? ⟨b, off + j, none⟩ = some (.int .i64 (zs.getD j 0)) := by
            rcases (HZ.out.tp hd.out.2.1 HA.out).2.2 with h0 | ⟨b, off, hA, _, hcell⟩
            · omega
            · exact ⟨b, off, hA, hcell j hlt⟩
          subst hAe
          have HW := Lib.hid (weight_c c (sumW (zs.take j)) (zs.getD j 0) wr hd.out.2.2.2 (HSm.out j))
          rw [← sumW_take (by rw [HL.out]; exact hlt)] at HW
          obtain ⟨z, hz⟩ : ∃ z, z = zs.getD j 0 := ⟨_, rfl⟩
          rw [← hz] at p0 HW
          clear hz
          by_cases hgt : x < sumW (zs.take (j + 1))
          · have hgtI : (x : Int) < ((sumW (zs.take (j + 1)) : Nat) : Int) := by omega
            have HR : Hid (pickAt zs x 0 = j) := by show _ = _; rw [hd.out.1, pickAt_yes (by rw [HL.out]; exact hlt) hgt]
            clear hgt
            go_wp2_with fail
            ((with_reducible refine HW.out.mono ?_); rintro e w2 ⟨rfl, hd2⟩)
            have hF : Hid (TP p w w2 ∧ ST 89 w2 p t) := ⟨hd.out.2.1.fresh hd2.out.1 (by rw [HC.out]; exact Nat.le_refl _), hd.out.2.2.1.box hd.out.2.2.2 HPc.out hd2.out.1⟩
            clear hd hd2 HW
            go_wp2_with fail
            go_ret
            rw [HP.out]
            simp only
            rw [HR.out]
            exact ⟨rfl, hF.out⟩
          · have hgtI : ((sumW (zs.take (j + 1)) : Nat) : Int) ≤ (x : Int) := by omega
            have HR : Hid (pickAt zs x 0 = pickAt zs x (j + 1)) := by show _ = _; rw [hd.out.1, pickAt_no (by rw [HL.out]; exact hlt) hgt]
            clear hgt
            go_wp2_with fail
            ((with_reducible refine HW.out.mono ?_); rintro e w2 ⟨rfl, hd2⟩)
            have hF : Hid (TP p w w2 ∧ ST 89 w2 p t ∧ Box 58 w2 c (.int .u64 (sumW (zs.take (j + 1)) : Int))) := ⟨hd.out.2.1.fresh hd2.out.1 (by rw [HC.out]; exact Nat.le_refl _), hd.out.2.2.1.box hd.out.2.2.2 HPc.out hd2.out.1, hd2.out.2⟩
            clear hd hd2 HW
            go_wp2_with fail
            exact ⟨⟨j + 1, by omega, by go_num, HR.out, hF.out⟩, by simp [intOf]; omega⟩
        · have HR : Hid (pickAt zs x 0 = 0) := by show _ = _; rw [hd.out.1, pickAt_end (by rw [HL.out]; omega)]
          have hjk : j = k := by omega
          subst hjk
          go_wp2_with fail
          go_ret
          rw [HP.out]
          simp only
          rw [HR.out]
          exact ⟨rfl, hd.out.2.1, hd.out.2.2.1⟩
end Go.Proofs.Ytacfboopkcaobaa
