/- The reference's reader. -/
import Derived.Test.YtgbbckjbpgojaaaCodL
namespace Go.Proofs.Ytgbbckjbpgojaaa
open Go.RowKit

/-- A reference's reader at block q: what is left; whether it is bad. -/
def RRc (w : World) (bs q : Nat) (A : Option Addr) (n c : Nat) (l : List UInt8) (bd : Bool) : Prop :=
  w.heap[q]? = some (.cells #[.slice A n c, .bool bd] 52 (0, 0)) ∧ SlB w A n l ∧ n ≤ c ∧ c ≤ maxLen ∧ bs ≤ q ∧ ∀ a, A = some a → 0 < c → a.block < bs
def RR (w : World) (bs q : Nat) (l : List UInt8) (bd : Bool) : Prop := ∃ A n c, RRc w bs q A n c l bd
theorem RRc.nil {w : World} {bs q : Nat} {bd : Bool} (hq : bs ≤ q) (h : w.heap[q]? = some (.cells #[.slice none 0 0, .bool bd] 52 (0, 0))) : RRc w bs q none 0 0 [] bd :=
  ⟨h, ⟨rfl, .inl rfl⟩, Nat.le_refl _, Nat.zero_le _, hq, fun a e => by cases e⟩

set_option maxHeartbeats 1000000 in
theorem qfail_c (bs q : Nat) (l : List UInt8) (bd : Bool) (w : World) (h : RR w bs q l bd) :
    Calls Try.prog 27 #[.pointer (some ⟨q, 0, none⟩)] w fun e w' => e = .returned (.int .u64 0) ∧ Hid (Tch q w w' ∧ RR w' bs q [] true) := by
  obtain ⟨A, n, c, h⟩ := h
  have h0 := h.1
  have hq := h.2.2.2.2.1
  have k0 : w.cell? ⟨q, 0, none⟩ = some (.slice A n c) := by rw [cell_of_row _ _ _ _ _ _ h0]; rfl
  have k1 : w.cell? ⟨q, 1, none⟩ = some (.bool bd) := by rw [cell_of_row _ _ _ _ _ _ h0]; rfl
  have k2 : w.frozen? ⟨q, 0, none⟩ = false := frozen_of_row _ _ _ _ _ h0
  have k3 : w.frozen? ⟨q, 1, none⟩ = false := frozen_of_row _ _ _ _ _ h0
  have R : Hid (RR ((w.setCell ⟨q, 0, none⟩ (.slice none 0 0)).setCell ⟨q, 1, none⟩ (.bool true)) bs q [] true) :=
    ⟨none, 0, 0, RRc.nil hq (by rw [heap_set (heap_set h0)]; rfl)⟩
  have T : Hid (Tch q w ((w.setCell ⟨q, 0, none⟩ (.slice none 0 0)).setCell ⟨q, 1, none⟩ (.bool true))) := ((Tch.refl q w).set 0 _).set 1 _
  clear h h0 hq
  go_enter Try.func27, Try.ntmps27
  go_wp2
  go_ret
  exact ⟨rfl, T.out, R.out⟩

/-- What the reference's number tells. -/
def QT (w : World) (bs q n : Nat) (t : List UInt8) (b : Bool) (e : Ending) (w' : World) : Prop := e = .returned (.int .u64 (n : Int)) ∧ Hid (Tch q w w' ∧ RR w' bs q t b)
theorem QT.bad {w w' : World} {bs q n : Nat} {t : List UInt8} {b : Bool} (h : n = 0 ∧ t = [] ∧ b = true) (hR : Tch q w w' ∧ RR w' bs q [] true) : QT w bs q n t b (.returned (.int .u64 0)) w' := by
  obtain ⟨rfl, rfl, rfl⟩ := h; exact ⟨rfl, hR⟩
theorem rdN_none {l : List UInt8} {bd : Bool} {most n : Nat} {t : List UInt8} {b : Bool} (hr : rdN l bd most = (n, t, b)) (h : natAt 0 0 l = none) : n = 0 ∧ t = [] ∧ b = true := by
  unfold rdN readNat at hr; rw [h] at hr; simp at hr; exact ⟨hr.1.symm, hr.2.1, hr.2.2⟩
theorem rdN_more {l : List UInt8} {bd : Bool} {most n : Nat} {t : List UInt8} {b : Bool} (hr : rdN l bd most = (n, t, b)) {m : Nat} {u : List UInt8} (h : natAt 0 0 l = some (m, u)) (hm : most < m) : n = 0 ∧ t = [] ∧ b = true := by
  unfold rdN readNat at hr; rw [h] at hr; simp only [if_neg (show ¬ m ≤ most by omega)] at hr; simp at hr; exact ⟨hr.1.symm, hr.2.1, hr.2.2⟩
theorem rdN_some {l : List UInt8} {bd : Bool} {most n : Nat} {t : List UInt8} {b : Bool} (hr : rdN l bd most = (n, t, b)) {m : Nat} {u : List UInt8} (h : natAt 0 0 l = some (m, u)) (hm : m ≤ most) : m = n ∧ u = t ∧ bd = b := by
  unfold rdN readNat at hr; rw [h] at hr; simp only [if_pos hm] at hr; simpa using hr

theorem SlB.drop {w : World} {A : Option Addr} {n : Nat} {l : List UInt8} (h : SlB w A n l) (k : Nat) (hk : k ≤ n) : SlB w (A.map (·.add k)) (n - k) (l.drop k) := by
  obtain ⟨hl, h2⟩ := h
  refine ⟨by simp; omega, ?_⟩
  rcases h2 with h0 | ⟨b, off, rfl, hb, hc⟩
  · exact .inl (by omega)
  · refine .inr ⟨b, off + k, by simp [addr_add], hb, fun i hi => ?_⟩
    have := hc (k + i) (by omega)
    rw [show off + k + i = off + (k + i) by omega, this]
    simp [List.getD_eq_getElem?_getD, List.getElem?_drop]

theorem pow_le9 {k : Nat} (h : k ≤ 9) : 128 ^ k ≤ 128 ^ 9 := Nat.pow_le_pow_right (by omega) h

theorem nine_or {k x : Nat} (h : ¬ (k = 9 ∧ 1 < x)) : ((k : Int) == 9) = false ∨ (k = 9 ∧ ¬ (1 : Int) < (x : Int)) := by
  by_cases h9 : k = 9
  · right; omega
  · left; simp; omega
theorem three_or {k x B : Nat} (h : ¬ (k = 9 ∧ 1 < x)) (hz : ¬ (B = 0 ∧ 0 < k)) : k = 0 ∨ (((k : Int) == 9) = false ∧ (0 : Int) < (k : Int) ∧ ((B : Int) == 0) = false) ∨ (k = 9 ∧ ¬ (1 : Int) < (x : Int) ∧ ((B : Int) == 0) = false) := by
  by_cases h0 : k = 0
  · exact .inl h0
  · have hB : ((B : Int) == 0) = false := by simp; omega
    by_cases h9 : k = 9
    · exact .inr (.inr ⟨h9, by omega, hB⟩)
    · refine .inr (.inl ⟨?_, by omega, hB⟩)
      simp; omega
theorem SlB.fr0 {S : Nat → Prop} {w w' : World} {A : Option Addr} {n : Nat} {l : List UInt8} (h : SlB w A n l) (hf : Fr S w w') (hn : ∀ a, A = some a → 0 < n → ¬ S a.block) : SlB w' A n l := by
  by_cases h0 : n = 0
  · exact ⟨h.1, .inl h0⟩
  · exact h.fr hf (fun b off e => hn _ e (by omega))
theorem qcut1 {w : World} {bs q bk off N c k off' N' c' : Nat} {l : List UInt8} {bd : Bool} (h : RRc w bs q (some ⟨bk, off, none⟩) N c l bd) (hk : k ≤ N) (h1 : off' = off + k) (h2 : N' = N - k) (h3 : c' = c - k) :
    RR (w.setCell ⟨q, 0, none⟩ (.slice (some ⟨bk, off', none⟩) N' c')) bs q (l.drop k) bd := by
  obtain ⟨hh, hs, hc, hm, hq, hb⟩ := h
  subst h1; subst h2; subst h3
  have hb1 : 0 < c → bk < bs := hb _ rfl
  refine ⟨_, _, _, by rw [heap_set hh]; rfl, ?_, by omega, by omega, hq, fun a e h0 => by injection e with e; rw [← e]; exact hb1 (by omega)⟩
  have := hs.drop k hk
  simp only [Option.map_some, addr_add] at this
  refine this.fr0 (Fr.tch ((Tch.refl q w).set 0 _)) (fun a e h0 hS => ?_)
  injection e with e
  rw [← e] at hS
  have := hb1 (by omega)
  have hS' : bk = q := hS
  omega
theorem qcut2 {w : World} {bs q bk off N c k N' : Nat} {l : List UInt8} {bd : Bool} (h : RRc w bs q (some ⟨bk, off, none⟩) N c l bd) (hk : N ≤ k) (h2 : N' = 0) :
    RR (w.setCell ⟨q, 0, none⟩ (.slice (some ⟨bk, off, none⟩) N' 0)) bs q (l.drop k) bd := by
  obtain ⟨hh, hs, hc, hm, hq, hb⟩ := h
  subst h2
  have hl := hs.1
  rw [List.drop_of_length_le (by omega)]
  exact ⟨_, _, _, by rw [heap_set hh]; rfl, ⟨rfl, .inl rfl⟩, Nat.le_refl _, Nat.zero_le _, hq, fun a e h0 => absurd h0 (Nat.lt_irrefl 0)⟩
theorem QT.good {w w' : World} {bs q n a : Nat} {t u : List UInt8} {b bd : Bool} (h : a = n ∧ u = t ∧ bd = b) (hT : Tch q w w') (hR : RR w' bs q u bd) : QT w bs q n t b (.returned (.int .u64 (a : Int))) w' := by
  obtain ⟨rfl, rfl, rfl⟩ := h; exact ⟨rfl, hT, hR⟩
theorem step_bd {k x a uu : Nat} (hk : k ≤ 9) (hu : uu = 128 ^ k) (ha : a < 128 ^ k) (hx : x ≤ 127) (h9 : ¬ (k = 9 ∧ 1 < x)) :
    (x * uu < 18446744073709551616 ∧ a + x * uu < 18446744073709551616) ∧ (k ≤ 8 → a + x * uu < 128 ^ (k + 1) ∧ uu * 128 % 18446744073709551616 = 128 ^ (k + 1)) := by
  have h63 : (128 : Nat) ^ 9 = 9223372036854775808 := by decide
  by_cases h : k = 9
  · subst h
    have hx1 : x ≤ 1 := by omega
    have hm : x * uu ≤ 1 * uu := Nat.mul_le_mul_right _ hx1
    rw [h63] at hu ha
    exact ⟨by omega, fun h => by omega⟩
  · have hk8 : k + 1 ≤ 9 := by omega
    have hm : x * uu ≤ 127 * uu := Nat.mul_le_mul_right _ hx
    have hp := pow_le9 hk8
    have hs : (128 : Nat) ^ (k + 1) = 128 ^ k * 128 := Nat.pow_succ _ _
    rw [h63] at hp
    rw [hs] at hp ⊢
    rw [← hu] at hp ha ⊢
    exact ⟨by omega, fun _ => by omega⟩

set_option maxHeartbeats 8000000 in
set_option maxRecDepth 100000 in
theorem qNat_c (bs q : Nat) (l : List UInt8) (bd : Bool) (most : Nat) (w : World) (h : RR w bs q l bd) (n : Nat) (t : List UInt8) (b : Bool) (hr : rdN l bd most = (n, t, b)) :
    Calls Try.prog 16 #[.pointer (some ⟨q, 0, none⟩), .int .u64 (most : Int)] w (QT w bs q n t b) := by
  obtain ⟨A, N, c, h⟩ := h
  obtain ⟨o, ho⟩ : ∃ o, o = natAt 0 0 l := ⟨_, rfl⟩
  have Ho := Lib.hid ho
  have Hr := Lib.hid hr
  have Hh := Lib.hid h
  have hlen : l.length = N := h.2.1.1
  have hN : N ≤ maxLen := Nat.le_trans h.2.2.1 h.2.2.2.1
  have hNI : (N : Int) ≤ 9223372036854775807 := by unfold maxLen at hN; omega
  have Hlen := Lib.hid hlen
  clear ho hr h hlen hN
  go_enter Try.func16, Try.ntmps16
  go_wp2_with fail
  go_loopw [5, 6, 7] (fun n u i wr => ∃ (k a uu : Nat), k ≤ 10 ∧ i = .int .i64 (k : Int) ∧ n = .int .u64 (a : Int) ∧ u = .int .u64 (uu : Int) ∧ Hid (k ≤ N ∧ (k ≤ 9 → uu = 128 ^ k ∧ a < 128 ^ k ∧ natAt k a (l.drop k) = o) ∧ (k = 10 → o = none) ∧ RRc wr bs q A N c l bd ∧ Tch q w wr)) (fun _ _ i _ => 10 - (intOf i).toNat)
  case atStart => exact ⟨0, 0, 1, by omega, rfl, rfl, rfl, by omega, fun _ => ⟨by simp, by simp, Ho.out.symm⟩, by omega, Hh.out, Tch.refl _ _⟩
  case round =>
    obtain ⟨k, a, uu, hk, rfl, rfl, rfl, hh⟩ := hrel
    have h0 := hh.out.2.2.2.1.1
    have k0 : wr.cell? ⟨q, 0, none⟩ = some (.slice A N c) := by rw [cell_of_row _ _ _ _ _ _ h0]; rfl
    have HF := Lib.hid (qfail_c bs q l bd wr ⟨A, N, c, hh.out.2.2.2.1⟩)
    have HT := Lib.hid hh.out.2.2.2.2
    clear h0
    by_cases hin : k < N ∧ k < 10
    · obtain ⟨hi1, hi2⟩ := hin
      have hk9 : k ≤ 9 := by omega
      have hfa := hh.out.2.1 hk9
      obtain ⟨bk, off, rfl, hbk, hcs⟩ : ∃ bk off, A = some ⟨bk, off, none⟩ ∧ bk < wr.heap.size ∧ ∀ i, i < N → wr.cell? ⟨bk, off + i, none⟩ = some (byt (l.getD i 0)) := by
        rcases hh.out.2.2.2.1.2.1.2 with h0 | h0
        · omega
        · exact h0
      have k1 := hcs k hi1
      obtain ⟨by8, hby⟩ : ∃ x, x = l.getD k 0 := ⟨_, rfl⟩
      rw [← hby] at k1
      have hdrop : l.drop k = by8 :: l.drop (k + 1) := by
        have hkl : k < l.length := by rw [Hlen.out]; exact hi1
        rw [List.drop_eq_getElem_cons hkl, hby, List.getD_eq_getElem?_getD, List.getElem?_eq_getElem hkl]; rfl
      rw [hdrop] at hfa
      have Hd := Lib.hid (SlB.drop hh.out.2.2.2.1.2.1 (k + 1) (by omega))
      have Hc := Lib.hid hh.out.2.2.2.1
      obtain ⟨B, hB⟩ : ∃ B : Nat, B = by8.toNat := ⟨_, rfl⟩
      have hBl : B < 256 := by rw [hB]; exact by8.toNat_lt
      have k2 : wr.cell? ⟨bk, off + k, none⟩ = some (.int .u8 (B : Int)) := by rw [k1, hB]; rfl
      have f0 : wr.frozen? ⟨q, 0, none⟩ = false := frozen_of_row _ _ _ _ _ Hc.out.1
      have HB := Lib.hid hB
      have Hu := Lib.hid hfa.1
      have Ha := Lib.hid hfa.2.1
      have Hn := Lib.hid hfa.2.2
      have iI1 : (k : Int) < (N : Int) := by omega
      have iI2 : (k : Int) < 10 := by omega
      have b0 : (B : Int) ≤ 255 := by omega
      obtain ⟨x, hx⟩ : ∃ x : Nat, x = B % 128 := ⟨_, rfl⟩
      have hxB : (B : Int) % 128 = (x : Int) := by omega
      have hx7 : (x : Int) ≤ 127 := by omega
      have Hx := Lib.hid hx
      have Hk9 := Lib.hid hk9
      have Hi1 := Lib.hid hi1
      have hBn : Hid (B < 256) := hBl
      clear hfa hcs k1 hby hdrop hB hh hbk hx hi2 hk hk9 hi1 hBl
      by_cases h9 : k = 9 ∧ 1 < x
      · obtain ⟨rfl, h1⟩ := h9
        have h1' : (1 : Int) < (x : Int) := by omega
        have hE : Hid (n = 0 ∧ t = [] ∧ b = true) := by
          refine rdN_none Hr.out ?_
          rw [← Ho.out, ← Hn.out]
          exact natAt_over ⟨rfl, by have := HB.out; have := Hx.out; omega⟩
        clear h1
        go_wp2_with fail
        ((with_reducible refine HF.out.mono ?_); rintro e w1 ⟨rfl, hR⟩)
        clear HF
        go_wp2_with fail
        go_ret
        exact QT.bad hE.out ⟨HT.out.trans hR.out.1, hR.out.2⟩
      · have h9b : ((k : Int) == 9 && decide ((1 : Int) < (x : Int))) = false := by simp; omega
        obtain ⟨p, hp⟩ : ∃ p : Nat, p = x * uu := ⟨_, rfl⟩
        obtain ⟨a', ha'⟩ : ∃ a' : Nat, a' = a + p := ⟨_, rfl⟩
        have hsb := step_bd Hk9.out Hu.out Ha.out (show x ≤ 127 by omega) h9
        rw [← hp, ← ha'] at hsb
        have hpl := hsb.1
        have Hsb := Lib.hid hsb.2
        clear hsb
        have e1 : IntKind.u64.wrap ((x : Int) * (uu : Int)) = (p : Int) := by
          rw [show (x : Int) * (uu : Int) = (p : Int) by rw [hp]; simp, IntKind.wrap_u64]; omega
        have e2 : IntKind.u64.wrap ((a : Int) + (p : Int)) = (a' : Int) := by
          rw [IntKind.wrap_u64]; omega
        obtain ⟨u', hu'⟩ : ∃ u' : Nat, u' = uu * 128 % 18446744073709551616 := ⟨_, rfl⟩
        have e3 : IntKind.u64.wrap ((uu : Int) * 128) = (u' : Int) := by
          rw [IntKind.wrap_u64]; omega
        have Ha' := Lib.hid ha'
        have Hp := Lib.hid hp
        have Hu' := Lib.hid hu'
        have H9 := Lib.hid h9
        clear hpl ha' hp hu'
        by_cases hb : B < 128
        · have hb2 : (B : Int) < 128 := by omega
          have hn9 : ¬ (k = 9 ∧ 1 < by8.toNat) := by have := HB.out; have := Hx.out; omega
          have hlt : by8.toNat < 128 := by have := HB.out; omega
          have hxe : x = B := by have := Hx.out; omega
          by_cases hz : B = 0 ∧ 0 < k
          · have hE : Hid (n = 0 ∧ t = [] ∧ b = true) := by
              refine rdN_none Hr.out ?_
              rw [← Ho.out, ← Hn.out]
              exact natAt_long hn9 hlt ⟨by have := HB.out; omega, by omega⟩
            obtain ⟨hz0, hz1⟩ := hz
            have iz : (0 : Int) < (k : Int) := by omega
            have iB : (B : Int) = 0 := by omega
            rcases (nine_or H9.out) with h9f | ⟨rfl, h1x⟩
            all_goals
              clear h9 h9b hn9 hlt hxe hz0 hz1 hb
              go_wp2_with fail
              ((with_reducible refine HF.out.mono ?_); rintro e w1 ⟨rfl, hR⟩)
              clear HF
              go_wp2_with fail
              go_ret
              exact QT.bad hE.out ⟨HT.out.trans hR.out.1, hR.out.2⟩
          · have hsome : Hid (natAt 0 0 l = some (a', l.drop (k + 1))) := by
              show _ = _
              rw [← Ho.out, ← Hn.out, natAt_last hn9 hlt (by have := HB.out; omega), Ha'.out, Hp.out, Hu.out, hxe, HB.out]
            have hzb := three_or H9.out hz
            by_cases hm : most < a'
            · have hE : Hid (n = 0 ∧ t = [] ∧ b = true) := rdN_more Hr.out hsome.out hm
              have iM : (most : Int) < (a' : Int) := by omega
              clear hm hz hsome
              clear h9 h9b hn9 hlt hxe hb
              rcases hzb with rfl | ⟨h9f, hz1, hz2⟩ | ⟨rfl, h1x, hz2⟩
              all_goals
                (try rw [Nat.add_zero] at k2)
                go_wp2_with fail
                ((with_reducible refine HF.out.mono ?_); rintro e w1 ⟨rfl, hR⟩)
                clear HF
                go_wp2_with fail
                go_ret
                exact QT.bad hE.out ⟨HT.out.trans hR.out.1, hR.out.2⟩
            · have hE : Hid (a' = n ∧ l.drop (k + 1) = t ∧ bd = b) := rdN_some Hr.out hsome.out (by omega)
              have iM : (a' : Int) ≤ (most : Int) := by omega
              have iC : (N : Int) ≤ (c : Int) := by have := Hc.out.2.2.1; omega
              have iC2 : (c : Int) ≤ 9223372036854775807 := by have := Hc.out.2.2.2.1; unfold maxLen at this; omega
              have iK : (k : Int) + 1 ≤ (N : Int) := by omega
              clear hm hz hsome h9 h9b hn9 hlt hxe hb HF
              rcases hzb with rfl | ⟨h9f, hz1, hz2⟩ | ⟨rfl, h1x, hz2⟩
              all_goals
                (try rw [Nat.add_zero] at k2)
                go_wp2
                all_goals
                  go_ret
                  refine QT.good hE.out (HT.out.set 0 _) ?_
                  have hc0 := Hc.out.2.2.1
                  have hi0 := Hi1.out
                  first
                  | exact qcut1 Hc.out (by omega) (by omega) (by omega) (by omega)
                  | exact qcut2 Hc.out (by omega) (by omega)
        · have hb2 : (128 : Int) ≤ (B : Int) := by omega
          have hnx : Hid (k + 1 ≤ N ∧ (k + 1 ≤ 9 → u' = 128 ^ (k + 1) ∧ a' < 128 ^ (k + 1) ∧ natAt (k + 1) a' (l.drop (k + 1)) = o) ∧ (k + 1 = 10 → o = none) ∧ RRc wr bs q (some ⟨bk, off, none⟩) N c l bd ∧ Tch q w wr) := by
            have h1 := Hi1.out
            have h2 := HB.out
            refine ⟨h1, fun hk8 => ?_, fun h10 => ?_, Hc.out, HT.out⟩
            · have h3 := Hsb.out (by omega)
              refine ⟨by rw [Hu'.out]; exact h3.2, by rw [Ha'.out] at h3; rw [Ha'.out]; exact h3.1, ?_⟩
              rw [← Hn.out, natAt_more (by omega) (by omega), Ha'.out, Hp.out, Hu.out]
              congr 3
              have := Hx.out
              have := hBn.out
              omega
            · rw [← Hn.out]
              exact natAt_over ⟨by omega, by omega⟩
          have hk10 : Hid (k + 1 ≤ 10) := by have := Hk9.out; show _ ≤ _; omega
          by_cases h9e : k = 9
          · subst h9e
            have h1x : ¬ ((1 : Int) < (x : Int)) := by omega
            clear h9 h9b hb
            go_wp2_with fail
            refine ⟨⟨9 + 1, a', u', hk10.out, by go_num, rfl, rfl, hnx.out⟩, by simp [intOf]⟩
          · have h9f : ((k : Int) == 9) = false := by simp; omega
            clear h9 h9b hb h9e
            go_wp2_with fail
            refine ⟨⟨k + 1, a', u', hk10.out, by go_num, rfl, rfl, hnx.out⟩, by simp [intOf]; omega⟩
    · have hE : Hid (n = 0 ∧ t = [] ∧ b = true) := by
        refine rdN_none Hr.out ?_
        rw [← Ho.out]
        by_cases h10 : k = 10
        · exact hh.out.2.2.1 h10
        · have h1 := (hh.out.2.1 (by omega)).2.2
          rw [List.drop_of_length_le (by have := Hlen.out; have := hh.out.1; omega), natAt_nil] at h1
          exact h1.symm
      have hle : Hid (k ≤ N) := hh.out.1
      by_cases h1 : k < N
      · have h2 : k = 10 := by omega
        subst h2
        have h1I : (10 : Int) < (N : Int) := by omega
        clear hin h1 hh
        go_wp2_with fail
        ((with_reducible refine HF.out.mono ?_); rintro e w1 ⟨rfl, hR⟩)
        clear HF
        go_wp2_with fail
        go_ret
        exact QT.bad hE.out ⟨HT.out.trans hR.out.1, hR.out.2⟩
      · have h2 : k = N := by have := hle.out; omega
        subst h2
        clear hin h1 hh
        go_wp2_with fail
        ((with_reducible refine HF.out.mono ?_); rintro e w1 ⟨rfl, hR⟩)
        clear HF
        go_wp2_with fail
        go_ret
        exact QT.bad hE.out ⟨HT.out.trans hR.out.1, hR.out.2⟩
end Go.Proofs.Ytgbbckjbpgojaaa
