/- codec's reader: number. -/
import Derived.Test.YtgbbckjbpgojaaaCodA
import Derived.Deep.DeepCutAuto
import Derived.Deep.CutBlock
namespace Go.Proofs.Ytgbbckjbpgojaaa
open Go.RowKit

/-- What number tells. -/
def NumTold (o : Option (Nat × List UInt8)) (g : Nat) (bd : Bool) (w : World) (e : Ending) (w' : World) : Prop :=
  Tch g w w' ∧ match o with
    | some (n, t) => e = .returned (.tuple #[.int .u64 (n : Int), .bool true]) ∧ RB w' g t bd
    | none => ∃ (v : Int) (t : List UInt8), e = .returned (.tuple #[.int .u64 v, .bool false]) ∧ RB w' g t bd
theorem NumTold.good {o : Option (Nat × List UInt8)} {g : Nat} {bd : Bool} {w w' : World} {n : Nat} {t : List UInt8} (ht : Tch g w w') (ho : o = some (n, t)) (h : RB w' g t bd) : NumTold o g bd w (.returned (.tuple #[.int .u64 (n : Int), .bool true])) w' := by
  subst ho; exact ⟨ht, rfl, h⟩
theorem NumTold.bad {o : Option (Nat × List UInt8)} {g : Nat} {bd : Bool} {w w' : World} {v : Int} {t : List UInt8} (ht : Tch g w w') (ho : o = none) (h : RB w' g t bd) : NumTold o g bd w (.returned (.tuple #[.int .u64 v, .bool false])) w' := by
  subst ho; exact ⟨ht, v, t, rfl, h⟩

theorem u64_nat {a : Int} {n : Nat} (h : a = (n : Int)) : Value.int .u64 a = .int .u64 (n : Int) := by rw [h]
theorem ret_tup {v w u x : Value} (h : v = w) (k : u = x) : Ending.returned (.tuple #[v, u]) = .returned (.tuple #[w, x]) := by rw [h, k]

theorem or_step {a B k : Nat} (hk : k ≤ 9) (ha : a < 128 ^ k) (h9 : k = 9 → B ≤ 1) :
    bits BinOp.or IntKind.u64 (a : Int) (IntKind.u64.wrap ((B : Int) % 128 * 2 ^ (7 * k))) = ((a + B % 128 * 128 ^ k : Nat) : Int) := by
  obtain ⟨h1, h2⟩ := join_or (c := B % 128) hk ha (by omega) (fun e => by have := h9 e; omega)
  have e : IntKind.u64.wrap ((B : Int) % 128 * 2 ^ (7 * k)) = ((B % 128 * 2 ^ (7 * k) % 18446744073709551616 : Nat) : Int) := by
    rw [IntKind.wrap_u64]
    have e2 : (B : Int) % 128 * 2 ^ (7 * k) = ((B % 128 * 2 ^ (7 * k) : Nat) : Int) := by simp
    rw [e2]; rfl
  rw [e, bits_or_u64_nat _ _ (by omega) (by omega), h1]
theorem or_step9 {a B : Nat} (ha : a < 128 ^ 9) (h9 : B ≤ 1) :
    bits BinOp.or IntKind.u64 (a : Int) ((B : Int) % 128 * 9223372036854775808) = ((a + B % 128 * 128 ^ 9 : Nat) : Int) := by
  rw [← or_step (by omega) ha (fun _ => h9)]
  congr 1
  rw [IntKind.wrap_u64, show (2 : Int) ^ (7 * 9) = 9223372036854775808 by decide]
  omega

set_option maxHeartbeats 4000000 in
set_option maxRecDepth 100000 in
theorem number_c (c g : Nat) (l : List UInt8) (bd : Bool) (w : World) (hcg : c ≠ g) (hc : Cap w c g) (h : RB w g l bd) :
    Calls Try.prog 37 #[.func (.func 36) #[] #[.pointer (some ⟨c, 0, none⟩)]] w (NumTold (natAt 0 0 l) g bd w) := by
  obtain ⟨o, ho⟩ : ∃ o, o = natAt 0 0 l := ⟨_, rfl⟩
  rw [← ho]
  have Ho := Lib.hid ho; clear ho
  have Hc := Lib.hid hc
  have Hh := Lib.hid h; clear h
  have Hcg := Lib.hid hcg; clear hcg
  go_enter Try.func37, Try.ntmps37
  go_wp2_with fail
  go_loopw [4, 8] (fun n i wr => ∃ (k a : Nat) (m : List UInt8), k ≤ 9 ∧ i = .int .i64 (k : Int) ∧ n = .int .u64 (a : Int) ∧ Hid (a < 128 ^ k ∧ natAt k a m = o ∧ RB wr g m bd ∧ Tch g w wr)) (fun _ i _ => 10 - (intOf i).toNat)
  case atStart => exact ⟨0, 0, l, by omega, rfl, rfl, by simp, Ho.out.symm, Hh.out, Tch.refl _ _⟩
  case round =>
    obtain ⟨k, a, m, hk, rfl, rfl, hh⟩ := hrel
    have hkI : (k : Int) < 10 := by omega
    have hcap : Cap wr c g := hh.out.2.2.2.blk Hc.out Hcg.out
    cases m with
    | nil =>
      have hrb : RB wr g [] bd := hh.out.2.2.1
      have hR : NumTold o g bd w (.returned (.tuple #[.int .u64 0, .bool false])) wr := NumTold.bad hh.out.2.2.2 (by rw [← hh.out.2.1]; exact natAt_nil _ _) hrb
      have HR := Lib.hid hR; clear hR
      go_wp2_with fail
      ((with_reducible refine (next_nil c g bd _ hcap hrb).mono ?_); rintro e w' ⟨rfl, rfl⟩)
      clear hcap hrb
      go_wp2_with fail
      go_ret2
      exact HR.out
    | cons b t =>
      have hrb : RB wr g (b :: t) bd := hh.out.2.2.1
      have hT := Lib.hid hh.out.2.2.2
      have ha := hh.out.1
      have hn := hh.out.2.1
      have Hn := Lib.hid hn; clear hn
      have Ha := Lib.hid ha; clear ha
      have hbl := b.toNat_lt
      go_wp2_with fail
      ((with_reducible refine (next_cons c g b t bd _ hcap hrb).mono ?_); rintro e w1 ⟨rfl, ht1, hr1⟩)
      have HT1 : Hid (Tch g w w1) := hT.out.trans ht1
      have HR1 := Lib.hid hr1; clear hr1 ht1 hcap hrb hT hh
      obtain ⟨B, hB⟩ : ∃ B : Nat, B = b.toNat := ⟨_, rfl⟩
      have HB := Lib.hid hB
      rw [← hB] at hbl ⊢
      clear hB
      have b0 : (B : Int) ≤ 255 := by omega
      by_cases h9 : k = 9 ∧ 1 < B
      · obtain ⟨rfl, h1⟩ := h9
        have h1' : (1 : Int) < (B : Int) := by omega
        have hR : NumTold o g bd w (.returned (.tuple #[.int .u64 0, .bool false])) w1 := NumTold.bad HT1.out (by rw [← Hn.out]; exact natAt_over ⟨rfl, by rw [← HB.out]; exact h1⟩) HR1.out
        have HR := Lib.hid hR; clear hR h1
        go_wp2_with fail
        go_ret2
        exact HR.out
      · by_cases hk9 : k = 9
        · subst hk9
          have hB1 : B ≤ 1 := by omega
          have hb1 : ¬ (1 : Int) < (B : Int) := by omega
          have hb2 : (B : Int) < 128 := by omega
          have Hor := Lib.hid (or_step9 Ha.out hB1)
          have hn9 : ¬ (9 = 9 ∧ 1 < b.toNat) := by have := HB.out; omega
          clear h9 hkI
          by_cases hz : B = 0
          · subst hz
            have hR : NumTold o g bd w (.returned (.tuple #[.int .u64 (bits BinOp.or IntKind.u64 (a : Int) (((0 : Nat) : Int) % 128 * 9223372036854775808)), .bool false])) w1 :=
              NumTold.bad HT1.out (by rw [← Hn.out]; exact natAt_long hn9 (by have := HB.out; omega) ⟨HB.out.symm, by omega⟩) HR1.out
            have HR := Lib.hid hR; clear hR
            clear hb1 hb2
            go_wp2_with fail
            go_ret2
            exact HR.out
          · have hb3 : (0 : Int) < (B : Int) := by omega
            have hR : NumTold o g bd w (.returned (.tuple #[.int .u64 (bits BinOp.or IntKind.u64 (a : Int) ((B : Int) % 128 * 9223372036854775808)), .bool true])) w1 := by
              rw [Hor.out]
              refine NumTold.good HT1.out ?_ HR1.out
              rw [← Hn.out, HB.out]
              have hlt : b.toNat < 128 := by have := HB.out; omega
              rw [natAt_last hn9 hlt (by have := HB.out; omega), Nat.mod_eq_of_lt hlt]
            have HR := Lib.hid hR; clear hR hz
            go_wp2_with fail
            go_ret2
            exact HR.out
        · have hk8 : ((k : Int) == 9) = false := by simp; omega
          have hn9 : ¬ (k = 9 ∧ 1 < b.toNat) := by omega
          have Hor := Lib.hid (or_step (B := B) hk Ha.out (by omega))
          clear h9
          by_cases hb : B < 128
          · have hb2 : (B : Int) < 128 := by omega
            have hlt : b.toNat < 128 := by have := HB.out; omega
            by_cases hz : B = 0 ∧ k ≠ 0
            · obtain ⟨rfl, hk0⟩ := hz
              have hk1 : ((k : Int) == 0) = false := by simp; omega
              have hR : ∀ v, NumTold o g bd w (.returned (.tuple #[.int .u64 v, .bool false])) w1 :=
                fun v => NumTold.bad HT1.out (by rw [← Hn.out]; exact natAt_long hn9 hlt ⟨HB.out.symm, hk0⟩) HR1.out
              have HR := Lib.hid hR; clear hR hb2 hb hk9 hn9 hlt hk0
              go_wp2_with fail
              go_ret2
              exact HR.out _
            · have hR : NumTold o g bd w (.returned (.tuple #[.int .u64 (bits BinOp.or IntKind.u64 (a : Int) (IntKind.u64.wrap ((B : Int) % 128 * 2 ^ (7 * k)))), .bool true])) w1 := by
                rw [Hor.out]
                refine NumTold.good HT1.out ?_ HR1.out
                rw [← Hn.out, HB.out, natAt_last hn9 hlt (by have := HB.out; omega), Nat.mod_eq_of_lt hlt]
              have HR := Lib.hid hR; clear hR
              by_cases hz0 : B = 0
              · have hk0 : k = 0 := by omega
                subst hz0; subst hk0
                clear hz hb2 hb hk9 hn9 hlt
                go_wp2_with fail
                go_ret2
                exact HR.out
              · have hb3 : (0 : Int) < (B : Int) := by omega
                clear hz hb hk9 hn9 hlt hz0
                go_wp2_with fail
                go_ret2
                exact HR.out
          · have hb2 : (128 : Int) ≤ (B : Int) := by omega
            have hrel : Hid (a + B % 128 * 128 ^ k < 128 ^ (k + 1) ∧ natAt (k + 1) (a + B % 128 * 128 ^ k) t = o) := by
              refine ⟨?_, ?_⟩
              · have h1 := Ha.out
                have h2 : B % 128 * 128 ^ k ≤ 127 * 128 ^ k := Nat.mul_le_mul_right _ (by omega)
                rw [Nat.pow_succ]; omega
              · rw [← Hn.out, HB.out, natAt_more hn9 (by have := HB.out; omega)]
                rw [show b.toNat % 128 = b.toNat - 128 by have := HB.out; omega]
            have hk9' : Hid (k + 1 ≤ 9) := by show _ ≤ _; omega
            clear hb hn9 hk9
            go_wp2_with fail
            refine ⟨⟨k + 1, a + B % 128 * 128 ^ k, t, hk9'.out, by go_num, u64_nat Hor.out, hrel.out.1, hrel.out.2, HR1.out, HT1.out⟩, by simp [intOf]; omega⟩
end Go.Proofs.Ytgbbckjbpgojaaa
