/- codec's reader: its calls. -/
import Derived.Test.YtgbbckjbpgojaaaCodB
namespace Go.Proofs.Ytgbbckjbpgojaaa
open Go.RowKit

/-- A number is read: the number, what is left, whether it is bad then. -/
def rdN (l : List UInt8) (bd : Bool) (most : Nat) : Nat × List UInt8 × Bool :=
  match readNat l most with
  | some (n, t) => (n, t, bd)
  | none => (0, [], true)
/-- A text is read. -/
def rdT (l : List UInt8) (bd : Bool) (most : Int) : List UInt8 × List UInt8 × Bool :=
  if most < 0 then ([], [], true)
  else if (rdN l bd most.toNat).2.1.length < (rdN l bd most.toNat).1 then ([], [], true)
  else ((rdN l bd most.toNat).2.1.take (rdN l bd most.toNat).1, (rdN l bd most.toNat).2.1.drop (rdN l bd most.toNat).1, (rdN l bd most.toNat).2.2)
/-- The whole number that a natural one stands for. -/
def zz (n : Nat) : Int := if n % 2 = 0 then ((n / 2 : Nat) : Int) else -((n / 2 : Nat) : Int) - 1

theorem rdN_bound (l : List UInt8) (bd : Bool) (most : Nat) : (rdN l bd most).1 ≤ most ∧ (rdN l bd most).1 < 2 ^ 64 ∧ (rdN l bd most).2.1.length ≤ l.length := by
  unfold rdN
  cases h : readNat l most with
  | none => simp
  | some p => obtain ⟨n, t⟩ := p; have := readNat_bound h; exact ⟨this.1, this.2.1, by simp only; omega⟩

theorem Fail_c (g : Nat) (l : List UInt8) (bd : Bool) (w : World) (h : RB w g l bd) :
    Calls Try.prog 38 #[.pointer (some ⟨g, 0, none⟩)] w fun e w' => e = .returned (.tuple #[]) ∧ Tch g w w' ∧ RB w' g [] true := by
  have k0 := h.c0
  have k1 := h.c1
  have k2 := h.f0
  have k3 := h.f1
  have R : Hid (RB ((w.setCell ⟨g, 0, none⟩ (Str [])).setCell ⟨g, 1, none⟩ (.bool true)) g [] true) := (h.set0 []).set1 true
  have T : Hid (Tch g w ((w.setCell ⟨g, 0, none⟩ (Str [])).setCell ⟨g, 1, none⟩ (.bool true))) := ((Tch.refl g w).set 0 _).set 1 _
  clear h
  go_enter Try.func38, Try.ntmps38
  go_wp2
  go_end0
  exact ⟨rfl, T.out, R.out⟩

set_option maxHeartbeats 1000000 in
theorem rNat_good (g : Nat) (l : List UInt8) (bd : Bool) (most n : Nat) (t : List UInt8) (w : World) (h : RB w g l bd) (hr : readNat l most = some (n, t)) :
    Calls Try.prog 32 #[.pointer (some ⟨g, 0, none⟩), .int .u64 (most : Int)] w fun e w' => e = .returned (.int .u64 (n : Int)) ∧ Tch g w w' ∧ RB w' g t bd := by
  have hcap : Cap (w.alloc (.cells #[.pointer (some ⟨g, 0, none⟩)] 77)) w.heap.size g := heap_alloc_new w _
  have hrb := h.alloc (.cells #[.pointer (some ⟨g, 0, none⟩)] 77)
  have hne : w.heap.size ≠ g := by have := h.lt; omega
  have hnat : natAt 0 0 l = some (n, t) ∧ n ≤ most := by
    unfold readNat at hr
    cases e : natAt 0 0 l with
    | none => rw [e] at hr; cases hr
    | some p =>
      obtain ⟨n', t'⟩ := p
      rw [e] at hr
      simp only at hr
      split at hr
      · injection hr with hr; injection hr with h1 h2; subst h1; subst h2; exact ⟨rfl, by assumption⟩
      · cases hr
  have h0 := number_c w.heap.size g l bd _ hne hcap hrb
  rw [hnat.1] at h0
  have HN := Lib.hid h0; clear h0
  have hnm : (n : Int) ≤ (most : Int) := by omega
  clear hnat hr
  have k1 := hcap.c0
  clear hcap hrb hne
  go_enter Try.func32, Try.ntmps32
  go_wp2_with fail
  ((with_reducible refine HN.out.mono ?_); rintro e w' ⟨hT, rfl, hR⟩)
  go_wp2_with fail
  go_ret
  exact ⟨rfl, hT.of_alloc, hR⟩

set_option maxHeartbeats 1000000 in
theorem rNat_bad (g : Nat) (l : List UInt8) (bd : Bool) (most : Nat) (w : World) (h : RB w g l bd) (hr : readNat l most = none) :
    Calls Try.prog 32 #[.pointer (some ⟨g, 0, none⟩), .int .u64 (most : Int)] w fun e w' => e = .returned (.int .u64 0) ∧ Tch g w w' ∧ RB w' g [] true := by
  have hcap : Cap (w.alloc (.cells #[.pointer (some ⟨g, 0, none⟩)] 77)) w.heap.size g := heap_alloc_new w _
  have hrb := h.alloc (.cells #[.pointer (some ⟨g, 0, none⟩)] 77)
  have hne : w.heap.size ≠ g := by have := h.lt; omega
  obtain ⟨o, ho⟩ : ∃ o, o = natAt 0 0 l := ⟨_, rfl⟩
  have h0 := number_c w.heap.size g l bd _ hne hcap hrb
  rw [← ho] at h0
  have HN := Lib.hid h0; clear h0
  have Hne := Lib.hid hne
  have Hcap := Lib.hid hcap
  have k1 := hcap.c0
  clear hcap hrb hne
  cases o with
  | none =>
    clear hr ho
    go_enter Try.func32, Try.ntmps32
    go_wp2_with fail
    ((with_reducible refine HN.out.mono ?_); rintro e w1 ⟨hT, v, t, rfl, hR⟩)
    have k2 : w1.cell? ⟨w.heap.size, 0, none⟩ = some (.pointer (some ⟨g, 0, none⟩)) := Cap.c0 (hT.blk Hcap.out Hne.out)
    have HT := Lib.hid hT; clear hT k1
    go_wp2_with fail
    ((with_reducible refine (Fail_c g t bd _ hR).mono ?_); rintro e w2 ⟨rfl, hT2, hR2⟩)
    have HT2 := Lib.hid hT2; clear hT2 hR
    have HR2 := Lib.hid hR2; clear hR2
    go_wp2_with fail
    go_ret
    exact ⟨rfl, HT.out.of_alloc.trans HT2.out, HR2.out⟩
  | some p =>
    obtain ⟨n, t⟩ := p
    have hn : (most : Int) < (n : Int) := by
      unfold readNat at hr
      rw [← ho] at hr
      simp only at hr
      split at hr
      · cases hr
      · omega
    clear hr ho
    go_enter Try.func32, Try.ntmps32
    go_wp2_with fail
    ((with_reducible refine HN.out.mono ?_); rintro e w1 ⟨hT, rfl, hR⟩)
    have k2 : w1.cell? ⟨w.heap.size, 0, none⟩ = some (.pointer (some ⟨g, 0, none⟩)) := Cap.c0 (hT.blk Hcap.out Hne.out)
    have HT := Lib.hid hT; clear hT k1
    go_wp2_with fail
    ((with_reducible refine (Fail_c g t bd _ hR).mono ?_); rintro e w2 ⟨rfl, hT2, hR2⟩)
    have HT2 := Lib.hid hT2; clear hT2 hR
    have HR2 := Lib.hid hR2; clear hR2
    go_wp2_with fail
    go_ret
    exact ⟨rfl, HT.out.of_alloc.trans HT2.out, HR2.out⟩

theorem rNat_c (g : Nat) (l : List UInt8) (bd : Bool) (most : Nat) (w : World) (h : RB w g l bd) (n : Nat) (t : List UInt8) (b : Bool) (hr : rdN l bd most = (n, t, b)) :
    Calls Try.prog 32 #[.pointer (some ⟨g, 0, none⟩), .int .u64 (most : Int)] w fun e w' => e = .returned (.int .u64 (n : Int)) ∧ Tch g w w' ∧ RB w' g t b := by
  unfold rdN at hr
  cases e : readNat l most with
  | none => rw [e] at hr; injection hr with h1 h2; injection h2 with h2 h3; subst h1; subst h2; subst h3; exact rNat_bad g l bd most w h e
  | some p => obtain ⟨m, u⟩ := p; rw [e] at hr; injection hr with h1 h2; injection h2 with h2 h3; subst h1; subst h2; subst h3; exact rNat_good g l _ most m u w h e
end Go.Proofs.Ytgbbckjbpgojaaa
