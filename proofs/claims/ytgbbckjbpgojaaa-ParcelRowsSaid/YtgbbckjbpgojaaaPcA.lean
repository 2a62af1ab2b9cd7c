/- parcel: the check sum, the code's. -/
import Derived.Test.YtgbbckjbpgojaaaRefR
import Derived.Test.YtgbbckjbpgojaaaPcP
import Derived.Laws.BitsAllLaws
namespace Go.Proofs.Ytgbbckjbpgojaaa
open Go.RowKit

/-- The captured number. -/
def Cel (w : World) (c n : Nat) : Prop := w.heap[c]? = some (.cells #[.int .u32 (n : Int)] 39 (0, 0))
theorem Cel.c0 {w : World} {c n : Nat} (h : Cel w c n) : w.cell? ⟨c, 0, none⟩ = some (.int .u32 (n : Int)) := by rw [cell_of_row _ _ _ _ _ _ h]; rfl
theorem Cel.f0 {w : World} {c n : Nat} (h : Cel w c n) : w.frozen? ⟨c, 0, none⟩ = false := frozen_of_row _ _ _ _ _ h
theorem Cel.set {w : World} {c n : Nat} (h : Cel w c n) (m : Nat) : Cel (w.setCell ⟨c, 0, none⟩ (.int .u32 (m : Int))) c m := by unfold Cel at h ⊢; rw [heap_set h]; rfl

set_option maxHeartbeats 4000000 in
set_option maxRecDepth 100000 in
theorem sumAdd_c (q n : Nat) (c : UInt8) (w : World) (h : Cel w q n) (hn : n < 4294967296) :
    Calls Try.prog 23 #[.int .u8 (c.toNat : Int), .pointer (some ⟨q, 0, none⟩)] w fun e w' => e = .returned (.tuple #[]) ∧ Hid (Tch q w w' ∧ Cel w' q (byteC n c.toNat)) := by
  have hc := c.toNat_lt
  have hx := u32_xor_nat n c.toNat hn (by omega)
  have hv := stpN_lt (n := n ^^^ c.toNat) (Nat.xor_lt_two_pow (n := 32) hn (by omega))
  obtain ⟨v, hvv⟩ : ∃ v, v = n ^^^ c.toNat := ⟨_, rfl⟩
  have HV : Hid (byteC n c.toNat = stpN 8 v) := by show _ = _; rw [hvv]; rfl
  rw [← hvv] at hx hv
  have HL := Lib.hid hv
  obtain ⟨b, hb⟩ : ∃ b, b = c.toNat := ⟨_, rfl⟩
  rw [← hb] at hx HV ⊢
  have hbI : (b : Int) ≤ 255 := by omega
  have k0 := h.c0
  have f0 := h.f0
  have H0 : Hid (Tch q w (w.setCell ⟨q, 0, none⟩ (.int .u32 (v : Int))) ∧ Cel (w.setCell ⟨q, 0, none⟩ (.int .u32 (v : Int))) q v) := ⟨(Tch.refl q w).set 0 _, h.set v⟩
  clear hvv hb hc h hn hv
  go_enter Try.func23, Try.ntmps23
  go_wp2_with fail
  clear hx k0 f0
  go_loopw [7] (fun i wr => ∃ k : Nat, k ≤ 8 ∧ i = .int .i64 (k : Int) ∧ Hid (Tch q w wr ∧ Cel wr q (stpN k v))) (fun i _ => 8 - (intOf i).toNat)
  case atStart => exact ⟨0, by omega, rfl, H0.out⟩
  case round =>
    clear H0
    obtain ⟨k, hk, rfl, hd⟩ := hrel
    have hk0 : (0 : Int) ≤ (k : Int) := by omega
    by_cases hlt : k < 8
    · have hltI : (k : Int) < 8 := by omega
      have k0 := hd.out.2.c0
      have f0 := hd.out.2.f0
      have hm := HL.out k
      have HN : Hid (stpN (k + 1) v = stp (stpN k v)) := rfl
      obtain ⟨m, hmm⟩ : ∃ m, m = stpN k v := ⟨_, rfl⟩
      rw [← hmm] at k0 hm HN
      have hD : Hid (Tch q w (wr.setCell ⟨q, 0, none⟩ (.int .u32 ((stp m : Nat) : Int))) ∧ Cel (wr.setCell ⟨q, 0, none⟩ (.int .u32 ((stp m : Nat) : Int))) q (stp m)) := ⟨hd.out.1.set 0 _, hd.out.2.set _⟩
      have r2 : bits .and .u32 (m : Int) 1 = ((m % 2 : Nat) : Int) := by
        have := u32_and_nat m 1 hm (by omega)
        rw [Nat.and_one_is_mod] at this
        exact this
      obtain ⟨o, ho⟩ : ∃ o, o = m % 2 := ⟨_, rfl⟩
      have ho1 : o ≤ 1 := by omega
      obtain ⟨h, hh⟩ : ∃ h, h = m / 2 := ⟨_, rfl⟩
      have r1 : (m : Int) / 2 = (h : Int) := by omega
      obtain ⟨pp, hpp⟩ : ∃ pp, pp = o * 3988292384 := ⟨_, rfl⟩
      have r3 : IntKind.u32.wrap (3988292384 * (o : Int)) = (pp : Int) := by rw [IntKind.wrap_u32]; omega
      have r4 : bits .xor .u32 (h : Int) (pp : Int) = ((stp m : Nat) : Int) := by
        rw [u32_xor_nat h pp (by omega) (by omega)]
        unfold stp
        rw [hh, hpp, ho]
      rw [← ho] at r2
      obtain ⟨s, hs⟩ : ∃ s, s = stp m := ⟨_, rfl⟩
      rw [← hs] at r4 HN hD
      clear ho hh hpp hmm hs hd hm ho1
      go_wp2_with fail
      clear r1 r2 r3 r4
      exact ⟨⟨k + 1, by omega, by go_num, by rw [HN.out]; exact hD.out⟩, by simp [intOf]; omega⟩
    · obtain rfl : k = 8 := by omega
      go_wp2_with fail
      go_end0
      rw [HV.out]
      exact ⟨rfl, hd.out⟩
end Go.Proofs.Ytgbbckjbpgojaaa
