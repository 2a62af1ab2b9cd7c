/- codec's writer: a number's groups. -/
import Derived.Test.YtgbbckjbpgojaaaCodD
import Derived.OwnWalk
import Derived.Deep.RegionHeld3
import Derived.Deep.AppendLies
import Derived.Lib.ConvBytes
namespace Go.Proofs.Ytgbbckjbpgojaaa
open Go.RowKit

/-- A byte as a cell. -/
def byt (b : UInt8) : Value := .int .u8 (b.toNat : Int)
theorem byt_one (l : List UInt8) : ∀ u ∈ l.map byt, u.oneCell' = true := by
  intro u hu
  obtain ⟨b, _, rfl⟩ := List.mem_map.1 hu
  rfl
theorem info_u8 : (Try.prog.info? 5).map (fun i => (i.zero, i.size, i.bytes)) = some (some (.int .u8 0), 1, 1) := by kernel_rfl

theorem natB_len : ∀ (k n : Nat), n < 128 ^ (k + 1) → (natB n).length ≤ k + 1
  | 0, n, h => by rw [natB_small (by simpa using h)]; simp
  | k + 1, n, h => by
    by_cases hn : n < 128
    · rw [natB_small hn]; simp
    · rw [natB_big (by omega), List.length_cons]
      have := natB_len k (n / 128) (by rw [Nat.div_lt_iff_lt_mul (by omega)]; rw [Nat.pow_succ] at h; exact h)
      omega
theorem natB_len10 {n : Nat} (h : n < 2 ^ 64) : (natB n).length ≤ 10 :=
  natB_len 9 n (Nat.lt_of_lt_of_le h (by decide))
theorem natB_pos (n : Nat) : 0 < (natB n).length := by rw [natB]; split <;> simp

theorem byte_more (m : Nat) : bits .or .u8 ((m : Int) % 256) 128 = ((UInt8.ofNat (m % 128 + 128)).toNat : Int) := by
  rw [ofNat_toNat (by omega)]
  have key : ∀ x : Fin 256, bits .or .u8 ((x.val : Nat) : Int) 128 = ((x.val % 128 + 128 : Nat) : Int) := by decide +kernel
  have h2 := key ⟨m % 256, by omega⟩
  simp only at h2
  rw [show (m : Int) % 256 = ((m % 256 : Nat) : Int) from rfl, h2]
  omega
theorem one_news (w : World) (b : UInt8) : ∀ (j : Nat) (u : Value), [byt b][j]? = some u → (w.alloc (Obj.cells #[Value.int IntKind.u8 (b.toNat : Int)] 5)).cell? ((⟨w.heap.size, 0, none⟩ : Addr).add j) = some u := by
  intro j u hu
  cases j with
  | zero =>
    simp at hu
    subst hu
    have hadd : (⟨w.heap.size, 0, none⟩ : Addr).add 0 = ⟨w.heap.size, 0, none⟩ := by unfold Addr.add; split <;> simp_all
    rw [hadd, cell_of_row _ _ _ _ _ _ (heap_alloc_new w _)]
    rfl
  | succ j => simp at hu
set_option maxHeartbeats 2000000 in
set_option maxRecDepth 100000 in
theorem groups_c (n : Nat) (h : n < 18446744073709551616) (w : World) :
    Calls Try.prog 29 #[.int .u64 (n : Int)] w fun e w' => ∃ v, e = .returned v ∧ w'.ownsRow w.heap.size 5 1 v (natB n).length ((natB n).map byt) ∧ Below w.heap.size w w' := by
  obtain ⟨i0, hi0, hz0, hz1, hz2⟩ := info_parts info_u8
  have Hh := Lib.hid h; clear h
  go_enter Try.func29, Try.ntmps29
  go_wp2_with fail
  go_loopw [0, 3] (fun x v wr => ∃ (m : Nat) (pre : List UInt8), x = .int .u64 (m : Int) ∧ Hid (m < 18446744073709551616 ∧ pre ++ natB m = natB n) ∧ wr.ownsRow w.heap.size 5 1 v pre.length (pre.map byt) ∧ Below w.heap.size w wr) (fun x _ _ => (intOf x).toNat)
  case atStart => exact ⟨n, [], rfl, ⟨Hh.out, rfl⟩, World.ownsRow_nil _ _ _ _, Below.refl _ _⟩
  case round =>
    obtain ⟨m, pre, rfl, hm, hown, hB⟩ := hrel
    have hm' : (m : Int) ≤ 18446744073709551615 := by have := hm.out.1; omega
    have hlen : Hid ((natB n).length ≤ 10) := natB_len10 Hh.out
    have hpl : pre.length + (natB m).length = (natB n).length := by rw [← hm.out.2]; simp
    have hpos := natB_pos m
    have hp9 : pre.length ≤ 9 := by have := hlen.out; omega
    have HB := Lib.hid hB
    have hsz := hB.size
    clear hpl hpos hB
    by_cases hc : 128 ≤ m
    · have hc' : (128 : Int) ≤ (m : Int) := by omega
      have he := byte_more m
      have hnx : Hid (m / 128 < 18446744073709551616 ∧ (pre ++ [UInt8.ofNat (m % 128 + 128)]) ++ natB (m / 128) = natB n) := by
        refine ⟨by have := hm.out.1; omega, ?_⟩
        rw [← hm.out.2, natB_big hc, List.append_assoc]; rfl
      obtain ⟨b, hb⟩ : ∃ b, b = UInt8.ofNat (m % 128 + 128) := ⟨_, rfl⟩
      rw [← hb] at he hnx
      clear hb hc
      go_wp2_with (at_builtin; refine wpList_append_own _ rfl _ _ 22 rfl w.heap.size 5 i0 (.int .u8 0) 1 1 Try.underlying22 hi0 hz0 hz1 hz2 rfl (by decide) _ _ _ rfl (hown.alloc _) ⟨wr.heap.size, 0, none⟩ 1 1 [byt b] rfl rfl ?c1 ?c2 ?c3 ?c4 ?c5 ?_)
      case c1 => exact one_news _ b
      case c2 => exact byt_one [b]
      case c3 => unfold maxLen; omega
      case c4 => omega
      case c5 => simp; omega
      intro v1 w1 hown1 hg1 _
      have hB1 : Hid (Below w.heap.size w w1) := Below.grown (HB.out.alloc hsz _) hg1 (by simp; omega) (fun k hk => (hown.lt k hk).1)
      clear hg1 hown he HB
      go_wp2_with fail
      refine ⟨⟨m / 128, pre ++ [b], by go_num, hnx, ?_, hB1.out⟩, ?_⟩
      · simpa using hown1
      · simp [intOf]; omega
    · have hc' : ¬ (128 : Int) ≤ (m : Int) := by omega
      have hnx : Hid (pre ++ [UInt8.ofNat m] = natB n) := by
        show _ = _
        rw [← hm.out.2, natB_small (by omega)]
      obtain ⟨b, hb⟩ : ∃ b, b = UInt8.ofNat m := ⟨_, rfl⟩
      rw [← hb] at hnx
      obtain rfl : m = b.toNat := by rw [hb, ofNat_toNat (by omega)]
      have hc2 : (b.toNat : Int) ≤ 127 := by omega
      clear hb hc hm' hm
      go_wp2_with (at_builtin; refine wpList_append_own _ rfl _ _ 22 rfl w.heap.size 5 i0 (.int .u8 0) 1 1 Try.underlying22 hi0 hz0 hz1 hz2 rfl (by decide) _ _ _ rfl (hown.alloc _) ⟨wr.heap.size, 0, none⟩ 1 1 [byt b] rfl rfl ?c1 ?c2 ?c3 ?c4 ?c5 ?_)
      case c1 => exact fun j u h => h
      case c2 => rfl
      case c3 => unfold maxLen; omega
      case c4 => omega
      case c5 => omega
      intro v1 w1 hown1 hg1 _
      have hB1 : Hid (Below w.heap.size w w1) := Below.grown (HB.out.alloc hsz _) hg1 (by simp; omega) (fun k hk => (hown.lt k hk).1)
      have hown2 : Hid (w1.ownsRow w.heap.size 5 1 v1 (natB n).length ((natB n).map byt)) := by
        show World.ownsRow _ _ _ _ _ _ _
        rw [← hnx.out]
        simpa using hown1
      clear hg1 hown hown1 HB
      go_wp2_with fail
      go_ret
      exact ⟨v1, rfl, hown2.out, hB1.out⟩
end Go.Proofs.Ytgbbckjbpgojaaa
