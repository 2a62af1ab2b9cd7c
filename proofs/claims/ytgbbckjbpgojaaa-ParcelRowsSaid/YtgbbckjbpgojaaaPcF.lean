/- parcel: the reference's numbers and texts (codec's, here up to a parcel's length), and its four bytes. -/
import Derived.Test.YtgbbckjbpgojaaaPcE
import Derived.Lib.AppendStr
namespace Go.Proofs.Ytgbbckjbpgojaaa
open Go.RowKit

/-- A row of some bytes, new. -/
def NewB (w0 w : World) (q n c : Nat) (l : List UInt8) : Prop :=
  w0.heap.size ≤ q ∧ SlB w (some ⟨q, 0, none⟩) n l ∧ w.ownsRow w0.heap.size 5 1 (.slice (some ⟨q, 0, none⟩) n c) n (l.map byt) ∧ Below w0.heap.size w0 w

theorem byte_hi {n : Nat} : IntKind.u8.wrap ((n : Int) % 128 + 128) = ((UInt8.ofNat (n % 128 + 128)).toNat : Int) := by
  rw [ofNat_toNat (by omega), IntKind.wrap_u8]; omega

theorem lit_one (w : World) (b : UInt8) : (w.alloc (.cells #[byt b] 5)).ownsRow w.heap.size 5 1 (.slice (some ⟨w.heap.size, 0, none⟩) 1 1) 1 ([b].map byt) :=
  ⟨rfl, .inr ⟨w.heap.size, 1, #[byt b], rfl, Nat.le_refl _, heap_alloc_new w _, Nat.le_refl _, by unfold maxLen; omega, rfl, rfl⟩⟩

/-- The lowest bytes of a number. -/
def lows : Nat → Nat → List UInt8
  | 0, _ => []
  | k + 1, n => UInt8.ofNat (n % 256) :: lows k (n / 256)
theorem four_lows (n : Nat) : four n = lows 4 n := by
  unfold four lows lows lows lows lows
  rw [Nat.div_div_eq_div_mul, Nat.div_div_eq_div_mul]
/-- Some bytes of the call's own, at a slice. -/
def OwnN (w : World) (v : Value) (l : List UInt8) (w' : World) : Prop := w'.ownsRow w.heap.size 5 1 v l.length (l.map byt) ∧ Below w.heap.size w w'

set_option maxHeartbeats 4000000 in
set_option maxRecDepth 100000 in
theorem rfour_c (n : Nat) (hn : n < 4294967296) (w : World) :
    Calls Try.prog 17 #[.int .u32 (n : Int)] w fun e w' => ∃ v, e = .returned v ∧ Hid (OwnN w v (four n) w') := by
  obtain ⟨i0, hi0, hz0, hz1, hz2⟩ := info_parts info_u8
  obtain ⟨F, hF⟩ : ∃ F, F = four n := ⟨_, rfl⟩
  rw [← hF]
  have HF : Hid (F = lows 4 n) := by show _ = _; rw [hF, four_lows]
  clear hF
  have hnI : (n : Int) ≤ 4294967295 := by omega
  go_enter Try.func17, Try.ntmps17
  go_wp2_with fail
  go_loopw [0, 3, 4] (fun x v i wr => ∃ k y : Nat, ∃ d : List UInt8, k ≤ 4 ∧ d.length = k ∧ y ≤ 4294967295 ∧ i = .int .i64 (k : Int) ∧ x = .int .u32 (y : Int) ∧ Hid (F = d ++ lows (4 - k) y) ∧ Hid (OwnN w v d wr)) (fun _ _ i _ => 4 - (intOf i).toNat)
  case atStart => exact ⟨0, n, [], by omega, rfl, by omega, rfl, rfl, HF.out, World.ownsRow_nil _ _ _ _, Below.refl _ _⟩
  case round =>
    obtain ⟨k, y, d, hk, hd, hy, rfl, rfl, hf, ho⟩ := hrel
    have hk0 : (0 : Int) ≤ (k : Int) := by omega
    have hyI : (y : Int) ≤ 4294967295 := by omega
    by_cases hlt : k < 4
    · have hltI : (k : Int) < 4 := by omega
      have hl1 : Hid (F = (d ++ [UInt8.ofNat (y % 256)]) ++ lows (4 - (k + 1)) (y / 256)) := by
        show _ = _
        rw [hf.out, show 4 - k = (4 - (k + 1)) + 1 by omega, List.append_assoc]
        rfl
      have w0 : IntKind.u8.wrap ((y : Int) % 256) = ((UInt8.ofNat (y % 256)).toNat : Int) := by
        rw [IntKind.wrap_u8, ofNat_toNat (by omega)]
        omega
      obtain ⟨q, hq⟩ : ∃ q, q = y / 256 := ⟨_, rfl⟩
      have r1 : (y : Int) / 256 = (q : Int) := by omega
      have hqb : q ≤ 4294967295 := by omega
      obtain ⟨b, hb⟩ : ∃ b, b = UInt8.ofNat (y % 256) := ⟨_, rfl⟩
      rw [← hb] at w0 hl1
      rw [← hq] at hl1
      obtain ⟨hown, hB⟩ := ho.out
      have hsz := hB.size
      have hal : Below wr.heap.size wr (wr.alloc (.cells #[byt b] 5)) := (Below.refl _ _).alloc (Nat.le_refl _) _
      have HO := Lib.hid (own_bl hown hal)
      have HB : Hid (Below w.heap.size w (wr.alloc (.cells #[byt b] 5))) := hB.alloc hsz _
      have HNw : Hid (∀ (i : Nat) (u : Value), ([b].map byt)[i]? = some u → (wr.alloc (.cells #[byt b] 5)).cell? ((⟨wr.heap.size, 0, none⟩ : Addr).add i) = some u) :=
        SlB.news rfl (n := 1) (fun i hi => by
          obtain rfl : i = 0 := by omega
          rw [cell_of_row _ _ _ _ _ _ (heap_alloc_new wr _)]; rfl)
      clear hq hb hf ho hB hy hown hal
      go_wp2_with (at_builtin; refine wpList_append_own _ rfl _ _ 22 rfl w.heap.size 5 i0 (.int .u8 0) 1 1 Try.underlying22 hi0 hz0 hz1 hz2 rfl (by decide) _ _ _ rfl HO.out ⟨wr.heap.size, 0, none⟩ 1 1 ([b].map byt) rfl ?c0 HNw.out (byt_one [b]) ?c1 ?c2 ?c3 ?_)
      case c0 => rfl
      case c1 => unfold maxLen; omega
      case c2 => omega
      case c3 => rw [World.size_alloc]; omega
      intro v1 w2 hown1 hg1 _
      have hO2 : Hid (OwnN w v1 (d ++ [b]) w2) := by
        refine ⟨?_, Below.grown HB.out hg1 (by rw [World.size_alloc]; omega) (fun i hi => (HO.out.lt i hi).1)⟩
        rw [List.length_append, List.map_append, hd]
        exact hown1
      clear hown1 hg1 HO HB HNw
      go_wp2_with fail
      exact ⟨⟨k + 1, q, d ++ [b], by omega, by simp [hd], hqb, by go_num, rfl, hl1, hO2⟩, by simp [intOf]; omega⟩
    · obtain rfl : k = 4 := by omega
      have he : F = d := by rw [hf.out]; simp [lows]
      subst he
      have HO := Lib.hid ho.out
      clear hf ho
      go_wp2_with fail
      go_ret
      exact ⟨_, rfl, HO.out⟩
end Go.Proofs.Ytgbbckjbpgojaaa
