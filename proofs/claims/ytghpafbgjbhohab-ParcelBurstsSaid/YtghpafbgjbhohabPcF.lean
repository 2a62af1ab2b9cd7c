/- parcel: the reference's numbers and texts (codec's, here up to a parcel's length), and its four bytes. -/
import Derived.Test.YtghpafbgjbhohabPcE
import Derived.Lib.AppendStr
namespace Go.Proofs.Ytghpafbgjbhohab
open Go.RowKit

/-- A row of some bytes, new. -/
def NewB (w0 w : World) (q n c : Nat) (l : List UInt8) : Prop :=
  w0.heap.size ≤ q ∧ SlB w (some ⟨q, 0, none⟩) n l ∧ w.ownsRow w0.heap.size 5 1 (.slice (some ⟨q, 0, none⟩) n c) n (l.map byt) ∧ Below w0.heap.size w0 w

theorem byte_hi {n : Nat} : IntKind.u8.wrap ((n : Int) % 128 + 128) = ((UInt8.ofNat (n % 128 + 128)).toNat : Int) := by
  rw [ofNat_toNat (by omega), IntKind.wrap_u8]; omega

theorem lit_one (w : World) (b : UInt8) : (w.alloc (.cells #[byt b] 5)).ownsRow w.heap.size 5 1 (.slice (some ⟨w.heap.size, 0, none⟩) 1 1) 1 ([b].map byt) :=
  ⟨rfl, .inr ⟨w.heap.size, 1, #[byt b], rfl, Nat.le_refl _, heap_alloc_new w _, Nat.le_refl _, by unfold maxLen; omega, rfl, rfl⟩⟩

set_option maxHeartbeats 4000000 in
set_option maxRecDepth 100000 in
theorem refNat_c : ∀ (n : Nat), n < 2 ^ 64 → ∀ (w : World),
    Calls Try.prog 38 #[.int .u64 (n : Int)] w fun e w' => ∃ q c, e = .returned (.slice (some ⟨q, 0, none⟩) (natB n).length c) ∧ Hid (NewB w w' q (natB n).length c (natB n)) := by
  intro n
  induction n using Nat.strongRecOn with
  | ind n ih =>
    intro hn w
    have hnI : (n : Int) ≤ 18446744073709551615 := by omega
    by_cases h : n < 128
    · have hI : (n : Int) < 128 := by omega
      obtain ⟨b, hb⟩ : ∃ b, b = UInt8.ofNat n := ⟨_, rfl⟩
      obtain rfl : n = b.toNat := by rw [hb, ofNat_toNat (by omega)]
      have hl : natB b.toNat = [b] := by rw [natB_small h, ← hb]
      rw [hl]
      clear ih hn hb hl h hnI
      have hI2 : (b.toNat : Int) ≤ 127 := by omega
      go_enter Try.func38, Try.ntmps38
      go_wp2_with fail
      go_ret
      refine ⟨w.heap.size, 1, rfl, Nat.le_refl _, ?_, lit_one w b, (Below.refl _ _).alloc (Nat.le_refl _) _⟩
      exact own_slb0 (lit_one w b)
    · obtain ⟨i0, hi0, hz0, hz1, hz2⟩ := info_parts info_u8
      have hI : (128 : Int) ≤ (n : Int) := by omega
      have hq : (n : Int) / 128 = ((n / 128 : Nat) : Int) := by omega
      have hl : natB n = UInt8.ofNat (n % 128 + 128) :: natB (n / 128) := natB_big (by omega)
      have hlen := natB_len10 hn
      have hp := natB_pos (n / 128)
      have HR := Lib.hid (fun W => ih (n / 128) (by omega) (by omega) W)
      have he := byte_hi (n := n)
      obtain ⟨b, hb⟩ : ∃ b, b = UInt8.ofNat (n % 128 + 128) := ⟨_, rfl⟩
      obtain ⟨t, ht⟩ : ∃ t, t = natB (n / 128) := ⟨_, rfl⟩
      obtain ⟨m, hm⟩ : ∃ m, m = n / 128 := ⟨_, rfl⟩
      rw [← hb] at he hl
      rw [← hm] at ht hq HR hl hp
      rw [← ht] at HR hl hp
      rw [hl] at hlen ⊢
      simp only [List.length_cons] at hlen ⊢
      clear ih hn hb hl ht hm h
      go_enter Try.func38, Try.ntmps38
      go_wp2_with fail
      ((with_reducible refine (HR.out _).mono ?_); rintro e w1 ⟨q, c, rfl, hnb⟩)
      obtain ⟨hq1, hsl, _, hbl⟩ := hnb
      have hbl' : Below (w.heap.size + 1) (w.alloc (.cells #[byt b] 5)) w1 := by rw [World.size_alloc] at hbl; exact hbl
      have ho1 : w1.ownsRow w.heap.size 5 1 (.slice (some ⟨w.heap.size, 0, none⟩) 1 1) 1 ([b].map byt) := by
        obtain ⟨h1, h2⟩ := lit_one w b
        refine ⟨h1, ?_⟩
        rcases h2 with h | ⟨g, cp, cur, hv, hg, hk, rest⟩
        · exact .inl h
        · refine .inr ⟨g, cp, cur, hv, hg, (hbl'.block g ?_).trans hk, rest⟩
          have := blk_lt hk; simpa using this
      have hsz1 : w.heap.size + 1 ≤ w1.heap.size := by have := hbl'.size; simpa using this
      have HO := Lib.hid ho1
      have hB1 : Hid (Below w.heap.size w w1) := ((Below.refl _ _).alloc (Nat.le_refl _) _).trans (hbl'.mono (by omega))
      have hnews : Hid (∀ (j : Nat) (u : Value), (t.map byt)[j]? = some u → w1.cell? ((⟨q, 0, none⟩ : Addr).add j) = some u) := by
        rcases hsl.2 with h0 | ⟨b', off', hA, _, hc⟩
        · omega
        · injection hA with hA
          injection hA with h1 h2 _
          subst h1; subst h2
          exact SlB.news hsl.1 hc
      have HTL : Hid (t.length = t.length) := rfl
      clear hbl hbl' hsl ho1 HR hq1
      go_wp2_with (at_builtin; refine wpList_append_lies _ rfl _ _ 22 rfl w.heap.size 5 i0 (.int .u8 0) 1 1 Try.underlying22 hi0 hz0 hz1 hz2 rfl (by decide) _ _ _ rfl HO.out ⟨q, 0, none⟩ t.length c (t.map byt) rfl ?c0 hnews.out (byt_one t) hp ?c1 ?c2 ?c3 w1.heap.size ?c4 ?_)
      case c0 => simp
      case c1 => unfold maxLen; omega
      case c2 => omega
      case c3 => omega
      case c4 => rfl
      intro q2 c2 w2 hown hgr hat hlt2
      have hfin : Hid (NewB w w2 q2 (t.length + 1) c2 (b :: t)) := by
        have ho : w2.ownsRow w.heap.size 5 1 (.slice (some ⟨q2, 0, none⟩) (t.length + 1) c2) (t.length + 1) ((b :: t).map byt) := by
          rw [Nat.add_comm t.length 1]; exact hown
        refine ⟨?_, own_slb0 ho, ho, hB1.out.grown hgr (by omega) (fun j hj => ?_)⟩
        · rcases hat with h | h
          · simp [Value.ownBlock] at h; omega
          · omega
        · simp [Value.ownBlock] at hj; omega
      rw [Nat.add_comm 1 t.length]
      clear hown hgr hat HO hnews hB1
      go_wp2_with fail
      go_ret
      exact ⟨q2, c2, rfl, hfin⟩

set_option maxHeartbeats 4000000 in
theorem refText_c (s : ByteArray) (hs : s.size ≤ 65536) (w : World) :
    Calls Try.prog 33 #[.string s] w fun e w' => ∃ q c, e = .returned (.slice (some ⟨q, 0, none⟩) ((natB s.size).length + s.size) c) ∧ Hid (NewB w w' q ((natB s.size).length + s.size) c (natB s.size ++ s.data.toList)) := by
  have H := Lib.hid (refNat_c s.size (by omega) w)
  have hsI : (s.size : Int) ≤ 65536 := by omega
  go_enter Try.func33, Try.ntmps33
  go_wp2_with fail
  ((with_reducible refine H.out.mono ?_); rintro e w1 ⟨q, c, rfl, hq⟩)
  clear H
  obtain ⟨i0, hi0, hz0, hz1, hz2⟩ := info_parts info_u8
  have h10 := natB_len10 (n := s.size) (by omega)
  have hp := natB_pos s.size
  obtain ⟨l, hl⟩ : ∃ l, l = natB s.size := ⟨_, rfl⟩
  rw [← hl] at hq h10 hp ⊢
  have Hl := Lib.hid hl
  clear hl
  have HO : Hid (w1.ownsRow w.heap.size 5 1 (.slice (some ⟨q, 0, none⟩) l.length c) l.length (l.map byt)) := hq.out.2.2.1
  have hsz := hq.out.2.2.2.size
  go_wp2_with (at_builtin; refine Lib.wpList_append_own_string _ rfl _ _ 22 9 rfl w.heap.size 5 i0 Try.underlying22 Try.underlying9 hi0 hz0 hz1 hz2 _ _ _ rfl HO.out s rfl ?c1 ?c2 ?c3 ?_)
  case c1 => unfold maxLen; omega
  case c2 => omega
  case c3 => exact hsz
  intro v2 w2 hown hgr _
  have hB2 : Hid (Below w.heap.size w w2) := hq.out.2.2.2.grown hgr hsz (fun j hj => by
    simp [Value.ownBlock] at hj; have := hq.out.1; omega)
  have ho2 : Hid (w2.ownsRow w.heap.size 5 1 v2 (l.length + s.size) ((l ++ s.data.toList).map byt)) := by
    show World.ownsRow _ _ _ _ _ _ _
    rw [List.map_append]; exact hown
  clear hown hgr HO hq
  go_wp2_with fail
  go_ret
  obtain ⟨q2, c2, hv, hq2, _, hs2⟩ := own_slb ho2.out (by omega)
  obtain rfl : l = natB s.size := Hl.out
  exact ⟨q2, c2, by rw [← hv]; rfl, hq2, hs2, by rw [← hv]; exact ho2.out, hB2.out⟩

/-- The lowest bytes of a number. -/
def lows : Nat → Nat → List UInt8
  | 0, _ => []
  | k + 1, n => UInt8.ofNat (n % 256) :: lows k (n / 256)
theorem four_lows (n : Nat) : four n = lows 4 n := by
  unfold four lows lows lows lows lows
  rw [Nat.div_div_eq_div_mul, Nat.div_div_eq_div_mul]
/-- Some bytes of the call's own, at a slice. -/
def OwnN (w : World) (v : Value) (l : List UInt8) (w' : World) : Prop := w'.ownsRow w.heap.size 5 1 v l.length (l.map byt) ∧ Below w.heap.size w w'

set_option maxHeartbeats 4000000 in
set_option maxRecDepth 100000 in
theorem rfour_c (n : Nat) (hn : n < 4294967296) (w : World) :
    Calls Try.prog 27 #[.int .u32 (n : Int)] w fun e w' => ∃ v, e = .returned v ∧ Hid (OwnN w v (four n) w') := by
  obtain ⟨i0, hi0, hz0, hz1, hz2⟩ := info_parts info_u8
  obtain ⟨F, hF⟩ : ∃ F, F = four n := ⟨_, rfl⟩
  rw [← hF]
  have HF : Hid (F = lows 4 n) := by show _ = _; rw [hF, four_lows]
  clear hF
  have hnI : (n : Int) ≤ 4294967295 := by omega
  go_enter Try.func27, Try.ntmps27
  go_wp2_with fail
  go_loopw [0, 3, 4] (fun x v i wr => ∃ k y : Nat, ∃ d : List UInt8, k ≤ 4 ∧ d.length = k ∧ y ≤ 4294967295 ∧ i = .int .i64 (k : Int) ∧ x = .int .u32 (y : Int) ∧ Hid (F = d ++ lows (4 - k) y) ∧ Hid (OwnN w v d wr)) (fun _ _ i _ => 4 - (intOf i).toNat)
  case atStart => exact ⟨0, n, [], by omega, rfl, by omega, rfl, rfl, HF.out, World.ownsRow_nil _ _ _ _, Below.refl _ _⟩
  case round =>
    obtain ⟨k, y, d, hk, hd, hy, rfl, rfl, hf, ho⟩ := hrel
    have hk0 : (0 : Int) ≤ (k : Int) := by omega
    have hyI : (y : Int) ≤ 4294967295 := by omega
    by_cases hlt : k < 4
    · have hltI : (k : Int) < 4 := by omega
      have hl1 : Hid (F = (d ++ [UInt8.ofNat (y % 256)]) ++ lows (4 - (k + 1)) (y / 256)) := by
        show _ = _
        rw [hf.out, show 4 - k = (4 - (k + 1)) + 1 by omega, List.append_assoc]
        rfl
      have w0 : IntKind.u8.wrap ((y : Int) % 256) = ((UInt8.ofNat (y % 256)).toNat : Int) := by
        rw [IntKind.wrap_u8, ofNat_toNat (by omega)]
        omega
      obtain ⟨q, hq⟩ : ∃ q, q = y / 256 := ⟨_, rfl⟩
      have r1 : (y : Int) / 256 = (q : Int) := by omega
      have hqb : q ≤ 4294967295 := by omega
      obtain ⟨b, hb⟩ : ∃ b, b = UInt8.ofNat (y % 256) := ⟨_, rfl⟩
      rw [← hb] at w0 hl1
      rw [← hq] at hl1
      obtain ⟨hown, hB⟩ := ho.out
      have hsz := hB.size
      have hal : Below wr.heap.size wr (wr.alloc (.cells #[byt b] 5)) := (Below.refl _ _).alloc (Nat.le_refl _) _
      have HO := Lib.hid (own_bl hown hal)
      have HB : Hid (Below w.heap.size w (wr.alloc (.cells #[byt b] 5))) := hB.alloc hsz _
      have HNw : Hid (∀ (i : Nat) (u : Value), ([b].map byt)[i]? = some u → (wr.alloc (.cells #[byt b] 5)).cell? ((⟨wr.heap.size, 0, none⟩ : Addr).add i) = some u) :=
        SlB.news rfl (n := 1) (fun i hi => by
          obtain rfl : i = 0 := by omega
          rw [cell_of_row _ _ _ _ _ _ (heap_alloc_new wr _)]; rfl)
      clear hq hb hf ho hB hy hown hal
      go_wp2_with (at_builtin; refine wpList_append_own _ rfl _ _ 22 rfl w.heap.size 5 i0 (.int .u8 0) 1 1 Try.underlying22 hi0 hz0 hz1 hz2 rfl (by decide) _ _ _ rfl HO.out ⟨wr.heap.size, 0, none⟩ 1 1 ([b].map byt) rfl ?c0 HNw.out (byt_one [b]) ?c1 ?c2 ?c3 ?_)
      case c0 => rfl
      case c1 => unfold maxLen; omega
      case c2 => omega
      case c3 => rw [World.size_alloc]; omega
      intro v1 w2 hown1 hg1 _
      have hO2 : Hid (OwnN w v1 (d ++ [b]) w2) := by
        refine ⟨?_, Below.grown HB.out hg1 (by rw [World.size_alloc]; omega) (fun i hi => (HO.out.lt i hi).1)⟩
        rw [List.length_append, List.map_append, hd]
        exact hown1
      clear hown1 hg1 HO HB HNw
      go_wp2_with fail
      exact ⟨⟨k + 1, q, d ++ [b], by omega, by simp [hd], hqb, by go_num, rfl, hl1, hO2⟩, by simp [intOf]; omega⟩
    · obtain rfl : k = 4 := by omega
      have he : F = d := by rw [hf.out]; simp [lows]
      subst he
      have HO := Lib.hid ho.out
      clear hf ho
      go_wp2_with fail
      go_ret
      exact ⟨_, rfl, HO.out⟩
end Go.Proofs.Ytghpafbgjbhohab
