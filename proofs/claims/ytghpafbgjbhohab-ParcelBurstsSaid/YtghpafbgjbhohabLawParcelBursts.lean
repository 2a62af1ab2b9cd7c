/-
  ParcelBursts: for every input the law returns true, and each argument reads behind the call as it read before. No condition.
-/
import Derived.Test.YtghpafbgjbhohabRows
import Derived.WalkKit
import Derived.ProofKit
import Derived.OpenShut
import Derived.ShutString
import Derived.ChangeOld
import Derived.Below
import Derived.Carry
import Derived.Test.YtghpafbgjbhohabPcT
namespace Go.Proofs.Ytghpafbgjbhohab.parcelBursts
open Go.ChangeShapes Go.WideShapes Go.ChangeAt Go.RowKit
open Go.ChangeMaps (open_string shut_string)
set_option linter.unusedVariables false

theorem own : ownKnob Try.prog.godebug = none := by kernel_rfl
theorem laidOut : laidOutB Try.prog = true := by kernel_rfl

/-- A slice of bytes that came in, as the form reads it. -/
def IsRow (w : World) (a : Option Addr) (len cap : Nat) (zs : List Int) : Prop :=
  (a = none ∧ len = 0 ∧ cap = 0 ∧ zs = []) ∨ ∃ x, a = some x ∧ len ≤ cap ∧ cap ≤ maxLen ∧ zs.length = cap ∧ (∀ i, i < zs.length → w.cell? (x.add i) = some (.int .u8 (zs.getD i 0))) ∧ ∀ n ∈ zs, (Lit.int .u8 n).wf = true

set_option maxHeartbeats 8000000 in
set_option maxRecDepth 100000 in
theorem walk (x0 : Pie) (a1 : Int) (a2 : Int) (w : World) (w0 : x0.ok w) (w1 : (Lit.int .u16 a1).wf = true) (w2 : (Lit.int .u32 a2).wf = true) :
    Calls Try.prog 7 #[x0.val, .int .u16 a1, .int .u32 a2] w fun e w' => e = .returned (.bool true) ∧ Below w.heap.size w w' := by
  obtain ⟨kd, bA, bL, bC, bZ⟩ := x0
  obtain ⟨⟨hk0, hk1⟩, hb, hbl, hbc, hbn⟩ := w0
  simp only at hk0 hk1 hb hbl hbc hbn
  show Calls Try.prog 7 #[.agg #[.int .u8 kd, .slice bA bL bC], .int .u16 a1, .int .u32 a2] w _
  obtain ⟨K, rfl⟩ : ∃ K : Nat, (K : Int) = kd := ⟨kd.toNat, by omega⟩
  have ha := bounds_u16 w1
  have ht := bounds_u32 w2
  obtain ⟨at', rfl⟩ : ∃ n : Nat, (n : Int) = a1 := ⟨a1.toNat, by omega⟩
  obtain ⟨tn, rfl⟩ : ∃ n : Nat, (n : Int) = a2 := ⟨a2.toNat, by omega⟩
  clear w1 w2
  have HW1 : Hid (Below w.heap.size w (w.alloc (.cells #[.int .u8 (K : Int), .slice bA bL bC] 48))) := (Below.refl _ w).alloc (Nat.le_refl _) _
  have HBx : Hid ((w.alloc (.cells #[.int .u8 (K : Int), .slice bA bL bC] 48)).heap[w.heap.size]? = some (.cells #[.int .u8 (K : Int), .slice bA bL bC] 48 (0, 0))) := heap_alloc_new w _
  have HS := Lib.hid (hb.below HW1.out)
  have HH := Lib.hid (And.intro hbl (And.intro hbc hbn))
  have HK : Hid (K < 256) := by show _ < _; omega
  clear hb hbl hbc hbn hk0 hk1
  by_cases h500 : 500 < bL
  · have hI : (500 : Int) < (bL : Int) := by omega
    clear h500
    go_enter Try.func7, Try.ntmps7
    go_wp2_with fail
    ((with_reducible refine (lives3_c _).mono ?_); rintro e z1 ⟨rfl, bz⟩)
    go_wp2_with fail
    go_ret
    exact ⟨rfl, HW1.out.trans (bz.mono HW1.out.size)⟩
  have hI : (bL : Int) ≤ 500 := by omega
  have HN : Hid (bL ≤ 500) := by show _ ≤ _; omega
  clear h500
  by_cases htz : tn = 0
  · subst htz
    go_enter Try.func7, Try.ntmps7
    go_wp2_with fail
    ((with_reducible refine (lives3_c _).mono ?_); rintro e z1 ⟨rfl, bz⟩)
    go_wp2_with fail
    go_ret
    exact ⟨rfl, HW1.out.trans (bz.mono HW1.out.size)⟩
  have ht0 : ((tn : Int) == 0) = false := by simp; omega
  have HT : Hid (tn ≠ 0 ∧ tn < 4294967296) := ⟨htz, by omega⟩
  clear htz
  have HWr := Lib.hid (wrapAny_c K HK.out bA bL bC bZ _ HS.out (by have := HN.out; omega) HH.out.2.2)
  unfold Wrapped at HWr
  by_cases hK0 : K = 0
  · have e1 : wErr K bZ = 2 := if_pos hK0
    rw [e1, show ((2 : Nat) : Int) = 2 from rfl] at HWr
    subst hK0
    clear e1
    have ce : ((0 : Nat) : Int) = 0 := rfl
    rw [ce] at HWr HBx HW1 ⊢
    clear ce
    go_enter Try.func7, Try.ntmps7
    go_wp2_with fail
    ((with_reducible refine HWr.out.mono ?_); rintro e u1 ⟨A1, c1, rfl, hd1⟩)
    have B1 : Hid (Below w.heap.size w u1) := HW1.out.trans (hd1.out.2.1.mono HW1.out.size)
    have hx : u1.heap[w.heap.size]? = some (.cells #[.int .u8 0, .slice bA bL bC] 48 (0, 0)) := (hd1.out.2.1.block _ (blk_lt HBx.out)).trans HBx.out
    have x0 : u1.cell? ⟨w.heap.size, 0, none⟩ = some (.int .u8 0) := by rw [cell_of_row _ _ _ _ _ _ hx]; rfl
    clear hd1 hx HWr
    go_wp2_with fail
    ((with_reducible refine (lives3_c _).mono ?_); rintro e z1 ⟨rfl, bz⟩)
    go_wp2_with fail
    go_ret
    exact ⟨rfl, B1.out.trans (bz.mono B1.out.size)⟩
  have e1 : wErr K bZ = 0 := by unfold wErr; rw [if_neg hK0, if_neg (by have := HS.out.1; have := HN.out; omega)]
  have e2 : wOut K bZ = wrapB K bZ := by unfold wOut; rw [if_neg hK0, if_neg (by have := HS.out.1; have := HN.out; omega)]
  rw [e1, e2, show ((0 : Nat) : Int) = 0 from rfl] at HWr
  clear e1 e2
  have hLen : (wrapB K bZ).length = 1 + (natB bZ.length).length + bL + 4 := by
    have := HS.out.1
    unfold wrapB headB; simp [four_len]; omega
  have hm10 : (natB bZ.length).length ≤ 10 := natB_len10 (by have := HS.out.1; have := HN.out; omega)
  have hm1 := natB_pos bZ.length
  have HBu := Lib.hid (fun (c : List UInt8) => firstF_burst K bZ (by have := HS.out.1; have := HN.out; omega) c)
  have HNum : Hid (((wrapB K bZ).drop 1).take (natB bZ.length).length = natB bZ.length) := by
    show _ = _
    rw [show (wrapB K bZ).drop 1 = natB bZ.length ++ (bZ ++ four (sumN (headB K bZ))) by unfold wrapB headB; simp, List.take_left]
  obtain ⟨nB, hnB⟩ : ∃ x, x = natB bZ.length := ⟨_, rfl⟩
  rw [← hnB] at hLen hm10 hm1 HBu HNum
  obtain ⟨m, hm⟩ : ∃ x, x = nB.length := ⟨_, rfl⟩
  rw [← hm] at hLen hm10 hm1 HBu HNum
  obtain ⟨b, hbb⟩ : ∃ x, x = wrapB K bZ := ⟨_, rfl⟩
  rw [← hbb] at hLen HWr HBu HNum
  obtain ⟨L, hL⟩ : ∃ x, x = b.length := ⟨_, rfl⟩
  rw [← hL] at hLen HWr HBu
  have HLb := Lib.hid hL
  have hL2 : L ≤ 600 := by have := HN.out; omega
  have hL5 : 5 ≤ L := by omega
  have hmL : m + 1 < L := by omega
  have r5 : (L : Int) - (bL : Int) - 5 = (m : Int) := by omega
  have hLI : (L : Int) ≤ 600 := by omega
  have hLI5 : (5 : Int) ≤ (L : Int) := by omega
  have hL0b : ((L : Int) == 0) = false := by simp; omega
  have hmI : (1 : Int) ≤ (m : Int) := by omega
  have hm10I : (m : Int) ≤ 10 := by omega
  have HLen := Lib.hid hLen
  clear hnB hm hbb hL HK hK0 HH hLen
  obtain ⟨i0, hi0, hz0, hz1, hz2⟩ := info_parts info_u8
  go_enter Try.func7, Try.ntmps7
  go_wp2_with fail
  ((with_reducible refine HWr.out.mono ?_); rintro e u1 ⟨A1, c1, rfl, hd1⟩)
  obtain ⟨k1, o1, rfl⟩ : ∃ k1 o1, A1 = some ⟨k1, o1, none⟩ := by
    rcases hd1.out.1.2 with h0 | ⟨k1, o1, h, _⟩
    · omega
    · exact ⟨k1, o1, h⟩
  have B1 : Hid (Below w.heap.size w u1) := HW1.out.trans (hd1.out.2.1.mono HW1.out.size)
  have HX1 : Hid (u1.heap[w.heap.size]? = some (.cells #[.int .u8 (K : Int), .slice bA bL bC] 48 (0, 0))) := (hd1.out.2.1.block _ (blk_lt HBx.out)).trans HBx.out
  have HS1 := Lib.hid hd1.out.1
  have HC1 : Hid (L ≤ c1 ∧ c1 ≤ maxLen) := ⟨hd1.out.2.2.1, hd1.out.2.2.2.1⟩
  clear hd1 HWr HW1 HBx
  have HK1 : Hid (k1 < u1.heap.size ∧ w.heap.size < u1.heap.size) := by
    refine ⟨?_, blk_lt HX1.out⟩
    rcases HS1.out.2 with h0 | ⟨k', o', h, hlt, _⟩
    · omega
    · injection h with h; injection h with h _ _; rw [h]; exact hlt
  have HO : Hid ((u1.alloc (.cells #[] 5)).ownsRow w.heap.size 5 1 (.slice (some ⟨u1.heap.size, 0, none⟩) 0 0) 0 []) := World.ownsRow_made u1 #[] 0 B1.out.size (by unfold maxLen; omega) (by simp)
  have HNw : Hid (∀ (j : Nat) (u : Value), (b.map byt)[j]? = some u → (u1.alloc (.cells #[] 5)).cell? ((⟨k1, o1, none⟩ : Addr).add j) = some u) := by
    have hs := HS1.out.below ((Below.refl _ _).alloc (Nat.le_refl _) (.cells #[] 5))
    rcases hs.2 with h0 | ⟨k', o', h, _, hcl⟩
    · omega
    · injection h with h
      rw [h]
      exact SlB.news hs.1 hcl
  have HAp : Hid (∀ (g cg : Nat) (W : World), W.ownsRow w.heap.size 5 1 (.slice (some ⟨g, 0, none⟩) L cg) L (b.map byt) → (u1.alloc (.cells #[] 5)).grownBy W (Value.slice (some ⟨u1.heap.size, 0, none⟩) 0 0).ownBlock →
      ((Value.slice (some ⟨u1.heap.size, 0, none⟩) 0 0).ownBlock = some g ∨ g = u1.heap.size + 1) → BW w (K : Int) bA bL bC k1 o1 L b g cg b W ∧ L ≤ cg ∧ cg ≤ maxLen) := by
    intro g cg W hown hgr hat
    have hg : u1.heap.size ≤ g := by
      rcases hat with h | h
      · simp [Value.ownBlock] at h; omega
      · omega
    obtain ⟨hk, hwl⟩ := HK1.out
    have hBa := B1.out.alloc B1.out.size (.cells #[] 5)
    have hB : Below w.heap.size w W := Below.grown hBa hgr hBa.size (fun j hj => by simp [Value.ownBlock] at hj; omega)
    have hBu : Below u1.heap.size u1 W := Below.grown ((Below.refl _ u1).alloc (Nat.le_refl _) (.cells #[] 5)) hgr (by simp) (fun j hj => by simp [Value.ownBlock] at hj; omega)
    refine ⟨⟨hB, (hBu.block _ hwl).trans HX1.out, HS1.out.below hBu, hown, HLb.out.symm, by omega, by omega⟩, ?_⟩
    rcases hown.2 with ⟨hx, _⟩ | ⟨kk, cap', cur, hx, _, _, hh, hmm, _⟩
    · cases hx
    · injection hx with _ _ hx
      omega
  go_wp2_with (first | (at_builtin; refine wpList_append_lies _ rfl _ _ 22 rfl w.heap.size 5 i0 (.int .u8 0) 1 1 Try.underlying22 hi0 hz0 hz1 hz2 rfl (by decide) _ _ _ rfl HO.out ⟨k1, o1, none⟩ L c1 (b.map byt) rfl ?c0 HNw.out (byt_one b) (by omega) ?c1 ?c2 ?c3 (u1.heap.size + 1) ?c4 ?_) | fail)
  case c0 => rw [List.length_map, ← HLb.out, Nat.mul_one]
  case c1 => unfold maxLen; omega
  case c2 => omega
  case c3 => have := B1.out.size; simp; omega
  case c4 => simp
  intro g cg u2 hown hgr hat _
  obtain ⟨HB2, hcg⟩ := HAp.out g cg u2 hown hgr hat
  have HB := Lib.hid HB2
  have HCg := Lib.hid hcg
  clear hown hgr hat HAp HO HNw HB2 hcg HS1 HX1 B1 HK1
  obtain ⟨fr, hfr⟩ : ∃ fr, fr = at' % (8 * L) := ⟨_, rfl⟩
  have hfrl : fr < 8 * L := by rw [hfr]; exact Nat.mod_lt _ (by omega)
  have rf : (at' : Int) % (8 * (L : Int)) = (fr : Int) := by rw [hfr]; simp
  have rz : (8 * (L : Int) == 0) = false := by simp; omega
  have haI : (at' : Int) ≤ 65535 := by omega
  clear hfr
  go_wp2_with fail
  rw [rf]
  go_loopw [11, 12] (fun an i W => ∃ (k : Nat) (bn : Bool) (cl : List UInt8), k ≤ 32 ∧ i = .int .i64 (k : Int) ∧ an = .bool bn ∧ Hid ((bn = true ↔ bitsT tn k ≠ 0) ∧ BW w (K : Int) bA bL bC k1 o1 L b g cg cl W ∧ numB b ^^^ numB cl = bitsT tn k * 2 ^ fr)) (fun _ i _ => 32 - (intOf i).toNat)
  case atStart => exact ⟨0, false, b, by omega, rfl, rfl, by rw [bitsT_zero]; simp, HB.out, by rw [bitsT_zero, Nat.xor_self, Nat.zero_mul]⟩
  case round =>
    clear HB rf rz haI
    obtain ⟨k, bn, cl, hk, rfl, rfl, hd⟩ := hrel
    have hk0 : (0 : Int) ≤ (k : Int) := by omega
    have hkI : (k : Int) ≤ 32 := by omega
    have hfI : (fr : Int) ≤ 4800 := by omega
    by_cases hgo : k < 32 ∧ fr + k < 8 * L
    · obtain ⟨h1, h2⟩ := hgo
      have h1I : (k : Int) < 32 := by omega
      have h2I : (fr : Int) + (k : Int) < 8 * (L : Int) := by omega
      obtain ⟨h, hh⟩ : ∃ h, h = tn / 2 ^ k := ⟨_, rfl⟩
      have rs : (tn : Int) / 2 ^ k = (h : Int) := by rw [hh]; simp
      have hh32 : h < 4294967296 := by rw [hh]; exact Nat.lt_of_le_of_lt (Nat.div_le_self _ _) HT.out.2
      have ra0 : bits .and .u32 (h : Int) 1 = ((h % 2 : Nat) : Int) := by
        have := u32_and_nat h 1 hh32 (by omega)
        rw [Nat.and_one_is_mod] at this
        exact this
      by_cases hbit : h % 2 = 1
      · have ra : bits .and .u32 (h : Int) 1 = 1 := by rw [ra0, hbit]; rfl
        obtain ⟨ix, hix⟩ : ∃ ix, ix = (fr + k) / 8 := ⟨_, rfl⟩
        obtain ⟨kk, hkk⟩ : ∃ kk, kk = (fr + k) % 8 := ⟨_, rfl⟩
        have hixL : ix < L := by omega
        have hkk8 : kk < 8 := by omega
        obtain ⟨p0, p1⟩ := hd.out.2.1.cell hixL
        obtain ⟨q, hq⟩ : ∃ q, q = 2 ^ kk := ⟨_, rfl⟩
        have hq8 : q ≤ 128 := by
          rw [hq]
          have := Nat.pow_le_pow_right (n := 2) (by omega) (show kk ≤ 7 by omega)
          simpa using this
        obtain ⟨v, hv⟩ : ∃ v, v = (cl.getD ix 0).toNat := ⟨_, rfl⟩
        have hv8 : v < 256 := by rw [hv]; exact (cl.getD ix 0).toNat_lt
        have hx8 := u8_xor_nat v q hv8 (by omega)
        have hu8 : v ^^^ q < 256 := Nat.xor_lt_two_pow (n := 8) hv8 (by omega)
        obtain ⟨u, hu⟩ : ∃ u, u = v ^^^ q := ⟨_, rfl⟩
        rw [← hu] at hx8 hu8
        have hub : byt (UInt8.ofNat u) = .int .u8 (u : Int) := by unfold byt; rw [ofNat_toNat hu8]
        have hnx : Hid (bitsT tn (k + 1) ≠ 0 ∧ BW w (K : Int) bA bL bC k1 o1 L b g cg (cl.set ix (UInt8.ofNat u)) ((wr.setCell ⟨g, ix, none⟩ (.int .u8 (u : Int))).drew) ∧ numB b ^^^ numB (cl.set ix (UInt8.ofNat u)) = bitsT tn (k + 1) * 2 ^ fr) := by
          have hb1 : bitsT tn (k + 1) = bitsT tn k ^^^ 2 ^ k := bitsT_yes (by rw [← hh]; exact hbit)
          refine ⟨fun h0 => ?_, ?_, ?_⟩
          · have hlt := bitsT_lt tn k
            rw [hb1] at h0
            have : bitsT tn k = 2 ^ k := by
              have h9 := congrArg (· ^^^ 2 ^ k) h0
              simpa [Nat.xor_assoc] using h9
            omega
          · have := (hd.out.2.1.set hixL (UInt8.ofNat u)).drew
            rw [hub] at this
            exact this
          · rw [numB_set cl ix kk (UInt8.ofNat u) (by rw [hd.out.2.1.2.2.2.2.1]; exact hixL) (by rw [ofNat_toNat hu8, hu, hv, hq]), ← Nat.xor_assoc, hd.out.2.2, hb1, xor_mul, ← Nat.pow_add]
            congr 2
            omega
        have r1 : ((fr : Int) + (k : Int)) / 8 = (ix : Int) := by omega
        have r2 : ((fr : Int) + (k : Int)) % 8 = (kk : Int) := by omega
        have r3 : ((fr : Int) + (k : Int)).tdiv 8 = (ix : Int) := by rw [Int.tdiv_eq_ediv_of_nonneg (by omega)]; exact r1
        have r4 : ((fr : Int) + (k : Int)).tmod 8 = (kk : Int) := by rw [Int.tmod_eq_emod_of_nonneg (by omega)]; exact r2
        have r5 : IntKind.i64.wrap ((fr : Int) + (k : Int)) = (fr : Int) + (k : Int) := by rw [IntKind.wrap_i64]; omega
        have r6 : IntKind.i64.wrap (ix : Int) = (ix : Int) := by rw [IntKind.wrap_i64]; omega
        have r7 : IntKind.i64.wrap (kk : Int) = (kk : Int) := by rw [IntKind.wrap_i64]; omega
        have r8 : (2 : Int) ^ kk = (q : Int) := by rw [hq]; simp
        have r9 : IntKind.u8.wrap (q : Int) = (q : Int) := by rw [IntKind.wrap_u8]; omega
        have r10 : (0 : Int) ≤ (ix : Int) := by omega
        have r11 : (ix : Int) < (L : Int) := by omega
        have r12 : (0 : Int) ≤ (kk : Int) := by omega
        have r13 : (kk : Int) ≤ 7 := by omega
        have r14 : min kk 8 = kk := by omega
        have hvI : (v : Int) ≤ 255 := by omega
        rw [← hv] at p0
        clear ra0 hh hix hkk hq hu hv hd hub hbit hh32 hv8 hu8
        go_wp2_with fail
        refine wp_region_held_drew (S := (fun _ => True)) (by kernel_rfl) (by first | (dsimp only; exact trivial) | exact trivial) (fun hHeld => ?_)
        refine wpAnyH_take (i := 0) (oi := ⟨some 73, _, _, _, _, _⟩) (v := ?_) rfl (by kernel_rfl) (by kernel_rfl) (by kernel_rfl) (fun _ _ _ h => h) (Or.inl ⟨by kernel_rfl, ?_⟩) (by assumption) ?_
        rotate_left
        · (intro w hSw; (try dsimp only at hSw); go_simp; try with_reducible rfl)
        (repeat (first | simp only [Act.put] | simp only [List.setIfInBounds_toArray] | simp only [List.set_cons_succ] | simp only [List.set_cons_zero]))
        refine wpAnyH_take (i := 1) (oi := ⟨some 74, _, _, _, _, _⟩) (v := ?_) rfl (by kernel_rfl) (by kernel_rfl) (by kernel_rfl) (fun _ _ _ h => h) (Or.inl ⟨by kernel_rfl, ?_⟩) (by assumption) ?_
        rotate_left
        · (intro w hSw; (try dsimp only at hSw); go_simp; try with_reducible rfl)
        (repeat (first | simp only [Act.put] | simp only [List.setIfInBounds_toArray] | simp only [List.set_cons_succ] | simp only [List.set_cons_zero]))
        refine wpAnyH_take (i := 2) (oi := ⟨some 75, _, _, _, _, _⟩) (v := ?_) rfl (by kernel_rfl) (by kernel_rfl) (by kernel_rfl) (fun _ _ _ h => h) (Or.inl ⟨by kernel_rfl, ?_⟩) (by assumption) ?_
        rotate_left
        · (intro w hSw; (try dsimp only at hSw); go_simp; try with_reducible rfl)
        (repeat (first | simp only [Act.put] | simp only [List.setIfInBounds_toArray] | simp only [List.set_cons_succ] | simp only [List.set_cons_zero]))
        refine wpAnyH_take (i := 3) (oi := ⟨some 76, _, _, _, _, _⟩) (v := ?_) rfl (by kernel_rfl) (by kernel_rfl) (by kernel_rfl) (fun _ _ _ h => h) (Or.inl ⟨by kernel_rfl, ?_⟩) (by assumption) ?_
        rotate_left
        · (intro w hSw; (try dsimp only at hSw); go_simp; try with_reducible rfl)
        (repeat (first | simp only [Act.put] | simp only [List.setIfInBounds_toArray] | simp only [List.set_cons_succ] | simp only [List.set_cons_zero]))
        refine wpAnyH_take (i := 4) (oi := ⟨some 77, _, _, _, _, _⟩) (v := ?_) rfl (by kernel_rfl) (by kernel_rfl) (by kernel_rfl) (fun _ _ _ h => h) (Or.inl ⟨by kernel_rfl, ?_⟩) (by assumption) ?_
        rotate_left
        · (intro w hSw; (try dsimp only at hSw); go_simp; try with_reducible rfl)
        (repeat (first | simp only [Act.put] | simp only [List.setIfInBounds_toArray] | simp only [List.set_cons_succ] | simp only [List.set_cons_zero]))
        refine wpAnyH_take (i := 5) (oi := ⟨some 78, _, _, _, _, _⟩) (v := ?_) rfl (by kernel_rfl) (by kernel_rfl) (by kernel_rfl) (fun _ _ _ h => h) (Or.inl ⟨by kernel_rfl, ?_⟩) (by assumption) ?_
        rotate_left
        · (intro w hSw; (try dsimp only at hSw); go_simp; try with_reducible rfl)
        (repeat (first | simp only [Act.put] | simp only [List.setIfInBounds_toArray] | simp only [List.set_cons_succ] | simp only [List.set_cons_zero]))
        refine wpAnyH_take (i := 7) (oi := ⟨some 80, _, _, _, _, _⟩) (v := ?_) rfl (by kernel_rfl) (by kernel_rfl) (by kernel_rfl) (fun _ _ _ h => h) (Or.inl ⟨by kernel_rfl, ?_⟩) (by assumption) ?_
        rotate_left
        · (intro w hSw; (try dsimp only at hSw); go_simp; try with_reducible rfl)
        (repeat (first | simp only [Act.put] | simp only [List.setIfInBounds_toArray] | simp only [List.set_cons_succ] | simp only [List.set_cons_zero]))
        refine wpAnyH_take (i := 8) (oi := ⟨some 81, _, _, _, _, _⟩) (v := ?_) rfl (by kernel_rfl) (by kernel_rfl) (by kernel_rfl) (fun _ _ _ h => h) (Or.inl ⟨by kernel_rfl, ?_⟩) (by assumption) ?_
        rotate_left
        · (intro w hSw; (try dsimp only at hSw); go_simp; try with_reducible rfl)
        (repeat (first | simp only [Act.put] | simp only [List.setIfInBounds_toArray] | simp only [List.set_cons_succ] | simp only [List.set_cons_zero]))
        refine wpAnyH_take (i := 9) (oi := ⟨some 82, _, _, _, _, _⟩) (v := ?_) rfl (by kernel_rfl) (by kernel_rfl) (by kernel_rfl) (fun _ _ _ h => h) (Or.inl ⟨by kernel_rfl, ?_⟩) (by assumption) ?_
        rotate_left
        · (intro w hSw; (try dsimp only at hSw); go_simp; try with_reducible rfl)
        (repeat (first | simp only [Act.put] | simp only [List.setIfInBounds_toArray] | simp only [List.set_cons_succ] | simp only [List.set_cons_zero]))
        refine wpAnyH_take (i := 10) (oi := ⟨some 83, _, _, _, _, _⟩) (v := ?_) rfl (by kernel_rfl) (by kernel_rfl) (by kernel_rfl) (fun _ _ _ h => h) (Or.inl ⟨by kernel_rfl, ?_⟩) (by assumption) ?_
        rotate_left
        · (intro w hSw; (try dsimp only at hSw); go_simp; try with_reducible rfl)
        (repeat (first | simp only [Act.put] | simp only [List.setIfInBounds_toArray] | simp only [List.set_cons_succ] | simp only [List.set_cons_zero]))
        refine wpAnyH_take (i := 11) (oi := ⟨some 84, _, _, _, _, _⟩) (v := ?_) rfl (by kernel_rfl) (by kernel_rfl) (by kernel_rfl) (fun _ _ _ h => h) (Or.inl ⟨by kernel_rfl, ?_⟩) (by assumption) ?_
        rotate_left
        · (intro w hSw; (try dsimp only at hSw); go_simp; try with_reducible rfl)
        (repeat (first | simp only [Act.put] | simp only [List.setIfInBounds_toArray] | simp only [List.set_cons_succ] | simp only [List.set_cons_zero]))
        refine wpAnyH_ready (rs := [6]) (by kernel_rfl) (by simp) ?_
        refine AllReadyH.cons (o := ⟨some 79, _, _, _, _, _⟩) rfl (fun K hK => ?_) AllReadyH.nil
        go_simp
        refine hK.out _ _ (by first | (dsimp only; exact trivial) | exact trivial | assumption) (fun hHeld => ?_)
        clear hK K
        (repeat (first | simp only [Act.put] | simp only [List.setIfInBounds_toArray] | simp only [List.set_cons_succ] | simp only [List.set_cons_zero]))
        refine wpAnyH_take (i := 12) (oi := ⟨some 85, _, _, _, _, _⟩) (v := ?_) rfl (by kernel_rfl) (by kernel_rfl) (by kernel_rfl) (fun _ _ _ h => h) (Or.inl ⟨by kernel_rfl, ?_⟩) (by assumption) ?_
        rotate_left
        · (intro w hSw; (try dsimp only at hSw); go_simp; try with_reducible rfl)
        (repeat (first | simp only [Act.put] | simp only [List.setIfInBounds_toArray] | simp only [List.set_cons_succ] | simp only [List.set_cons_zero]))
        refine wpAnyH_take (i := 13) (oi := ⟨some 86, _, _, _, _, _⟩) (v := ?_) rfl (by kernel_rfl) (by kernel_rfl) (by kernel_rfl) (fun _ _ _ h => h) (Or.inl ⟨by kernel_rfl, ?_⟩) (by assumption) ?_
        rotate_left
        · (intro w hSw; (try dsimp only at hSw); go_simp; try with_reducible rfl)
        (repeat (first | simp only [Act.put] | simp only [List.setIfInBounds_toArray] | simp only [List.set_cons_succ] | simp only [List.set_cons_zero]))
        refine wpAnyH_ready (rs := [14]) (by kernel_rfl) (by simp) ?_
        refine AllReadyH.cons (o := ⟨none, _, _, _, _, _⟩) rfl (fun K hK => ?_) AllReadyH.nil
        go_simp
        refine hK.out _ _ (by first | (dsimp only; exact trivial) | exact trivial | assumption) (fun hHeld => ?_)
        clear hK K
        (repeat (first | simp only [Act.put] | simp only [List.setIfInBounds_toArray] | simp only [List.set_cons_succ] | simp only [List.set_cons_zero]))
        refine wpAnyH_done (by kernel_rfl) ?_ _
        clear r1 r2 r3 r4 r5 r6 r7 r8 r9 r10 r11 r12 r13 r14 p0 p1 hx8 rs ra
        go_wp2_with fail
        first
          | exact ⟨⟨k + 1, true, cl.set ix (UInt8.ofNat u), by omega, by go_num, rfl, ⟨⟨fun _ => hnx.out.1, fun _ => rfl⟩, hnx.out.2⟩⟩, by simp [intOf]; omega⟩
          | (refine ⟨?_, by simp [intOf]; omega⟩
             repeat apply Exists.intro
             exact ⟨⟨k + 1, true, cl.set ix (UInt8.ofNat u), by omega, (show Value.int .i64 ((k : Int) + 1) = .int .i64 ((k + 1 : Nat) : Int) by go_num), rfl, ⟨⟨fun _ => hnx.out.1, fun _ => rfl⟩, hnx.out.2⟩⟩, rfl⟩)
      · have ra : bits .and .u32 (h : Int) 1 = 0 := by rw [ra0, show h % 2 = 0 by omega]; rfl
        have hb0 : bitsT tn (k + 1) = bitsT tn k := bitsT_no (by rw [← hh]; omega)
        have hnx : Hid ((bn = true ↔ bitsT tn (k + 1) ≠ 0) ∧ BW w (K : Int) bA bL bC k1 o1 L b g cg cl wr ∧ numB b ^^^ numB cl = bitsT tn (k + 1) * 2 ^ fr) := by
          rw [hb0]; exact hd.out
        clear ra0 hh hd hb0 hbit hh32
        go_wp2_with fail
        exact ⟨⟨k + 1, bn, cl, by omega, by go_num, rfl, hnx.out⟩, by simp [intOf]; omega⟩
    · obtain ⟨tb, htb⟩ : ∃ tb, tb = bitsT tn k := ⟨_, rfl⟩
      have htb32 : tb < 4294967296 := by
        rw [htb]
        exact Nat.lt_of_lt_of_le (bitsT_lt tn k) (Nat.pow_le_pow_right (n := 2) (by omega) hk)
      rw [← htb] at hd
      have HDn : Hid (BW w (K : Int) bA bL bC k1 o1 L b g cg cl wr) := hd.out.2.1
      have HEr : Hid (bn = true → (cl.drop 1).take m = (b.drop 1).take m → (firstF cl).er = if (cl.getD 0 0).toNat = 0 then 20 else 30) := by
        intro h1 h2
        exact HBu.out cl (by rw [hd.out.2.1.2.2.2.2.1]) (by rw [h2]; exact HNum.out) hd.out.2.2 htb32 (hd.out.1.1 h1) (by omega)
      obtain ⟨x0, x1⟩ := hd.out.2.1.piece
      obtain ⟨p0, _⟩ := hd.out.2.1.cell (i := 0) (by omega)
      obtain ⟨hd0, hhd0⟩ : ∃ x, x = (cl.getD 0 0).toNat := ⟨_, rfl⟩
      rw [← hhd0] at HEr
      obtain ⟨Pl, hPl⟩ : ∃ x, x = (cl.drop 1).take m := ⟨_, rfl⟩
      obtain ⟨Ql, hQl⟩ : ∃ x, x = (b.drop 1).take m := ⟨_, rfl⟩
      rw [← hPl, ← hQl] at HEr
      have hMP : Hid (∀ W, SlB W (some ⟨g, 0, none⟩) L cl → SlB W (some ⟨g, 1, none⟩) m Pl) := fun W h => by have := h.mid 1 m (by omega); rw [hPl]; simpa using this
      have hMQ : Hid (∀ W, SlB W (some ⟨k1, o1, none⟩) L b → SlB W (some ⟨k1, o1 + 1, none⟩) m Ql) := fun W h => by have := h.mid 1 m (by omega); rw [hQl]; exact this
      have hPQ : Hid (cl.length = L ∧ hd0 = (cl.getD 0 0).toNat) := ⟨hd.out.2.1.2.2.2.2.1, hhd0⟩
      have hcgN := HCg.out.1
      have hc1N := HC1.out.1
      have hcg : (L : Int) ≤ (cg : Int) := by omega
      have hc1 : (L : Int) ≤ (c1 : Int) := by omega
      have hcase : k = 32 ∨ (k < 32 ∧ 8 * L ≤ fr + k) := by omega
      have s1 : (1 : Int) + (m : Int) ≤ (cg : Int) := by omega
      have s2 : (1 : Int) + (m : Int) ≤ (c1 : Int) := by omega
      have s3 : (0 : Int) ≤ 1 + (m : Int) := by omega
      have s4 : ((1 : Int) + (m : Int)).toNat = 1 + m := by omega
      have s5 : (1 : Int) ≤ 1 + (m : Int) := by omega
      have s6 : ¬ cg = 1 := by omega
      have s7 : ¬ c1 = 1 := by omega
      have s8 : 1 + m - 1 = m := by omega
      have s9 : IntKind.i64.wrap (1 + (m : Int)) = 1 + (m : Int) := by rw [IntKind.wrap_i64]; omega
      have s10 : decide ((m : Int) < 1) = false := decide_eq_false (by omega)
      have hS1 : SlB wr.drew (some ⟨g, 0, none⟩) L cl ∧ SlB wr.drew (some ⟨k1, o1, none⟩) L b := ⟨HDn.out.drew.slb, HDn.out.drew.2.2.1⟩
      clear hPl hQl hhd0 hd htb htb32 hgo HBu HNum HLen HLb
      have hgo2 : ∀ P : Prop, (k = 32 → P) → ((k : Int) < 32 → 8 * (L : Int) ≤ (fr : Int) + (k : Int) → P) → P := fun P p1 p2 => by
        rcases hcase with h | ⟨h1, h2⟩
        · exact p1 h
        · exact p2 (by omega) (by omega)
      clear hcase
      refine hgo2 _ (fun g1 => ?_) (fun g1 g2 => ?_)
      all_goals
        clear hgo2
        try subst k
        go_wp2_with fail
        cases bn
      iterate 2
        · clear HEr x1 r5 hMP hMQ
          refine wp_region_held_drew (S := (fun _ => True)) (by kernel_rfl) (by first | (dsimp only; exact trivial) | exact trivial) (fun hHeld => ?_)
          refine wpAnyH_take (i := 0) (oi := ⟨some 94, _, _, _, _, _⟩) (v := ?_) rfl (by kernel_rfl) (by kernel_rfl) (by kernel_rfl) (fun _ _ _ h => h) (Or.inl ⟨by kernel_rfl, ?_⟩) (by assumption) ?_
          rotate_left
          · (intro w hSw; (try dsimp only at hSw); go_simp; try with_reducible rfl)
          (repeat (first | simp only [Act.put] | simp only [List.setIfInBounds_toArray] | simp only [List.set_cons_succ] | simp only [List.set_cons_zero]))
          refine wpAnyH_take (i := 1) (oi := ⟨some 95, _, _, _, _, _⟩) (v := ?_) rfl (by kernel_rfl) (by kernel_rfl) (by kernel_rfl) (fun _ _ _ h => h) (Or.inl ⟨by kernel_rfl, ?_⟩) (by assumption) ?_
          rotate_left
          · (intro w hSw; (try dsimp only at hSw); go_simp; try with_reducible rfl)
          (repeat (first | simp only [Act.put] | simp only [List.setIfInBounds_toArray] | simp only [List.set_cons_succ] | simp only [List.set_cons_zero]))
          refine wpAnyH_take (i := 2) (oi := ⟨some 96, _, _, _, _, _⟩) (v := ?_) rfl (by kernel_rfl) (by kernel_rfl) (by kernel_rfl) (fun _ _ _ h => h) (Or.inl ⟨by kernel_rfl, ?_⟩) (by assumption) ?_
          rotate_left
          · (intro w hSw; (try dsimp only at hSw); go_simp; try with_reducible rfl)
          (repeat (first | simp only [Act.put] | simp only [List.setIfInBounds_toArray] | simp only [List.set_cons_succ] | simp only [List.set_cons_zero]))
          refine wpAnyH_take (i := 3) (oi := ⟨some 97, _, _, _, _, _⟩) (v := undef) rfl (by kernel_rfl) (by kernel_rfl) (by kernel_rfl) (fun _ _ _ h => h) (Or.inr ⟨by kernel_rfl, rfl⟩) (by assumption) ?_
          (repeat (first | simp only [Act.put] | simp only [List.setIfInBounds_toArray] | simp only [List.set_cons_succ] | simp only [List.set_cons_zero]))
          refine wpAnyH_take (i := 4) (oi := ⟨some 98, _, _, _, _, _⟩) (v := undef) rfl (by kernel_rfl) (by kernel_rfl) (by kernel_rfl) (fun _ _ _ h => h) (Or.inr ⟨by kernel_rfl, rfl⟩) (by assumption) ?_
          (repeat (first | simp only [Act.put] | simp only [List.setIfInBounds_toArray] | simp only [List.set_cons_succ] | simp only [List.set_cons_zero]))
          refine wpAnyH_take (i := 5) (oi := ⟨some 99, _, _, _, _, _⟩) (v := ?_) rfl (by kernel_rfl) (by kernel_rfl) (by kernel_rfl) (fun _ _ _ h => h) (Or.inl ⟨by kernel_rfl, ?_⟩) (by assumption) ?_
          rotate_left
          · (intro w hSw; (try dsimp only at hSw); go_simp; try with_reducible rfl)
          (repeat (first | simp only [Act.put] | simp only [List.setIfInBounds_toArray] | simp only [List.set_cons_succ] | simp only [List.set_cons_zero]))
          refine wpAnyH_take (i := 6) (oi := ⟨some 100, _, _, _, _, _⟩) (v := ?_) rfl (by kernel_rfl) (by kernel_rfl) (by kernel_rfl) (fun _ _ _ h => h) (Or.inl ⟨by kernel_rfl, ?_⟩) (by assumption) ?_
          rotate_left
          · (intro w hSw; (try dsimp only at hSw); go_simp; try with_reducible rfl)
          (repeat (first | simp only [Act.put] | simp only [List.setIfInBounds_toArray] | simp only [List.set_cons_succ] | simp only [List.set_cons_zero]))
          refine wpAnyH_take (i := 7) (oi := ⟨some 101, _, _, _, _, _⟩) (v := undef) rfl (by kernel_rfl) (by kernel_rfl) (by kernel_rfl) (fun _ _ _ h => h) (Or.inr ⟨by kernel_rfl, rfl⟩) (by assumption) ?_
          (repeat (first | simp only [Act.put] | simp only [List.setIfInBounds_toArray] | simp only [List.set_cons_succ] | simp only [List.set_cons_zero]))
          refine wpAnyH_take (i := 8) (oi := ⟨some 102, _, _, _, _, _⟩) (v := undef) rfl (by kernel_rfl) (by kernel_rfl) (by kernel_rfl) (fun _ _ _ h => h) (Or.inr ⟨by kernel_rfl, rfl⟩) (by assumption) ?_
          (repeat (first | simp only [Act.put] | simp only [List.setIfInBounds_toArray] | simp only [List.set_cons_succ] | simp only [List.set_cons_zero]))
          refine wpAnyH_take (i := 9) (oi := ⟨some 103, _, _, _, _, _⟩) (v := undef) rfl (by kernel_rfl) (by kernel_rfl) (by kernel_rfl) (fun _ _ _ h => h) (Or.inr ⟨by kernel_rfl, rfl⟩) (by assumption) ?_
          (repeat (first | simp only [Act.put] | simp only [List.setIfInBounds_toArray] | simp only [List.set_cons_succ] | simp only [List.set_cons_zero]))
          refine wpAnyH_take (i := 10) (oi := ⟨some 104, _, _, _, _, _⟩) (v := undef) rfl (by kernel_rfl) (by kernel_rfl) (by kernel_rfl) (fun _ _ _ h => h) (Or.inr ⟨by kernel_rfl, rfl⟩) (by assumption) ?_
          (repeat (first | simp only [Act.put] | simp only [List.setIfInBounds_toArray] | simp only [List.set_cons_succ] | simp only [List.set_cons_zero]))
          refine wpAnyH_take (i := 11) (oi := ⟨some 105, _, _, _, _, _⟩) (v := undef) rfl (by kernel_rfl) (by kernel_rfl) (by kernel_rfl) (fun _ _ _ h => h) (Or.inr ⟨by kernel_rfl, rfl⟩) (by assumption) ?_
          (repeat (first | simp only [Act.put] | simp only [List.setIfInBounds_toArray] | simp only [List.set_cons_succ] | simp only [List.set_cons_zero]))
          refine wpAnyH_take (i := 12) (oi := ⟨some 106, _, _, _, _, _⟩) (v := undef) rfl (by kernel_rfl) (by kernel_rfl) (by kernel_rfl) (fun _ _ _ h => h) (Or.inr ⟨by kernel_rfl, rfl⟩) (by assumption) ?_
          (repeat (first | simp only [Act.put] | simp only [List.setIfInBounds_toArray] | simp only [List.set_cons_succ] | simp only [List.set_cons_zero]))
          refine wpAnyH_take (i := 13) (oi := ⟨some 107, _, _, _, _, _⟩) (v := undef) rfl (by kernel_rfl) (by kernel_rfl) (by kernel_rfl) (fun _ _ _ h => h) (Or.inr ⟨by kernel_rfl, rfl⟩) (by assumption) ?_
          (repeat (first | simp only [Act.put] | simp only [List.setIfInBounds_toArray] | simp only [List.set_cons_succ] | simp only [List.set_cons_zero]))
          refine wpAnyH_take (i := 14) (oi := ⟨some 108, _, _, _, _, _⟩) (v := undef) rfl (by kernel_rfl) (by kernel_rfl) (by kernel_rfl) (fun _ _ _ h => h) (Or.inr ⟨by kernel_rfl, rfl⟩) (by assumption) ?_
          (repeat (first | simp only [Act.put] | simp only [List.setIfInBounds_toArray] | simp only [List.set_cons_succ] | simp only [List.set_cons_zero]))
          refine wpAnyH_take (i := 15) (oi := ⟨some 109, _, _, _, _, _⟩) (v := undef) rfl (by kernel_rfl) (by kernel_rfl) (by kernel_rfl) (fun _ _ _ h => h) (Or.inr ⟨by kernel_rfl, rfl⟩) (by assumption) ?_
          (repeat (first | simp only [Act.put] | simp only [List.setIfInBounds_toArray] | simp only [List.set_cons_succ] | simp only [List.set_cons_zero]))
          refine wpAnyH_take (i := 16) (oi := ⟨some 110, _, _, _, _, _⟩) (v := undef) rfl (by kernel_rfl) (by kernel_rfl) (by kernel_rfl) (fun _ _ _ h => h) (Or.inr ⟨by kernel_rfl, rfl⟩) (by assumption) ?_
          (repeat (first | simp only [Act.put] | simp only [List.setIfInBounds_toArray] | simp only [List.set_cons_succ] | simp only [List.set_cons_zero]))
          refine wpAnyH_take (i := 17) (oi := ⟨some 111, _, _, _, _, _⟩) (v := undef) rfl (by kernel_rfl) (by kernel_rfl) (by kernel_rfl) (fun _ _ _ h => h) (Or.inr ⟨by kernel_rfl, rfl⟩) (by assumption) ?_
          (repeat (first | simp only [Act.put] | simp only [List.setIfInBounds_toArray] | simp only [List.set_cons_succ] | simp only [List.set_cons_zero]))
          refine wpAnyH_take (i := 18) (oi := ⟨some 112, _, _, _, _, _⟩) (v := ?_) rfl (by kernel_rfl) (by kernel_rfl) (by kernel_rfl) (fun _ _ _ h => h) (Or.inl ⟨by kernel_rfl, ?_⟩) (by assumption) ?_
          rotate_left
          · (intro w hSw; (try dsimp only at hSw); go_simp; try with_reducible rfl)
          (repeat (first | simp only [Act.put] | simp only [List.setIfInBounds_toArray] | simp only [List.set_cons_succ] | simp only [List.set_cons_zero]))
          refine wpAnyH_done (by kernel_rfl) ?_ _
          clear s1 s2 s3 s4 s5 s6 s7 s8 s9 s10
          go_wp2_with fail
          ((with_reducible refine (lives3_c _).mono ?_); rintro e z1 ⟨rfl, bz⟩)
          go_wp2_with fail
          go_ret
          exact ⟨rfl, HDn.out.1.drew.trans (bz.mono HDn.out.1.drew.size)⟩
        · by_cases hq : Pl = Ql
          · subst hq
            have her := HEr.out rfl rfl
            clear HEr
            refine wp_region_held_drew (S := (fun w' => SlB w' (some ⟨g, 0, none⟩) L cl ∧ SlB w' (some ⟨k1, o1, none⟩) L b)) (by kernel_rfl) (by first | (dsimp only; exact hS1) | exact hS1) (fun hHeld => ?_)
            refine wpAnyH_take (i := 0) (oi := ⟨some 94, _, _, _, _, _⟩) (v := ?_) rfl (by kernel_rfl) (by kernel_rfl) (by kernel_rfl) (fun _ _ _ h => h) (Or.inl ⟨by kernel_rfl, ?_⟩) (by assumption) ?_
            rotate_left
            · (intro w hSw; (try dsimp only at hSw); go_simp; try with_reducible rfl)
            (repeat (first | simp only [Act.put] | simp only [List.setIfInBounds_toArray] | simp only [List.set_cons_succ] | simp only [List.set_cons_zero]))
            refine wpAnyH_take (i := 1) (oi := ⟨some 95, _, _, _, _, _⟩) (v := ?_) rfl (by kernel_rfl) (by kernel_rfl) (by kernel_rfl) (fun _ _ _ h => h) (Or.inl ⟨by kernel_rfl, ?_⟩) (by assumption) ?_
            rotate_left
            · (intro w hSw; (try dsimp only at hSw); go_simp; try with_reducible rfl)
            (repeat (first | simp only [Act.put] | simp only [List.setIfInBounds_toArray] | simp only [List.set_cons_succ] | simp only [List.set_cons_zero]))
            refine wpAnyH_take (i := 2) (oi := ⟨some 96, _, _, _, _, _⟩) (v := ?_) rfl (by kernel_rfl) (by kernel_rfl) (by kernel_rfl) (fun _ _ _ h => h) (Or.inl ⟨by kernel_rfl, ?_⟩) (by assumption) ?_
            rotate_left
            · (intro w hSw; (try dsimp only at hSw); go_simp; try with_reducible rfl)
            (repeat (first | simp only [Act.put] | simp only [List.setIfInBounds_toArray] | simp only [List.set_cons_succ] | simp only [List.set_cons_zero]))
            refine wpAnyH_take (i := 3) (oi := ⟨some 97, _, _, _, _, _⟩) (v := ?_) rfl (by kernel_rfl) (by kernel_rfl) (by kernel_rfl) (fun _ _ _ h => h) (Or.inl ⟨by kernel_rfl, ?_⟩) (by assumption) ?_
            rotate_left
            · (intro w hSw; (try dsimp only at hSw); go_simp; try with_reducible rfl)
            (repeat (first | simp only [Act.put] | simp only [List.setIfInBounds_toArray] | simp only [List.set_cons_succ] | simp only [List.set_cons_zero]))
            refine wpAnyH_take (i := 4) (oi := ⟨some 98, _, _, _, _, _⟩) (v := ?_) rfl (by kernel_rfl) (by kernel_rfl) (by kernel_rfl) (fun _ _ _ h => h) (Or.inl ⟨by kernel_rfl, ?_⟩) (by assumption) ?_
            rotate_left
            · (intro w hSw; (try dsimp only at hSw); go_simp; try with_reducible rfl)
            (repeat (first | simp only [Act.put] | simp only [List.setIfInBounds_toArray] | simp only [List.set_cons_succ] | simp only [List.set_cons_zero]))
            refine wpAnyH_take (i := 5) (oi := ⟨some 99, _, _, _, _, _⟩) (v := ?_) rfl (by kernel_rfl) (by kernel_rfl) (by kernel_rfl) (fun _ _ _ h => h) (Or.inl ⟨by kernel_rfl, ?_⟩) (by assumption) ?_
            rotate_left
            · (intro w hSw; (try dsimp only at hSw); go_simp; try with_reducible rfl)
            (repeat (first | simp only [Act.put] | simp only [List.setIfInBounds_toArray] | simp only [List.set_cons_succ] | simp only [List.set_cons_zero]))
            refine wpAnyH_take (i := 6) (oi := ⟨some 100, _, _, _, _, _⟩) (v := ?_) rfl (by kernel_rfl) (by kernel_rfl) (by kernel_rfl) (fun _ _ _ h => h) (Or.inl ⟨by kernel_rfl, ?_⟩) (by assumption) ?_
            rotate_left
            · (intro w hSw; (try dsimp only at hSw); go_simp; try with_reducible rfl)
            (repeat (first | simp only [Act.put] | simp only [List.setIfInBounds_toArray] | simp only [List.set_cons_succ] | simp only [List.set_cons_zero]))
            refine wpAnyH_take (i := 7) (oi := ⟨some 101, _, _, _, _, _⟩) (v := ?_) rfl (by kernel_rfl) (by kernel_rfl) (by kernel_rfl) (fun _ _ _ h => h) (Or.inl ⟨by kernel_rfl, ?_⟩) (by assumption) ?_
            rotate_left
            · (intro w hSw; (try dsimp only at hSw); go_simp; try with_reducible rfl)
            (repeat (first | simp only [Act.put] | simp only [List.setIfInBounds_toArray] | simp only [List.set_cons_succ] | simp only [List.set_cons_zero]))
            refine wpAnyH_take (i := 8) (oi := ⟨some 102, _, _, _, _, _⟩) (v := ?_) rfl (by kernel_rfl) (by kernel_rfl) (by kernel_rfl) (fun _ _ _ h => h) (Or.inl ⟨by kernel_rfl, ?_⟩) (by assumption) ?_
            rotate_left
            · (intro w hSw; (try dsimp only at hSw); go_simp; try with_reducible rfl)
            (repeat (first | simp only [Act.put] | simp only [List.setIfInBounds_toArray] | simp only [List.set_cons_succ] | simp only [List.set_cons_zero]))
            refine wpAnyH_take (i := 9) (oi := ⟨some 103, _, _, _, _, _⟩) (v := ?_) rfl (by kernel_rfl) (by kernel_rfl) (by kernel_rfl) (fun _ _ _ h => h) (Or.inl ⟨by kernel_rfl, ?_⟩) (by assumption) ?_
            rotate_left
            · (intro w hSw; (try dsimp only at hSw); go_simp; try with_reducible rfl)
            (repeat (first | simp only [Act.put] | simp only [List.setIfInBounds_toArray] | simp only [List.set_cons_succ] | simp only [List.set_cons_zero]))
            refine wpAnyH_take (i := 10) (oi := ⟨some 104, _, _, _, _, _⟩) (v := ?_) rfl (by kernel_rfl) (by kernel_rfl) (by kernel_rfl) (fun _ _ _ h => h) (Or.inl ⟨by kernel_rfl, ?_⟩) (by assumption) ?_
            rotate_left
            · (intro w hSw; (try dsimp only at hSw); go_simp; try with_reducible rfl)
            (repeat (first | simp only [Act.put] | simp only [List.setIfInBounds_toArray] | simp only [List.set_cons_succ] | simp only [List.set_cons_zero]))
            refine wpAnyH_take (i := 11) (oi := ⟨some 105, _, _, _, _, _⟩) (v := ?_) rfl (by kernel_rfl) (by kernel_rfl) (by kernel_rfl) (fun _ _ _ h => h) (Or.inl ⟨by kernel_rfl, ?_⟩) (by assumption) ?_
            rotate_left
            · (intro w hSw; have hcv := conv_str (c := cg - 1) (hMP.out w hSw.1); (try dsimp only at hSw); go_simp; try with_reducible rfl)
            (repeat (first | simp only [Act.put] | simp only [List.setIfInBounds_toArray] | simp only [List.set_cons_succ] | simp only [List.set_cons_zero]))
            refine wpAnyH_take (i := 12) (oi := ⟨some 106, _, _, _, _, _⟩) (v := ?_) rfl (by kernel_rfl) (by kernel_rfl) (by kernel_rfl) (fun _ _ _ h => h) (Or.inl ⟨by kernel_rfl, ?_⟩) (by assumption) ?_
            rotate_left
            · (intro w hSw; (try dsimp only at hSw); go_simp; try with_reducible rfl)
            (repeat (first | simp only [Act.put] | simp only [List.setIfInBounds_toArray] | simp only [List.set_cons_succ] | simp only [List.set_cons_zero]))
            refine wpAnyH_take (i := 13) (oi := ⟨some 107, _, _, _, _, _⟩) (v := ?_) rfl (by kernel_rfl) (by kernel_rfl) (by kernel_rfl) (fun _ _ _ h => h) (Or.inl ⟨by kernel_rfl, ?_⟩) (by assumption) ?_
            rotate_left
            · (intro w hSw; (try dsimp only at hSw); go_simp; try with_reducible rfl)
            (repeat (first | simp only [Act.put] | simp only [List.setIfInBounds_toArray] | simp only [List.set_cons_succ] | simp only [List.set_cons_zero]))
            refine wpAnyH_take (i := 14) (oi := ⟨some 108, _, _, _, _, _⟩) (v := ?_) rfl (by kernel_rfl) (by kernel_rfl) (by kernel_rfl) (fun _ _ _ h => h) (Or.inl ⟨by kernel_rfl, ?_⟩) (by assumption) ?_
            rotate_left
            · (intro w hSw; (try dsimp only at hSw); go_simp; try with_reducible rfl)
            (repeat (first | simp only [Act.put] | simp only [List.setIfInBounds_toArray] | simp only [List.set_cons_succ] | simp only [List.set_cons_zero]))
            refine wpAnyH_take (i := 15) (oi := ⟨some 109, _, _, _, _, _⟩) (v := ?_) rfl (by kernel_rfl) (by kernel_rfl) (by kernel_rfl) (fun _ _ _ h => h) (Or.inl ⟨by kernel_rfl, ?_⟩) (by assumption) ?_
            rotate_left
            · (intro w hSw; (try dsimp only at hSw); go_simp; try with_reducible rfl)
            (repeat (first | simp only [Act.put] | simp only [List.setIfInBounds_toArray] | simp only [List.set_cons_succ] | simp only [List.set_cons_zero]))
            refine wpAnyH_take (i := 16) (oi := ⟨some 110, _, _, _, _, _⟩) (v := ?_) rfl (by kernel_rfl) (by kernel_rfl) (by kernel_rfl) (fun _ _ _ h => h) (Or.inl ⟨by kernel_rfl, ?_⟩) (by assumption) ?_
            rotate_left
            · (intro w hSw; have hcv := conv_str (c := c1 - 1) (hMQ.out w hSw.2); (try dsimp only at hSw); go_simp; try with_reducible rfl)
            (repeat (first | simp only [Act.put] | simp only [List.setIfInBounds_toArray] | simp only [List.set_cons_succ] | simp only [List.set_cons_zero]))
            refine wpAnyH_take (i := 17) (oi := ⟨some 111, _, _, _, _, _⟩) (v := ?_) rfl (by kernel_rfl) (by kernel_rfl) (by kernel_rfl) (fun _ _ _ h => h) (Or.inl ⟨by kernel_rfl, ?_⟩) (by assumption) ?_
            rotate_left
            · (intro w hSw; (try dsimp only at hSw); go_simp; try with_reducible rfl)
            (repeat (first | simp only [Act.put] | simp only [List.setIfInBounds_toArray] | simp only [List.set_cons_succ] | simp only [List.set_cons_zero]))
            refine wpAnyH_take (i := 18) (oi := ⟨some 112, _, _, _, _, _⟩) (v := ?_) rfl (by kernel_rfl) (by kernel_rfl) (by kernel_rfl) (fun _ _ _ h => h) (Or.inl ⟨by kernel_rfl, ?_⟩) (by assumption) ?_
            rotate_left
            · (intro w hSw; (try dsimp only at hSw); go_simp; try with_reducible rfl)
            (repeat (first | simp only [Act.put] | simp only [List.setIfInBounds_toArray] | simp only [List.set_cons_succ] | simp only [List.set_cons_zero]))
            refine wpAnyH_done (by kernel_rfl) ?_ _
            clear s1 s2 s3 s4 s5 s6 s7 s8 s9 s10 hHeld
            have HTk := take_c (some ⟨g, 0, none⟩) L cg cl wr.drew hS1.1 (by omega) (by omega) (by have := HCg.out.2; unfold maxLen at this; omega)
            unfold Taken at HTk
            obtain ⟨pl, hpl⟩ : ∃ x, x = parB cl := ⟨_, rfl⟩
            obtain ⟨pn, hpn⟩ : ∃ x, x = parN cl := ⟨_, rfl⟩
            obtain ⟨pk, hpk⟩ : ∃ x, x = (firstF cl).kd := ⟨_, rfl⟩
            rw [← hpl, ← hpn, ← hpk, her] at HTk
            have HSd := Lib.hid hS1.1
            have hLN : 0 < L := by omega
            have hLp : (0 : Int) < (L : Int) := by omega
            clear hpl hpn hpk her hS1 x0
            by_cases hz : hd0 = 0
            · rw [if_pos hz, show ((20 : Nat) : Int) = 20 from rfl] at HTk
              have H2 := Lib.hid HTk
              clear HTk
              go_wp2_with fail
              ((with_reducible refine H2.out.mono ?_); rintro e v1 ⟨A3, c3, rfl, hd3⟩)
              have B3 : Hid (Below w.heap.size w v1) := HDn.out.1.drew.trans (hd3.out.2.1.mono HDn.out.1.drew.size)
              have q0 : v1.cell? ⟨g, 0, none⟩ = some (.int .u8 0) := by
                have := (HDn.out.drew.below hd3.out.2.1).cell hLN
                rw [← hPQ.out.2, hz] at this
                exact this.1
              clear hd3 H2 p0 hz
              go_wp2_with fail
              ((with_reducible refine (lives3_c _).mono ?_); rintro e z1 ⟨rfl, bz⟩)
              go_wp2_with fail
              go_ret
              exact ⟨rfl, B3.out.trans (bz.mono B3.out.size)⟩
            · rw [if_neg hz, show ((30 : Nat) : Int) = 30 from rfl] at HTk
              have H2 := Lib.hid HTk
              have hzb : ((hd0 : Int) == 0) = false := by simp; omega
              clear HTk
              go_wp2_with fail
              ((with_reducible refine H2.out.mono ?_); rintro e v1 ⟨A3, c3, rfl, hd3⟩)
              have B3 : Hid (Below w.heap.size w v1) := HDn.out.1.drew.trans (hd3.out.2.1.mono HDn.out.1.drew.size)
              have q0 : v1.cell? ⟨g, 0, none⟩ = some (.int .u8 (hd0 : Int)) := by
                have := (HDn.out.drew.below hd3.out.2.1).cell hLN
                rw [← hPQ.out.2] at this
                exact this.1
              clear hd3 H2 p0 hz
              go_wp2_with fail
              ((with_reducible refine (lives3_c _).mono ?_); rintro e z1 ⟨rfl, bz⟩)
              go_wp2_with fail
              go_ret
              exact ⟨rfl, B3.out.trans (bz.mono B3.out.size)⟩
          · clear HEr
            have f4 : (Pl == Ql) = false := beq_eq_false_iff_ne.2 hq
            refine wp_region_held_drew (S := (fun w' => SlB w' (some ⟨g, 0, none⟩) L cl ∧ SlB w' (some ⟨k1, o1, none⟩) L b)) (by kernel_rfl) (by first | (dsimp only; exact hS1) | exact hS1) (fun hHeld => ?_)
            refine wpAnyH_take (i := 0) (oi := ⟨some 94, _, _, _, _, _⟩) (v := ?_) rfl (by kernel_rfl) (by kernel_rfl) (by kernel_rfl) (fun _ _ _ h => h) (Or.inl ⟨by kernel_rfl, ?_⟩) (by assumption) ?_
            rotate_left
            · (intro w hSw; (try dsimp only at hSw); go_simp; try with_reducible rfl)
            (repeat (first | simp only [Act.put] | simp only [List.setIfInBounds_toArray] | simp only [List.set_cons_succ] | simp only [List.set_cons_zero]))
            refine wpAnyH_take (i := 1) (oi := ⟨some 95, _, _, _, _, _⟩) (v := ?_) rfl (by kernel_rfl) (by kernel_rfl) (by kernel_rfl) (fun _ _ _ h => h) (Or.inl ⟨by kernel_rfl, ?_⟩) (by assumption) ?_
            rotate_left
            · (intro w hSw; (try dsimp only at hSw); go_simp; try with_reducible rfl)
            (repeat (first | simp only [Act.put] | simp only [List.setIfInBounds_toArray] | simp only [List.set_cons_succ] | simp only [List.set_cons_zero]))
            refine wpAnyH_take (i := 2) (oi := ⟨some 96, _, _, _, _, _⟩) (v := ?_) rfl (by kernel_rfl) (by kernel_rfl) (by kernel_rfl) (fun _ _ _ h => h) (Or.inl ⟨by kernel_rfl, ?_⟩) (by assumption) ?_
            rotate_left
            · (intro w hSw; (try dsimp only at hSw); go_simp; try with_reducible rfl)
            (repeat (first | simp only [Act.put] | simp only [List.setIfInBounds_toArray] | simp only [List.set_cons_succ] | simp only [List.set_cons_zero]))
            refine wpAnyH_take (i := 3) (oi := ⟨some 97, _, _, _, _, _⟩) (v := ?_) rfl (by kernel_rfl) (by kernel_rfl) (by kernel_rfl) (fun _ _ _ h => h) (Or.inl ⟨by kernel_rfl, ?_⟩) (by assumption) ?_
            rotate_left
            · (intro w hSw; (try dsimp only at hSw); go_simp; try with_reducible rfl)
            (repeat (first | simp only [Act.put] | simp only [List.setIfInBounds_toArray] | simp only [List.set_cons_succ] | simp only [List.set_cons_zero]))
            refine wpAnyH_take (i := 4) (oi := ⟨some 98, _, _, _, _, _⟩) (v := ?_) rfl (by kernel_rfl) (by kernel_rfl) (by kernel_rfl) (fun _ _ _ h => h) (Or.inl ⟨by kernel_rfl, ?_⟩) (by assumption) ?_
            rotate_left
            · (intro w hSw; (try dsimp only at hSw); go_simp; try with_reducible rfl)
            (repeat (first | simp only [Act.put] | simp only [List.setIfInBounds_toArray] | simp only [List.set_cons_succ] | simp only [List.set_cons_zero]))
            refine wpAnyH_take (i := 5) (oi := ⟨some 99, _, _, _, _, _⟩) (v := ?_) rfl (by kernel_rfl) (by kernel_rfl) (by kernel_rfl) (fun _ _ _ h => h) (Or.inl ⟨by kernel_rfl, ?_⟩) (by assumption) ?_
            rotate_left
            · (intro w hSw; (try dsimp only at hSw); go_simp; try with_reducible rfl)
            (repeat (first | simp only [Act.put] | simp only [List.setIfInBounds_toArray] | simp only [List.set_cons_succ] | simp only [List.set_cons_zero]))
            refine wpAnyH_take (i := 6) (oi := ⟨some 100, _, _, _, _, _⟩) (v := ?_) rfl (by kernel_rfl) (by kernel_rfl) (by kernel_rfl) (fun _ _ _ h => h) (Or.inl ⟨by kernel_rfl, ?_⟩) (by assumption) ?_
            rotate_left
            · (intro w hSw; (try dsimp only at hSw); go_simp; try with_reducible rfl)
            (repeat (first | simp only [Act.put] | simp only [List.setIfInBounds_toArray] | simp only [List.set_cons_succ] | simp only [List.set_cons_zero]))
            refine wpAnyH_take (i := 7) (oi := ⟨some 101, _, _, _, _, _⟩) (v := ?_) rfl (by kernel_rfl) (by kernel_rfl) (by kernel_rfl) (fun _ _ _ h => h) (Or.inl ⟨by kernel_rfl, ?_⟩) (by assumption) ?_
            rotate_left
            · (intro w hSw; (try dsimp only at hSw); go_simp; try with_reducible rfl)
            (repeat (first | simp only [Act.put] | simp only [List.setIfInBounds_toArray] | simp only [List.set_cons_succ] | simp only [List.set_cons_zero]))
            refine wpAnyH_take (i := 8) (oi := ⟨some 102, _, _, _, _, _⟩) (v := ?_) rfl (by kernel_rfl) (by kernel_rfl) (by kernel_rfl) (fun _ _ _ h => h) (Or.inl ⟨by kernel_rfl, ?_⟩) (by assumption) ?_
            rotate_left
            · (intro w hSw; (try dsimp only at hSw); go_simp; try with_reducible rfl)
            (repeat (first | simp only [Act.put] | simp only [List.setIfInBounds_toArray] | simp only [List.set_cons_succ] | simp only [List.set_cons_zero]))
            refine wpAnyH_take (i := 9) (oi := ⟨some 103, _, _, _, _, _⟩) (v := ?_) rfl (by kernel_rfl) (by kernel_rfl) (by kernel_rfl) (fun _ _ _ h => h) (Or.inl ⟨by kernel_rfl, ?_⟩) (by assumption) ?_
            rotate_left
            · (intro w hSw; (try dsimp only at hSw); go_simp; try with_reducible rfl)
            (repeat (first | simp only [Act.put] | simp only [List.setIfInBounds_toArray] | simp only [List.set_cons_succ] | simp only [List.set_cons_zero]))
            refine wpAnyH_take (i := 10) (oi := ⟨some 104, _, _, _, _, _⟩) (v := ?_) rfl (by kernel_rfl) (by kernel_rfl) (by kernel_rfl) (fun _ _ _ h => h) (Or.inl ⟨by kernel_rfl, ?_⟩) (by assumption) ?_
            rotate_left
            · (intro w hSw; (try dsimp only at hSw); go_simp; try with_reducible rfl)
            (repeat (first | simp only [Act.put] | simp only [List.setIfInBounds_toArray] | simp only [List.set_cons_succ] | simp only [List.set_cons_zero]))
            refine wpAnyH_take (i := 11) (oi := ⟨some 105, _, _, _, _, _⟩) (v := ?_) rfl (by kernel_rfl) (by kernel_rfl) (by kernel_rfl) (fun _ _ _ h => h) (Or.inl ⟨by kernel_rfl, ?_⟩) (by assumption) ?_
            rotate_left
            · (intro w hSw; have hcv := conv_str (c := cg - 1) (hMP.out w hSw.1); (try dsimp only at hSw); go_simp; try with_reducible rfl)
            (repeat (first | simp only [Act.put] | simp only [List.setIfInBounds_toArray] | simp only [List.set_cons_succ] | simp only [List.set_cons_zero]))
            refine wpAnyH_take (i := 12) (oi := ⟨some 106, _, _, _, _, _⟩) (v := ?_) rfl (by kernel_rfl) (by kernel_rfl) (by kernel_rfl) (fun _ _ _ h => h) (Or.inl ⟨by kernel_rfl, ?_⟩) (by assumption) ?_
            rotate_left
            · (intro w hSw; (try dsimp only at hSw); go_simp; try with_reducible rfl)
            (repeat (first | simp only [Act.put] | simp only [List.setIfInBounds_toArray] | simp only [List.set_cons_succ] | simp only [List.set_cons_zero]))
            refine wpAnyH_take (i := 13) (oi := ⟨some 107, _, _, _, _, _⟩) (v := ?_) rfl (by kernel_rfl) (by kernel_rfl) (by kernel_rfl) (fun _ _ _ h => h) (Or.inl ⟨by kernel_rfl, ?_⟩) (by assumption) ?_
            rotate_left
            · (intro w hSw; (try dsimp only at hSw); go_simp; try with_reducible rfl)
            (repeat (first | simp only [Act.put] | simp only [List.setIfInBounds_toArray] | simp only [List.set_cons_succ] | simp only [List.set_cons_zero]))
            refine wpAnyH_take (i := 14) (oi := ⟨some 108, _, _, _, _, _⟩) (v := ?_) rfl (by kernel_rfl) (by kernel_rfl) (by kernel_rfl) (fun _ _ _ h => h) (Or.inl ⟨by kernel_rfl, ?_⟩) (by assumption) ?_
            rotate_left
            · (intro w hSw; (try dsimp only at hSw); go_simp; try with_reducible rfl)
            (repeat (first | simp only [Act.put] | simp only [List.setIfInBounds_toArray] | simp only [List.set_cons_succ] | simp only [List.set_cons_zero]))
            refine wpAnyH_take (i := 15) (oi := ⟨some 109, _, _, _, _, _⟩) (v := ?_) rfl (by kernel_rfl) (by kernel_rfl) (by kernel_rfl) (fun _ _ _ h => h) (Or.inl ⟨by kernel_rfl, ?_⟩) (by assumption) ?_
            rotate_left
            · (intro w hSw; (try dsimp only at hSw); go_simp; try with_reducible rfl)
            (repeat (first | simp only [Act.put] | simp only [List.setIfInBounds_toArray] | simp only [List.set_cons_succ] | simp only [List.set_cons_zero]))
            refine wpAnyH_take (i := 16) (oi := ⟨some 110, _, _, _, _, _⟩) (v := ?_) rfl (by kernel_rfl) (by kernel_rfl) (by kernel_rfl) (fun _ _ _ h => h) (Or.inl ⟨by kernel_rfl, ?_⟩) (by assumption) ?_
            rotate_left
            · (intro w hSw; have hcv := conv_str (c := c1 - 1) (hMQ.out w hSw.2); (try dsimp only at hSw); go_simp; try with_reducible rfl)
            (repeat (first | simp only [Act.put] | simp only [List.setIfInBounds_toArray] | simp only [List.set_cons_succ] | simp only [List.set_cons_zero]))
            refine wpAnyH_take (i := 17) (oi := ⟨some 111, _, _, _, _, _⟩) (v := ?_) rfl (by kernel_rfl) (by kernel_rfl) (by kernel_rfl) (fun _ _ _ h => h) (Or.inl ⟨by kernel_rfl, ?_⟩) (by assumption) ?_
            rotate_left
            · (intro w hSw; (try dsimp only at hSw); go_simp; try with_reducible rfl)
            (repeat (first | simp only [Act.put] | simp only [List.setIfInBounds_toArray] | simp only [List.set_cons_succ] | simp only [List.set_cons_zero]))
            refine wpAnyH_take (i := 18) (oi := ⟨some 112, _, _, _, _, _⟩) (v := ?_) rfl (by kernel_rfl) (by kernel_rfl) (by kernel_rfl) (fun _ _ _ h => h) (Or.inl ⟨by kernel_rfl, ?_⟩) (by assumption) ?_
            rotate_left
            · (intro w hSw; (try dsimp only at hSw); go_simp; try with_reducible rfl)
            (repeat (first | simp only [Act.put] | simp only [List.setIfInBounds_toArray] | simp only [List.set_cons_succ] | simp only [List.set_cons_zero]))
            refine wpAnyH_done (by kernel_rfl) ?_ _
            clear s1 s2 s3 s4 s5 s6 s7 s8 s9 s10 hHeld
            go_wp2_with fail
            ((with_reducible refine (lives3_c _).mono ?_); rintro e z1 ⟨rfl, bz⟩)
            go_wp2_with fail
            go_ret
            exact ⟨rfl, HDn.out.1.drew.trans (bz.mono HDn.out.1.drew.size)⟩

set_option maxRecDepth 100000 in
theorem lifted (os : Os) (started : os.Started) (H : Type) (enc : TypeId × Value → H) :
    ReturnsInHanded {} Try.checked os 7 .any (Rows.parcelBurstsSpec.pre6 enc Try.prog Try.f7 Rows.parcelBurstsRow.domain false) (Rows.parcelBurstsSpec.post enc Try.prog Try.f7 false true false false) := by
  refine returnsInHanded_of_change (C := Try.checked) own started (by kernel_rfl) Try.func7
    (ChangeSpec.witness6 (enc := enc) (C := Try.checked) false ⟨#[], #[.agg #[.int .u8 0, .slice none 0 0], .int .u16 0, .int .u32 0], []⟩ 8 (by kernel_rfl) (by kernel_rfl) (by kernel_rfl) (by kernel_rfl)) ?_
  intro W base args ds gs before hval0 hW hcnd _
  have hval : ∀ (j : Nat) t v, Try.f7.params[j]? = some t → args[j]? = some v → Value.okWide Try.prog W .any base t v := hval0
  have hW' := hW
  obtain ⟨p, q, hA0, hV, rfl, hfz, hnd⟩ := hW
  have hA : DataW.TrodAll enc Try.prog W 0 (fun _ => true) true Try.f7.params.toList args.toList ds p := hA0
  rw [Try.params7] at hA hval
  obtain ⟨v0, vs0, d0, ds0, p0, q0, hargs, rfl, rfl, h0, r0⟩ := trodAll_cons hA
  obtain ⟨v1, vs1, d1, ds1, p1, q1, rfl, rfl, rfl, h1, r1⟩ := trodAll_cons r0
  obtain ⟨v2, vs2, d2, ds2, p2, q2, rfl, rfl, rfl, h2, r2⟩ := trodAll_cons r1
  obtain ⟨rfl, rfl, rfl⟩ := trodAll_nil r2
  obtain rfl : args = #[v0, v1, v2] := by cases args; simp_all
  obtain ⟨rfl, rfl⟩ := trodVars_none hV
  have k0 := h0
  have lt0 : ∀ x ∈ p0, x.block < W.heap.size := by obtain ⟨m, hm⟩ := k0; exact DataW.trod_lt m _ _ _ hm
  obtain ⟨x0, w0, rfl⟩ := open_pie_val (hval 0 48 v0 rfl rfl) h0
  obtain ⟨a1, rfl, rfl, rfl, w1⟩ := open_int Try.underlying45 (hval 1 45 v1 rfl rfl) h1
  obtain ⟨a2, rfl, rfl, rfl, w2⟩ := open_int Try.underlying29 (hval 2 29 v2 rfl rfl) h2
  clear hA0 hval0
  refine (walk x0 a1 a2 W w0 w1 w2).mono fun e W' ⟨he, bel⟩ => ?_
  subst he
  exact ⟨_, rfl, _, _, _, [], _, [], hW', trodAll_mk1 (shut_bool Try.underlying4 _), (trodAll_cons_mk (Below.trod laidOut (by kernel_rfl) (of_decide_eq_true (by kernel_rfl)) k0 bel lt0) (trodAll_cons_mk (shut_int Try.underlying45 w1) (trodAll_cons_mk (shut_int Try.underlying29 w2) trodAll_mk0))), rfl, bel.frame _, fun h => by cases h⟩

theorem over : Rows.parcelBurstsRow.holds Try.pinned (OpenSpec.ofChange Rows.parcelBurstsSpec) :=
  OpenClaim.holds_of_wide 7 Try.f7 rfl rfl rfl rfl rfl rfl rfl ⟨rfl, rfl, rfl, rfl, rfl⟩ rfl rfl rfl rfl rfl (by kernel_rfl) Try.func7 (by kernel_rfl)
    (of_decide_eq_true (by kernel_rfl)) (by unfold Func.isWrapper; first | (rw [if_pos (by decide +kernel)]; kernel_rfl) | (rw [if_neg (by decide +kernel)]; exact ⟨rfl, rfl⟩))
    (fun os started H enc _ => lifted os started H enc)

theorem proved : Rows.ParcelBurstsSaid := over
end Go.Proofs.Ytghpafbgjbhohab.parcelBursts
