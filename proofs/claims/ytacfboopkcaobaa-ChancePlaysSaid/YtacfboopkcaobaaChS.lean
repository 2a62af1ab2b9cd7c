/- chance, the reference: a place by weights. -/
import Derived.Test.YtacfboopkcaobaaChR
namespace Go.Proofs.Ytacfboopkcaobaa
open Go.RowKit

def psum (zs : List Int) (k : Nat) : List Value := (List.range k).map fun i => .int .u64 ((sumW (zs.take (i + 1)) : Nat) : Int)
theorem psum_snoc (zs : List Int) (k : Nat) : psum zs (k + 1) = psum zs k ++ [.int .u64 ((sumW (zs.take (k + 1)) : Nat) : Int)] := by
  unfold psum; rw [List.range_succ, List.map_append]; rfl
theorem psum_at {zs : List Int} {k i : Nat} (h : i < k) : (psum zs k)[i]? = some (.int .u64 ((sumW (zs.take (i + 1)) : Nat) : Int)) := by
  unfold psum; rw [List.getElem?_map, List.getElem?_range h]; rfl
theorem info_u64 : (Try.prog.info? 58).map (fun i => (i.zero, i.size, i.bytes)) = some (some (.int .u64 0), 1, 8) := by kernel_rfl
theorem u64_news (w : World) (x : Int) : ∀ (j : Nat) (u : Value), [Value.int .u64 x][j]? = some u → (w.alloc (Obj.cells #[.int .u64 x] 58)).cell? ((⟨w.heap.size, 0, none⟩ : Addr).add j) = some u := by
  intro j u hu
  rw [addr_add, cell_of_row _ _ _ _ _ _ (heap_alloc_new w _)]
  match j, hu with
  | 0, hu => simpa using hu
theorem u64_one (x : Int) : ∀ u ∈ [Value.int .u64 x], u.oneCell' = true := by
  intro u hu
  simp at hu
  rw [hu]; rfl
theorem own_cell {w : World} {base n : Nat} {v : Value} {xs : List Value} {i : Nat} {u : Value} (h : w.ownsRow base 58 1 v n xs) (hi : i < n) (hu : xs[i]? = some u) : ∃ k c, v = .slice (some ⟨k, 0, none⟩) n c ∧ base ≤ k ∧ n ≤ c ∧ w.cell? ⟨k, i, none⟩ = some u := by
  obtain ⟨h1, h2⟩ := h
  rcases h2 with ⟨_, h0⟩ | ⟨k, cap, cur, hv, hb, hk, hc, hm, hs, ht⟩
  · omega
  · refine ⟨k, cap, hv, hb, hc, ?_⟩
    rw [← ht, List.getElem?_take] at hu
    split at hu
    · rw [Array.getElem?_toList] at hu
      rw [cell_of_row _ _ _ _ _ _ hk, hu]
    · cases hu
theorem own_len {w : World} {base n : Nat} {v : Value} {xs : List Value} (h : w.ownsRow base 58 1 v n xs) : ∃ A c, v = .slice A n c := by
  rcases h.2 with ⟨hv, h0⟩ | ⟨k, cap, cur, hv, _⟩
  · subst h0; exact ⟨_, _, hv⟩
  · exact ⟨_, _, hv⟩

set_option maxHeartbeats 8000000 in
set_option maxRecDepth 100000 in
theorem rPick_c (g : Nat) (A : Option Addr) (n cap : Nat) (zs : List Int) (l : List UInt8) (w : World) (h : SRC 57 w g l) (hz : SlI w A n zs) (hn : n ≤ 60) :
    Calls Try.prog 29 #[.pointer (some ⟨g, 0, none⟩), .slice A n cap] w (Took 57 w g (pickN l zs).2 (.int .i64 ((pickN l zs).1 : Int))) := by
  obtain ⟨i0, hi0, hz0, hz1, hz2⟩ := info_parts info_u64
  have hlen := hz.1
  have hsum := sumW_le zs
  have HSm : Hid (∀ k, sumW (zs.take k) ≤ 60000) := fun k => by have := sumW_take_le zs k; omega
  have HSum : Hid (sumW zs < 18446744073709551616) := by show _ < _; omega
  have hnI : (n : Int) ≤ 60 := by omega
  have HG := Lib.hid h.lt
  have HZ := Lib.hid hz
  have HS := Lib.hid h
  have HL := Lib.hid hlen
  clear h hz hlen hsum
  go_enter Try.func29, Try.ntmps29
  go_wp2_with fail
  go_loopw [5, 6, 7] (fun v a i wr => ∃ k : Nat, k ≤ n ∧ i = .int .i64 (k : Int) ∧ a = .int .u64 ((sumW (zs.take k) : Nat) : Int) ∧ wr.ownsRow w.heap.size 58 1 v k (psum zs k) ∧ Hid (Below w.heap.size w wr)) (fun _ _ i _ => n - (intOf i).toNat)
  case atStart => exact ⟨0, by omega, rfl, rfl, World.ownsRow_nil _ _ _ _, Below.refl _ _⟩
  case round =>
    obtain ⟨k, hk, rfl, rfl, hown, hd⟩ := hrel
    have hk0 : (0 : Int) ≤ (k : Int) := by omega
    by_cases hlt : k < n
    · have hltI : (k : Int) < (n : Int) := by omega
      obtain ⟨b, off, hAe, p0⟩ : ∃ b off, A = some ⟨b, off, none⟩ ∧ wr.cell? ⟨b, off + k, none⟩ = some (.int .i64 (zs.getD k 0)) := by
        rcases (HZ.out.below hd.out).2.2 with h0 | ⟨b, off, hA, _, hcell⟩
        · omega
        · exact ⟨b, off, hA, hcell k hlt⟩
      subst hAe
      have hst := sumW_take (ws := zs) (k := k) (by rw [HL.out]; exact hlt)
      have hs0 := HSm.out k
      have hps := psum_snoc zs k
      obtain ⟨z, hz⟩ : ∃ z, z = zs.getD k 0 := ⟨_, rfl⟩
      obtain ⟨a, ha⟩ : ∃ a, a = sumW (zs.take k) := ⟨_, rfl⟩
      obtain ⟨a', ha'⟩ : ∃ a', a' = sumW (zs.take (k + 1)) := ⟨_, rfl⟩
      rw [← hz] at p0 hst
      rw [← ha] at hst hs0 ⊢
      rw [← ha'] at hst hps
      have HA' := Lib.hid ha'
      have HPS := Lib.hid hps
      have hsz := hd.out.size
      have hsum1 : (a : Int) + (wgt z : Int) = (a' : Int) := by omega
      have hs0I : (a : Int) ≤ 60000 := by omega
      clear hz ha ha' hps hst
      by_cases h1 : 1 ≤ z
      · have hmin1 : min z 1000 = (wgt z : Int) := by unfold wgt; omega
        have hmin2 : (if 1000 < z then 1000 else z) = (wgt z : Int) := by unfold wgt; split <;> omega
        have hwb : (wgt z : Int) ≤ 1000 := by unfold wgt; omega
        have hwb0 : (0 : Int) ≤ (wgt z : Int) := by omega
        obtain ⟨y, hy⟩ : ∃ y, y = wgt z := ⟨_, rfl⟩
        rw [← hy] at hmin1 hmin2 hwb hwb0 hsum1
        clear hy
        go_wp2_with (at_builtin; refine wpList_append_own _ rfl _ _ 92 rfl w.heap.size 58 i0 (.int .u64 0) 1 8 Try.underlying92 hi0 hz0 hz1 hz2 rfl (by decide) _ _ _ rfl (hown.alloc _) ⟨wr.heap.size, 0, none⟩ 1 1 [.int .u64 (a' : Int)] rfl rfl ?c1 ?c2 ?c3 ?c4 ?c5 ?_)
        case c1 => exact u64_news _ _
        case c2 => exact u64_one _
        case c3 => unfold maxLen; omega
        case c4 => omega
        case c5 => simp; omega
        intro v1 w1 hown1 hg1 _
        have hB1 : Hid (Below w.heap.size w w1) := Below.grown (hd.out.alloc hsz _) hg1 (by simp; omega) (fun k hk => (hown.lt k hk).1)
        rw [← HPS.out] at hown1
        clear hg1 hown hd hmin1 hmin2 hsum1
        go_wp2_with fail
        exact ⟨⟨k + 1, by omega, by go_num, by rw [← HA'.out], hown1, hB1.out⟩, by simp [intOf]; omega⟩
      · have h1n : z < 1 := by omega
        have hw0 : wgt z = 0 := by unfold wgt; omega
        have haa : a = a' := by rw [hw0] at hsum1; omega
        have HAA := Lib.hid haa
        clear hsum1 hw0 haa h1
        go_wp2_with (at_builtin; refine wpList_append_own _ rfl _ _ 92 rfl w.heap.size 58 i0 (.int .u64 0) 1 8 Try.underlying92 hi0 hz0 hz1 hz2 rfl (by decide) _ _ _ rfl (hown.alloc _) ⟨wr.heap.size, 0, none⟩ 1 1 [.int .u64 (a : Int)] rfl rfl ?c1 ?c2 ?c3 ?c4 ?c5 ?_)
        case c1 => exact u64_news _ _
        case c2 => exact u64_one _
        case c3 => unfold maxLen; omega
        case c4 => omega
        case c5 => simp; omega
        intro v1 w1 hown1 hg1 _
        have hB1 : Hid (Below w.heap.size w w1) := Below.grown (hd.out.alloc hsz _) hg1 (by simp; omega) (fun k hk => (hown.lt k hk).1)
        rw [HAA.out, ← HPS.out] at hown1
        clear hg1 hown hd
        go_wp2_with fail
        exact ⟨⟨k + 1, by omega, by go_num, by rw [← HA'.out, HAA.out], hown1, hB1.out⟩, by simp [intOf]; omega⟩
    · have hkn : k = n := by omega
      subst hkn
      have htk : Hid (zs.take k = zs) := List.take_of_length_le (by rw [HL.out]; exact Nat.le_refl _)
      rw [htk.out]
      obtain ⟨B, cc, rfl⟩ := own_len hown
      by_cases hs0 : sumW zs = 0
      · have HP := Lib.hid (pickN_zero (l := l) hs0)
        have HF : Hid (Tch g w wr ∧ SRC 57 wr g l) := ⟨⟨hd.out.os, hd.out.tape, hd.out.output, hd.out.size, fun i hi _ => hd.out.block i hi⟩, HS.out.below hd.out⟩
        rw [hs0]
        clear hs0 hown hd
        go_wp2_with fail
        go_ret
        rw [HP.out]
        exact ⟨rfl, HF.out⟩
      · have hsb : (((sumW zs : Nat) : Int) == 0) = false := by simp; omega
        have HBl := Lib.hid (rBelow_c g (sumW zs) l wr (HS.out.below hd.out) HSum.out)
        obtain ⟨x, hx⟩ : ∃ x, x = (belowN l (sumW zs)).1 := ⟨_, rfl⟩
        obtain ⟨t, ht⟩ : ∃ t, t = (belowN l (sumW zs)).2 := ⟨_, rfl⟩
        rw [← hx, ← ht] at HBl
        have HP : Hid (pickN l zs = (pickAt zs x 0, t)) := by show pickN l zs = _; unfold pickN; rw [← hx, ← ht]
        clear hx ht
        obtain ⟨s, hs⟩ : ∃ s, s = sumW zs := ⟨_, rfl⟩
        rw [← hs] at hsb HBl ⊢
        clear hs HSum hs0
        have HOw := Lib.hid hown
        clear hown
        go_wp2_with fail
        ((with_reducible refine HBl.out.mono ?_); rintro e w1 ⟨rfl, hd1⟩)
        have hD : Hid (Tch g w w1 ∧ SRC 57 w1 g t ∧ w1.ownsRow w.heap.size 58 1 (.slice B k cc) k (psum zs k)) := by
          have h1 : Tch g w w1 := Tch.trans ⟨hd.out.os, hd.out.tape, hd.out.output, hd.out.size, fun i hi _ => hd.out.block i hi⟩ hd1.out.1
          refine ⟨h1, hd1.out.2, own_fr HOw.out (Fr.tch hd1.out.1) (fun j hj e => ?_)⟩
          have := (HOw.out.lt j hj).1
          have := HG.out
          omega
        clear hd hd1 HBl hsb HOw
        go_wp2_with fail
        go_loop [10] (fun i => ∃ j : Nat, j ≤ k ∧ i = .int .i64 (j : Int) ∧ Hid (pickAt zs x 0 = pickAt zs x j)) (fun i => k - (intOf i).toNat)
        case atStart => exact ⟨0, by omega, rfl, rfl⟩
        case round =>
          obtain ⟨j, hj, rfl, hpj⟩ := hrel
          have hj0 : (0 : Int) ≤ (j : Int) := by omega
          by_cases hlt : j < k
          · have hltI : (j : Int) < (k : Int) := by omega
            obtain ⟨bb, c2, hv, _, hc2, p0⟩ := own_cell hD.out.2.2 hlt (psum_at (zs := zs) hlt)
            injection hv with hv1 _ hv3
            subst hv1; subst hv3
            by_cases hgt : x < sumW (zs.take (j + 1))
            · have hgtI : (x : Int) < ((sumW (zs.take (j + 1)) : Nat) : Int) := by omega
              have HR : Hid (pickAt zs x 0 = j) := by show _ = _; rw [hpj.out, pickAt_yes (by rw [HL.out]; exact hlt) hgt]
              obtain ⟨a, ha⟩ : ∃ a, a = sumW (zs.take (j + 1)) := ⟨_, rfl⟩
              rw [← ha] at hgtI p0
              clear hgt ha
              go_wp2_with fail
              go_ret
              rw [HP.out]
              simp only
              rw [HR.out]
              exact ⟨rfl, hD.out.1, hD.out.2.1⟩
            · have hgtI : ((sumW (zs.take (j + 1)) : Nat) : Int) ≤ (x : Int) := by omega
              have HR : Hid (pickAt zs x 0 = pickAt zs x (j + 1)) := by show _ = _; rw [hpj.out, pickAt_no (by rw [HL.out]; exact hlt) hgt]
              obtain ⟨a, ha⟩ : ∃ a, a = sumW (zs.take (j + 1)) := ⟨_, rfl⟩
              rw [← ha] at hgtI p0
              clear hgt ha
              go_wp2_with fail
              exact ⟨⟨j + 1, by omega, by go_num, HR.out⟩, by simp [intOf]; omega⟩
          · have HR : Hid (pickAt zs x 0 = 0) := by show _ = _; rw [hpj.out, pickAt_end (by rw [HL.out]; omega)]
            have hjk : j = k := by omega
            subst hjk
            go_wp2_with fail
            go_ret
            rw [HP.out]
            simp only
            rw [HR.out]
            exact ⟨rfl, hD.out.1, hD.out.2.1⟩
end Go.Proofs.Ytacfboopkcaobaa
