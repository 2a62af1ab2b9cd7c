/- The reference's Book. -/
import Derived.Test.YtemmbgbmkihbaaaOrX
import Derived.BigQuiet
namespace Go.Proofs.Ytemmbgbmkihbaaa
open Go.RowKit Go.Sort Go.Lib Go.Shelf

theorem book_iff (L : List Od) : bookO L = true ↔ L.length ≤ 64 ∧ (∀ x ∈ L, goodO x = true) ∧ (L.map Od.id).Nodup ∧ L = sortO L := by
  unfold bookO
  rw [Bool.and_eq_true, Bool.and_eq_true, Bool.and_eq_true, decide_eq_true_iff, decide_eq_true_iff, List.all_eq_true, eqL_iff]
theorem book_no {L : List Od} (h : ¬ (L.length ≤ 64 ∧ (∀ x ∈ L, goodO x = true) ∧ (L.map Od.id).Nodup ∧ L = sortO L)) : bookO L = false := by
  cases e : bookO L with
  | false => rfl
  | true => exact absurd ((book_iff L).1 e) h
theorem book_unlike {L : List Od} {i : Nat} (h : eqO (sortO L)[i]! L[i]! = false) : bookO L = false :=
  book_no fun hc => by
    rw [← hc.2.2.2] at h
    have := (eqO_iff L[i]! L[i]!).2 rfl
    rw [h] at this
    cases this
theorem book_pair {L : List Od} {i k : Nat} (hk : k < i) (hi : i < L.length) (h : (L[k]!).id = (L[i]!).id) : bookO L = false :=
  book_no fun hc => by
    have := List.pairwise_iff_getElem.1 hc.2.2.1 k i (by rw [List.length_map]; omega) (by rw [List.length_map]; exact hi) hk
    rw [List.getElem_map, List.getElem_map] at this
    rw [getElem!_pos L k (by omega), getElem!_pos L i hi] at h
    exact this h
theorem book_yes {L : List Od} (h64 : L.length ≤ 64) (h : ∀ i, i < L.length → goodO L[i]! = true ∧ eqO (sortO L)[i]! L[i]! = true ∧ ∀ k, k < i → (L[k]!).id ≠ (L[i]!).id) : bookO L = true := by
  rw [book_iff]
  refine ⟨h64, fun x hx => ?_, ?_, ?_⟩
  · obtain ⟨i, hi, rfl⟩ := List.getElem_of_mem hx
    have := (h i hi).1
    rw [getElem!_pos L i hi] at this
    exact this
  · refine List.pairwise_iff_getElem.2 fun k i hk hi hki => ?_
    rw [List.length_map] at hk hi
    rw [List.getElem_map, List.getElem_map]
    have := (h i hi).2.2 k hki
    rw [getElem!_pos L k hk, getElem!_pos L i hi] at this
    exact this
  · refine List.ext_getElem (sortO_len L).symm fun i h1 h2 => ?_
    have := (eqO_iff _ _).1 (h i h1).2.1
    rw [getElem!_pos L i h1, getElem!_pos _ i h2] at this
    exact this.symm

theorem rGoodG (x : Od) (W : World) : Calls Try.prog 49 #[.agg (OC x)] W fun e w' => e = .returned (.bool (goodO x)) ∧ ∃ q os, w' = Go.Sort.grow (W.drewN q) os :=
  (rGood_c x W).mono fun _ _ h => ⟨h.1, h.2.grow⟩

set_option maxHeartbeats 1000000 in
set_option maxRecDepth 1000000 in
theorem rBook_c (A : Option Addr) (n c : Nat) (L : List Od) (w : World) (H : Ods w A n L) (hn : n ≤ 1000) :
    Calls Try.prog 33 #[.slice A n c] w (BookIs w (bookO L)) := by
  have mixed : Try.prog.follows .mixedOrders = true := by kernel_rfl
  by_cases h64 : n ≤ 64
  case neg =>
    have e : bookO L = false := book_long (by rw [H.1]; exact h64)
    rw [e]
    have hz : (64 : Int) < (n : Int) := by omega
    clear h64 H
    go_enter Try.func33, Try.ntmps33
    go_wp2_with fail
    go_ret
    exact ⟨rfl, Below.refl _ _⟩
  have hz64 : ¬ (64 : Int) < (n : Int) := by omega
  have HG := Lib.hid rGoodG
  have HO : Aside (Ods w A n L) := H
  have HLn := Lib.hid H.1
  have HS := Lib.hid (rSorted_c A n c L w H hn)
  clear H
  go_enter Try.func33, Try.ntmps33
  go_wp2_with ((with_reducible refine (HS.out).mono ?_); rintro e w1 ⟨A1, n1, c1, rfl, HF⟩)
  have B1 : Hid (Below w.heap.size w w1) := HF.out.1
  have HS1 : Aside (Ods w1 A1 n1 (sortO L)) := HF.out.2.1
  obtain rfl : n1 = n := by
    have h1 := HF.out.2.1.1
    rw [sortO_len, HLn.out] at h1
    exact h1.symm
  clear HF HS
  go_loopg [4] n1 (fun kx s4 wr => ∃ i : Nat, s4 = .int .i64 i ∧ i ≤ n1 ∧ n1 - i ≤ kx ∧ Hid (Below w1.heap.size w1 wr) ∧ Hid (∀ j, j < i → goodO L[j]! = true ∧ eqO (sortO L)[j]! L[j]! = true ∧ ∀ k, k < j → (L[k]!).id ≠ (L[j]!).id))
  case atStart => exact ⟨0, rfl, by omega, by omega, Below.refl _ _, Lib.hid (fun j hj => by omega)⟩
  case round =>
  obtain ⟨i, rfl, hin, hkx, hd, HJ⟩ := hrel
  by_cases hlt : i < n1
  case neg =>
    have hltz : ¬ (i : Int) < (n1 : Int) := by omega
    obtain rfl : i = n1 := by omega
    have e : Hid (bookO L = true) := book_yes (by rw [HLn.out]; exact h64) (fun j hj => HJ.out j (by rw [HLn.out] at hj; exact hj))
    have B2 : Hid (Below w.heap.size w wr) := B1.out.trans (hd.out.mono B1.out.size)
    clear HJ hd B1
    go_wp2_with fail
    go_ret
    rw [e.out]
    exact ⟨rfl, B2.out⟩
  have hltz : (i : Int) < (n1 : Int) := by omega
  have B2 : Hid (Below w.heap.size w wr) := B1.out.trans (hd.out.mono B1.out.size)
  have h1 := (HO.out.below B2.out).2.2.2
  have k1 := (HS1.out.below hd.out).2.2.2
  rcases h1 with h1 | ⟨b, off, rfl, hb, hc⟩
  · omega
  rcases k1 with k1 | ⟨b', off', rfl, hb', kc⟩
  · omega
  have hx := hc i hlt
  have hy := kc i hlt
  clear hc kc
  obtain ⟨x, ex⟩ : ∃ x, L[i]! = x := ⟨_, rfl⟩
  obtain ⟨y, ey⟩ : ∃ y, (sortO L)[i]! = y := ⟨_, rfl⟩
  rw [ex] at hx
  rw [ey] at hy
  have EX := Lib.hid ex
  have EY := Lib.hid ey
  clear ex ey
  obtain ⟨x0, x1, x2, x3, x4, x5⟩ := hx
  obtain ⟨y0, y1, y2, y3, y4, y5⟩ := hy
  have X0 := fun n os => cell_grown (a := ⟨b, _, none⟩) hb x0 n os
  have Y0 := fun n os => cell_grown (a := ⟨b', _, none⟩) hb' y0 n os
  have X1 := fun n os => cell_grown (a := ⟨b, _, none⟩) hb x1 n os
  have Y1 := fun n os => cell_grown (a := ⟨b', _, none⟩) hb' y1 n os
  have X2 := fun n os => cell_grown (a := ⟨b, _, none⟩) hb x2 n os
  have Y2 := fun n os => cell_grown (a := ⟨b', _, none⟩) hb' y2 n os
  have X3 := fun n os => cell_grown (a := ⟨b, _, none⟩) hb x3 n os
  have Y3 := fun n os => cell_grown (a := ⟨b', _, none⟩) hb' y3 n os
  have X4 := fun n os => cell_grown (a := ⟨b, _, none⟩) hb x4 n os
  have Y4 := fun n os => cell_grown (a := ⟨b', _, none⟩) hb' y4 n os
  have X5 := fun n os => cell_grown (a := ⟨b, _, none⟩) hb x5 n os
  have Y5 := fun n os => cell_grown (a := ⟨b', _, none⟩) hb' y5 n os
  clear x0 x1 x2 x3 x4 x5 y0 y1 y2 y3 y4 y5
  have hcg := fun W => HG.out x W
  have hq := neqR y x
  go_upto_region 7 with fail
  cases hg : goodO x with
  | false =>
    have HB : Hid (bookO L = false) := Lib.hid (book_bad (i := i) (by rw [HLn.out]; exact hlt) (by rw [EX.out]; exact hg))
    rw [hg] at hcg
    clear hg
    refine wp_region_quiet_grown (by assumption) (by kernel_rfl) ?_
    iterate 7 (quiet_step ((go_at_call 49; with_reducible refine Calls.grown_of (hcg _))))
    iterate 9 (go_big_quiet_skip)
    go_big_quiet_step (fail)
    refine wpQuiet_nil ?_
    intro _ hw'
    obtain ⟨⟨nq, osq⟩, hw''⟩ := hw'
    subst hw''
    have B3 : Hid (Below w.heap.size w (grow (wr.drewN nq) osq)) := B2.out.trans ((gw_grow wr nq osq).b.mono B2.out.size)
    clear hcg X0 X1 X2 X3 X4 X5 Y0 Y1 Y2 Y3 Y4 Y5 hq
    generalize grow (wr.drewN nq) osq = w2 at B3 ⊢
    go_wp2_with fail
    go_ret
    rw [HB.out]
    exact ⟨rfl, B3.out⟩
  | true =>
  have HGd : Hid (goodO L[i]! = true) := by
    show _ = _
    rw [EX.out]; exact hg
  rw [hg] at hcg
  clear hg
  cases he : eqO y x with
  | false =>
    have HB : Hid (bookO L = false) := Lib.hid (book_unlike (i := i) (by rw [EX.out, EY.out]; exact he))
    rw [he] at hq
    clear he
    go_quiet_grown ((go_at_call 49; with_reducible refine Calls.grown_of (hcg _)))
    have B3 : Hid (Below w.heap.size w (grow (wr.drewN nq) osq)) := B2.out.trans ((gw_grow wr nq osq).b.mono B2.out.size)
    clear hcg X0 X1 X2 X3 X4 X5 Y0 Y1 Y2 Y3 Y4 Y5 hq
    generalize grow (wr.drewN nq) osq = w2 at B3 ⊢
    go_wp2_with fail
    go_ret
    rw [HB.out]
    exact ⟨rfl, B3.out⟩
  | true =>
  have HEq : Hid (eqO (sortO L)[i]! L[i]! = true) := by
    show _ = _
    rw [EX.out, EY.out]; exact he
  rw [he] at hq
  clear he
  go_quiet_grown ((go_at_call 49; with_reducible refine Calls.grown_of (hcg _)))
  have D3 : Hid (Below w1.heap.size w1 (grow (wr.drewN nq) osq)) := hd.out.trans ((gw_grow wr nq osq).b.mono hd.out.size)
  clear hcg X0 X1 X2 X3 X4 X5 Y0 Y1 Y2 Y3 Y4 Y5 hq EX EY hd B2 hb hb'
  generalize grow (wr.drewN nq) osq = w2 at D3 ⊢
  go_wp2_with fail
  go_loopg [5] i (fun kx s5 wx => ∃ k : Nat, s5 = .int .i64 k ∧ k ≤ i ∧ i - k ≤ kx ∧ Hid (Below w1.heap.size w1 wx) ∧ Hid (∀ j, j < k → (L[j]!).id ≠ (L[i]!).id))
  case atStart => exact ⟨0, rfl, by omega, by omega, D3, Lib.hid (fun j hj => by omega)⟩
  case round =>
  clear D3
  obtain ⟨k, rfl, hki, hkk, hd, HK⟩ := hrel
  by_cases hk : k < i
  case neg =>
    have hkz : ¬ (k : Int) < (i : Int) := by omega
    obtain rfl : k = i := by omega
    have HN : Hid (∀ j, j < k + 1 → goodO L[j]! = true ∧ eqO (sortO L)[j]! L[j]! = true ∧ ∀ q, q < j → (L[q]!).id ≠ (L[j]!).id) := Lib.hid (fun j hj => by
      by_cases e : j < k
      · exact HJ.out j e
      · obtain rfl : j = k := by omega
        exact ⟨HGd.out, HEq.out, fun q hq => HK.out q hq⟩)
    clear HJ HK
    go_wp2_with fail
    go_roundg (n1 - (k + 1))
    case measure => omega
    case rel => exact ⟨k + 1, by go_num, by omega, by omega, hd, HN⟩
  have hkz : (k : Int) < (i : Int) := by omega
  have hkn : (k : Int) < (n1 : Int) := by omega
  have B2 : Hid (Below w.heap.size w wr) := B1.out.trans (hd.out.mono B1.out.size)
  have hx := (HO.out.below B2.out).cellsAt hlt
  have hy := (HO.out.below B2.out).cellsAt (show k < n1 by omega)
  obtain ⟨x, ex⟩ : ∃ x, L[i]! = x := ⟨_, rfl⟩
  obtain ⟨y, ey⟩ : ∃ y, L[k]! = y := ⟨_, rfl⟩
  rw [ex] at hx
  rw [ey] at hy
  have EX := Lib.hid ex
  have EY := Lib.hid ey
  clear ex ey
  obtain ⟨x0, _, _, _, _, _⟩ := hx
  obtain ⟨y0, _, _, _, _, _⟩ := hy
  by_cases he : y.id = x.id
  · have HB : Hid (bookO L = false) := Lib.hid (book_pair hk (by rw [HLn.out]; exact hlt) (by rw [EX.out, EY.out]; exact he))
    have e1 : (y.id == x.id) = true := by simp [he]
    clear he
    go_wp2_with fail
    go_quiet (fail)
    have B3 : Hid (Below w.heap.size w (wr.drewN nq)) := below_drewN B2.out nq
    go_wp2_with fail
    go_ret
    rw [HB.out]
    exact ⟨rfl, B3.out⟩
  · have e1 : (y.id == x.id) = false := by simp [he]
    have HN : Hid (∀ j, j < k + 1 → (L[j]!).id ≠ (L[i]!).id) := Lib.hid (fun j hj => by
      by_cases e : j < k
      · exact HK.out j e
      · obtain rfl : j = k := by omega
        rw [EX.out, EY.out]; exact he)
    clear he HK
    go_wp2_with fail
    go_quiet (fail)
    have B3 : Hid (Below w1.heap.size w1 (wr.drewN nq)) := below_drewN hd.out nq
    generalize wr.drewN nq = w3 at B3 ⊢
    go_wp2_with fail
    go_roundg (i - (k + 1))
    case measure => omega
    case rel => exact ⟨k + 1, by go_num, by omega, by omega, B3, HN⟩
end Go.Proofs.Ytemmbgbmkihbaaa
