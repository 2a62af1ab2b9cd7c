/- XCoinS, XRefM, in one text. (By mkmerge.py.) -/
import Derived.Test.YtpegkojcemggaabCoC
import Derived.Test.YtpegkojcemggaabCoR

/- coin: Sum. -/
namespace Go.Proofs.Ytpegkojcemggaab
open Go.RowKit

/-- A slice of numbers of 64 bits, as the walk reads it. -/
def SlI (w : World) (a : Option Addr) (len : Nat) (zs : List Int) : Prop :=
  zs.length = len ∧ (∀ n ∈ zs, InR n) ∧ (len = 0 ∨ ∃ b off, a = some ⟨b, off, none⟩ ∧ ∀ i, i < len → w.cell? ⟨b, off + i, none⟩ = some (.int .i64 (zs.getD i 0)))
theorem getD_in {zs : List Int} (h : ∀ n ∈ zs, InR n) (i : Nat) : InR (zs.getD i 0) := by
  by_cases hi : i < zs.length
  · rw [List.getD_eq_getElem?_getD, List.getElem?_eq_getElem hi]; exact h _ (List.getElem_mem hi)
  · rw [List.getD_eq_getElem?_getD, List.getElem?_eq_none (by omega)]; unfold InR; simp
theorem sum_take_succ (zs : List Int) (k : Nat) (h : k < zs.length) : (zs.take (k + 1)).sum = (zs.take k).sum + zs.getD k 0 := by
  rw [List.take_succ_eq_append_getElem h, List.sum_append, List.getD_eq_getElem?_getD, List.getElem?_eq_getElem h]; simp
theorem sum_bound (zs : List Int) (h : ∀ n ∈ zs, InR n) : -(9223372036854775808 * (zs.length : Int)) ≤ zs.sum ∧ zs.sum ≤ 9223372036854775807 * (zs.length : Int) := by
  induction zs with
  | nil => simp
  | cons x xs ih =>
    have h1 := ih (fun n hn => h n (List.mem_cons_of_mem _ hn))
    have h2 := h x List.mem_cons_self
    unfold InR at h2
    simp only [List.sum_cons, List.length_cons]
    omega
theorem sum_rm (zs : List Int) (k : Nat) (h : ∀ n ∈ zs, InR n) (hl : zs.length ≤ 2147483647) : Rm (zs.take k).sum := by
  have hb := sum_bound (zs.take k) (fun n hn => h n (List.mem_of_mem_take hn))
  have hl2 : (zs.take k).length ≤ zs.length := by simp; omega
  unfold Rm
  omega
theorem cell_below {w wr : World} (h : Below w.heap.size w wr) {a : Addr} {v : Value} (hc : w.cell? a = some v) : wr.cell? a = some v := by
  rw [h.cell (block_lt_of_cell hc)]; exact hc

set_option maxHeartbeats 4000000 in
set_option maxRecDepth 100000 in
theorem Sum_c (a : Option Addr) (len cap : Nat) (zs : List Int) (w : World) (hs : SlI w a len zs) (hlen : len ≤ 2147483647) :
    Calls Try.prog 34 #[.slice a len cap] w fun e w' => e = .returned (.tuple #[.int .i64 (tv zs.sum), .int .i64 (te zs.sum)]) ∧ Below w.heap.size w w' := by
  obtain ⟨hl, hin, hc⟩ := hs
  have Hin := Lib.hid hin; clear hin
  have Hl := Lib.hid hl; clear hl
  have Hc := Lib.hid hc; clear hc
  have hlenI : (len : Int) ≤ 9223372036854775807 := by omega
  go_enter Try.func34, Try.ntmps34
  go_wp2_with (go_at_call 43; (with_reducible refine (wide_c 0 (by omega) (by omega) _).mono ?_); rintro e w' ⟨rfl, rfl⟩)
  go_loopw [10] (fun i wr => ∃ k : Nat, k ≤ len ∧ i = .int .i64 k ∧ Hid (wr.heap[w.heap.size + 1]? = some (PC (zs.take k).sum)) ∧ Below w.heap.size w wr ∧ w.heap.size + 2 ≤ wr.heap.size) (fun i _ => len - (intOf i).toNat)
  case atStart => exact ⟨0, by omega, rfl, by show _ = _; simp only [List.take_zero, List.sum_nil]; (focus ((repeat' (first | (with_reducible assumption) | ((with_reducible refine heap_last ?_); (focus (first | (simp; done) | omega | (simp; omega)))) | ((with_reducible refine heap_prev ?_ ?_); (focus (first | (simp; done) | omega | (simp; omega)))) | (with_reducible refine drew_heap ?_) | (with_reducible refine drewN_heap ?_))); done)), by (focus ((repeat' (first | (with_reducible exact Below.refl _ _) | (with_reducible assumption) | (with_reducible refine Below.alloc ?_ ?_ _) | (with_reducible refine Below.setCell ?_ ?_ _) | (with_reducible refine Below.row ?_ ?_ _) | (with_reducible refine Below.drew ?_) | (with_reducible refine below_drewN ?_ _) | (focus (first | (simp; done) | omega | (simp; omega))))); done)), by simp⟩
  case round =>
    obtain ⟨k, hk, rfl, hp, hB, hz⟩ := hrel
    have hz1 : w.heap.size ≤ wr.heap.size := by omega
    by_cases hlt : k < len
    · have hltI : (k : Int) < (len : Int) := by omega
      have hk0 : (0 : Int) ≤ (k : Int) := by omega
      rcases Hc.out with h0 | ⟨b, off, rfl, hcells⟩
      · exfalso; omega
      have ck := cell_below hB (hcells k hlt)
      have Hcells := Lib.hid hcells; clear hcells
      have hz0 := getD_in Hin.out k
      obtain ⟨z, hzz⟩ : ∃ z, z = zs.getD k 0 := ⟨_, rfl⟩
      rw [← hzz] at ck hz0
      have hsum : (zs.take k).sum + z = (zs.take (k + 1)).sum := by rw [hzz]; exact (sum_take_succ zs k (by have := Hl.out; omega)).symm
      have R1 := Lib.hid (sum_rm zs k Hin.out (by have := Hl.out; omega))
      have R3 := Lib.hid (sum_rm zs (k + 1) Hin.out (by have := Hl.out; omega))
      have hHP : Hid (∀ w, Calls Try.prog 44 #[PV (zs.take k).sum, PV z] w fun e w' => e = .returned (PV (zs.take (k + 1)).sum) ∧ ((w.alloc (PC (zs.take k).sum)).alloc (PC z)).alloc (PC (zs.take (k + 1)).sum) = w') := by
        intro w
        rw [← hsum]
        exact plus_c _ _ R1.out (rm_in hz0) (by rw [hsum]; exact R3.out) w
      have ⟨z0, z1⟩ := hz0
      have Hzz := Lib.hid hzz; clear hzz hsum hz0
      obtain ⟨S, hS⟩ : ∃ S, S = (zs.take k).sum := ⟨_, rfl⟩
      obtain ⟨S', hS'⟩ : ∃ S', S' = (zs.take (k + 1)).sum := ⟨_, rfl⟩
      rw [← hS] at hp R1 hHP
      rw [← hS'] at R3 hHP
      have HS := Lib.hid hS; clear hS
      have HS' := Lib.hid hS'; clear hS'
      have k0 : wr.cell? ⟨w.heap.size + 1, 0, none⟩ = some (.int .i64 (hiOf S)) := cell_heap hp.out rfl
      have k1 : wr.cell? ⟨w.heap.size + 1, 1, none⟩ = some (.int .u64 (loOf S)) := cell_heap hp.out rfl
      have j0 : (wr.alloc (PC z)).drew.cell? ⟨w.heap.size + 1, 0, none⟩ = some (.int .i64 (hiOf S)) := by have := hp.out; (focus ((with_reducible apply cell_heap); (focus ((repeat' (first | (with_reducible assumption) | ((with_reducible refine heap_last ?_); (focus (first | (simp; done) | omega | (simp; omega)))) | ((with_reducible refine heap_prev ?_ ?_); (focus (first | (simp; done) | omega | (simp; omega)))) | (with_reducible refine drew_heap ?_) | (with_reducible refine drewN_heap ?_))); done)); rfl))
      have j1 : (wr.alloc (PC z)).drew.cell? ⟨w.heap.size + 1, 1, none⟩ = some (.int .u64 (loOf S)) := by have := hp.out; (focus ((with_reducible apply cell_heap); (focus ((repeat' (first | (with_reducible assumption) | ((with_reducible refine heap_last ?_); (focus (first | (simp; done) | omega | (simp; omega)))) | ((with_reducible refine heap_prev ?_ ?_); (focus (first | (simp; done) | omega | (simp; omega)))) | (with_reducible refine drew_heap ?_) | (with_reducible refine drewN_heap ?_))); done)); rfl))
      go_wp2_with fail
      refine wp_region_any (by kernel_rfl) ?_
      change wpAny _ _ _ _ _ _ _ (World.drew _)
      refine wpAny_take (i := 1) (v := .int .i64 z) rfl (by kernel_rfl) (by kernel_rfl) (by kernel_rfl) (fun _ _ _ h => h) (Or.inl ⟨by rfl, by intro w; go_simp⟩) ?_
      (refine wpAny_ready (rs := [0, 2]) (by kernel_rfl) (by simp) (AllReady.cons rfl (fun K hK => ?_) (AllReady.cons rfl (fun K hK => ?_) AllReady.nil)))
      · go_simp
        refine hK _ _ ?_
        clear hK K
        (refine wpAny_ready (rs := [2]) (by kernel_rfl) (by simp) (AllReady.cons rfl (fun K hK => ?_) AllReady.nil))
        go_simp
        ((with_reducible refine (wide_c z z0 z1 _).mono ?_); rintro e w' ⟨rfl, rfl⟩)
        refine hK _ _ ?_
        clear hK K
        (refine wpAny_ready (rs := [3]) (by kernel_rfl) (by simp) (AllReady.cons rfl (fun K hK => ?_) AllReady.nil))
        go_simp
        ((with_reducible refine (hHP.out _).mono ?_); rintro e w' ⟨rfl, rfl⟩)
        refine hK _ _ ?_
        clear hK K
        (refine wpAny_ready (rs := [4]) (by kernel_rfl) (by simp) (AllReady.cons rfl (fun K hK => ?_) AllReady.nil))
        have y := hp.out
        refine any_store75 rfl _ _ rfl (w.heap.size + 1) S' S rfl rfl (by (focus ((repeat' (first | (with_reducible assumption) | ((with_reducible refine heap_last ?_); (focus (first | (simp; done) | omega | (simp; omega)))) | ((with_reducible refine heap_prev ?_ ?_); (focus (first | (simp; done) | omega | (simp; omega)))) | (with_reducible refine drew_heap ?_) | (with_reducible refine drewN_heap ?_))); done))) ?_
        intro V hV sV bV
        refine hK _ _ ?_
        clear hK K
        refine wpAny_done (by kernel_rfl) ?_ _
        have BV : Below w.heap.size w V := bV _ _ (by (focus ((repeat' (first | (with_reducible exact Below.refl _ _) | (with_reducible assumption) | (with_reducible refine Below.alloc ?_ ?_ _) | (with_reducible refine Below.setCell ?_ ?_ _) | (with_reducible refine Below.row ?_ ?_ _) | (with_reducible refine Below.drew ?_) | (with_reducible refine below_drewN ?_ _) | (focus (first | (simp; done) | omega | (simp; omega))))); done))) (by omega)
        have zV : w.heap.size + 2 ≤ V.heap.size := by rw [sV]; simp; omega
        clear y k0 k1 j0 j1 sV bV
        go_wp2
        exact ⟨⟨k + 1, by omega, by go_num, by rw [← HS'.out]; exact hV, BV, zV⟩, by simp [intOf]; omega⟩
      · go_simp
        ((with_reducible refine (wide_c z z0 z1 _).mono ?_); rintro e w' ⟨rfl, rfl⟩)
        refine hK _ _ ?_
        clear hK K
        (refine wpAny_ready (rs := [0]) (by kernel_rfl) (by simp) (AllReady.cons rfl (fun K hK => ?_) AllReady.nil))
        go_simp
        refine hK _ _ ?_
        clear hK K
        (refine wpAny_ready (rs := [3]) (by kernel_rfl) (by simp) (AllReady.cons rfl (fun K hK => ?_) AllReady.nil))
        go_simp
        ((with_reducible refine (hHP.out _).mono ?_); rintro e w' ⟨rfl, rfl⟩)
        refine hK _ _ ?_
        clear hK K
        (refine wpAny_ready (rs := [4]) (by kernel_rfl) (by simp) (AllReady.cons rfl (fun K hK => ?_) AllReady.nil))
        have y := hp.out
        refine any_store75 rfl _ _ rfl (w.heap.size + 1) S' S rfl rfl (by (focus ((repeat' (first | (with_reducible assumption) | ((with_reducible refine heap_last ?_); (focus (first | (simp; done) | omega | (simp; omega)))) | ((with_reducible refine heap_prev ?_ ?_); (focus (first | (simp; done) | omega | (simp; omega)))) | (with_reducible refine drew_heap ?_) | (with_reducible refine drewN_heap ?_))); done))) ?_
        intro V hV sV bV
        refine hK _ _ ?_
        clear hK K
        refine wpAny_done (by kernel_rfl) ?_ _
        have BV : Below w.heap.size w V := bV _ _ (by (focus ((repeat' (first | (with_reducible exact Below.refl _ _) | (with_reducible assumption) | (with_reducible refine Below.alloc ?_ ?_ _) | (with_reducible refine Below.setCell ?_ ?_ _) | (with_reducible refine Below.row ?_ ?_ _) | (with_reducible refine Below.drew ?_) | (with_reducible refine below_drewN ?_ _) | (focus (first | (simp; done) | omega | (simp; omega))))); done))) (by omega)
        have zV : w.heap.size + 2 ≤ V.heap.size := by rw [sV]; simp; omega
        clear y k0 k1 j0 j1 sV bV
        go_wp2
        exact ⟨⟨k + 1, by omega, by go_num, by rw [← HS'.out]; exact hV, BV, zV⟩, by simp [intOf]; omega⟩
    · obtain rfl : k = len := by omega
      have hS : (zs.take k).sum = zs.sum := by rw [List.take_of_length_le (by have := Hl.out; omega)]
      have R := Lib.hid (sum_rm zs k Hin.out (by have := Hl.out; omega))
      rw [hS] at hp R
      clear hS
      obtain ⟨S, hS⟩ : ∃ S, S = zs.sum := ⟨_, rfl⟩
      rw [← hS] at hp R
      have HS := Lib.hid hS; clear hS
      have k0 : wr.cell? ⟨w.heap.size + 1, 0, none⟩ = some (.int .i64 (hiOf S)) := cell_heap hp.out rfl
      have k1 : wr.cell? ⟨w.heap.size + 1, 1, none⟩ = some (.int .u64 (loOf S)) := cell_heap hp.out rfl
      go_wp2_with fail
      ((with_reducible refine (narrow_c S R.out _).mono ?_); rintro e w5 ⟨rfl, hb5⟩)
      have hB5 : Below w.heap.size w w5 := hB.trans (hb5.mono hz1)
      clear hb5
      go_wp2_with fail
      go_ret2
      exact ⟨ret_two (by rw [HS.out]) (by rw [HS.out]), hB5⟩
end Go.Proofs.Ytpegkojcemggaab

/- The reference's Sum and Less. -/
namespace Go.Proofs.Ytpegkojcemggaab
open Go.RowKit

set_option maxHeartbeats 4000000 in
set_option maxRecDepth 100000 in
theorem refSum_c (a : Option Addr) (len cap : Nat) (zs : List Int) (w : World) (hs : SlI w a len zs) (hlen : len ≤ 2147483647) :
    Calls Try.prog 35 #[.slice a len cap] w fun e w' => e = .returned (.tuple #[.int .i64 (tv zs.sum), .int .i64 (te zs.sum)]) ∧ Below w.heap.size w w' := by
  obtain ⟨hl, hin, hc⟩ := hs
  have hz := zero83
  have Hin := Lib.hid hin; clear hin
  have Hl := Lib.hid hl; clear hl
  have Hc := Lib.hid hc; clear hc
  have hlenI : (len : Int) ≤ 9223372036854775807 := by omega
  go_enter Try.func35, Try.ntmps35
  go_wp2
  go_loopw [5] (fun i wr => ∃ k : Nat, k ≤ len ∧ i = .int .i64 k ∧ Hid (wr.heap[w.heap.size]? = some (.cells (NC (zs.take k).sum.natAbs (decide ((zs.take k).sum < 0))) 86 (0, 0))) ∧ Below w.heap.size w wr ∧ w.heap.size + 1 ≤ wr.heap.size) (fun i _ => len - (intOf i).toNat)
  case atStart => exact ⟨0, by omega, rfl, by show _ = _; simp only [List.take_zero, List.sum_nil]; show _ = some (Obj.cells (NC 0 false) _ _); (focus ((repeat' (first | (with_reducible assumption) | ((with_reducible refine heap_last ?_); (focus (first | (simp; done) | omega | (simp; omega)))) | ((with_reducible refine heap_prev ?_ ?_); (focus (first | (simp; done) | omega | (simp; omega)))) | (with_reducible apply sign_heap) | (with_reducible apply row_heap) | (with_reducible apply bit0_heap) | ((with_reducible refine sign_other ?_ ?_); (focus (first | (simp; done) | omega | (simp; omega)))) | ((with_reducible refine row_other ?_ ?_); (focus (first | (simp; done) | omega | (simp; omega)))) | (with_reducible refine drew_heap ?_))); done)), by (focus ((repeat' (first | (with_reducible exact Below.refl _ _) | (with_reducible assumption) | (with_reducible refine Below.alloc ?_ ?_ _) | (with_reducible refine Below.setCell ?_ ?_ _) | (with_reducible refine Below.row ?_ ?_ _) | (with_reducible refine Below.drew ?_) | (with_reducible refine below_drewN ?_ _) | (focus (first | (simp; done) | omega | (simp; omega))))); done)), by simp⟩
  case round =>
    obtain ⟨k, hk, rfl, hp, hB, hz9⟩ := hrel
    have hz1 : w.heap.size ≤ wr.heap.size := by omega
    by_cases hlt : k < len
    · have hltI : (k : Int) < (len : Int) := by omega
      have hk0 : (0 : Int) ≤ (k : Int) := by omega
      rcases Hc.out with h0 | ⟨b, off, rfl, hcells⟩
      · exfalso; omega
      have ck := cell_below hB (hcells k hlt)
      have cw := block_lt_of_cell ck
      have Hcells := Lib.hid hcells; clear hcells
      have hz0 := getD_in Hin.out k
      obtain ⟨z, hzz⟩ : ∃ z, z = zs.getD k 0 := ⟨_, rfl⟩
      rw [← hzz] at ck hz0
      have hsum : (zs.take k).sum + z = (zs.take (k + 1)).sum := by rw [hzz]; exact (sum_take_succ zs k (by have := Hl.out; omega)).symm
      have r1 := sum_rm zs k Hin.out (by have := Hl.out; omega)
      have HPl : Hid (∀ w, Calls Try.prog 46 #[.agg (NC (zs.take k).sum.natAbs (decide ((zs.take k).sum < 0))), .agg (NZ z)] w fun e w' => e = .returned (.agg (NC (zs.take (k + 1)).sum.natAbs (decide ((zs.take (k + 1)).sum < 0)))) ∧ Below w.heap.size w w') := by
        intro w
        rw [← hsum]
        exact Plus_z _ _ (by unfold Rm at r1; omega) (by unfold InR at hz0; omega) w
      have Hz0 := Lib.hid hz0; clear hz0 r1
      have Hzz := Lib.hid hzz; clear hzz hsum
      obtain ⟨S, hS⟩ : ∃ S, S = (zs.take k).sum := ⟨_, rfl⟩
      obtain ⟨S', hS'⟩ : ∃ S', S' = (zs.take (k + 1)).sum := ⟨_, rfl⟩
      rw [← hS] at hp HPl
      rw [← hS'] at HPl
      have HS := Lib.hid hS; clear hS
      have HS' := Lib.hid hS'; clear hS'
      go_wp2_with fail
      refine wp_region_any (by kernel_rfl) ?_
      change wpAny _ _ _ _ _ _ _ (World.drew _)
      refine wpAny_take (i := 1) (v := .slice (some ⟨b, off, none⟩) len cap) rfl (by kernel_rfl) (by kernel_rfl) (by kernel_rfl) (fun _ _ _ h => h) (Or.inl ⟨by rfl, by intro w; go_simp⟩) ?_
      refine wpAny_take (i := 2) (v := .int .i64 (k : Int)) rfl (by kernel_rfl) (by kernel_rfl) (by kernel_rfl) (fun _ _ _ h => h) (Or.inl ⟨by rfl, by intro w; go_simp⟩) ?_
      refine wpAny_take (i := 3) (v := .pointer (some ⟨b, off + k, none⟩)) rfl (by kernel_rfl) (by kernel_rfl) (by kernel_rfl) (fun _ _ _ h => h) (Or.inl ⟨by rfl, by intro w; go_simp⟩) ?_
      have hpp := hp.out
      (refine wpAny_ready (rs := [0, 4]) (by kernel_rfl) (by simp) (AllReady.cons rfl (fun K hK => ?_) (AllReady.cons rfl (fun K hK => ?_) AllReady.nil)))
      · ((with_reducible apply any_load83); rfl; rfl; rfl; (focus ((repeat' (first | (with_reducible assumption) | ((with_reducible refine heap_last ?_); (focus (first | (simp; done) | omega | (simp; omega)))) | ((with_reducible refine heap_prev ?_ ?_); (focus (first | (simp; done) | omega | (simp; omega)))) | (with_reducible apply sign_heap) | (with_reducible apply row_heap) | (with_reducible apply bit0_heap) | ((with_reducible refine sign_other ?_ ?_); (focus (first | (simp; done) | omega | (simp; omega)))) | ((with_reducible refine row_other ?_ ?_); (focus (first | (simp; done) | omega | (simp; omega)))) | (with_reducible refine drew_heap ?_))); done)); refine hK _ _ ?_; clear hK K)
        clear hpp
        (refine wpAny_ready (rs := [4]) (by kernel_rfl) (by simp) (AllReady.cons rfl (fun K hK => ?_) AllReady.nil))
        go_simp
        refine hK _ _ ?_
        clear hK K
        (refine wpAny_ready (rs := [5]) (by kernel_rfl) (by simp) (AllReady.cons rfl (fun K hK => ?_) AllReady.nil))
        go_simp
        ((with_reducible refine (Of_z z Hz0.out _).mono ?_); rintro e w3 ⟨rfl, b3⟩)
        refine hK _ _ ?_
        clear hK K
        have w3B : Below w.heap.size w w3 := Below.trans (by (focus ((repeat' (first | (with_reducible exact Below.refl _ _) | (with_reducible assumption) | (with_reducible refine Below.alloc ?_ ?_ _) | (with_reducible refine Below.setCell ?_ ?_ _) | (with_reducible refine Below.row ?_ ?_ _) | (with_reducible refine Below.drew ?_) | (with_reducible refine below_drewN ?_ _) | (focus (first | (simp; done) | omega | (simp; omega))))); done))) (b3.mono (by first | exact hz1 | (simp; omega)))
        have w3z : w.heap.size + 1 ≤ w3.heap.size := by have := b3.size; simp at this; omega
        have w3p : w3.heap[w.heap.size]? = some (.cells (NC S.natAbs (decide (S < 0))) 86 (0, 0)) := by rw [b3.block _ (by first | omega | (simp; omega))]; have := hp.out; (focus ((repeat' (first | (with_reducible assumption) | ((with_reducible refine heap_last ?_); (focus (first | (simp; done) | omega | (simp; omega)))) | ((with_reducible refine heap_prev ?_ ?_); (focus (first | (simp; done) | omega | (simp; omega)))) | (with_reducible apply sign_heap) | (with_reducible apply row_heap) | (with_reducible apply bit0_heap) | ((with_reducible refine sign_other ?_ ?_); (focus (first | (simp; done) | omega | (simp; omega)))) | ((with_reducible refine row_other ?_ ?_); (focus (first | (simp; done) | omega | (simp; omega)))) | (with_reducible refine drew_heap ?_))); done))
        clear b3
        (refine wpAny_ready (rs := [6]) (by kernel_rfl) (by simp) (AllReady.cons rfl (fun K hK => ?_) AllReady.nil))
        go_simp
        ((with_reducible refine (HPl.out _).mono ?_); rintro e w4 ⟨rfl, b4⟩)
        refine hK _ _ ?_
        clear hK K
        have w4B : Below w.heap.size w w4 := Below.trans w3B (b4.mono (by omega))
        have w4z : w.heap.size + 1 ≤ w4.heap.size := by have := b4.size; omega
        have w4p : w4.heap[w.heap.size]? = some (.cells (NC S.natAbs (decide (S < 0))) 86 (0, 0)) := by rw [b4.block _ (by omega)]; exact w3p
        clear b4 w3B w3z w3p
        (refine wpAny_ready (rs := [7]) (by kernel_rfl) (by simp) (AllReady.cons rfl (fun K hK => ?_) AllReady.nil))
        ((with_reducible apply any_store83); rfl; rfl; rfl; rfl; (focus ((repeat' (first | (with_reducible assumption) | ((with_reducible refine heap_last ?_); (focus (first | (simp; done) | omega | (simp; omega)))) | ((with_reducible refine heap_prev ?_ ?_); (focus (first | (simp; done) | omega | (simp; omega)))) | (with_reducible apply sign_heap) | (with_reducible apply row_heap) | (with_reducible apply bit0_heap) | ((with_reducible refine sign_other ?_ ?_); (focus (first | (simp; done) | omega | (simp; omega)))) | ((with_reducible refine row_other ?_ ?_); (focus (first | (simp; done) | omega | (simp; omega)))) | (with_reducible refine drew_heap ?_))); done)); refine hK _ _ ?_; clear hK K)
        refine wpAny_done (by kernel_rfl) ?_ _
        go_wp2
        refine ⟨⟨k + 1, by omega, by go_num, ?_, by (focus ((repeat' (first | (with_reducible exact Below.refl _ _) | (with_reducible assumption) | (with_reducible refine Below.alloc ?_ ?_ _) | (with_reducible refine Below.setCell ?_ ?_ _) | (with_reducible refine Below.row ?_ ?_ _) | (with_reducible refine Below.drew ?_) | (with_reducible refine below_drewN ?_ _) | (focus (first | (simp; done) | omega | (simp; omega))))); done)), by simp; omega⟩, by simp [intOf]; omega⟩
        show _ = _
        rw [← HS'.out]
        exact row_heap w4p
      · go_simp
        refine hK _ _ ?_
        clear hK K
        (refine wpAny_ready (rs := [0, 5]) (by kernel_rfl) (by simp) (AllReady.cons rfl (fun K hK => ?_) (AllReady.cons rfl (fun K hK => ?_) AllReady.nil)))
        · ((with_reducible apply any_load83); rfl; rfl; rfl; (focus ((repeat' (first | (with_reducible assumption) | ((with_reducible refine heap_last ?_); (focus (first | (simp; done) | omega | (simp; omega)))) | ((with_reducible refine heap_prev ?_ ?_); (focus (first | (simp; done) | omega | (simp; omega)))) | (with_reducible apply sign_heap) | (with_reducible apply row_heap) | (with_reducible apply bit0_heap) | ((with_reducible refine sign_other ?_ ?_); (focus (first | (simp; done) | omega | (simp; omega)))) | ((with_reducible refine row_other ?_ ?_); (focus (first | (simp; done) | omega | (simp; omega)))) | (with_reducible refine drew_heap ?_))); done)); refine hK _ _ ?_; clear hK K)
          clear hpp
          (refine wpAny_ready (rs := [5]) (by kernel_rfl) (by simp) (AllReady.cons rfl (fun K hK => ?_) AllReady.nil))
          go_simp
          ((with_reducible refine (Of_z z Hz0.out _).mono ?_); rintro e w3 ⟨rfl, b3⟩)
          refine hK _ _ ?_
          clear hK K
          have w3B : Below w.heap.size w w3 := Below.trans (by (focus ((repeat' (first | (with_reducible exact Below.refl _ _) | (with_reducible assumption) | (with_reducible refine Below.alloc ?_ ?_ _) | (with_reducible refine Below.setCell ?_ ?_ _) | (with_reducible refine Below.row ?_ ?_ _) | (with_reducible refine Below.drew ?_) | (with_reducible refine below_drewN ?_ _) | (focus (first | (simp; done) | omega | (simp; omega))))); done))) (b3.mono (by first | exact hz1 | (simp; omega)))
          have w3z : w.heap.size + 1 ≤ w3.heap.size := by have := b3.size; simp at this; omega
          have w3p : w3.heap[w.heap.size]? = some (.cells (NC S.natAbs (decide (S < 0))) 86 (0, 0)) := by rw [b3.block _ (by first | omega | (simp; omega))]; have := hp.out; (focus ((repeat' (first | (with_reducible assumption) | ((with_reducible refine heap_last ?_); (focus (first | (simp; done) | omega | (simp; omega)))) | ((with_reducible refine heap_prev ?_ ?_); (focus (first | (simp; done) | omega | (simp; omega)))) | (with_reducible apply sign_heap) | (with_reducible apply row_heap) | (with_reducible apply bit0_heap) | ((with_reducible refine sign_other ?_ ?_); (focus (first | (simp; done) | omega | (simp; omega)))) | ((with_reducible refine row_other ?_ ?_); (focus (first | (simp; done) | omega | (simp; omega)))) | (with_reducible refine drew_heap ?_))); done))
          clear b3
          (refine wpAny_ready (rs := [6]) (by kernel_rfl) (by simp) (AllReady.cons rfl (fun K hK => ?_) AllReady.nil))
          go_simp
          ((with_reducible refine (HPl.out _).mono ?_); rintro e w4 ⟨rfl, b4⟩)
          refine hK _ _ ?_
          clear hK K
          have w4B : Below w.heap.size w w4 := Below.trans w3B (b4.mono (by omega))
          have w4z : w.heap.size + 1 ≤ w4.heap.size := by have := b4.size; omega
          have w4p : w4.heap[w.heap.size]? = some (.cells (NC S.natAbs (decide (S < 0))) 86 (0, 0)) := by rw [b4.block _ (by omega)]; exact w3p
          clear b4 w3B w3z w3p
          (refine wpAny_ready (rs := [7]) (by kernel_rfl) (by simp) (AllReady.cons rfl (fun K hK => ?_) AllReady.nil))
          ((with_reducible apply any_store83); rfl; rfl; rfl; rfl; (focus ((repeat' (first | (with_reducible assumption) | ((with_reducible refine heap_last ?_); (focus (first | (simp; done) | omega | (simp; omega)))) | ((with_reducible refine heap_prev ?_ ?_); (focus (first | (simp; done) | omega | (simp; omega)))) | (with_reducible apply sign_heap) | (with_reducible apply row_heap) | (with_reducible apply bit0_heap) | ((with_reducible refine sign_other ?_ ?_); (focus (first | (simp; done) | omega | (simp; omega)))) | ((with_reducible refine row_other ?_ ?_); (focus (first | (simp; done) | omega | (simp; omega)))) | (with_reducible refine drew_heap ?_))); done)); refine hK _ _ ?_; clear hK K)
          refine wpAny_done (by kernel_rfl) ?_ _
          go_wp2
          refine ⟨⟨k + 1, by omega, by go_num, ?_, by (focus ((repeat' (first | (with_reducible exact Below.refl _ _) | (with_reducible assumption) | (with_reducible refine Below.alloc ?_ ?_ _) | (with_reducible refine Below.setCell ?_ ?_ _) | (with_reducible refine Below.row ?_ ?_ _) | (with_reducible refine Below.drew ?_) | (with_reducible refine below_drewN ?_ _) | (focus (first | (simp; done) | omega | (simp; omega))))); done)), by simp; omega⟩, by simp [intOf]; omega⟩
          show _ = _
          rw [← HS'.out]
          exact row_heap w4p
        · clear hpp
          go_simp
          ((with_reducible refine (Of_z z Hz0.out _).mono ?_); rintro e w3 ⟨rfl, b3⟩)
          refine hK _ _ ?_
          clear hK K
          have w3B : Below w.heap.size w w3 := Below.trans (by (focus ((repeat' (first | (with_reducible exact Below.refl _ _) | (with_reducible assumption) | (with_reducible refine Below.alloc ?_ ?_ _) | (with_reducible refine Below.setCell ?_ ?_ _) | (with_reducible refine Below.row ?_ ?_ _) | (with_reducible refine Below.drew ?_) | (with_reducible refine below_drewN ?_ _) | (focus (first | (simp; done) | omega | (simp; omega))))); done))) (b3.mono (by first | exact hz1 | (simp; omega)))
          have w3z : w.heap.size + 1 ≤ w3.heap.size := by have := b3.size; simp at this; omega
          have w3p : w3.heap[w.heap.size]? = some (.cells (NC S.natAbs (decide (S < 0))) 86 (0, 0)) := by rw [b3.block _ (by first | omega | (simp; omega))]; have := hp.out; (focus ((repeat' (first | (with_reducible assumption) | ((with_reducible refine heap_last ?_); (focus (first | (simp; done) | omega | (simp; omega)))) | ((with_reducible refine heap_prev ?_ ?_); (focus (first | (simp; done) | omega | (simp; omega)))) | (with_reducible apply sign_heap) | (with_reducible apply row_heap) | (with_reducible apply bit0_heap) | ((with_reducible refine sign_other ?_ ?_); (focus (first | (simp; done) | omega | (simp; omega)))) | ((with_reducible refine row_other ?_ ?_); (focus (first | (simp; done) | omega | (simp; omega)))) | (with_reducible refine drew_heap ?_))); done))
          clear b3
          (refine wpAny_ready (rs := [0]) (by kernel_rfl) (by simp) (AllReady.cons rfl (fun K hK => ?_) AllReady.nil))
          ((with_reducible apply any_load83); rfl; rfl; rfl; (focus ((repeat' (first | (with_reducible assumption) | ((with_reducible refine heap_last ?_); (focus (first | (simp; done) | omega | (simp; omega)))) | ((with_reducible refine heap_prev ?_ ?_); (focus (first | (simp; done) | omega | (simp; omega)))) | (with_reducible apply sign_heap) | (with_reducible apply row_heap) | (with_reducible apply bit0_heap) | ((with_reducible refine sign_other ?_ ?_); (focus (first | (simp; done) | omega | (simp; omega)))) | ((with_reducible refine row_other ?_ ?_); (focus (first | (simp; done) | omega | (simp; omega)))) | (with_reducible refine drew_heap ?_))); done)); refine hK _ _ ?_; clear hK K)
          (refine wpAny_ready (rs := [6]) (by kernel_rfl) (by simp) (AllReady.cons rfl (fun K hK => ?_) AllReady.nil))
          go_simp
          ((with_reducible refine (HPl.out _).mono ?_); rintro e w4 ⟨rfl, b4⟩)
          refine hK _ _ ?_
          clear hK K
          have w4B : Below w.heap.size w w4 := Below.trans w3B (b4.mono (by omega))
          have w4z : w.heap.size + 1 ≤ w4.heap.size := by have := b4.size; omega
          have w4p : w4.heap[w.heap.size]? = some (.cells (NC S.natAbs (decide (S < 0))) 86 (0, 0)) := by rw [b4.block _ (by omega)]; exact w3p
          clear b4 w3B w3z w3p
          (refine wpAny_ready (rs := [7]) (by kernel_rfl) (by simp) (AllReady.cons rfl (fun K hK => ?_) AllReady.nil))
          ((with_reducible apply any_store83); rfl; rfl; rfl; rfl; (focus ((repeat' (first | (with_reducible assumption) | ((with_reducible refine heap_last ?_); (focus (first | (simp; done) | omega | (simp; omega)))) | ((with_reducible refine heap_prev ?_ ?_); (focus (first | (simp; done) | omega | (simp; omega)))) | (with_reducible apply sign_heap) | (with_reducible apply row_heap) | (with_reducible apply bit0_heap) | ((with_reducible refine sign_other ?_ ?_); (focus (first | (simp; done) | omega | (simp; omega)))) | ((with_reducible refine row_other ?_ ?_); (focus (first | (simp; done) | omega | (simp; omega)))) | (with_reducible refine drew_heap ?_))); done)); refine hK _ _ ?_; clear hK K)
          refine wpAny_done (by kernel_rfl) ?_ _
          go_wp2
          refine ⟨⟨k + 1, by omega, by go_num, ?_, by (focus ((repeat' (first | (with_reducible exact Below.refl _ _) | (with_reducible assumption) | (with_reducible refine Below.alloc ?_ ?_ _) | (with_reducible refine Below.setCell ?_ ?_ _) | (with_reducible refine Below.row ?_ ?_ _) | (with_reducible refine Below.drew ?_) | (with_reducible refine below_drewN ?_ _) | (focus (first | (simp; done) | omega | (simp; omega))))); done)), by simp; omega⟩, by simp [intOf]; omega⟩
          show _ = _
          rw [← HS'.out]
          exact row_heap w4p
    · obtain rfl : k = len := by omega
      have hS : (zs.take k).sum = zs.sum := by rw [List.take_of_length_le (by have := Hl.out; omega)]
      have R := sum_rm zs k Hin.out (by have := Hl.out; omega)
      rw [hS] at hp R
      clear hS
      obtain ⟨S, hS⟩ : ∃ S, S = zs.sum := ⟨_, rfl⟩
      rw [← hS] at hp R
      have HT : Hid (∀ w, Calls Try.prog 48 #[.agg (NC S.natAbs (decide (S < 0)))] w fun e w' => e = .returned (.tuple #[.int .i64 (tv S), .int .i64 (te S)]) ∧ Below w.heap.size w w') := by
        intro w; exact told_c S (by unfold Rm at R; omega) w
      have HS := Lib.hid hS; clear hS R
      have hpp := hp.out
      go_wp2_with (first | ((with_reducible apply load83); rfl; rfl; rfl; (focus ((repeat' (first | (with_reducible assumption) | ((with_reducible refine heap_last ?_); (focus (first | (simp; done) | omega | (simp; omega)))) | ((with_reducible refine heap_prev ?_ ?_); (focus (first | (simp; done) | omega | (simp; omega)))) | (with_reducible apply sign_heap) | (with_reducible apply row_heap) | (with_reducible apply bit0_heap) | ((with_reducible refine sign_other ?_ ?_); (focus (first | (simp; done) | omega | (simp; omega)))) | ((with_reducible refine row_other ?_ ?_); (focus (first | (simp; done) | omega | (simp; omega)))) | (with_reducible refine drew_heap ?_))); done)); skip))
      ((with_reducible refine (HT.out _).mono ?_); rintro e w5 ⟨rfl, hb5⟩)
      have hB5 : Below w.heap.size w w5 := hB.trans (hb5.mono hz1)
      clear hb5
      go_wp2_with fail
      go_ret2
      exact ⟨ret_two (by rw [HS.out]) (by rw [HS.out]), hB5⟩
set_option maxHeartbeats 1000000 in
theorem refCapped_c (a b : Int) (ha : InR a) (hb : InR b) (r : Int)
    (hr : r = if a < 0 ∨ b < 0 ∨ 4611686018427387904 < a ∨ 4611686018427387904 < b then 0 else if 4611686018427387904 < a + b then 4611686018427387904 else a + b) (w : World) :
    Calls Try.prog 50 #[.int .i64 a, .int .i64 b] w fun e w' => e = .returned (.int .i64 r) ∧ w = w' := by
  have ⟨a0, a1⟩ := ha
  have ⟨b0, b1⟩ := hb
  clear ha hb
  have Hr := Lib.hid hr; clear hr
  have fin : ∀ x : Int, x = r → Ending.returned (.int .i64 x) = .returned (.int .i64 r) := fun x h => by rw [h]
  by_cases c1 : a < 0
  · go_enter Try.func50, Try.ntmps50
    go_wp2
    go_ret
    exact ⟨fin _ (by rw [Hr.out, if_pos (by omega)]), rfl⟩
  · by_cases c2 : b < 0
    · go_enter Try.func50, Try.ntmps50
      go_wp2
      go_ret
      exact ⟨fin _ (by rw [Hr.out, if_pos (by omega)]), rfl⟩
    · by_cases c3 : 4611686018427387904 < a
      · go_enter Try.func50, Try.ntmps50
        go_wp2
        go_ret
        exact ⟨fin _ (by rw [Hr.out, if_pos (by omega)]), rfl⟩
      · by_cases c4 : 4611686018427387904 < b
        · go_enter Try.func50, Try.ntmps50
          go_wp2
          go_ret
          exact ⟨fin _ (by rw [Hr.out, if_pos (by omega)]), rfl⟩
        · by_cases c5 : 4611686018427387904 - b < a
          · go_enter Try.func50, Try.ntmps50
            go_wp2
            go_ret
            exact ⟨fin _ (by rw [Hr.out, if_neg (by omega), if_pos (by omega)]), rfl⟩
          · go_enter Try.func50, Try.ntmps50
            go_wp2
            go_ret
            exact ⟨fin _ (by rw [Hr.out, if_neg (by omega), if_neg (by omega)]), rfl⟩

theorem SlI.below {w w' : World} {a : Option Addr} {len : Nat} {zs : List Int} (h : SlI w a len zs) (hb : Below w.heap.size w w') : SlI w' a len zs := by
  obtain ⟨h1, h2, h3⟩ := h
  refine ⟨h1, h2, ?_⟩
  rcases h3 with h3 | ⟨b, off, rfl, hc⟩
  · exact Or.inl h3
  · exact Or.inr ⟨b, off, rfl, fun i hi => cell_below hb (hc i hi)⟩
end Go.Proofs.Ytpegkojcemggaab
