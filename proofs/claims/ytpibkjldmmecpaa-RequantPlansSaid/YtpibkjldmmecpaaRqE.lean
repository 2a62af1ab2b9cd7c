/- requant: the reference's ticks, and why. (By mkrqe.py.) -/
import Derived.Test.YtpibkjldmmecpaaRqB
import Derived.StillTailTactics
namespace Go.Proofs.Ytpibkjldmmecpaa
open Go.RowKit

set_option maxHeartbeats 4000000 in
set_option maxRecDepth 100000 in
theorem ticks_a (ver lot band rnd pri slf lay : Int) (a fa : Option Addr) (len cap fl fc : Nat) (t : List Tk) (w : World) (h : Tks w a len t) :
    Calls Try.prog 20 #[.agg #[(.int .i64 ver), (.slice a len cap), (.int .i64 lot), (.int .i64 band), (.slice fa fl fc), (.int .i64 rnd), (.int .i64 pri), (.int .i64 slf), (.int .i64 lay)]] w (Copied w t) := by
  obtain ⟨i0, hi0, hz0, hz1, hz2⟩ := info_parts info_rt
  have HT := Lib.hid h
  have hm := h.2.1
  have hmI : (len : Int) ≤ 9223372036854775807 := by omega
  have HL := Lib.hid h.1
  clear h hm
  go_enter Try.func20, Try.ntmps20
  go_wp2_with fail
  have f0 := heap_alloc_new w (Obj.cells #[(.int .i64 ver), (.slice a len cap), (.int .i64 lot), (.int .i64 band), (.slice fa fl fc), (.int .i64 rnd), (.int .i64 pri), (.int .i64 slf), (.int .i64 lay)] 26)
  have b0 : Below w.heap.size w (w.alloc (Obj.cells #[(.int .i64 ver), (.slice a len cap), (.int .i64 lot), (.int .i64 band), (.slice fa fl fc), (.int .i64 rnd), (.int .i64 pri), (.int .i64 slf), (.int .i64 lay)] 26)) := (Below.refl _ _).alloc (Nat.le_refl _) _
  generalize w.alloc (Obj.cells #[(.int .i64 ver), (.slice a len cap), (.int .i64 lot), (.int .i64 band), (.slice fa fl fc), (.int .i64 rnd), (.int .i64 pri), (.int .i64 slf), (.int .i64 lay)] 26) = w0 at f0 b0 ⊢
  have HD0 : Hid (Below w.heap.size w w0 ∧ w0.heap[w.heap.size]? = some (.cells #[(.int .i64 ver), (.slice a len cap), (.int .i64 lot), (.int .i64 band), (.slice fa fl fc), (.int .i64 rnd), (.int .i64 pri), (.int .i64 slf), (.int .i64 lay)] 26 (0, 0))) := ⟨b0, f0⟩
  clear f0 b0
  go_loopw [3, 4] (fun v i wr => ∃ k : Nat, k ≤ len ∧ k ≤ 9 ∧ i = .int .i64 (k : Int) ∧ wr.ownsRow (w.heap.size + 1) 64 2 v k (tkC (t.take k)) ∧ Hid (Below w.heap.size w wr ∧ wr.heap[w.heap.size]? = some (.cells #[(.int .i64 ver), (.slice a len cap), (.int .i64 lot), (.int .i64 band), (.slice fa fl fc), (.int .i64 rnd), (.int .i64 pri), (.int .i64 slf), (.int .i64 lay)] 26 (0, 0)))) (fun _ i _ => 9 - (intOf i).toNat)
  case atStart => exact ⟨0, by omega, by omega, rfl, World.ownsRow_nil _ _ _ _, HD0⟩
  case round =>
    clear HD0
    obtain ⟨k, hk, hk9, rfl, hown, hd⟩ := hrel
    have hk0 : (0 : Int) ≤ (k : Int) := by omega
    have q1 : wr.cell? ⟨w.heap.size, 1, none⟩ = some (.slice a len cap) := by rw [cell_of_row _ _ _ _ _ _ hd.out.2]; rfl
    have hw0 : w.heap.size < wr.heap.size := blk_lt hd.out.2
    by_cases hlt : k < len
    · have hltI : (k : Int) < (len : Int) := by omega
      by_cases h9 : k < 9
      · have h9I : (k : Int) < 9 := by omega
        obtain ⟨b, off, rfl, hb0, _⟩ := HT.out.row hlt
        obtain ⟨b', off', ha, hb, p0, p1, _, _⟩ := (HT.out.below hd.out.1).row hlt
        injection ha with ha
        injection ha with ha1 ha2
        subst ha1; subst ha2
        have HN := Lib.hid (tkC_snoc (ts := t) (k := k) (by rw [HL.out]; exact hlt))
        have hsz := hd.out.1.size
        obtain ⟨f, hf⟩ : ∃ f, f = F t k := ⟨_, rfl⟩
        obtain ⟨s, hs⟩ : ∃ s, s = S t k := ⟨_, rfl⟩
        rw [← hf] at p0 HN
        rw [← hs] at p1 HN
        clear hf hs
        go_wp2_with fail
        refine wp_region_held_drew (S := (fun W => W.heap[w.heap.size]? = some (.cells #[(.int .i64 ver), (.slice (some ⟨b, off, none⟩) len cap), (.int .i64 lot), (.int .i64 band), (.slice fa fl fc), (.int .i64 rnd), (.int .i64 pri), (.int .i64 slf), (.int .i64 lay)] 26 (0, 0)) ∧ W.heap[b]? = wr.heap[b]?)) (by kernel_rfl) (by first | (dsimp only; (first | exact ⟨hd.out.2, rfl⟩ | exact ⟨hd_drew (hd_prev hw0 hd.out.2), heap_alloc_old wr (Obj.cells #[.int .i64 f, .int .i64 s] 64) hb⟩ | exact ⟨g1, g2⟩)) | (first | exact ⟨hd.out.2, rfl⟩ | exact ⟨hd_drew (hd_prev hw0 hd.out.2), heap_alloc_old wr (Obj.cells #[.int .i64 f, .int .i64 s] 64) hb⟩ | exact ⟨g1, g2⟩)) (fun hHeld => ?_)
        refine wpAnyH_take (i := 0) (oi := ⟨some 16, _, _, _, _, _⟩) (v := ?_) rfl (by kernel_rfl) (by kernel_rfl) (by kernel_rfl) (fun _ _ _ h => h) (Or.inl ⟨by kernel_rfl, ?_⟩) (by assumption) ?_
        rotate_left
        · (intro w hSw; (try dsimp only at hSw); go_simp; try with_reducible rfl)
        (repeat (first | simp only [Act.put] | simp only [List.setIfInBounds_toArray] | simp only [List.set_cons_succ] | simp only [List.set_cons_zero]))
        refine wpAnyH_take (i := 1) (oi := ⟨some 17, _, _, _, _, _⟩) (v := ?_) rfl (by kernel_rfl) (by kernel_rfl) (by kernel_rfl) (fun _ _ _ h => h) (Or.inl ⟨by kernel_rfl, ?_⟩) (by assumption) ?_
        rotate_left
        · (intro w hSw; (try dsimp only at hSw); go_simp; try with_reducible rfl)
        (repeat (first | simp only [Act.put] | simp only [List.setIfInBounds_toArray] | simp only [List.set_cons_succ] | simp only [List.set_cons_zero]))
        refine wpAnyH_take (i := 2) (oi := ⟨some 18, _, _, _, _, _⟩) (v := ?_) rfl (by kernel_rfl) (by kernel_rfl) (by kernel_rfl) (fun _ _ _ h => h) (Or.inl ⟨by kernel_rfl, ?_⟩) (by assumption) ?_
        rotate_left
        · (intro w hSw; have q1 := cell_of_row _ _ 1 _ _ _ hSw.1; (try dsimp only at hSw); go_simp; try with_reducible rfl)
        (repeat (first | simp only [Act.put] | simp only [List.setIfInBounds_toArray] | simp only [List.set_cons_succ] | simp only [List.set_cons_zero]))
        refine wpAnyH_take (i := 3) (oi := ⟨some 19, _, _, _, _, _⟩) (v := ?_) rfl (by kernel_rfl) (by kernel_rfl) (by kernel_rfl) (fun _ _ _ h => h) (Or.inl ⟨by kernel_rfl, ?_⟩) (by assumption) ?_
        rotate_left
        · (intro w hSw; (try dsimp only at hSw); go_simp; try with_reducible rfl)
        (repeat (first | simp only [Act.put] | simp only [List.setIfInBounds_toArray] | simp only [List.set_cons_succ] | simp only [List.set_cons_zero]))
        refine wpAnyH_take (i := 4) (oi := ⟨some 20, _, _, _, _, _⟩) (v := ?_) rfl (by kernel_rfl) (by kernel_rfl) (by kernel_rfl) (fun _ _ _ h => h) (Or.inl ⟨by kernel_rfl, ?_⟩) (by assumption) ?_
        rotate_left
        · (intro w hSw; (try dsimp only at hSw); go_simp; try with_reducible rfl)
        (repeat (first | simp only [Act.put] | simp only [List.setIfInBounds_toArray] | simp only [List.set_cons_succ] | simp only [List.set_cons_zero]))
        refine wpAnyH_take (i := 5) (oi := ⟨some 21, _, _, _, _, _⟩) (v := ?_) rfl (by kernel_rfl) (by kernel_rfl) (by kernel_rfl) (fun _ _ _ h => h) (Or.inl ⟨by kernel_rfl, ?_⟩) (by assumption) ?_
        rotate_left
        · (intro w hSw; (try dsimp only at hSw); go_simp; try with_reducible rfl)
        (repeat (first | simp only [Act.put] | simp only [List.setIfInBounds_toArray] | simp only [List.set_cons_succ] | simp only [List.set_cons_zero]))
        refine wpAnyH_take (i := 6) (oi := ⟨some 22, _, _, _, _, _⟩) (v := ?_) rfl (by kernel_rfl) (by kernel_rfl) (by kernel_rfl) (fun _ _ _ h => h) (Or.inl ⟨by kernel_rfl, ?_⟩) (by assumption) ?_
        rotate_left
        · (intro w hSw; have p2 := (World.cell?_of_block (a := ⟨b, off + k * 2, none⟩) hSw.2).trans p0; (try dsimp only at hSw); go_simp; try with_reducible rfl)
        (repeat (first | simp only [Act.put] | simp only [List.setIfInBounds_toArray] | simp only [List.set_cons_succ] | simp only [List.set_cons_zero]))
        refine wpAnyH_take (i := 7) (oi := ⟨some 23, _, _, _, _, _⟩) (v := ?_) rfl (by kernel_rfl) (by kernel_rfl) (by kernel_rfl) (fun _ _ _ h => h) (Or.inl ⟨by kernel_rfl, ?_⟩) (by assumption) ?_
        rotate_left
        · (intro w hSw; (try dsimp only at hSw); go_simp; try with_reducible rfl)
        (repeat (first | simp only [Act.put] | simp only [List.setIfInBounds_toArray] | simp only [List.set_cons_succ] | simp only [List.set_cons_zero]))
        refine wpAnyH_take (i := 8) (oi := ⟨some 24, _, _, _, _, _⟩) (v := ?_) rfl (by kernel_rfl) (by kernel_rfl) (by kernel_rfl) (fun _ _ _ h => h) (Or.inl ⟨by kernel_rfl, ?_⟩) (by assumption) ?_
        rotate_left
        · (intro w hSw; have q1 := cell_of_row _ _ 1 _ _ _ hSw.1; (try dsimp only at hSw); go_simp; try with_reducible rfl)
        (repeat (first | simp only [Act.put] | simp only [List.setIfInBounds_toArray] | simp only [List.set_cons_succ] | simp only [List.set_cons_zero]))
        refine wpAnyH_take (i := 9) (oi := ⟨some 25, _, _, _, _, _⟩) (v := ?_) rfl (by kernel_rfl) (by kernel_rfl) (by kernel_rfl) (fun _ _ _ h => h) (Or.inl ⟨by kernel_rfl, ?_⟩) (by assumption) ?_
        rotate_left
        · (intro w hSw; (try dsimp only at hSw); go_simp; try with_reducible rfl)
        (repeat (first | simp only [Act.put] | simp only [List.setIfInBounds_toArray] | simp only [List.set_cons_succ] | simp only [List.set_cons_zero]))
        refine wpAnyH_take (i := 10) (oi := ⟨some 26, _, _, _, _, _⟩) (v := ?_) rfl (by kernel_rfl) (by kernel_rfl) (by kernel_rfl) (fun _ _ _ h => h) (Or.inl ⟨by kernel_rfl, ?_⟩) (by assumption) ?_
        rotate_left
        · (intro w hSw; (try dsimp only at hSw); go_simp; try with_reducible rfl)
        (repeat (first | simp only [Act.put] | simp only [List.setIfInBounds_toArray] | simp only [List.set_cons_succ] | simp only [List.set_cons_zero]))
        refine wpAnyH_take (i := 11) (oi := ⟨some 27, _, _, _, _, _⟩) (v := ?_) rfl (by kernel_rfl) (by kernel_rfl) (by kernel_rfl) (fun _ _ _ h => h) (Or.inl ⟨by kernel_rfl, ?_⟩) (by assumption) ?_
        rotate_left
        · (intro w hSw; (try dsimp only at hSw); go_simp; try with_reducible rfl)
        (repeat (first | simp only [Act.put] | simp only [List.setIfInBounds_toArray] | simp only [List.set_cons_succ] | simp only [List.set_cons_zero]))
        refine wpAnyH_take (i := 12) (oi := ⟨some 28, _, _, _, _, _⟩) (v := ?_) rfl (by kernel_rfl) (by kernel_rfl) (by kernel_rfl) (fun _ _ _ h => h) (Or.inl ⟨by kernel_rfl, ?_⟩) (by assumption) ?_
        rotate_left
        · (intro w hSw; have p2 := (World.cell?_of_block (a := ⟨b, off + k * 2 + 1, none⟩) hSw.2).trans p1; (try dsimp only at hSw); go_simp; try with_reducible rfl)
        (repeat (first | simp only [Act.put] | simp only [List.setIfInBounds_toArray] | simp only [List.set_cons_succ] | simp only [List.set_cons_zero]))
        refine wpAnyH_take (i := 13) (oi := ⟨some 29, _, _, _, _, _⟩) (v := ?_) rfl (by kernel_rfl) (by kernel_rfl) (by kernel_rfl) (fun _ _ _ h => h) (Or.inl ⟨by kernel_rfl, ?_⟩) (by assumption) ?_
        rotate_left
        · (intro w hSw; (try dsimp only at hSw); go_simp; try with_reducible rfl)
        (repeat (first | simp only [Act.put] | simp only [List.setIfInBounds_toArray] | simp only [List.set_cons_succ] | simp only [List.set_cons_zero]))
        refine wpAnyH_ready (rs := [14]) (by kernel_rfl) (by simp) ?_
        refine AllReadyH.cons (o := ⟨some 30, _, _, _, _, _⟩) rfl (fun K hK => ?_) AllReadyH.nil
        go_simp
        refine hK.out _ _ (by first | (dsimp only; (first | exact ⟨hd.out.2, rfl⟩ | exact ⟨hd_drew (hd_prev hw0 hd.out.2), heap_alloc_old wr (Obj.cells #[.int .i64 f, .int .i64 s] 64) hb⟩ | exact ⟨g1, g2⟩)) | (first | exact ⟨hd.out.2, rfl⟩ | exact ⟨hd_drew (hd_prev hw0 hd.out.2), heap_alloc_old wr (Obj.cells #[.int .i64 f, .int .i64 s] 64) hb⟩ | exact ⟨g1, g2⟩) | assumption) (fun hHeld => ?_)
        clear hK K
        (repeat (first | simp only [Act.put] | simp only [List.setIfInBounds_toArray] | simp only [List.set_cons_succ] | simp only [List.set_cons_zero]))
        refine wpAnyH_ready (rs := [15]) (by kernel_rfl) (by simp) ?_
        refine AllReadyH.cons (o := ⟨some 31, _, _, _, _, _⟩) rfl (fun K hK => ?_) AllReadyH.nil
        rw [if_pos (by kernel_rfl)]
        refine wp_append_own _ _ _ 52 rfl (w.heap.size + 1) 64 i0 (.agg #[.int .i64 0, .int .i64 0]) 2 16 Try.underlying52 hi0 hz0 hz1 hz2 rfl (by decide) _ _ _ rfl (hown.alloc _).drew ⟨wr.heap.size, 0, none⟩ 1 1 [.int .i64 f, .int .i64 s] rfl rfl ?c1 ?c2 ?c3 ?c4 ?c5 ?_
        case c1 => exact two_news wr f s
        case c2 => exact two_one f s
        case c3 => unfold maxLen; omega
        case c4 => omega
        case c5 => show w.heap.size + 1 ≤ (wr.alloc _).heap.size; simp; omega
        intro v1 w1 hown1 hg1 _
        have g1 : w1.heap[w.heap.size]? = some (.cells #[(.int .i64 ver), (.slice (some ⟨b, off, none⟩) len cap), (.int .i64 lot), (.int .i64 band), (.slice fa fl fc), (.int .i64 rnd), (.int .i64 pri), (.int .i64 slf), (.int .i64 lay)] 26 (0, 0)) := (hg1.block _ (by show _ < (wr.alloc _).heap.size; simp; omega) (fun e => by have := (hown.lt _ e.symm).1; omega)).trans (hd_drew (hd_prev hw0 hd.out.2))
        have g2 : w1.heap[b]? = wr.heap[b]? := (hg1.block _ (by show _ < (wr.alloc _).heap.size; simp; omega) (fun e => by have := (hown.lt _ e.symm).1; omega)).trans (heap_alloc_old wr (Obj.cells #[.int .i64 f, .int .i64 s] 64) hb)
        have hB1 : Hid (Below w.heap.size w w1 ∧ w1.heap[w.heap.size]? = some (.cells #[(.int .i64 ver), (.slice (some ⟨b, off, none⟩) len cap), (.int .i64 lot), (.int .i64 band), (.slice fa fl fc), (.int .i64 rnd), (.int .i64 pri), (.int .i64 slf), (.int .i64 lay)] 26 (0, 0))) := ⟨Below.grown ((hd.out.1.alloc hsz (Obj.cells #[.int .i64 f, .int .i64 s] 64)).drew) hg1 (by show _ ≤ (wr.alloc _).heap.size; simp; omega) (fun k hk => by have := (hown.lt k hk).1; omega), g1⟩
        rw [← HN.out] at hown1
        refine hK.out _ _ (by first | exact ⟨g1, g2⟩ | assumption) (fun hHeld => ?_)
        clear hK K
        (repeat (first | simp only [Act.put] | simp only [List.setIfInBounds_toArray] | simp only [List.set_cons_succ] | simp only [List.set_cons_zero]))
        refine wpAnyH_take (i := 16) (oi := ⟨some 3, _, _, _, _, _⟩) (v := ?_) rfl (by kernel_rfl) (by kernel_rfl) (by kernel_rfl) (fun _ _ _ h => h) (Or.inl ⟨by kernel_rfl, ?_⟩) (by assumption) ?_
        rotate_left
        · (intro w hSw; (try dsimp only at hSw); go_simp; try with_reducible rfl)
        (repeat (first | simp only [Act.put] | simp only [List.setIfInBounds_toArray] | simp only [List.set_cons_succ] | simp only [List.set_cons_zero]))
        refine wpAnyH_done (by kernel_rfl) ?_ _
        clear hown hd p0 p1 q1 hsz hw0 g1 g2
        go_wp2_with fail
        exact ⟨⟨k + 1, by omega, by omega, by go_num, hown1, hB1.out⟩, by simp [intOf]; omega⟩
      · obtain rfl : k = 9 := by omega
        obtain ⟨A, c, rfl, hc, ht⟩ := own_tks hown (by omega) (fun x hx => (HT.out.below hd.out.1).2.2.1 x (List.mem_of_mem_take hx))
        have HF : Hid (Below w.heap.size w wr ∧ Tks wr A 9 (t.take 9) ∧ 9 ≤ 9 ∧ 9 ≤ c) := ⟨hd.out.1, ht, Nat.le_refl _, hc⟩
        clear hown ht hd hk9 h9
        go_wp2_with fail
        go_ret
        exact ⟨A, 9, c, rfl, HF.out⟩
    · obtain rfl : k = len := by omega
      obtain ⟨A, c, rfl, hc, ht⟩ := own_tks hown (by omega) (fun x hx => (HT.out.below hd.out.1).2.2.1 x (List.mem_of_mem_take hx))
      have HF : Hid (Below w.heap.size w wr ∧ Tks wr A k (t.take 9) ∧ k ≤ 9 ∧ k ≤ c) := by
        refine ⟨hd.out.1, ?_, hk9, hc⟩
        rw [List.take_of_length_le (by rw [HL.out]; exact hk9)]
        rw [List.take_of_length_le (by rw [HL.out]; exact Nat.le_refl _)] at ht
        exact ht
      clear hown ht hd
      go_wp2_with fail
      go_ret
      exact ⟨A, k, c, rfl, HF.out⟩
theorem ticks_c (r : Rul) (w : World) (h : Tks w r.tkA r.tkL r.tkZ) : Calls Try.prog 20 #[.agg (RC r)] w (Copied w r.tkZ) := ticks_a _ _ _ _ _ _ _ _ _ _ _ _ _ _ w h

set_option maxHeartbeats 4000000 in
set_option maxRecDepth 100000 in
theorem rwhy_c (x : Od) (r : Rul) (w : World) (H : Tks w r.tkA r.tkL r.tkZ) : Calls Try.prog 11 #[.agg (OC x), .agg (RC r)] w (Got w (.int .i64 (whyN r.tkZ r.lot x))) := by
  have mixed : Try.prog.follows .mixedOrders = true := by kernel_rfl
  have HT := Lib.hid (fun W (B : Below w.heap.size w W) => ticks_c r W (H.below B))
  have HL := Lib.hid (rLot_c r.lot x.qty)
  unfold whyN
  obtain ⟨z, hz⟩ : ∃ z, z = lotN r.lot x.qty := ⟨_, rfl⟩
  rw [← hz] at HL ⊢
  obtain ⟨f, hf⟩ : ∃ f, f = onN r.tkZ x.price := ⟨_, rfl⟩
  obtain ⟨v, hv⟩ : ∃ v, v = if f = true then z else 40 := ⟨_, rfl⟩
  rw [← hf, ← hv]
  have HV := Lib.hid hv
  have HFF := Lib.hid hf
  clear hz H hv hf
  go_enter Try.func11, Try.ntmps11
  go_wp2_with fail
  have TB := two_boxes w (Obj.cells (OC x) 42) (Obj.cells (RC r) 26)
  generalize (w.alloc (Obj.cells (OC x) 42)).alloc (Obj.cells (RC r) 26) = w1 at TB ⊢
  obtain ⟨g1, g2, b1, z1⟩ := TB
  have B1 : Hid (Below w.heap.size w w1.drew) := b1.drew
  clear b1 z1
  refine wp_region_held_drew (S := (fun W => W.heap[w.heap.size]? = some (.cells (OC x) 42 (0, 0)) ∧ W.heap[w.heap.size + 1]? = some (.cells (RC r) 26 (0, 0)))) (by kernel_rfl) (by first | (dsimp only; (exact ⟨g1, g2⟩)) | (exact ⟨g1, g2⟩)) (fun hHeld => ?_)
  refine wpAnyH_take (i := 0) (oi := ⟨some 5, _, _, _, _, _⟩) (v := ?_) rfl (by kernel_rfl) (by kernel_rfl) (by kernel_rfl) (fun _ _ _ h => h) (Or.inl ⟨by kernel_rfl, ?_⟩) (by assumption) ?_
  rotate_left
  · (intro w hSw; (obtain ⟨r0, r1, r2, r3, r4, r5, r6, r7, r8⟩ := rul_cells hSw.2); (try dsimp only at hSw); go_simp; try with_reducible rfl)
  (repeat (first | simp only [Act.put] | simp only [List.setIfInBounds_toArray] | simp only [List.set_cons_succ] | simp only [List.set_cons_zero]))
  refine wpAnyH_take (i := 2) (oi := ⟨some 7, _, _, _, _, _⟩) (v := ?_) rfl (by kernel_rfl) (by kernel_rfl) (by kernel_rfl) (fun _ _ _ h => h) (Or.inl ⟨by kernel_rfl, ?_⟩) (by assumption) ?_
  rotate_left
  · (intro w hSw; (try dsimp only at hSw); go_simp; try with_reducible rfl)
  (repeat (first | simp only [Act.put] | simp only [List.setIfInBounds_toArray] | simp only [List.set_cons_succ] | simp only [List.set_cons_zero]))
  refine wpAnyH_take (i := 3) (oi := ⟨some 8, _, _, _, _, _⟩) (v := ?_) rfl (by kernel_rfl) (by kernel_rfl) (by kernel_rfl) (fun _ _ _ h => h) (Or.inl ⟨by kernel_rfl, ?_⟩) (by assumption) ?_
  rotate_left
  · (intro w hSw; (obtain ⟨x0, x1, x2, x3, x4, x5⟩ := od_cells hSw.1); (try dsimp only at hSw); go_simp; try with_reducible rfl)
  (repeat (first | simp only [Act.put] | simp only [List.setIfInBounds_toArray] | simp only [List.set_cons_succ] | simp only [List.set_cons_zero]))
  refine wpAnyH_ready (rs := [1]) (by kernel_rfl) (by simp) ?_
  refine AllReadyH.cons (o := ⟨some 6, _, _, _, _, _⟩) rfl (fun K hK => ?_) AllReadyH.nil
  go_simp
  ((with_reducible refine (HT.out _ B1.out).mono ?_); rintro e y1 ⟨A, n, c, rfl, HF⟩; replace g1 := bel_heap (w := w1.drew) g1 HF.out.1; replace g2 := bel_heap (w := w1.drew) g2 HF.out.1; have B2 : Hid (Below w.heap.size w y1) := B1.out.trans (HF.out.1.mono B1.out.size); have HO := Lib.hid (rOn_c x.price A n c (r.tkZ.take 9) y1 HF.out.2.1); rw [on_take, ← HFF.out] at HO; clear HF B1 HT)
  (try go_wp2_with fail)
  refine hK.out _ _ (by first | (dsimp only; (exact ⟨g1, g2⟩)) | (exact ⟨g1, g2⟩) | assumption) (fun hHeld => ?_)
  clear hK K
  (repeat (first | simp only [Act.put] | simp only [List.setIfInBounds_toArray] | simp only [List.set_cons_succ] | simp only [List.set_cons_zero]))
  refine wpAnyH_ready (rs := [4]) (by kernel_rfl) (by simp) ?_
  refine AllReadyH.cons (o := ⟨some 9, _, _, _, _, _⟩) rfl (fun K hK => ?_) AllReadyH.nil
  go_simp
  ((with_reducible refine HO.out.mono ?_); rintro e y2 ⟨rfl, b3⟩; replace g1 := bel_heap g1 b3; replace g2 := bel_heap g2 b3; have B3 : Hid (Below w.heap.size w y2) := B2.out.trans (b3.mono B2.out.size); clear b3 HO B2)
  (try go_wp2_with fail)
  refine hK.out _ _ (by first | (dsimp only; (exact ⟨g1, g2⟩)) | (exact ⟨g1, g2⟩) | assumption) (fun hHeld => ?_)
  clear hK K
  (repeat (first | simp only [Act.put] | simp only [List.setIfInBounds_toArray] | simp only [List.set_cons_succ] | simp only [List.set_cons_zero]))
  refine wpAnyH_take (i := 5) (oi := ⟨some 10, _, _, _, _, _⟩) (v := ?_) rfl (by kernel_rfl) (by kernel_rfl) (by kernel_rfl) (fun _ _ _ h => h) (Or.inl ⟨by kernel_rfl, ?_⟩) (by assumption) ?_
  rotate_left
  · (intro w hSw; (try dsimp only at hSw); go_simp; try with_reducible rfl)
  (repeat (first | simp only [Act.put] | simp only [List.setIfInBounds_toArray] | simp only [List.set_cons_succ] | simp only [List.set_cons_zero]))
  refine wpAnyH_done (by kernel_rfl) ?_ _
  obtain ⟨_, _, _, _, x4, _⟩ := od_cells g1
  obtain ⟨_, _, r2, _⟩ := rul_cells g2
  clear g1 g2
  cases f with
  | false =>
    go_wp2_with fail
    go_ret
    exact ⟨by rw [HV.out]; rfl, B3.out⟩
  | true =>
    go_wp2_with ((with_reducible refine (HL.out _).mono ?_); rintro e w' ⟨rfl, rfl⟩)
    go_ret
    exact ⟨by rw [HV.out]; rfl, B3.out⟩
end Go.Proofs.Ytpibkjldmmecpaa
