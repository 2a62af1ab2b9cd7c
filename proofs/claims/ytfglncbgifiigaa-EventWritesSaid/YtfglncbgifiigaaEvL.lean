/- The law's example of events. -/
import Derived.Test.YtfglncbgifiigaaEvT
import Derived.Test.YtfglncbgifiigaaEvQ
namespace Go.Proofs.Ytfglncbgifiigaa
open Go.RowKit Go.Sort Go.Lib
set_option linter.unusedVariables false

def x21 : Ev := ⟨1, 0, 0, 0, 0, 0, 0, 0, 0, 5, 0, 0⟩
theorem x21_ok (w : World) : ∀ x ∈ [x21], Ev.ok w x := by
  intro x hx
  rw [List.mem_singleton.1 hx]
  refine ⟨by decide, by decide, by decide, by decide, by decide, by decide, by decide, by decide, by decide, by decide, by decide, by decide⟩
theorem x21_row {w : World} {b : Nat} {t : TypeId} (h : w.heap[b]? = some (.cells #[.int .i64 1, .int .i64 0, .int .u64 0, .int .u64 0, .int .i64 0, .int .i64 0, .int .i64 0, .int .i64 0, .int .i64 0, .int .i64 5, .int .i64 0, .int .u64 0] t (0, 0))) : Evs w (some ⟨b, 0, none⟩) 1 [x21] := by
  refine ⟨rfl, by omega, x21_ok w, .inr ⟨b, 0, rfl, blk_lt h, fun i hi => ?_⟩⟩
  obtain rfl : i = 0 := by omega
  show x21.at w b _
  unfold Ev.at
  simp only [cell_of_row _ _ _ _ _ _ h]
  exact ⟨rfl, rfl, rfl, rfl, rfl, rfl, rfl, rfl, rfl, rfl, rfl, rfl⟩
theorem nil_evs (w : World) : Evs w none 0 [] := ⟨rfl, by omega, by simp, .inl rfl⟩
theorem bytesE_nil : bytesE [] = ([0], 0) := by
  unfold bytesE evsB
  rw [if_neg (by simp), if_pos (by rfl)]
  show (Co.natB 0 ++ [], (0 : Int)) = _
  rw [Co.natB_zero]; rfl
theorem bytesE_x21 : bytesE [x21] = (evsB [x21], 0) := by
  unfold bytesE
  rw [if_neg (by simp), if_pos (by rfl)]
theorem rd_x21 (w : World) : rdAllE (evsB [x21]) false = (true, [x21], [], false) := by
  have := rdAll_back w [x21] (x21_ok w) (by simp) (by rfl) []
  rwa [List.append_nil] at this
set_option maxHeartbeats 8000000 in
set_option maxRecDepth 100000 in
theorem lives21_c (w : World) : Calls Try.prog 6 #[] w fun e w' => e = .returned (.bool true) ∧ Below w.heap.size w w' := by
  have h1 := ebytes_c none 0 0 [] w (nil_evs w) (by omega)
  rw [bytesE_nil] at h1
  have H1 := Lib.hid h1
  clear h1
  go_enter Try.func6, Try.ntmps6
  go_wp2_with fail
  refine H1.out.mono ?_
  rintro e w1 ⟨A1, c1, rfl, g1⟩
  clear H1
  dsimp only at g1 ⊢
  have h2 := ebytes_c (some ⟨w1.heap.size, 0, none⟩) 1 1 [x21] (w1.alloc (.cells #[.int .i64 1, .int .i64 0, .int .u64 0, .int .u64 0, .int .i64 0, .int .i64 0, .int .i64 0, .int .i64 0, .int .i64 0, .int .i64 5, .int .i64 0, .int .u64 0] 51)) (x21_row (heap_alloc_new w1 _)) (by omega)
  rw [bytesE_x21] at h2
  have HLb := Lib.hid (evsB_pos [x21])
  have HRd := Lib.hid (rd_x21 w)
  obtain ⟨bs, hbs⟩ : ∃ bs, evsB [x21] = bs := ⟨_, rfl⟩
  rw [hbs] at h2 HLb HRd
  have H2 := Lib.hid h2
  clear h2 hbs
  go_wp2_with fail
  refine H2.out.mono ?_
  rintro e w2 ⟨A2, c2, rfl, g2⟩
  clear H2
  dsimp only at g2 ⊢
  have B2 : Hid (Below w.heap.size w w2) := Lib.hid (g1.out.2.1.trans ((((Below.refl _ _).alloc (Nat.le_refl _) _).trans (g2.out.2.1.mono (by simp))).mono g1.out.2.1.size))
  have hs1 : Hid (SlB w2 A1 1 [0]) := Lib.hid (g1.out.1.fr0 (S := fun _ => False) (Fr.of_below (((Below.refl _ _).alloc (Nat.le_refl _) _).trans (g2.out.2.1.mono (by simp)))) (fun _ _ _ h => h))
  have HO := Lib.hid (Co.Open_c A2 bs.length c2 bs w2 g2.out.1)
  clear g1 g2
  go_wp2_with fail
  refine HO.out.mono ?_
  rintro e w3 ⟨rfl, hw3⟩
  clear HO
  have RB3 : Hid (Co.RB w3 w2.heap.size bs false) := Lib.hid (by rw [← hw3]; exact heap_alloc_new w2 _)
  have B3 : Hid (Below w2.heap.size w2 w3) := Lib.hid (by rw [← hw3]; exact (Below.refl _ _).alloc (Nat.le_refl _) _)
  have h4 := eread_c w2.heap.size bs false w3 RB3.out
  rw [HRd.out] at h4
  have H4 := Lib.hid h4
  clear h4 hw3
  go_wp2_with fail
  refine H4.out.mono ?_
  rintro e w4 ⟨A4, c4, rfl, g4⟩
  clear H4
  dsimp only at g4 ⊢
  have B4 : Hid (Below w2.heap.size w2 w4) := Lib.hid (B3.out.trans ((Fr.tch g4.out.2.2.1).below (fun k hk => by omega) B3.out.size))
  have Bf : Hid (Below w.heap.size w w4) := Lib.hid (B2.out.trans (B4.out.mono B2.out.size))
  have hcv := conv_str (c := c1) (hs1.out.fr0 (S := fun _ => False) (Fr.of_below B4.out) (fun _ _ _ h => h))
  have HTr : Hid (∀ W, Calls Try.prog 18 #[.agg #[.int .i64 1, .int .i64 0, .int .u64 0, .int .u64 0, .int .i64 0, .int .i64 0, .int .i64 0, .int .i64 0, .int .i64 0, .int .i64 5, .int .i64 0, .int .u64 0]] W fun e w' => e = .returned (.bool true) ∧ Below W.heap.size W w') := Lib.hid (fun W => trades_c x21 W)
  have HCt : Hid (∀ W, Below w4.heap.size w4 W → Calls Try.prog 20 #[.slice A4 1 c4, .int .i64 1] W fun e w' => e = .returned (.int .i64 1) ∧ Below W.heap.size W w') := Lib.hid (fun W hW => count_c A4 1 c4 1 [x21] W (g4.out.1.below hW) (by omega))
  have hq : (binOp .eql 51 (.agg #[.int .i64 1, .int .i64 0, .int .u64 0, .int .u64 0, .int .i64 0, .int .i64 0, .int .i64 0, .int .i64 0, .int .i64 0, .int .i64 5, .int .i64 0, .int .u64 0]) (.agg #[.int .i64 1, .int .i64 0, .int .u64 0, .int .u64 0, .int .i64 0, .int .i64 0, .int .i64 0, .int .i64 0, .int .i64 0, .int .i64 5, .int .i64 0, .int .u64 0])).run Try.prog w4 = .ok (.bool true) w4 := eqlE x21 x21 w4
  obtain ⟨b, off, hA4, _, hx, _⟩ := g4.out.1.row (i := 0) (by simp)
  have hx' : x21.at w4 b (off + 0 * 12) := hx
  unfold Ev.at at hx'
  simp only [x21, Nat.zero_mul, Nat.add_zero] at hx'
  subst hA4
  obtain ⟨p0, p1, p2, p3, p4, p5, p6, p7, p8, p9, p10, p11⟩ := hx'
  clear g4 B2 B3 B4 RB3 hs1 HRd hx
  go_wp2_with (first | ((with_reducible refine (HTr.out _).mono ?_); rintro e w5 ⟨rfl, b5⟩; have B5 := Lib.hid b5; clear b5) | ((with_reducible refine (HCt.out _ B5.out).mono ?_); rintro e w6 ⟨rfl, b6⟩))
  go_ret
  exact ⟨rfl, Bf.out.trans ((B5.out.trans (b6.mono B5.out.size)).mono Bf.out.size)⟩
end Go.Proofs.Ytfglncbgifiigaa
