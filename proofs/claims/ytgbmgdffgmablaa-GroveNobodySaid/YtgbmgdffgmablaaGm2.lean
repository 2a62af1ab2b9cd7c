/- GvH GvI GvJ GvK GvL GvM GwP GwK GwD GwA GwB GwC GwE GwF GwG GwH GwI GwJ, in one text. (By mkgm.py.) -/
import Derived.Test.YtgbmgdffgmablaaGm1
import Derived.RegionIn
import Derived.Maps.OwnSet
import Derived.Maps.Views
import Derived.Test.YtgbmgdffgmablaaShelfD
import Derived.Deep.WholeRow

/- grove: what a book tells at once that is nil, or that no call made. -/
namespace Go.Proofs.Ytgbmgdffgmablaa
open Go.RowKit Go.Shelf Go.Sort Go.Maps Go.Lib
set_option linter.unusedVariables false

/-- No book, or one that no call made. -/
abbrev Gn (w : World) (b : Option Addr) : Prop := Gk w b none (.map []) ⟨0, 0, .nil⟩ ⟨0, 0, .nil⟩
theorem Gn.below {w w' : World} {b : Option Addr} (h : Gn w b) (hf : Below w.heap.size w w') : Gn w' b := by
  refine ⟨?_, fun _ _ h => (by cases h), fun _ _ h => (by cases h), fun h => (by cases h), fun h => (by cases h)⟩
  rcases h.shape with ⟨h1, _⟩ | ⟨p, h1, h2⟩
  · exact .inl ⟨h1, rfl⟩
  · exact .inr ⟨p, h1, (hf.block _ (blk_lt h2)).trans h2⟩
theorem gn_none (w : World) : Gn w none := ⟨.inl ⟨rfl, rfl⟩, fun _ _ h => (by cases h), fun _ _ h => (by cases h), fun h => (by cases h), fun h => (by cases h)⟩
theorem gn_bare {w : World} {g : Nat} (h : Cl 29 w g #[.map none, .map none]) : Gn w (some ⟨g, 0, none⟩) := ⟨.inr ⟨g, rfl, h⟩, fun _ _ h => (by cases h), fun _ _ h => (by cases h), fun h => (by cases h), fun h => (by cases h)⟩
set_option maxHeartbeats 4000000 in
set_option maxRecDepth 100000 in
theorem gAdd_no (b : Option Addr) (o : Od) (w : World) (H : Gn w b) :
    Calls Try.prog 10 #[.pointer b, .agg #[.int .u64 o.id, .int .i64 o.acc, .int .i64 o.side, .int .i64 o.price, .int .i64 o.qty, .int .u64 o.seq]] w fun e w' => e = .returned (.int .i64 1) ∧ Hid (Below w.heap.size w w') := by
  have hb : Below w.heap.size w (w.alloc (.cells (OC o) 24)) := (Below.refl _ _).alloc (Nat.le_refl _) _
  have HM := Lib.hid (gMade_c b none _ _ _ (w.alloc (.cells (OC o) 24)) (H.below hb))
  have HB := Lib.hid hb
  clear H hb
  go_enter Try.func10, Try.ntmps10
  go_wp2_with ((with_reducible refine HM.out.mono ?_); rintro e w1 ⟨rfl, rfl⟩; clear HM)
  go_ret
  exact ⟨rfl, HB⟩
set_option maxHeartbeats 4000000 in
set_option maxRecDepth 100000 in
theorem gCut_no (b : Option Addr) (id qty : Int) (w : World) (H : Gn w b) :
    Calls Try.prog 11 #[.pointer b, .int .u64 id, .int .i64 qty] w fun e w' => e = .returned (.int .i64 1) ∧ w = w' := by
  have HM := Lib.hid (gMade_c b none _ _ _ w H)
  clear H
  go_enter Try.func11, Try.ntmps11
  go_wp2_with ((with_reducible refine HM.out.mono ?_); rintro e w1 ⟨rfl, rfl⟩; clear HM)
  go_ret
  exact ⟨rfl, rfl⟩
set_option maxHeartbeats 4000000 in
set_option maxRecDepth 100000 in
theorem gClone_no (b : Option Addr) (w : World) (H : Gn w b) :
    Calls Try.prog 16 #[.pointer b] w fun e w' => e = .returned (.pointer none) ∧ w = w' := by
  have HM := Lib.hid (gMade_c b none _ _ _ w H)
  clear H
  go_enter Try.func16, Try.ntmps16
  go_wp2_with ((with_reducible refine HM.out.mono ?_); rintro e w1 ⟨rfl, rfl⟩; clear HM)
  go_ret
  exact ⟨rfl, rfl⟩
set_option maxHeartbeats 4000000 in
set_option maxRecDepth 100000 in
theorem gLen_no (b : Option Addr) (w : World) (H : Gn w b) :
    Calls Try.prog 15 #[.pointer b] w fun e w' => e = .returned (.int .i64 0) ∧ w = w' := by
  have HM := Lib.hid (gMade_c b none _ _ _ w H)
  clear H
  go_enter Try.func15, Try.ntmps15
  go_wp2_with ((with_reducible refine HM.out.mono ?_); rintro e w1 ⟨rfl, rfl⟩; clear HM)
  go_ret
  exact ⟨rfl, rfl⟩
set_option maxHeartbeats 4000000 in
set_option maxRecDepth 100000 in
theorem gGet_no (b : Option Addr) (id : Int) (w : World) (H : Gn w b) :
    Calls Try.prog 7 #[.pointer b, .int .u64 id] w fun e w' => e = .returned (.tuple #[optV none, .bool false]) ∧ Hid (Below w.heap.size w w') := by
  have hb : Below w.heap.size w (w.alloc (.cells (OC ⟨0, 0, 0, 0, 0, 0⟩) 24)) := (Below.refl _ _).alloc (Nat.le_refl _) _
  have HM := Lib.hid (gMade_c b none _ _ _ (w.alloc (.cells (OC ⟨0, 0, 0, 0, 0, 0⟩) 24)) (H.below hb))
  have HB := Lib.hid hb
  clear H hb
  go_enter Try.func7, Try.ntmps7
  go_wp2_with ((with_reducible refine HM.out.mono ?_); rintro e w1 ⟨rfl, rfl⟩; clear HM)
  refine bodyPost_ret (retOt rfl _ _ _ rfl ⟨0, 0, 0, 0, 0, 0⟩ _ (hd_last rfl) _ rfl) rfl ?_
  exact ⟨rfl, HB⟩
end Go.Proofs.Ytgbmgdffgmablaa

/- grove: what a book tells that is nil, or that no call made: Take, Best, Level. -/
namespace Go.Proofs.Ytgbmgdffgmablaa
open Go.RowKit Go.Shelf Go.Sort Go.Maps Go.Lib
set_option linter.unusedVariables false

set_option maxHeartbeats 4000000 in
set_option maxRecDepth 100000 in
theorem gTake_no (b : Option Addr) (id : Int) (w : World) (H : Gn w b) :
    Calls Try.prog 8 #[.pointer b, .int .u64 id] w fun e w' => e = .returned (.tuple #[optV none, .bool false]) ∧ Hid (Below w.heap.size w w') := by
  obtain ⟨W, hW⟩ : ∃ W, (w.alloc (.cells #[.int .u64 id] 22)).alloc (.cells (OC ⟨0, 0, 0, 0, 0, 0⟩) 24) = W := ⟨_, rfl⟩
  have hb : Below w.heap.size w W := by rw [← hW]; exact ((Below.refl _ _).alloc (Nat.le_refl _) _).alloc (by simp) _
  have hz : W.heap.size = w.heap.size + 2 := by rw [← hW]; simp
  have i0 : W.cell? ⟨w.heap.size, 0, none⟩ = some (.int .u64 id) := by
    have h : Cl 22 W w.heap.size #[.int .u64 id] := by rw [← hW]; exact hd_prev (by simp) (hd_last rfl)
    exact (h.c 0).trans rfl
  have o0 : Cl 24 W (w.heap.size + 1) (OC ⟨0, 0, 0, 0, 0, 0⟩) := by rw [← hW]; exact hd_last (by simp)
  have HG := Lib.hid (gGet_no b id W (H.below hb))
  have HB := Lib.hid hb
  have HO := Lib.hid o0
  have HZ := Lib.hid hz
  clear H hb o0 hz
  go_enter Try.func8, Try.ntmps8
  go_wp2_with ((with_reducible refine HG.out.mono ?_); rintro e w1 ⟨rfl, hr⟩; dsimp only [optV]; have B1 : Hid (Below w.heap.size w (w1.alloc (.cells (OC ⟨0, 0, 0, 0, 0, 0⟩) 24))) := (HB.out.trans (hr.out.mono HB.out.size)).alloc (Nat.le_trans HB.out.size hr.out.size) _; have C1 : Cl 24 (w1.alloc (.cells (OC ⟨0, 0, 0, 0, 0, 0⟩) 24)) (w.heap.size + 1) (OC ⟨0, 0, 0, 0, 0, 0⟩) := hd_prev (Nat.lt_of_lt_of_le (blk_lt HO.out) hr.out.size) ((hr.out.block _ (blk_lt HO.out)).trans HO.out); have C0 := Lib.hid C1; obtain ⟨x0, x1, x2, x3, x4, x5⟩ := six_of C1; have f0 := C1.f (k := 0); have f1 := C1.f (k := 1); have f2 := C1.f (k := 2); have f3 := C1.f (k := 3); have f4 := C1.f (k := 4); have f5 := C1.f (k := 5); clear HG hr)
  have hf := put6_cl ⟨0, 0, 0, 0, 0, 0⟩ C0.out
  have hb := put6_below ⟨0, 0, 0, 0, 0, 0⟩ (Nat.le_succ _) B1.out
  refine bodyPost_ret (retOt rfl _ _ _ rfl ⟨0, 0, 0, 0, 0, 0⟩ _ hf _ rfl) rfl ?_
  exact ⟨rfl, Lib.hid hb⟩
theorem gn_side {w w' : World} {side : Int} {g : Sg} {g1 g2 : Sg} (h : SideIs w w' none g1 g2 side g) : g.t = .nil ∧ SgIn w' side g ∧ Below w.heap.size w w' := by
  cases h with
  | own1 h => cases h
  | own2 h => cases h
  | new _ hb hs => exact ⟨rfl, hs, hb⟩
set_option maxHeartbeats 4000000 in
set_option maxRecDepth 100000 in
theorem gBest_no (b : Option Addr) (sd : Int) (hs : (Lit.int .i64 sd).wf = true) (w : World) (H : Gn w b) :
    Calls Try.prog 9 #[.pointer b, .int .i64 sd] w fun e w' => e = .returned (.tuple #[optV none, .bool false]) ∧ Hid (Below w.heap.size w w') := by
  have hb : Below w.heap.size w (w.alloc (.cells (OC ⟨0, 0, 0, 0, 0, 0⟩) 24)) := (Below.refl _ _).alloc (Nat.le_refl _) _
  have HS := Lib.hid (gSide_c b none _ _ _ sd (w.alloc (.cells (OC ⟨0, 0, 0, 0, 0, 0⟩) 24)) hs (H.below hb))
  have HB := Lib.hid hb
  clear H hb
  go_enter Try.func9, Try.ntmps9
  go_wp2_with (first | ((with_reducible refine HS.out.mono ?_); rintro e w1 ⟨⟨tb, sb, t⟩, rfl, hg⟩; obtain ⟨h1, h2, h3⟩ := gn_side hg.out; dsimp only at h1 h2; subst h1; have HF := Lib.hid (tFirst_c tb sb .nil w1 h2.cx h2.tr); have B1 : Hid (Below w.heap.size w w1) := HB.out.trans (h3.mono HB.out.size); have C1 : Cl 24 w1 w.heap.size (OC ⟨0, 0, 0, 0, 0, 0⟩) := (h3.block _ (by rw [World.size_alloc]; exact Nat.lt_succ_self _)).trans (hd_last rfl); have C0 := Lib.hid C1; obtain ⟨x0, x1, x2, x3, x4, x5⟩ := six_of C1; have f0 := C1.f (k := 0); have f1 := C1.f (k := 1); have f2 := C1.f (k := 2); have f3 := C1.f (k := 3); have f4 := C1.f (k := 4); have f5 := C1.f (k := 5); clear HS hg h2 h3 C1) | ((with_reducible refine HF.out.mono ?_); rintro e w2 ⟨rfl, rfl⟩; dsimp only [fstV, Tr.fst]))
  have hf := put6_cl ⟨0, 0, 0, 0, 0, 0⟩ C0.out
  have hb := put6_below ⟨0, 0, 0, 0, 0, 0⟩ (Nat.le_refl _) B1.out
  refine bodyPost_ret (retOt rfl _ _ _ rfl ⟨0, 0, 0, 0, 0, 0⟩ _ hf _ rfl) rfl ?_
  exact ⟨rfl, Lib.hid hb⟩
end Go.Proofs.Ytgbmgdffgmablaa

/- grove: what a book tells that is nil, or that no call made: Level. -/
namespace Go.Proofs.Ytgbmgdffgmablaa
open Go.RowKit Go.Shelf Go.Sort Go.Maps Go.Lib
set_option linter.unusedVariables false

set_option maxHeartbeats 4000000 in
set_option maxRecDepth 100000 in
theorem told_nil (b : Option Addr) (w : World) :
    Calls Try.prog 36 #[.pointer b, .slice none 0 0, .slice none 0 0] w fun e w' => e = .returned (.slice none 0 0) ∧ w = w' := by
  go_enter Try.func36, Try.ntmps36
  go_wp2_with fail
  go_loopw [1, 11] (fun v s wr => v = .slice none 0 0 ∧ s = .int .i64 0 ∧ w = wr) (fun _ _ _ => 0)
  case atStart => exact ⟨rfl, rfl, rfl⟩
  case round =>
    obtain ⟨rfl, rfl, rfl⟩ := hrel
    go_wp2_with fail
    go_ret
    exact ⟨rfl, rfl⟩
theorem spot_nil {w : World} {tb sb : Nat} {s key : Int} {c : Cx} {t : Tr} (h : SpI w tb sb s key .nil c t) : t = .nil := by
  cases t with
  | nil => rfl
  | node a k v q l r => exact absurd h.eq (plug_ne _ _ _ _ _ _ _)
set_option maxHeartbeats 4000000 in
set_option maxRecDepth 100000 in
theorem gLevel_no (b : Option Addr) (sd pr : Int) (hs : (Lit.int .i64 sd).wf = true) (w : World) (H : Gn w b) :
    Calls Try.prog 13 #[.pointer b, .int .i64 sd, .int .i64 pr] w fun e w' => ∃ A c, e = .returned (.slice A 0 c) ∧ Hid (Below w.heap.size w w') := by
  have HS := Lib.hid (gSide_c b none _ _ _ sd w hs H)
  have HT : Hid (∀ W, Calls Try.prog 36 #[.pointer b, .slice none 0 0, .slice none 0 0] W fun e w' => e = .returned (.slice none 0 0) ∧ W = w') := Lib.hid (fun W => told_nil b W)
  clear H
  go_enter Try.func13, Try.ntmps13
  go_wp2_with (first | ((with_reducible refine HS.out.mono ?_); rintro e w1 ⟨⟨tb, sb, t⟩, rfl, hg⟩; obtain ⟨h1, h2, h3⟩ := gn_side hg.out; dsimp only at h1 h2; subst h1; have HF := Lib.hid (tGet_c tb sb sd pr .nil w1 (fun h => absurd rfl h) h2.box h2.cx h2.tr h2.srt); have B1 := Lib.hid h3; clear HS hg h2 h3) | ((with_reducible refine HF.out.mono ?_); rintro e w2 ⟨c, t, rfl, ht, n, rfl⟩; obtain rfl := spot_nil ht.out.1; dsimp only [Tr.val]) | ((with_reducible refine (HT.out _).mono ?_); rintro e w3 ⟨rfl, rfl⟩))
  go_ret
  exact ⟨_, _, rfl, Lib.hid (((Fr.of_below (S := fun _ => False) B1.out).drewN _).below (fun _ h => False.elim h) (Nat.le_refl _))⟩
end Go.Proofs.Ytgbmgdffgmablaa

/- slices.Insert of one uint64. (By mkgvk.py.) -/
namespace Go.Proofs.Ytgbmgdffgmablaa
open Go.RowKit Go.Sort Go.Lib Go.Shelf


theorem info_U : (Try.prog.info? 22).map (fun i => (i.zero, i.size, i.bytes)) = some (some (.int .u64 0), 1, 8) := by kernel_rfl
theorem size_U : (Try.prog.info? 22).map (·.size) = some 1 := by kernel_rfl
theorem sizeOf_U (w : World) : (sizeOf 22).run Try.prog w = .ok 1 w := by kernel_rfl
theorem ov_U (w : World) (g vb a b c d n m : Nat) (hne : vb ≠ g) (cs ys : Array Value) (hg : w.heap[g]? = some (.cells cs 22 (0, 0))) (hv : w.heap[vb]? = some (.cells ys 22 (0, 0))) (h0 : 0 < cs.size) :
    (callFunc 61 #[.slice (some ⟨vb, a, none⟩) n c, .slice (some ⟨g, b, none⟩) m d]).run Try.prog w = .ok (.value (.bool false)) w := by
  rw [run_callFunc_extern Try.func61 (by kernel_rfl) (by kernel_rfl) (by kernel_rfl) (e := Extern.SlicesOverlaps.overlaps #[66, 66] #[4]) (by kernel_rfl),
    Lib.run_overlaps_apart w 66 4 22 Try.underlying66 1 sizeOf_U ⟨vb, a, none⟩ ⟨g, b, none⟩ n c m d hne 22 22 ys.size cs.size (by unfold World.shape?; rw [hv]) (by unfold World.shape?; rw [hg]) (by omega) (frozen_of_row _ _ _ _ _ hv) (frozen_of_row _ _ _ _ _ hv)]
  rfl
set_option maxHeartbeats 4000000 in
set_option maxRecDepth 100000 in
theorem insS_U (w : World) (g n c i vb : Nat) (cur ys : List Value) (hg : w.heap[g]? = some (.cells cur.toArray 22 (0, 0))) (hl : cur.length = c * 1) (hc : n + 1 ≤ c) (hi : i < n) (hcm : c ≤ maxLen) (hvb : vb ≠ g) (hv : w.heap[vb]? = some (.cells ys.toArray 22 (0, 0))) (hy : ys.length = 1) (h1 : ∀ v ∈ cur.take (n * 1), v.oneCell' = true) (h2 : ∀ v ∈ ys, v.oneCell' = true) :
    Calls Try.prog 52 #[.slice (some ⟨g, 0, none⟩) n c, .int .i64 i, .slice (some ⟨vb, 0, none⟩) 1 1] w fun e w' => e = .returned (.slice (some ⟨g, 0, none⟩) (n + 1) c) ∧ Hid (InsIn w g 22 (insC cur ys n i 1) w') := by
  have mixed : Try.prog.follows .mixedOrders = true := by kernel_rfl
  have hcm' : c ≤ 9223372036854775807 := by unfold maxLen at hcm; omega
  have hov := fun W (h : W.heap[g]? = some (.cells cur.toArray 22 (0, 0))) (h' : W.heap[vb]? = some (.cells ys.toArray 22 (0, 0))) b n c m d => ov_U W g vb 0 b c d n m hvb cur.toArray ys.toArray h h' (by simp; omega)
  have hov := hov w hg hv
  have q1 : ¬ ((i : Int) = (n : Int)) := by omega
  have q2 : ¬ ((c : Int) < (n : Int) + 1) := by omega
  have q3 : (0 : Int) ≤ (i : Int) + 1 := by omega
  have q4 : ¬ (c = i + 1) := by omega
  have q5 : ¬ (c = i) := by omega
  have q6 : (i : Int) ≤ (n : Int) := by omega
  have q7 : (n : Int) + 1 ≤ (c : Int) := by omega
  have q8 : IntKind.i64.wrap ((i : Int) + 1) = (i : Int) + 1 := by rw [IntKind.wrap_i64]; omega
  have q9 : IntKind.i64.wrap ((n : Int) + 1) = (n : Int) + 1 := by rw [IntKind.wrap_i64]; omega
  have q10 : ((i : Int) + 1).toNat = i + 1 := by omega
  have q11 : ((n : Int) + 1).toNat = n + 1 := by omega
  have q12 : (i : Int) ≤ (n : Int) + 1 := by omega
  have q13 : (i : Int) + 1 ≤ (n : Int) + 1 := by omega
  have q14 : (c : Int) ≤ 9223372036854775807 := by omega
  have hik : (i + 1) * 1 = i * 1 + 1 := by omega
  have hni : (n - i) * 1 = n * 1 - i * 1 := by omega
  have hnk : (n + 1) * 1 ≤ c * 1 := by omega
  obtain ⟨X, eX⟩ : ∃ X, X = (cur.drop (i * 1)).take ((n - i) * 1) := ⟨_, rfl⟩
  have lX : X.length = (n - i) * 1 := by rw [eX, List.length_take, List.length_drop]; omega
  obtain ⟨A1, e1⟩ : ∃ A1, A1 = (cur.take ((i + 1) * 1) ++ X ++ cur.drop ((i + 1) * 1 + X.length)) := ⟨_, rfl⟩
  have l1 : A1.length = c * 1 := by rw [e1]; simp only [List.length_append, List.length_take, List.length_drop, lX]; omega
  have e2 : A1.take (i * 1) ++ ys ++ A1.drop (i * 1 + ys.length) = insC cur ys n i 1 := by rw [e1, eX]; exact insC_steps (by omega) hc hl hy
  have C1 : Hid (∀ ty dl dc sl sc, Nat.min sl dl = n - i → (Builtin.copy_ #[66, 66] ty #[.slice (some ⟨g, i + 1, none⟩) dl dc, .slice (some ⟨g, i, none⟩) sl sc]).run Try.prog w.drew = .ok (goInt ((n - i : Nat) : Int)) (w.drew.setRow g A1.toArray)) := Lib.hid (fun ty dl dc sl sc hm => by
    have := run_copyK w.drew 66 66 ty 22 1 g ((i + 1) * 1) dl dc ⟨g, i * 1, none⟩ sl sc cur.toArray 22 X Try.underlying66 size_U (hd_drew hg) (n - i) hm lX (fun j v hj => by
      rw [addr_add, cell_of_row _ _ _ _ _ _ (hd_drew hg)]
      rw [eX, List.getElem?_take] at hj
      split at hj
      · rw [List.getElem?_drop] at hj
        rw [List.getElem?_toArray]; exact hj
      · cases hj) (by rw [lX]; simp only [List.size_toArray]; omega) (fun v hv => h1 v (by rw [eX, hni, ← List.drop_take] at hv; exact List.mem_of_mem_drop hv))
    rw [e1]
    simp only [Nat.mul_one] at this ⊢
    exact this)
  have G1 : (w.drew.setRow g A1.toArray).heap[g]? = some (.cells A1.toArray 22 (0, 0)) := setRow_heap _ _ _ _ _ _ (hd_drew hg)
  have C2 : Hid (∀ ty dl dc sc, Nat.min 1 dl = 1 → (Builtin.copy_ #[66, 66] ty #[.slice (some ⟨g, i, none⟩) dl dc, .slice (some ⟨vb, 0, none⟩) 1 sc]).run Try.prog (w.drew.setRow g A1.toArray) = .ok (goInt 1) ((w.drew.setRow g A1.toArray).setRow g (insC cur ys n i 1).toArray)) := Lib.hid (fun ty dl dc sc hm => by
    have := run_copyK (w.drew.setRow g A1.toArray) 66 66 ty 22 1 g (i * 1) dl dc ⟨vb, 0, none⟩ 1 sc A1.toArray 22 ys Try.underlying66 size_U G1 1 hm (by omega) (fun j v hj => by
      rw [addr_add, Nat.zero_add, cell_of_row _ _ _ _ _ _ ((setRow_other _ _ _ _ hvb).trans (hd_drew hv)), List.getElem?_toArray]; exact hj) (by simp only [List.size_toArray]; omega) h2
    rw [← e2]
    simp only [Nat.mul_one] at this ⊢
    exact this)
  have F : Hid (InsIn w g 22 (insC cur ys n i 1) ((w.drew.setRow g A1.toArray).setRow g (insC cur ys n i 1).toArray)) := insIn_trans (insIn_trans (insIn_drew hg) (insIn_set (hd_drew hg))) (insIn_set G1)
  clear eX lX e1 l1 e2 G1 hik hni hnk
  have HX := Lib.hid (And.intro hl (And.intro hc (And.intro hi (And.intro hy (And.intro h1 h2)))))
  clear hg hv hl hc hy h1 h2 hcm
  go_enter Try.func52, Try.ntmps52
  go_wp2_with (simp only [hov])
  refine wp_region_held_drew (S := fun _ => True) (by kernel_rfl) trivial (fun hHeld => ?_)
  clear hHeld
  refine wpAnyH_take (i := 0) (oi := ⟨some 69, _, _, _, _, _⟩) (v := ?_) rfl (by kernel_rfl) (by kernel_rfl) (by kernel_rfl) (fun _ _ _ h => h) (Or.inl ⟨by kernel_rfl, ?_⟩) trivial ?_
  rotate_left
  · (intro w hSw; go_simp; try with_reducible rfl)
  (repeat (first | simp only [Act.put] | simp only [List.setIfInBounds_toArray] | simp only [List.set_cons_succ] | simp only [List.set_cons_zero]))
  refine wpAnyH_take (i := 1) (oi := ⟨some 70, _, _, _, _, _⟩) (v := ?_) rfl (by kernel_rfl) (by kernel_rfl) (by kernel_rfl) (fun _ _ _ h => h) (Or.inl ⟨by kernel_rfl, ?_⟩) trivial ?_
  rotate_left
  · (intro w hSw; go_simp; try with_reducible rfl)
  (repeat (first | simp only [Act.put] | simp only [List.setIfInBounds_toArray] | simp only [List.set_cons_succ] | simp only [List.set_cons_zero]))
  refine wpAnyH_take (i := 2) (oi := ⟨some 71, _, _, _, _, _⟩) (v := ?_) rfl (by kernel_rfl) (by kernel_rfl) (by kernel_rfl) (fun _ _ _ h => h) (Or.inl ⟨by kernel_rfl, ?_⟩) trivial ?_
  rotate_left
  · (intro w hSw; go_simp; try with_reducible rfl)
  (repeat (first | simp only [Act.put] | simp only [List.setIfInBounds_toArray] | simp only [List.set_cons_succ] | simp only [List.set_cons_zero]))
  refine wpAnyH_take (i := 3) (oi := ⟨some 72, _, _, _, _, _⟩) (v := ?_) rfl (by kernel_rfl) (by kernel_rfl) (by kernel_rfl) (fun _ _ _ h => h) (Or.inl ⟨by kernel_rfl, ?_⟩) trivial ?_
  rotate_left
  · (intro w hSw; go_simp; try with_reducible rfl)
  (repeat (first | simp only [Act.put] | simp only [List.setIfInBounds_toArray] | simp only [List.set_cons_succ] | simp only [List.set_cons_zero]))
  refine wpAnyH_take (i := 4) (oi := ⟨some 73, _, _, _, _, _⟩) (v := ?_) rfl (by kernel_rfl) (by kernel_rfl) (by kernel_rfl) (fun _ _ _ h => h) (Or.inl ⟨by kernel_rfl, ?_⟩) trivial ?_
  rotate_left
  · (intro w hSw; go_simp; try with_reducible rfl)
  (repeat (first | simp only [Act.put] | simp only [List.setIfInBounds_toArray] | simp only [List.set_cons_succ] | simp only [List.set_cons_zero]))
  refine wpAnyH_take (i := 5) (oi := ⟨some 74, _, _, _, _, _⟩) (v := ?_) rfl (by kernel_rfl) (by kernel_rfl) (by kernel_rfl) (fun _ _ _ h => h) (Or.inl ⟨by kernel_rfl, ?_⟩) trivial ?_
  rotate_left
  · (intro w hSw; go_simp; try with_reducible rfl)
  (repeat (first | simp only [Act.put] | simp only [List.setIfInBounds_toArray] | simp only [List.set_cons_succ] | simp only [List.set_cons_zero]))
  refine wpAnyH_take (i := 6) (oi := ⟨some 75, _, _, _, _, _⟩) (v := ?_) rfl (by kernel_rfl) (by kernel_rfl) (by kernel_rfl) (fun _ _ _ h => h) (Or.inl ⟨by kernel_rfl, ?_⟩) trivial ?_
  rotate_left
  · (intro w hSw; go_simp; try with_reducible rfl)
  (repeat (first | simp only [Act.put] | simp only [List.setIfInBounds_toArray] | simp only [List.set_cons_succ] | simp only [List.set_cons_zero]))
  refine wpAnyH_take (i := 7) (oi := ⟨some 76, _, _, _, _, _⟩) (v := ?_) rfl (by kernel_rfl) (by kernel_rfl) (by kernel_rfl) (fun _ _ _ h => h) (Or.inl ⟨by kernel_rfl, ?_⟩) trivial ?_
  rotate_left
  · (intro w hSw; go_simp; try with_reducible rfl)
  (repeat (first | simp only [Act.put] | simp only [List.setIfInBounds_toArray] | simp only [List.set_cons_succ] | simp only [List.set_cons_zero]))
  refine wpAnyH_ready (rs := [8]) (by kernel_rfl) (by simp) ?_
  refine AllReadyH.cons (o := ⟨some 77, _, _, _, _, _⟩) rfl (fun K hK => ?_) AllReadyH.nil
  refine step_copy_runI rfl _ _ 66 66 rfl _ _ rfl rfl (C1.out _ _ _ _ _ (by simp only [Nat.min_def]; split <;> omega)) ?_
  refine hK.out _ _ trivial (fun hHeld => ?_)
  clear hK K hHeld
  (repeat (first | simp only [Act.put] | simp only [List.setIfInBounds_toArray] | simp only [List.set_cons_succ] | simp only [List.set_cons_zero]))
  refine wpAnyH_done (by kernel_rfl) ?_ _
  clear C1
  go_wp2_with fail
  rw [C2.out _ _ _ _ (by simp only [Nat.min_def]; split <;> omega)]
  go_wp2_with fail
  go_ret
  exact ⟨rfl, F.out⟩
set_option maxHeartbeats 4000000 in
set_option maxRecDepth 100000 in
theorem insA_U (w : World) (base n : Nat) (v : Value) (xs ys : List Value) (vb : Nat) (hown : w.ownsRow base 22 1 v n xs) (hb : base ≤ w.heap.size) (hn : n ≤ 1000) (hv : w.heap[vb]? = some (.cells ys.toArray 22 (0, 0))) (hy : ys.length = 1) (h2 : ∀ v ∈ ys, v.oneCell' = true) :
    Calls Try.prog 52 #[v, .int .i64 n, .slice (some ⟨vb, 0, none⟩) 1 1] w fun e w' => ∃ v', e = .returned v' ∧ Hid (w'.ownsRow base 22 1 v' (n + 1) (xs ++ ys) ∧ w.grownBy w' v.ownBlock ∧ (v'.ownBlock = v.ownBlock ∨ v'.ownBlock = some w.heap.size)) := by
  obtain ⟨i0, hi0, hz0, hz1, hz2⟩ := info_parts info_U
  have HO := Lib.hid hown
  have hnw : Hid (∀ (j : Nat) (u : Value), ys[j]? = some u → w.cell? ((⟨vb, 0, none⟩ : Addr).add j) = some u) := Lib.hid (fun j u hj => by
    rw [addr_add, Nat.zero_add, cell_of_row _ _ _ _ _ _ hv, List.getElem?_toArray]; exact hj)
  have q1 : IntKind.i64.wrap ((n : Int) + 1) = (n : Int) + 1 := by rw [IntKind.wrap_i64]; omega
  rcases hown.2 with ⟨rfl, rfl⟩ | ⟨g, c, cur, rfl, _, _, hc, hm, _, _⟩
  · clear hown hv
    go_enter Try.func52, Try.ntmps52
    go_wp2_with (at_builtin; refine wpList_append_own_at _ rfl _ _ 66 rfl base 22 i0 (.int .u64 0) 1 8 Try.underlying66 hi0 hz0 hz1 hz2 rfl (by decide) _ _ _ rfl HO.out ⟨vb, 0, none⟩ 1 1 ys rfl (by omega) hnw.out h2 (by unfold maxLen; omega) (by omega) hb ?_)
    intro v1 w1 k1 k2 _ k3
    have HR : Hid (w1.ownsRow base 22 1 v1 (0 + 1) (xs ++ ys) ∧ w.grownBy w1 (Value.slice none 0 0).ownBlock ∧ (v1.ownBlock = (Value.slice none 0 0).ownBlock ∨ v1.ownBlock = some w.heap.size)) := ⟨k1, k2, k3⟩
    clear k1 k2 k3
    go_wp2_with fail
    go_ret
    exact ⟨_, rfl, HR.out⟩
  · have hcm : c ≤ 9223372036854775807 := by unfold maxLen at hm; omega
    have q2 : (n : Int) ≤ (c : Int) := by omega
    have q3 : (c : Int) ≤ 9223372036854775807 := by omega
    clear hown hv hm
    by_cases hcn : c = n
    · subst hcn
      go_enter Try.func52, Try.ntmps52
      go_wp2_with (at_builtin; refine wpList_append_own_at _ rfl _ _ 66 rfl base 22 i0 (.int .u64 0) 1 8 Try.underlying66 hi0 hz0 hz1 hz2 rfl (by decide) _ _ _ rfl HO.out ⟨vb, 0, none⟩ 1 1 ys rfl (by omega) hnw.out h2 (by unfold maxLen; omega) (by omega) hb ?_)
      intro v1 w1 k1 k2 _ k3
      have HR : Hid (w1.ownsRow base 22 1 v1 (c + 1) (xs ++ ys) ∧ w.grownBy w1 (Value.slice (some ⟨g, 0, none⟩) c c).ownBlock ∧ (v1.ownBlock = (Value.slice (some ⟨g, 0, none⟩) c c).ownBlock ∨ v1.ownBlock = some w.heap.size)) := ⟨k1, k2, k3⟩
      clear k1 k2 k3
      go_wp2_with fail
      go_ret
      exact ⟨_, rfl, HR.out⟩
    · go_enter Try.func52, Try.ntmps52
      go_wp2_with (at_builtin; refine wpList_append_own_at _ rfl _ _ 66 rfl base 22 i0 (.int .u64 0) 1 8 Try.underlying66 hi0 hz0 hz1 hz2 rfl (by decide) _ _ _ rfl HO.out ⟨vb, 0, none⟩ 1 1 ys rfl (by omega) hnw.out h2 (by unfold maxLen; omega) (by omega) hb ?_)
      intro v1 w1 k1 k2 _ k3
      have HR : Hid (w1.ownsRow base 22 1 v1 (n + 1) (xs ++ ys) ∧ w.grownBy w1 (Value.slice (some ⟨g, 0, none⟩) n c).ownBlock ∧ (v1.ownBlock = (Value.slice (some ⟨g, 0, none⟩) n c).ownBlock ∨ v1.ownBlock = some w.heap.size)) := ⟨k1, k2, k3⟩
      clear k1 k2 k3
      go_wp2_with fail
      go_ret
      exact ⟨_, rfl, HR.out⟩
set_option maxHeartbeats 4000000 in
set_option maxRecDepth 100000 in
theorem insG_U (w : World) (g n i vb : Nat) (xs ys : List Value) (hg : w.heap[g]? = some (.cells xs.toArray 22 (0, 0))) (hl : xs.length = n * 1) (hn : n ≤ 1000) (hi : i < n) (hv : w.heap[vb]? = some (.cells ys.toArray 22 (0, 0))) (hy : ys.length = 1) (h1 : ∀ v ∈ xs, v.oneCell' = true) (h2 : ∀ v ∈ ys, v.oneCell' = true) :
    Calls Try.prog 52 #[.slice (some ⟨g, 0, none⟩) n n, .int .i64 i, .slice (some ⟨vb, 0, none⟩) 1 1] w fun e w' => ∃ v', e = .returned v' ∧ Hid (w'.ownsRow w.heap.size 22 1 v' (n + 1) (xs.take (i * 1) ++ ys ++ xs.drop (i * 1)) ∧ Below w.heap.size w w' ∧ v'.ownBlock = some w.heap.size) := by
  have mixed : Try.prog.follows .mixedOrders = true := by kernel_rfl
  obtain ⟨i0, hi0, hz0, hz1, hz2⟩ := info_parts info_U
  have hgl := blk_lt hg
  have hvl := blk_lt hv
  have q0 : (n : Int) < (n : Int) + 1 := by omega
  have q1 : ¬ ((i : Int) = (n : Int)) := by omega
  have q3 : (0 : Int) ≤ (i : Int) + 1 := by omega
  have q5 : ¬ (n = i) := by omega
  have q6 : (i : Int) ≤ (n : Int) := by omega
  have q8 : IntKind.i64.wrap ((i : Int) + 1) = (i : Int) + 1 := by rw [IntKind.wrap_i64]; omega
  have q9 : IntKind.i64.wrap ((n : Int) + 1) = (n : Int) + 1 := by rw [IntKind.wrap_i64]; omega
  have q10 : ((i : Int) + 1).toNat = i + 1 := by omega
  have q12 : (i : Int) ≤ (n : Int) + 1 := by omega
  have q13 : (i : Int) + 1 ≤ (n : Int) + 1 := by omega
  have q14 : (n : Int) ≤ 9223372036854775807 := by omega
  have q15 : IntKind.i64.wrap ((n : Int) + 1 - (i : Int)) = ((n + 1 - i : Nat) : Int) := by rw [IntKind.wrap_i64]; omega
  have hik : (i + 1) * 1 = i * 1 + 1 := by omega
  have hxt : (xs.take (i * 1)).length = i * 1 := by rw [List.length_take]; omega
  have hold : (Builtin.firstCells i0.size i (.slice (some ⟨g, 0, none⟩) i n)).run Try.prog w.drew = .ok (xs.take (i * 1)).toArray w.drew := by
    rw [hz1]
    exact run_firstCells_some w.drew 1 i ⟨g, 0, none⟩ i n (xs.take (i * 1)) hxt (fun j v hj => by
      rw [addr_add, Nat.zero_add, cell_of_row _ _ _ _ _ _ (hd_drew hg), List.getElem?_toArray]
      rw [List.getElem?_take] at hj
      split at hj
      · exact hj
      · cases hj)
  have hin : i + (n + 1 - i) = n + 1 := by omega
  have hrz : ∀ ty, (Builtin.append_ #[66, 3] ty #[.slice (some ⟨g, 0, none⟩) i n, .int .i64 ((n + 1 - i : Nat) : Int)]).run Try.prog w = .ok (.slice (some ⟨w.heap.size, 0, none⟩) (n + 1) (grownCap w (n + 1) n 22)) (w.drew.alloc (.cells ((xs.take (i * 1)).toArray ++ Builtin.zeroCells ((.int .u64 0) : Value).cells (n + 1 - i) ++ Builtin.zeroCells ((.int .u64 0) : Value).cells (grownCap w (n + 1) n 22 - (n + 1))) 22)) := fun ty => by
    have h := Lib.run_append_grow_zeros w 66 3 ty 22 i0 _ .i64 .i64 Try.underlying66 Try.underlying3 hi0 hz0 (some ⟨g, 0, none⟩) i n (xs.take (i * 1)) hold (n + 1 - i) (by omega) (by omega) (by omega) (by omega) (by rw [hz2]; omega) (by rw [hz2, hin]; exact growslice_fits (by omega) (by omega))
    rw [hin] at h
    exact h
  obtain ⟨G, hG⟩ : ∃ G, G = grownCap w (n + 1) n 22 := ⟨_, rfl⟩
  have hGn : n + 1 ≤ G := by rw [hG]; exact grownCap_ge w _ _ _
  have hGm : G ≤ maxLen := by rw [hG]; exact grownCap_le_maxLen w (n + 1) n 22 (by unfold maxLen; omega)
  have hG63 : (G : Int) ≤ 9223372036854775807 := by unfold maxLen at hGm; omega
  rw [← hG] at hrz
  obtain ⟨R, hR⟩ : ∃ R : List Value, R.toArray = (xs.take (i * 1)).toArray ++ Builtin.zeroCells ((.int .u64 0) : Value).cells (n + 1 - i) ++ Builtin.zeroCells ((.int .u64 0) : Value).cells (G - (n + 1)) := ⟨_, Array.toArray_toList⟩
  rw [← hR] at hrz
  have lR : R.length = G * 1 := by
    have := congrArg Array.size hR
    simp only [List.size_toArray, Array.size_append, hxt] at this
    simp [Builtin.zeroCells, Value.cells] at this
    omega
  have tR : R.take (i * 1) = xs.take (i * 1) := by
    have := congrArg Array.toList hR
    rw [Array.toList_append, Array.toList_append] at this
    rw [show R = R.toArray.toList from rfl, this, List.append_assoc, List.take_append_of_le_length (by show _ ≤ (xs.take (i * 1)).length; omega)]
    exact List.take_of_length_le (by show (xs.take (i * 1)).length ≤ _; omega)
  obtain ⟨R1, e1⟩ : ∃ R1, R1 = R.take (i * 1) ++ ys ++ R.drop (i * 1 + ys.length) := ⟨_, rfl⟩
  obtain ⟨R2, e2⟩ : ∃ R2, R2 = R1.take ((i + 1) * 1) ++ xs.drop (i * 1) ++ R1.drop ((i + 1) * 1 + (xs.drop (i * 1)).length) := ⟨_, rfl⟩
  obtain ⟨l1, l2, t2⟩ := grow_steps tR lR hGn hl hy (by omega) e1 e2
  have HW : Hid (∀ W, W = (w.alloc (.cells R.toArray 22)).drew → W.heap[w.heap.size]? = some (.cells R.toArray 22 (0, 0)) ∧ W.heap[vb]? = some (.cells ys.toArray 22 (0, 0)) ∧ W.heap[g]? = some (.cells xs.toArray 22 (0, 0)) ∧ Below w.heap.size w W) := Lib.hid (fun W hW => by
    rw [hW]
    exact ⟨hd_drew (hd_last rfl), hd_drew (hd_prev hvl hv), hd_drew (hd_prev hgl hg), ((Below.refl _ _).alloc (Nat.le_refl _) _).drew⟩)
  have ldx : (xs.drop (i * 1)).length = (n - i) * 1 := by rw [List.length_drop, hl]; omega
  have C1 : Hid (∀ W, W.heap[w.heap.size]? = some (.cells R.toArray 22 (0, 0)) → W.heap[vb]? = some (.cells ys.toArray 22 (0, 0)) → ∀ ty dl dc sc, Nat.min 1 dl = 1 → (Builtin.copy_ #[66, 66] ty #[.slice (some ⟨w.heap.size, i, none⟩) dl dc, .slice (some ⟨vb, 0, none⟩) 1 sc]).run Try.prog W = .ok (goInt 1) (W.setRow w.heap.size R1.toArray)) := Lib.hid (fun W k1 k2 ty dl dc sc hm => by
    have := run_copyK W 66 66 ty 22 1 w.heap.size (i * 1) dl dc ⟨vb, 0, none⟩ 1 sc R.toArray 22 ys Try.underlying66 size_U k1 1 hm (by omega) (fun j v hj => by
      rw [addr_add, Nat.zero_add, cell_of_row _ _ _ _ _ _ k2, List.getElem?_toArray]; exact hj) (by simp only [List.size_toArray]; omega) h2
    rw [e1]
    simp only [Nat.mul_one] at this ⊢
    exact this)
  have C2 : Hid (∀ W, W.heap[w.heap.size]? = some (.cells R1.toArray 22 (0, 0)) → W.heap[g]? = some (.cells xs.toArray 22 (0, 0)) → ∀ ty dl dc sl sc, Nat.min sl dl = n - i → (Builtin.copy_ #[66, 66] ty #[.slice (some ⟨w.heap.size, i + 1, none⟩) dl dc, .slice (some ⟨g, i, none⟩) sl sc]).run Try.prog W = .ok (goInt ((n - i : Nat) : Int)) (W.setRow w.heap.size R2.toArray)) := Lib.hid (fun W k1 k2 ty dl dc sl sc hm => by
    have := run_copyK W 66 66 ty 22 1 w.heap.size ((i + 1) * 1) dl dc ⟨g, i * 1, none⟩ sl sc R1.toArray 22 (xs.drop (i * 1)) Try.underlying66 size_U k1 (n - i) hm ldx (fun j v hj => by
      rw [addr_add, cell_of_row _ _ _ _ _ _ k2, List.getElem?_toArray]
      rw [List.getElem?_drop] at hj
      exact hj) (by simp only [List.size_toArray]; omega) (fun v hv => h1 v (List.mem_of_mem_drop hv))
    rw [e2]
    simp only [Nat.mul_one] at this ⊢
    exact this)
  have HE := Lib.hid (And.intro l2 (And.intro t2 (And.intro hGn hGm)))
  have HX := Lib.hid (And.intro hgl hy)
  have HXL := Lib.hid (show (xs.take (i * 1) ++ ys ++ xs.drop (i * 1)).length = (n + 1) * 1 by simp only [List.length_append, hxt, hy, ldx]; omega)
  have q16 : ¬ (G = i) := by omega
  have q17 : ¬ (G = i + 1) := by omega
  clear e1 e2 l1 l2 t2 tR lR hR hG hold hin hg hv hl hy hz0 hz1 hz2 hi0 hGn hGm ldx hxt h1 h2 hik
  go_enter Try.func52, Try.ntmps52
  go_wp2_with (at_builtin; refine Lib.wpList_append_run _ rfl _ _ _ _ rfl _ _ rfl rfl _ _ (hrz _) ?_)
  clear hrz
  generalize hW1 : World.drew (w.alloc (.cells R.toArray 22)) = W1
  obtain ⟨k1, k2, k3, k4⟩ := HW.out W1 hW1.symm
  have K := Lib.hid (And.intro k1 (And.intro k2 (And.intro k3 k4)))
  clear hW1 HW k1 k2 k3 k4
  rw [C1.out W1 K.out.1 K.out.2.1 _ _ _ _ (by simp only [Nat.min_def]; split <;> omega)]
  go_wp2_with fail
  refine wp_region_held_drew (S := fun _ => True) (by kernel_rfl) trivial (fun hHeld => ?_)
  clear hHeld
  refine wpAnyH_take (i := 0) (oi := ⟨some 46, _, _, _, _, _⟩) (v := ?_) rfl (by kernel_rfl) (by kernel_rfl) (by kernel_rfl) (fun _ _ _ h => h) (Or.inl ⟨by kernel_rfl, ?_⟩) trivial ?_
  rotate_left
  · (intro w hSw; go_simp; try with_reducible rfl)
  (repeat (first | simp only [Act.put] | simp only [List.setIfInBounds_toArray] | simp only [List.set_cons_succ] | simp only [List.set_cons_zero]))
  refine wpAnyH_take (i := 1) (oi := ⟨some 47, _, _, _, _, _⟩) (v := ?_) rfl (by kernel_rfl) (by kernel_rfl) (by kernel_rfl) (fun _ _ _ h => h) (Or.inl ⟨by kernel_rfl, ?_⟩) trivial ?_
  rotate_left
  · (intro w hSw; go_simp; try with_reducible rfl)
  (repeat (first | simp only [Act.put] | simp only [List.setIfInBounds_toArray] | simp only [List.set_cons_succ] | simp only [List.set_cons_zero]))
  refine wpAnyH_take (i := 2) (oi := ⟨some 48, _, _, _, _, _⟩) (v := ?_) rfl (by kernel_rfl) (by kernel_rfl) (by kernel_rfl) (fun _ _ _ h => h) (Or.inl ⟨by kernel_rfl, ?_⟩) trivial ?_
  rotate_left
  · (intro w hSw; go_simp; try with_reducible rfl)
  (repeat (first | simp only [Act.put] | simp only [List.setIfInBounds_toArray] | simp only [List.set_cons_succ] | simp only [List.set_cons_zero]))
  refine wpAnyH_take (i := 3) (oi := ⟨some 49, _, _, _, _, _⟩) (v := ?_) rfl (by kernel_rfl) (by kernel_rfl) (by kernel_rfl) (fun _ _ _ h => h) (Or.inl ⟨by kernel_rfl, ?_⟩) trivial ?_
  rotate_left
  · (intro w hSw; go_simp; try with_reducible rfl)
  (repeat (first | simp only [Act.put] | simp only [List.setIfInBounds_toArray] | simp only [List.set_cons_succ] | simp only [List.set_cons_zero]))
  refine wpAnyH_take (i := 4) (oi := ⟨some 50, _, _, _, _, _⟩) (v := ?_) rfl (by kernel_rfl) (by kernel_rfl) (by kernel_rfl) (fun _ _ _ h => h) (Or.inl ⟨by kernel_rfl, ?_⟩) trivial ?_
  rotate_left
  · (intro w hSw; go_simp; try with_reducible rfl)
  (repeat (first | simp only [Act.put] | simp only [List.setIfInBounds_toArray] | simp only [List.set_cons_succ] | simp only [List.set_cons_zero]))
  refine wpAnyH_take (i := 5) (oi := ⟨some 51, _, _, _, _, _⟩) (v := ?_) rfl (by kernel_rfl) (by kernel_rfl) (by kernel_rfl) (fun _ _ _ h => h) (Or.inl ⟨by kernel_rfl, ?_⟩) trivial ?_
  rotate_left
  · (intro w hSw; go_simp; try with_reducible rfl)
  (repeat (first | simp only [Act.put] | simp only [List.setIfInBounds_toArray] | simp only [List.set_cons_succ] | simp only [List.set_cons_zero]))
  refine wpAnyH_take (i := 6) (oi := ⟨some 52, _, _, _, _, _⟩) (v := ?_) rfl (by kernel_rfl) (by kernel_rfl) (by kernel_rfl) (fun _ _ _ h => h) (Or.inl ⟨by kernel_rfl, ?_⟩) trivial ?_
  rotate_left
  · (intro w hSw; go_simp; try with_reducible rfl)
  (repeat (first | simp only [Act.put] | simp only [List.setIfInBounds_toArray] | simp only [List.set_cons_succ] | simp only [List.set_cons_zero]))
  refine wpAnyH_take (i := 7) (oi := ⟨some 53, _, _, _, _, _⟩) (v := ?_) rfl (by kernel_rfl) (by kernel_rfl) (by kernel_rfl) (fun _ _ _ h => h) (Or.inl ⟨by kernel_rfl, ?_⟩) trivial ?_
  rotate_left
  · (intro w hSw; go_simp; try with_reducible rfl)
  (repeat (first | simp only [Act.put] | simp only [List.setIfInBounds_toArray] | simp only [List.set_cons_succ] | simp only [List.set_cons_zero]))
  have G1 : (W1.setRow w.heap.size R1.toArray).drew.heap[w.heap.size]? = some (.cells R1.toArray 22 (0, 0)) := hd_drew (setRow_heap _ _ _ _ _ _ K.out.1)
  have G2 : (W1.setRow w.heap.size R1.toArray).drew.heap[g]? = some (.cells xs.toArray 22 (0, 0)) := hd_drew ((setRow_other _ _ _ _ (by have := HX.out.1; omega)).trans K.out.2.2.1)
  refine wpAnyH_ready (rs := [8]) (by kernel_rfl) (by simp) ?_
  refine AllReadyH.cons (o := ⟨some 54, _, _, _, _, _⟩) rfl (fun K hK => ?_) AllReadyH.nil
  refine step_copy_runI rfl _ _ 66 66 rfl _ _ rfl rfl (C2.out _ G1 G2 _ _ _ _ _ (by simp only [Nat.min_def]; split <;> omega)) ?_
  refine hK.out _ _ trivial (fun hHeld => ?_)
  clear hK K hHeld
  (repeat (first | simp only [Act.put] | simp only [List.setIfInBounds_toArray] | simp only [List.set_cons_succ] | simp only [List.set_cons_zero]))
  refine wpAnyH_done (by kernel_rfl) ?_ _
  have F : Hid (((W1.setRow w.heap.size R1.toArray).drew.setRow w.heap.size R2.toArray).ownsRow w.heap.size 22 1 (.slice (some ⟨w.heap.size, 0, none⟩) (n + 1) G) (n + 1) (xs.take (i * 1) ++ ys ++ xs.drop (i * 1)) ∧ Below w.heap.size w ((W1.setRow w.heap.size R1.toArray).drew.setRow w.heap.size R2.toArray)) := by
    refine ⟨⟨HXL.out, .inr ⟨w.heap.size, G, R2.toArray, rfl, Nat.le_refl _, setRow_heap _ _ _ _ _ _ G1, HE.out.2.2.1, HE.out.2.2.2, by rw [List.size_toArray]; exact HE.out.1, HE.out.2.1⟩⟩, ?_⟩
    exact below_setRow ((below_setRow K.out.2.2.2 (Nat.le_refl _) _).drew) (Nat.le_refl _) _
  clear G1 G2 C1 C2 K HE HXL HX
  go_wp2_with fail
  go_ret
  exact ⟨_, rfl, F.out.1, F.out.2, rfl⟩
theorem ins_U (w : World) (base n i : Nat) (v : Value) (xs ys : List Value) (vb : Nat) (hown : w.ownsRow base 22 1 v n xs) (hb : base ≤ w.heap.size) (hn : n ≤ 1000) (hi : i ≤ n) (hvb : v.ownBlock ≠ some vb) (hv : w.heap[vb]? = some (.cells ys.toArray 22 (0, 0))) (hy : ys.length = 1) (h1 : ∀ u ∈ xs, u.oneCell' = true) (h2 : ∀ u ∈ ys, u.oneCell' = true) :
    Calls Try.prog 52 #[v, .int .i64 i, .slice (some ⟨vb, 0, none⟩) 1 1] w fun e w' => ∃ v', e = .returned v' ∧ Hid (w'.ownsRow base 22 1 v' (n + 1) (xs.take (i * 1) ++ ys ++ xs.drop (i * 1)) ∧ w.grownBy w' v.ownBlock ∧ (v'.ownBlock = v.ownBlock ∨ v'.ownBlock = some w.heap.size)) := by
  have hl := hown.1
  by_cases hin : i = n
  · subst hin
    refine (insA_U w base i v xs ys vb hown hb hn hv hy h2).mono fun e w' ⟨v', he, h⟩ => ⟨v', he, ?_⟩
    rw [List.take_of_length_le (by omega), List.drop_eq_nil_of_le (by omega), List.append_nil]
    exact h
  rcases hown.2 with ⟨_, h0⟩ | ⟨g, c, cur, rfl, hbg, hg, hc, hm, hs, ht⟩
  · omega
  have hvg : vb ≠ g := fun e => hvb (by rw [e]; rfl)
  have hll : cur.toList.length = c * 1 := by rw [Array.length_toList]; exact hs
  by_cases hcn : n + 1 ≤ c
  · refine (insS_U w g n c i vb cur.toList ys (by rw [Array.toArray_toList]; exact hg) hll hcn (by omega) hm hvg hv hy (by rw [ht]; exact h1) h2).mono fun e w' ⟨he, h⟩ => ⟨_, he, ?_⟩
    obtain ⟨k1, k2⟩ := insC_take (xs := xs) (i := i) (by omega) hcn hll hy ht
    refine ⟨⟨?_, .inr ⟨g, c, _, rfl, hbg, h.out.2, hcn, hm, by rw [List.size_toArray]; exact k1, k2⟩⟩, h.out.1, .inl rfl⟩
    simp only [List.length_append, List.length_take, List.length_drop, hy]
    omega
  · obtain rfl : c = n := by omega
    have ex : cur = xs.toArray := by rw [← ht, List.take_of_length_le (by omega), Array.toArray_toList]
    rw [ex] at hg
    refine (insG_U w g c i vb xs ys hg hl hn (by omega) hv hy h1 h2).mono fun e w' ⟨v', he, h⟩ => ⟨v', he, own_base h.out.1 hb, ?_, .inr h.out.2.2⟩
    exact ⟨h.out.2.1.os, h.out.2.1.tape, h.out.2.1.output, h.out.2.1.size, fun j hj _ => h.out.2.1.block j hj⟩
end Go.Proofs.Ytgbmgdffgmablaa

/- grove: walk: a tree gone over by a function. -/
namespace Go.Proofs.Ytgbmgdffgmablaa
open Go.RowKit Go.Shelf Go.Sort Go.Maps Go.Lib
set_option linter.unusedVariables false

attribute [local go_sem] Oper.semAt_some

theorem room_of_none {F : Fence} (hd : F.depth = none) (k : Nat) : F.room k := fun d h => by rw [hd] at h; cases h
theorem yield_any {F : Fence} (hd : F.depth = none) {m : Nat} (m' : Nat) {P : Program} {l : Nat} {args : Array Value} {W : World} {R : Ending → World → Prop} (h : YieldAt F m P l args W R) : YieldAt F m' P l args W R := by
  obtain ⟨fn, tmps, assign, body, hy, hR⟩ := h
  exact ⟨fn, tmps, assign, body, hy, hR.1, fun c cs _ => hR.2 c cs (room_of_none hd _)⟩
set_option maxRecDepth 100000 in
set_option maxHeartbeats 4000000 in
theorem trwalk_in (ll : Nat) (S : Nat → Prop) (N : Nat) (I : Int × Value → Prop) (J Jx : List (Int × Value) → World → Prop)
    (hJd : ∀ pre W, J pre W → J pre W.drew) (hY : ∀ m pre x W, J pre W → pre.length < N → I x → YieldAt Fence.wide m Try.prog ll #[.int .i64 x.1, x.2] W fun e W' =>
      (e = .returned (.bool true) ∧ J (pre ++ [x]) W' ∧ Fr S W W') ∨ (e = .returned (.bool false) ∧ Jx (pre ++ [x]) W')) (T : Tr) :
    ∀ (n : Nat) (pre : List (Int × Value)) (W : World), TrIn W T → (∀ b ∈ T.blks, ¬ S b) → (∀ v ∈ T.vals, ∀ k, v.ownBlock = some k → ¬ S k) → (∀ x ∈ T.items, I x) → J pre W → pre.length + T.items.length ≤ N →
      CallsIn Fence.wide n Try.prog 54 #[T.ptr, .func (.yield ll) #[] #[]] W fun e W' =>
        (e = .returned (.bool true) ∧ J (pre ++ T.items) W' ∧ Fr S W W') ∨ (e = .returned (.bool false) ∧ ∃ q, q <+: T.items ∧ Jx (pre ++ q) W') := by
  have mixed : Try.prog.follows .mixedOrders = true := by kernel_rfl
  induction T with
  | nil =>
    intro n pre W ht _ _ _ hJ _
    show CallsIn Fence.wide n Try.prog 54 #[.pointer none, .func (.yield ll) #[] #[]] W _
    refine callsIn_of_wp Try.func54 rfl trivial ?_ rfl
    simp only [Try.ntmps54, List.size_toArray, List.length_cons, List.length_nil, Nat.reduceAdd, Nat.reduceSub, Array.replicate_succ, Array.replicate_zero, List.push_toArray, List.append_toArray, List.nil_append, List.cons_append]
    clear hY
    have HE : Hid (J (pre ++ Tr.nil.items) W.drew) := Lib.hid (by rw [show pre ++ Tr.nil.items = pre from List.append_nil pre]; exact hJd _ _ hJ)
    clear hJd hJ
    gi_wp2_with fail
    refine wpIn_region_any mixed ?_
    (try (change wpAnyIn _ _ _ _ _ _ _ _ _ (World.drew _)))
    refine wpAnyIn_take (i := 0) (oi := ⟨some 5, _, _, _, _, _⟩) (v := ?_) rfl rfl (by kernel_rfl) (by kernel_rfl) (by kernel_rfl) (fun _ _ _ h => h) ⟨Or.inl ⟨by kernel_rfl, ?_⟩, fun _ => rfl⟩ ?_
    rotate_left
    · (intro w; go_simp; try with_reducible rfl)
    (repeat (first | simp only [Act.put] | simp only [List.setIfInBounds_toArray] | simp only [List.set_cons_succ] | simp only [List.set_cons_zero]))
    refine wpAnyIn_take (i := 1) (oi := ⟨some 6, _, _, _, _, _⟩) (v := ?_) rfl rfl (by kernel_rfl) (by kernel_rfl) (by kernel_rfl) (fun _ _ _ h => h) ⟨Or.inl ⟨by kernel_rfl, ?_⟩, fun _ => rfl⟩ ?_
    rotate_left
    · (intro w; go_simp; try with_reducible rfl)
    (repeat (first | simp only [Act.put] | simp only [List.setIfInBounds_toArray] | simp only [List.set_cons_succ] | simp only [List.set_cons_zero]))
    refine wpAnyIn_take (i := 2) (oi := ⟨some 7, _, _, _, _, _⟩) (v := ?_) rfl rfl (by kernel_rfl) (by kernel_rfl) (by kernel_rfl) (fun _ _ _ h => h) ⟨Or.inl ⟨by kernel_rfl, ?_⟩, fun _ => rfl⟩ ?_
    rotate_left
    · (intro w; go_simp; try with_reducible rfl)
    (repeat (first | simp only [Act.put] | simp only [List.setIfInBounds_toArray] | simp only [List.set_cons_succ] | simp only [List.set_cons_zero]))
    refine wpAnyIn_take (i := 3) (oi := ⟨some 8, _, _, _, _, _⟩) (v := undef) rfl rfl (by kernel_rfl) (by kernel_rfl) (by kernel_rfl) (fun _ _ _ h => h) ⟨Or.inr ⟨by kernel_rfl, rfl⟩, fun _ => rfl⟩ ?_
    (repeat (first | simp only [Act.put] | simp only [List.setIfInBounds_toArray] | simp only [List.set_cons_succ] | simp only [List.set_cons_zero]))
    refine wpAnyIn_take (i := 4) (oi := ⟨some 9, _, _, _, _, _⟩) (v := undef) rfl rfl (by kernel_rfl) (by kernel_rfl) (by kernel_rfl) (fun _ _ _ h => h) ⟨Or.inr ⟨by kernel_rfl, rfl⟩, fun _ => rfl⟩ ?_
    (repeat (first | simp only [Act.put] | simp only [List.setIfInBounds_toArray] | simp only [List.set_cons_succ] | simp only [List.set_cons_zero]))
    refine wpAnyIn_take (i := 5) (oi := ⟨some 10, _, _, _, _, _⟩) (v := undef) rfl rfl (by kernel_rfl) (by kernel_rfl) (by kernel_rfl) (fun _ _ _ h => h) ⟨Or.inr ⟨by kernel_rfl, rfl⟩, fun _ => rfl⟩ ?_
    (repeat (first | simp only [Act.put] | simp only [List.setIfInBounds_toArray] | simp only [List.set_cons_succ] | simp only [List.set_cons_zero]))
    refine wpAnyIn_take (i := 6) (oi := ⟨some 11, _, _, _, _, _⟩) (v := undef) rfl rfl (by kernel_rfl) (by kernel_rfl) (by kernel_rfl) (fun _ _ _ h => h) ⟨Or.inr ⟨by kernel_rfl, rfl⟩, fun _ => rfl⟩ ?_
    (repeat (first | simp only [Act.put] | simp only [List.setIfInBounds_toArray] | simp only [List.set_cons_succ] | simp only [List.set_cons_zero]))
    refine wpAnyIn_take (i := 7) (oi := ⟨some 12, _, _, _, _, _⟩) (v := undef) rfl rfl (by kernel_rfl) (by kernel_rfl) (by kernel_rfl) (fun _ _ _ h => h) ⟨Or.inr ⟨by kernel_rfl, rfl⟩, fun _ => rfl⟩ ?_
    (repeat (first | simp only [Act.put] | simp only [List.setIfInBounds_toArray] | simp only [List.set_cons_succ] | simp only [List.set_cons_zero]))
    refine wpAnyIn_ready (rs := [8]) (by kernel_rfl) (by simp) ?_
    refine AllReadyIn.cons (o := ⟨some 13, _, _, _, _, _⟩) rfl (fun K hK => ?_) AllReadyIn.nil
    go_simp
    refine ⟨trivial, ?_⟩
    refine hK _ _ ?_
    clear hK K
    (repeat (first | simp only [Act.put] | simp only [List.setIfInBounds_toArray] | simp only [List.set_cons_succ] | simp only [List.set_cons_zero]))
    refine wpAnyIn_take (i := 9) (oi := ⟨some 14, _, _, _, _, _⟩) (v := undef) rfl rfl (by kernel_rfl) (by kernel_rfl) (by kernel_rfl) (fun _ _ _ h => h) ⟨Or.inr ⟨by kernel_rfl, rfl⟩, fun _ => rfl⟩ ?_
    (repeat (first | simp only [Act.put] | simp only [List.setIfInBounds_toArray] | simp only [List.set_cons_succ] | simp only [List.set_cons_zero]))
    refine wpAnyIn_take (i := 10) (oi := ⟨some 15, _, _, _, _, _⟩) (v := undef) rfl rfl (by kernel_rfl) (by kernel_rfl) (by kernel_rfl) (fun _ _ _ h => h) ⟨Or.inr ⟨by kernel_rfl, rfl⟩, fun _ => rfl⟩ ?_
    (repeat (first | simp only [Act.put] | simp only [List.setIfInBounds_toArray] | simp only [List.set_cons_succ] | simp only [List.set_cons_zero]))
    refine wpAnyIn_take (i := 11) (oi := ⟨some 16, _, _, _, _, _⟩) (v := undef) rfl rfl (by kernel_rfl) (by kernel_rfl) (by kernel_rfl) (fun _ _ _ h => h) ⟨Or.inr ⟨by kernel_rfl, rfl⟩, fun _ => rfl⟩ ?_
    (repeat (first | simp only [Act.put] | simp only [List.setIfInBounds_toArray] | simp only [List.set_cons_succ] | simp only [List.set_cons_zero]))
    refine wpAnyIn_take (i := 12) (oi := ⟨some 17, _, _, _, _, _⟩) (v := undef) rfl rfl (by kernel_rfl) (by kernel_rfl) (by kernel_rfl) (fun _ _ _ h => h) ⟨Or.inr ⟨by kernel_rfl, rfl⟩, fun _ => rfl⟩ ?_
    (repeat (first | simp only [Act.put] | simp only [List.setIfInBounds_toArray] | simp only [List.set_cons_succ] | simp only [List.set_cons_zero]))
    refine wpAnyIn_take (i := 13) (oi := ⟨some 18, _, _, _, _, _⟩) (v := undef) rfl rfl (by kernel_rfl) (by kernel_rfl) (by kernel_rfl) (fun _ _ _ h => h) ⟨Or.inr ⟨by kernel_rfl, rfl⟩, fun _ => rfl⟩ ?_
    (repeat (first | simp only [Act.put] | simp only [List.setIfInBounds_toArray] | simp only [List.set_cons_succ] | simp only [List.set_cons_zero]))
    refine wpAnyIn_take (i := 14) (oi := ⟨some 19, _, _, _, _, _⟩) (v := undef) rfl rfl (by kernel_rfl) (by kernel_rfl) (by kernel_rfl) (fun _ _ _ h => h) ⟨Or.inr ⟨by kernel_rfl, rfl⟩, fun _ => rfl⟩ ?_
    (repeat (first | simp only [Act.put] | simp only [List.setIfInBounds_toArray] | simp only [List.set_cons_succ] | simp only [List.set_cons_zero]))
    refine wpAnyIn_take (i := 15) (oi := ⟨some 20, _, _, _, _, _⟩) (v := undef) rfl rfl (by kernel_rfl) (by kernel_rfl) (by kernel_rfl) (fun _ _ _ h => h) ⟨Or.inr ⟨by kernel_rfl, rfl⟩, fun _ => rfl⟩ ?_
    (repeat (first | simp only [Act.put] | simp only [List.setIfInBounds_toArray] | simp only [List.set_cons_succ] | simp only [List.set_cons_zero]))
    refine wpAnyIn_take (i := 16) (oi := ⟨some 21, _, _, _, _, _⟩) (v := undef) rfl rfl (by kernel_rfl) (by kernel_rfl) (by kernel_rfl) (fun _ _ _ h => h) ⟨Or.inr ⟨by kernel_rfl, rfl⟩, fun _ => rfl⟩ ?_
    (repeat (first | simp only [Act.put] | simp only [List.setIfInBounds_toArray] | simp only [List.set_cons_succ] | simp only [List.set_cons_zero]))
    refine wpAnyIn_take (i := 17) (oi := ⟨some 22, _, _, _, _, _⟩) (v := undef) rfl rfl (by kernel_rfl) (by kernel_rfl) (by kernel_rfl) (fun _ _ _ h => h) ⟨Or.inr ⟨by kernel_rfl, rfl⟩, fun _ => rfl⟩ ?_
    (repeat (first | simp only [Act.put] | simp only [List.setIfInBounds_toArray] | simp only [List.set_cons_succ] | simp only [List.set_cons_zero]))
    refine wpAnyIn_take (i := 18) (oi := ⟨some 23, _, _, _, _, _⟩) (v := undef) rfl rfl (by kernel_rfl) (by kernel_rfl) (by kernel_rfl) (fun _ _ _ h => h) ⟨Or.inr ⟨by kernel_rfl, rfl⟩, fun _ => rfl⟩ ?_
    (repeat (first | simp only [Act.put] | simp only [List.setIfInBounds_toArray] | simp only [List.set_cons_succ] | simp only [List.set_cons_zero]))
    refine wpAnyIn_ready (rs := [19]) (by kernel_rfl) (by simp) ?_
    refine AllReadyIn.cons (o := ⟨some 24, _, _, _, _, _⟩) rfl (fun K hK => ?_) AllReadyIn.nil
    go_simp
    (try refine ⟨fun _ h => (by cases h), ?_⟩)
    refine hK _ _ ?_
    clear hK K
    (repeat (first | simp only [Act.put] | simp only [List.setIfInBounds_toArray] | simp only [List.set_cons_succ] | simp only [List.set_cons_zero]))
    refine wpAnyIn_take (i := 20) (oi := ⟨some 25, _, _, _, _, _⟩) (v := undef) rfl rfl (by kernel_rfl) (by kernel_rfl) (by kernel_rfl) (fun _ _ _ h => h) ⟨Or.inr ⟨by kernel_rfl, rfl⟩, fun _ => rfl⟩ ?_
    (repeat (first | simp only [Act.put] | simp only [List.setIfInBounds_toArray] | simp only [List.set_cons_succ] | simp only [List.set_cons_zero]))
    refine wpAnyIn_take (i := 21) (oi := ⟨some 26, _, _, _, _, _⟩) (v := undef) rfl rfl (by kernel_rfl) (by kernel_rfl) (by kernel_rfl) (fun _ _ _ h => h) ⟨Or.inr ⟨by kernel_rfl, rfl⟩, fun _ => rfl⟩ ?_
    (repeat (first | simp only [Act.put] | simp only [List.setIfInBounds_toArray] | simp only [List.set_cons_succ] | simp only [List.set_cons_zero]))
    refine wpAnyIn_take (i := 22) (oi := ⟨some 27, _, _, _, _, _⟩) (v := undef) rfl rfl (by kernel_rfl) (by kernel_rfl) (by kernel_rfl) (fun _ _ _ h => h) ⟨Or.inr ⟨by kernel_rfl, rfl⟩, fun _ => rfl⟩ ?_
    (repeat (first | simp only [Act.put] | simp only [List.setIfInBounds_toArray] | simp only [List.set_cons_succ] | simp only [List.set_cons_zero]))
    refine wpAnyIn_take (i := 23) (oi := ⟨some 28, _, _, _, _, _⟩) (v := undef) rfl rfl (by kernel_rfl) (by kernel_rfl) (by kernel_rfl) (fun _ _ _ h => h) ⟨Or.inr ⟨by kernel_rfl, rfl⟩, fun _ => rfl⟩ ?_
    (repeat (first | simp only [Act.put] | simp only [List.setIfInBounds_toArray] | simp only [List.set_cons_succ] | simp only [List.set_cons_zero]))
    refine wpAnyIn_take (i := 24) (oi := ⟨some 29, _, _, _, _, _⟩) (v := undef) rfl rfl (by kernel_rfl) (by kernel_rfl) (by kernel_rfl) (fun _ _ _ h => h) ⟨Or.inr ⟨by kernel_rfl, rfl⟩, fun _ => rfl⟩ ?_
    (repeat (first | simp only [Act.put] | simp only [List.setIfInBounds_toArray] | simp only [List.set_cons_succ] | simp only [List.set_cons_zero]))
    refine wpAnyIn_take (i := 25) (oi := ⟨some 30, _, _, _, _, _⟩) (v := undef) rfl rfl (by kernel_rfl) (by kernel_rfl) (by kernel_rfl) (fun _ _ _ h => h) ⟨Or.inr ⟨by kernel_rfl, rfl⟩, fun _ => rfl⟩ ?_
    (repeat (first | simp only [Act.put] | simp only [List.setIfInBounds_toArray] | simp only [List.set_cons_succ] | simp only [List.set_cons_zero]))
    refine wpAnyIn_take (i := 26) (oi := ⟨some 31, _, _, _, _, _⟩) (v := undef) rfl rfl (by kernel_rfl) (by kernel_rfl) (by kernel_rfl) (fun _ _ _ h => h) ⟨Or.inr ⟨by kernel_rfl, rfl⟩, fun _ => rfl⟩ ?_
    (repeat (first | simp only [Act.put] | simp only [List.setIfInBounds_toArray] | simp only [List.set_cons_succ] | simp only [List.set_cons_zero]))
    refine wpAnyIn_ready (rs := [27]) (by kernel_rfl) (by simp) ?_
    refine AllReadyIn.cons (o := ⟨some 32, _, _, _, _, _⟩) rfl (fun K hK => ?_) AllReadyIn.nil
    go_simp
    refine ⟨trivial, ?_⟩
    refine hK _ _ ?_
    clear hK K
    (repeat (first | simp only [Act.put] | simp only [List.setIfInBounds_toArray] | simp only [List.set_cons_succ] | simp only [List.set_cons_zero]))
    refine wpAnyIn_take (i := 28) (oi := ⟨some 33, _, _, _, _, _⟩) (v := undef) rfl rfl (by kernel_rfl) (by kernel_rfl) (by kernel_rfl) (fun _ _ _ h => h) ⟨Or.inr ⟨by kernel_rfl, rfl⟩, fun _ => rfl⟩ ?_
    (repeat (first | simp only [Act.put] | simp only [List.setIfInBounds_toArray] | simp only [List.set_cons_succ] | simp only [List.set_cons_zero]))
    refine wpAnyIn_take (i := 29) (oi := ⟨some 34, _, _, _, _, _⟩) (v := ?_) rfl rfl (by kernel_rfl) (by kernel_rfl) (by kernel_rfl) (fun _ _ _ h => h) ⟨Or.inl ⟨by kernel_rfl, ?_⟩, fun _ => rfl⟩ ?_
    rotate_left
    · (intro w; go_simp; try with_reducible rfl)
    (repeat (first | simp only [Act.put] | simp only [List.setIfInBounds_toArray] | simp only [List.set_cons_succ] | simp only [List.set_cons_zero]))
    refine wpAnyIn_take (i := 30) (oi := ⟨some 4, _, _, _, _, _⟩) (v := ?_) rfl rfl (by kernel_rfl) (by kernel_rfl) (by kernel_rfl) (fun _ _ _ h => h) ⟨Or.inl ⟨by kernel_rfl, ?_⟩, fun _ => rfl⟩ ?_
    rotate_left
    · (intro w; go_simp; try with_reducible rfl)
    (repeat (first | simp only [Act.put] | simp only [List.setIfInBounds_toArray] | simp only [List.set_cons_succ] | simp only [List.set_cons_zero]))
    refine wpAnyIn_done (by kernel_rfl) ?_ _
    gi_wp2_with fail
    go_ret
    exact .inl ⟨rfl, HE.out, (Fr.refl S W).drew⟩
  | node a k v q l r ihl ihr =>
    intro n pre W ht hb hv hIt hJ hN
    have hitems : (Tr.node a k v q l r).items = l.items ++ (k, v) :: r.items := rfl
    rw [hitems] at hN ⊢
    simp only [List.length_append, List.length_cons] at hN
    have f0 : Fr S W W.drew := (Fr.refl S W).drew
    have ht0 : TrIn W.drew (.node a k v q l r) := TrIn.fr f0 ht hb hv
    have hbl : ∀ b ∈ l.blks, ¬ S b := fun b h => hb b (by simp [Tr.blks, h])
    have hbr : ∀ b ∈ r.blks, ¬ S b := fun b h => hb b (by simp [Tr.blks, h])
    have hvl : ∀ u ∈ l.vals, ∀ k, u.ownBlock = some k → ¬ S k := fun u h => hv u (by simp [Tr.vals, h])
    have hvr : ∀ u ∈ r.vals, ∀ k, u.ownBlock = some k → ¬ S k := fun u h => hv u (by simp [Tr.vals, h])
    have HL := Lib.hid (ihl (n - 1) pre W.drew ht0.2.2.1 hbl hvl (fun x hx => hIt x (by unfold Tr.items; exact List.mem_append_left _ hx)) (hJd _ _ hJ) (by omega))
    have HC : Hid (∀ W1, Fr S W.drew W1 → W1.cell? ⟨a, 0, none⟩ = some (.int .i64 k) ∧ W1.cell? ⟨a, 1, none⟩ = some v ∧ W1.cell? ⟨a, 3, none⟩ = some r.ptr ∧ TrIn W1 r) := Lib.hid (fun W1 hf => by
      have h := TrIn.fr hf ht0 hb hv
      exact ⟨(h.1.c 0).trans rfl, (h.1.c 1).trans rfl, (h.1.c 3).trans rfl, h.2.2.2⟩)
    have HR : Hid (∀ W1, TrIn W1 r → J (pre ++ l.items ++ [(k, v)]) W1 → CallsIn Fence.wide (n - 1) Try.prog 54 #[r.ptr, .func (.yield ll) #[] #[]] W1 fun e W' =>
        (e = .returned (.bool true) ∧ J (pre ++ l.items ++ [(k, v)] ++ r.items) W' ∧ Fr S W1 W') ∨ (e = .returned (.bool false) ∧ ∃ q, q <+: r.items ∧ Jx (pre ++ l.items ++ [(k, v)] ++ q) W')) := Lib.hid (fun W1 h1 h2 => ihr (n - 1) _ W1 h1 hbr hvr (fun x hx => hIt x (by unfold Tr.items; exact List.mem_append_right _ (List.mem_cons_of_mem _ hx))) h2 (by simp; omega))
    have HY : Hid (∀ W1, J (pre ++ l.items) W1 → YieldAt Fence.wide (n - 1) Try.prog ll #[.int .i64 k, v] W1 fun e W' =>
      (e = .returned (.bool true) ∧ J (pre ++ l.items ++ [(k, v)]) W' ∧ Fr S W1 W') ∨ (e = .returned (.bool false) ∧ Jx (pre ++ l.items ++ [(k, v)]) W')) := Lib.hid (fun W1 h => hY (n - 1) _ (k, v) W1 h (by simp; omega) (hIt (k, v) (by unfold Tr.items; simp)))
    have c2 : W.drew.cell? ⟨a, 2, none⟩ = some l.ptr := (ht0.1.c 2).trans rfl
    obtain ⟨pl, hpl⟩ : ∃ p, l.ptr = .pointer p := by cases l <;> exact ⟨_, rfl⟩
    obtain ⟨pr, hpr⟩ : ∃ p, r.ptr = .pointer p := by cases r <;> exact ⟨_, rfl⟩
    obtain ⟨va, vc, rfl, _⟩ := own_que2 ht.2.1
    rw [hpl] at c2 HL
    rw [hpr] at HC HR
    clear ihl ihr hY hIt ht hb hv hJ hN ht0 hbl hbr hvl hvr hJd f0
    show CallsIn Fence.wide n Try.prog 54 #[.pointer (some ⟨a, 0, none⟩), .func (.yield ll) #[] #[]] W _
    refine callsIn_of_wp Try.func54 rfl trivial ?_ rfl
    simp only [Try.ntmps54, List.size_toArray, List.length_cons, List.length_nil, Nat.reduceAdd, Nat.reduceSub, Array.replicate_succ, Array.replicate_zero, List.push_toArray, List.append_toArray, List.nil_append, List.cons_append]
    gi_wp2_with fail
    refine wpIn_region_any mixed ?_
    (try (change wpAnyIn _ _ _ _ _ _ _ _ _ (World.drew _)))
    refine wpAnyIn_take (i := 0) (oi := ⟨some 5, _, _, _, _, _⟩) (v := ?_) rfl rfl (by kernel_rfl) (by kernel_rfl) (by kernel_rfl) (fun _ _ _ h => h) ⟨Or.inl ⟨by kernel_rfl, ?_⟩, fun _ => rfl⟩ ?_
    rotate_left
    · (intro w; go_simp; try with_reducible rfl)
    (repeat (first | simp only [Act.put] | simp only [List.setIfInBounds_toArray] | simp only [List.set_cons_succ] | simp only [List.set_cons_zero]))
    refine wpAnyIn_take (i := 1) (oi := ⟨some 6, _, _, _, _, _⟩) (v := ?_) rfl rfl (by kernel_rfl) (by kernel_rfl) (by kernel_rfl) (fun _ _ _ h => h) ⟨Or.inl ⟨by kernel_rfl, ?_⟩, fun _ => rfl⟩ ?_
    rotate_left
    · (intro w; go_simp; try with_reducible rfl)
    (repeat (first | simp only [Act.put] | simp only [List.setIfInBounds_toArray] | simp only [List.set_cons_succ] | simp only [List.set_cons_zero]))
    refine wpAnyIn_take (i := 2) (oi := ⟨some 7, _, _, _, _, _⟩) (v := ?_) rfl rfl (by kernel_rfl) (by kernel_rfl) (by kernel_rfl) (fun _ _ _ h => h) ⟨Or.inl ⟨by kernel_rfl, ?_⟩, fun _ => rfl⟩ ?_
    rotate_left
    · (intro w; go_simp; try with_reducible rfl)
    (repeat (first | simp only [Act.put] | simp only [List.setIfInBounds_toArray] | simp only [List.set_cons_succ] | simp only [List.set_cons_zero]))
    refine wpAnyIn_take (i := 3) (oi := ⟨some 8, _, _, _, _, _⟩) (v := ?_) rfl rfl (by kernel_rfl) (by kernel_rfl) (by kernel_rfl) (fun _ _ _ h => h) ⟨Or.inl ⟨by kernel_rfl, ?_⟩, fun _ => rfl⟩ ?_
    rotate_left
    · (intro w; go_simp; try with_reducible rfl)
    (repeat (first | simp only [Act.put] | simp only [List.setIfInBounds_toArray] | simp only [List.set_cons_succ] | simp only [List.set_cons_zero]))
    refine wpAnyIn_take (i := 4) (oi := ⟨some 9, _, _, _, _, _⟩) (v := ?_) rfl rfl (by kernel_rfl) (by kernel_rfl) (by kernel_rfl) (fun _ _ _ h => h) ⟨Or.inl ⟨by kernel_rfl, ?_⟩, fun _ => rfl⟩ ?_
    rotate_left
    · (intro w; go_simp; try with_reducible rfl)
    (repeat (first | simp only [Act.put] | simp only [List.setIfInBounds_toArray] | simp only [List.set_cons_succ] | simp only [List.set_cons_zero]))
    refine wpAnyIn_take (i := 5) (oi := ⟨some 10, _, _, _, _, _⟩) (v := ?_) rfl rfl (by kernel_rfl) (by kernel_rfl) (by kernel_rfl) (fun _ _ _ h => h) ⟨Or.inl ⟨by kernel_rfl, ?_⟩, fun _ => rfl⟩ ?_
    rotate_left
    · (intro w; go_simp; try with_reducible rfl)
    (repeat (first | simp only [Act.put] | simp only [List.setIfInBounds_toArray] | simp only [List.set_cons_succ] | simp only [List.set_cons_zero]))
    refine wpAnyIn_take (i := 7) (oi := ⟨some 12, _, _, _, _, _⟩) (v := ?_) rfl rfl (by kernel_rfl) (by kernel_rfl) (by kernel_rfl) (fun _ _ _ h => h) ⟨Or.inl ⟨by kernel_rfl, ?_⟩, fun _ => rfl⟩ ?_
    rotate_left
    · (intro w; go_simp; try with_reducible rfl)
    (repeat (first | simp only [Act.put] | simp only [List.setIfInBounds_toArray] | simp only [List.set_cons_succ] | simp only [List.set_cons_zero]))
    refine wpAnyIn_ready (rs := [6]) (by kernel_rfl) (by simp) ?_
    refine AllReadyIn.cons (o := ⟨some 11, _, _, _, _, _⟩) rfl (fun K hK => ?_) AllReadyIn.nil
    go_simp
    (try go_simp)
    refine hK _ _ ?_
    clear hK K
    (repeat (first | simp only [Act.put] | simp only [List.setIfInBounds_toArray] | simp only [List.set_cons_succ] | simp only [List.set_cons_zero]))
    refine wpAnyIn_ready (rs := [8]) (by kernel_rfl) (by simp) ?_
    refine AllReadyIn.cons (o := ⟨some 13, _, _, _, _, _⟩) rfl (fun K hK => ?_) AllReadyIn.nil
    go_simp
    refine ⟨trivial, fun h => (by cases h), ?_⟩
    refine HL.out.mono ?_
    rintro e W1 (⟨rfl, hJ1, hF1⟩ | ⟨rfl, q2, hq, hx⟩)
    · refine hK _ _ ?_
      clear hK K
      (repeat (first | simp only [Act.put] | simp only [List.setIfInBounds_toArray] | simp only [List.set_cons_succ] | simp only [List.set_cons_zero]))
      obtain ⟨c0, c1, c3, htr⟩ := HC.out W1 hF1
      have HY1 := Lib.hid (HY.out W1 hJ1)
      clear HL HY hJ1
      refine wpAnyIn_take (i := 9) (oi := ⟨some 14, _, _, _, _, _⟩) (v := ?_) rfl rfl (by kernel_rfl) (by kernel_rfl) (by kernel_rfl) (fun _ _ _ h => h) ⟨Or.inl ⟨by kernel_rfl, ?_⟩, fun _ => rfl⟩ ?_
      rotate_left
      · (intro w; go_simp; try with_reducible rfl)
      (repeat (first | simp only [Act.put] | simp only [List.setIfInBounds_toArray] | simp only [List.set_cons_succ] | simp only [List.set_cons_zero]))
      refine wpAnyIn_take (i := 10) (oi := ⟨some 15, _, _, _, _, _⟩) (v := ?_) rfl rfl (by kernel_rfl) (by kernel_rfl) (by kernel_rfl) (fun _ _ _ h => h) ⟨Or.inl ⟨by kernel_rfl, ?_⟩, fun _ => rfl⟩ ?_
      rotate_left
      · (intro w; go_simp; try with_reducible rfl)
      (repeat (first | simp only [Act.put] | simp only [List.setIfInBounds_toArray] | simp only [List.set_cons_succ] | simp only [List.set_cons_zero]))
      refine wpAnyIn_take (i := 11) (oi := ⟨some 16, _, _, _, _, _⟩) (v := ?_) rfl rfl (by kernel_rfl) (by kernel_rfl) (by kernel_rfl) (fun _ _ _ h => h) ⟨Or.inl ⟨by kernel_rfl, ?_⟩, fun _ => rfl⟩ ?_
      rotate_left
      · (intro w; go_simp; try with_reducible rfl)
      (repeat (first | simp only [Act.put] | simp only [List.setIfInBounds_toArray] | simp only [List.set_cons_succ] | simp only [List.set_cons_zero]))
      refine wpAnyIn_take (i := 12) (oi := ⟨some 17, _, _, _, _, _⟩) (v := ?_) rfl rfl (by kernel_rfl) (by kernel_rfl) (by kernel_rfl) (fun _ _ _ h => h) ⟨Or.inl ⟨by kernel_rfl, ?_⟩, fun _ => rfl⟩ ?_
      rotate_left
      · (intro w; go_simp; try with_reducible rfl)
      (repeat (first | simp only [Act.put] | simp only [List.setIfInBounds_toArray] | simp only [List.set_cons_succ] | simp only [List.set_cons_zero]))
      refine wpAnyIn_take (i := 13) (oi := ⟨some 18, _, _, _, _, _⟩) (v := ?_) rfl rfl (by kernel_rfl) (by kernel_rfl) (by kernel_rfl) (fun _ _ _ h => h) ⟨Or.inl ⟨by kernel_rfl, ?_⟩, fun _ => rfl⟩ ?_
      rotate_left
      · (intro w; go_simp; try with_reducible rfl)
      (repeat (first | simp only [Act.put] | simp only [List.setIfInBounds_toArray] | simp only [List.set_cons_succ] | simp only [List.set_cons_zero]))
      refine wpAnyIn_take (i := 15) (oi := ⟨some 20, _, _, _, _, _⟩) (v := ?_) rfl rfl (by kernel_rfl) (by kernel_rfl) (by kernel_rfl) (fun _ _ _ h => h) ⟨Or.inl ⟨by kernel_rfl, ?_⟩, fun _ => rfl⟩ ?_
      rotate_left
      · (intro w; go_simp; try with_reducible rfl)
      (repeat (first | simp only [Act.put] | simp only [List.setIfInBounds_toArray] | simp only [List.set_cons_succ] | simp only [List.set_cons_zero]))
      refine wpAnyIn_take (i := 16) (oi := ⟨some 21, _, _, _, _, _⟩) (v := ?_) rfl rfl (by kernel_rfl) (by kernel_rfl) (by kernel_rfl) (fun _ _ _ h => h) ⟨Or.inl ⟨by kernel_rfl, ?_⟩, fun _ => rfl⟩ ?_
      rotate_left
      · (intro w; go_simp; try with_reducible rfl)
      (repeat (first | simp only [Act.put] | simp only [List.setIfInBounds_toArray] | simp only [List.set_cons_succ] | simp only [List.set_cons_zero]))
      refine wpAnyIn_take (i := 17) (oi := ⟨some 22, _, _, _, _, _⟩) (v := ?_) rfl rfl (by kernel_rfl) (by kernel_rfl) (by kernel_rfl) (fun _ _ _ h => h) ⟨Or.inl ⟨by kernel_rfl, ?_⟩, fun _ => rfl⟩ ?_
      rotate_left
      · (intro w; go_simp; try with_reducible rfl)
      (repeat (first | simp only [Act.put] | simp only [List.setIfInBounds_toArray] | simp only [List.set_cons_succ] | simp only [List.set_cons_zero]))
      refine wpAnyIn_ready (rs := [14, 18]) (by kernel_rfl) (by simp) ?_
      refine AllReadyIn.cons (o := ⟨some 19, _, _, _, _, _⟩) rfl (fun K hK => ?_) (AllReadyIn.cons (o := ⟨some 23, _, _, _, _, _⟩) rfl (fun K hK => ?_) AllReadyIn.nil)
      · go_simp
        refine hK _ _ ?_
        clear hK K
        (repeat (first | simp only [Act.put] | simp only [List.setIfInBounds_toArray] | simp only [List.set_cons_succ] | simp only [List.set_cons_zero]))
        refine wpAnyIn_ready (rs := [18]) (by kernel_rfl) (by simp) ?_
        refine AllReadyIn.cons (o := ⟨some 23, _, _, _, _, _⟩) rfl (fun K hK => ?_) AllReadyIn.nil
        go_simp
        (try go_simp)
        refine hK _ _ ?_
        clear hK K
        (repeat (first | simp only [Act.put] | simp only [List.setIfInBounds_toArray] | simp only [List.set_cons_succ] | simp only [List.set_cons_zero]))
        obtain ⟨fn, tmps, assign, body, hy, hRo⟩ := HY1.out
        refine wpAnyIn_ready (rs := [19]) (by kernel_rfl) (by simp) ?_
        refine AllReadyIn.cons (o := ⟨some 24, _, _, _, _, _⟩) rfl (fun K hK => ?_) AllReadyIn.nil
        go_simp
        (try refine ⟨fun h => (by cases h), ?_⟩)
        refine hRo.mono ?_
        rintro e W2 (⟨rfl, hJ2, hF2⟩ | ⟨rfl, hx⟩)
        · refine hK _ _ ?_
          clear hK K
          (repeat (first | simp only [Act.put] | simp only [List.setIfInBounds_toArray] | simp only [List.set_cons_succ] | simp only [List.set_cons_zero]))
          obtain ⟨-, -, e3, htr2⟩ := HC.out W2 (hF1.t hF2)
          have HR1 := Lib.hid (HR.out W2 htr2 hJ2)
          clear HR HC hJ2
          refine wpAnyIn_take (i := 20) (oi := ⟨some 25, _, _, _, _, _⟩) (v := ?_) rfl rfl (by kernel_rfl) (by kernel_rfl) (by kernel_rfl) (fun _ _ _ h => h) ⟨Or.inl ⟨by kernel_rfl, ?_⟩, fun _ => rfl⟩ ?_
          rotate_left
          · (intro w; go_simp; try with_reducible rfl)
          (repeat (first | simp only [Act.put] | simp only [List.setIfInBounds_toArray] | simp only [List.set_cons_succ] | simp only [List.set_cons_zero]))
          refine wpAnyIn_take (i := 21) (oi := ⟨some 26, _, _, _, _, _⟩) (v := ?_) rfl rfl (by kernel_rfl) (by kernel_rfl) (by kernel_rfl) (fun _ _ _ h => h) ⟨Or.inl ⟨by kernel_rfl, ?_⟩, fun _ => rfl⟩ ?_
          rotate_left
          · (intro w; go_simp; try with_reducible rfl)
          (repeat (first | simp only [Act.put] | simp only [List.setIfInBounds_toArray] | simp only [List.set_cons_succ] | simp only [List.set_cons_zero]))
          refine wpAnyIn_take (i := 22) (oi := ⟨some 27, _, _, _, _, _⟩) (v := ?_) rfl rfl (by kernel_rfl) (by kernel_rfl) (by kernel_rfl) (fun _ _ _ h => h) ⟨Or.inl ⟨by kernel_rfl, ?_⟩, fun _ => rfl⟩ ?_
          rotate_left
          · (intro w; go_simp; try with_reducible rfl)
          (repeat (first | simp only [Act.put] | simp only [List.setIfInBounds_toArray] | simp only [List.set_cons_succ] | simp only [List.set_cons_zero]))
          refine wpAnyIn_take (i := 23) (oi := ⟨some 28, _, _, _, _, _⟩) (v := ?_) rfl rfl (by kernel_rfl) (by kernel_rfl) (by kernel_rfl) (fun _ _ _ h => h) ⟨Or.inl ⟨by kernel_rfl, ?_⟩, fun _ => rfl⟩ ?_
          rotate_left
          · (intro w; go_simp; try with_reducible rfl)
          (repeat (first | simp only [Act.put] | simp only [List.setIfInBounds_toArray] | simp only [List.set_cons_succ] | simp only [List.set_cons_zero]))
          refine wpAnyIn_take (i := 24) (oi := ⟨some 29, _, _, _, _, _⟩) (v := ?_) rfl rfl (by kernel_rfl) (by kernel_rfl) (by kernel_rfl) (fun _ _ _ h => h) ⟨Or.inl ⟨by kernel_rfl, ?_⟩, fun _ => rfl⟩ ?_
          rotate_left
          · (intro w; go_simp; try with_reducible rfl)
          (repeat (first | simp only [Act.put] | simp only [List.setIfInBounds_toArray] | simp only [List.set_cons_succ] | simp only [List.set_cons_zero]))
          refine wpAnyIn_take (i := 26) (oi := ⟨some 31, _, _, _, _, _⟩) (v := ?_) rfl rfl (by kernel_rfl) (by kernel_rfl) (by kernel_rfl) (fun _ _ _ h => h) ⟨Or.inl ⟨by kernel_rfl, ?_⟩, fun _ => rfl⟩ ?_
          rotate_left
          · (intro w; go_simp; try with_reducible rfl)
          (repeat (first | simp only [Act.put] | simp only [List.setIfInBounds_toArray] | simp only [List.set_cons_succ] | simp only [List.set_cons_zero]))
          refine wpAnyIn_ready (rs := [25]) (by kernel_rfl) (by simp) ?_
          refine AllReadyIn.cons (o := ⟨some 30, _, _, _, _, _⟩) rfl (fun K hK => ?_) AllReadyIn.nil
          go_simp
          (try go_simp)
          refine hK _ _ ?_
          clear hK K
          (repeat (first | simp only [Act.put] | simp only [List.setIfInBounds_toArray] | simp only [List.set_cons_succ] | simp only [List.set_cons_zero]))
          refine wpAnyIn_ready (rs := [27]) (by kernel_rfl) (by simp) ?_
          refine AllReadyIn.cons (o := ⟨some 32, _, _, _, _, _⟩) rfl (fun K hK => ?_) AllReadyIn.nil
          go_simp
          refine ⟨trivial, fun h => (by cases h), ?_⟩
          refine HR1.out.mono ?_
          rintro e W3 (⟨rfl, hJ3, hF3⟩ | ⟨rfl, q2, hq, hx⟩)
          · refine hK _ _ ?_
            clear hK K
            (repeat (first | simp only [Act.put] | simp only [List.setIfInBounds_toArray] | simp only [List.set_cons_succ] | simp only [List.set_cons_zero]))
            refine wpAnyIn_take (i := 28) (oi := ⟨some 33, _, _, _, _, _⟩) (v := ?_) rfl rfl (by kernel_rfl) (by kernel_rfl) (by kernel_rfl) (fun _ _ _ h => h) ⟨Or.inl ⟨by kernel_rfl, ?_⟩, fun _ => rfl⟩ ?_
            rotate_left
            · (intro w; go_simp; try with_reducible rfl)
            (repeat (first | simp only [Act.put] | simp only [List.setIfInBounds_toArray] | simp only [List.set_cons_succ] | simp only [List.set_cons_zero]))
            refine wpAnyIn_take (i := 29) (oi := ⟨some 34, _, _, _, _, _⟩) (v := ?_) rfl rfl (by kernel_rfl) (by kernel_rfl) (by kernel_rfl) (fun _ _ _ h => h) ⟨Or.inl ⟨by kernel_rfl, ?_⟩, fun _ => rfl⟩ ?_
            rotate_left
            · (intro w; go_simp; try with_reducible rfl)
            (repeat (first | simp only [Act.put] | simp only [List.setIfInBounds_toArray] | simp only [List.set_cons_succ] | simp only [List.set_cons_zero]))
            refine wpAnyIn_take (i := 30) (oi := ⟨some 4, _, _, _, _, _⟩) (v := ?_) rfl rfl (by kernel_rfl) (by kernel_rfl) (by kernel_rfl) (fun _ _ _ h => h) ⟨Or.inl ⟨by kernel_rfl, ?_⟩, fun _ => rfl⟩ ?_
            rotate_left
            · (intro w; go_simp; try with_reducible rfl)
            (repeat (first | simp only [Act.put] | simp only [List.setIfInBounds_toArray] | simp only [List.set_cons_succ] | simp only [List.set_cons_zero]))
            refine wpAnyIn_done (by kernel_rfl) ?_ _
            gi_wp2_with fail
            go_ret
            exact .inl ⟨rfl, by simpa [List.append_assoc] using hJ3, ((Fr.refl S W).drew.t hF1).t (hF2.t hF3)⟩
          · refine hK _ _ ?_
            clear hK K
            (repeat (first | simp only [Act.put] | simp only [List.setIfInBounds_toArray] | simp only [List.set_cons_succ] | simp only [List.set_cons_zero]))
            refine wpAnyIn_take (i := 28) (oi := ⟨some 33, _, _, _, _, _⟩) (v := ?_) rfl rfl (by kernel_rfl) (by kernel_rfl) (by kernel_rfl) (fun _ _ _ h => h) ⟨Or.inl ⟨by kernel_rfl, ?_⟩, fun _ => rfl⟩ ?_
            rotate_left
            · (intro w; go_simp; try with_reducible rfl)
            (repeat (first | simp only [Act.put] | simp only [List.setIfInBounds_toArray] | simp only [List.set_cons_succ] | simp only [List.set_cons_zero]))
            refine wpAnyIn_take (i := 29) (oi := ⟨some 34, _, _, _, _, _⟩) (v := ?_) rfl rfl (by kernel_rfl) (by kernel_rfl) (by kernel_rfl) (fun _ _ _ h => h) ⟨Or.inl ⟨by kernel_rfl, ?_⟩, fun _ => rfl⟩ ?_
            rotate_left
            · (intro w; go_simp; try with_reducible rfl)
            (repeat (first | simp only [Act.put] | simp only [List.setIfInBounds_toArray] | simp only [List.set_cons_succ] | simp only [List.set_cons_zero]))
            refine wpAnyIn_take (i := 30) (oi := ⟨some 4, _, _, _, _, _⟩) (v := ?_) rfl rfl (by kernel_rfl) (by kernel_rfl) (by kernel_rfl) (fun _ _ _ h => h) ⟨Or.inl ⟨by kernel_rfl, ?_⟩, fun _ => rfl⟩ ?_
            rotate_left
            · (intro w; go_simp; try with_reducible rfl)
            (repeat (first | simp only [Act.put] | simp only [List.setIfInBounds_toArray] | simp only [List.set_cons_succ] | simp only [List.set_cons_zero]))
            refine wpAnyIn_done (by kernel_rfl) ?_ _
            gi_wp2_with fail
            go_ret
            obtain ⟨z, hz⟩ := hq
            exact .inr ⟨rfl, l.items ++ (k, Value.slice va q.length vc) :: q2, ⟨z, by simp [← hz]⟩, by simpa [List.append_assoc] using hx⟩
        · refine hK _ _ ?_
          clear hK K
          (repeat (first | simp only [Act.put] | simp only [List.setIfInBounds_toArray] | simp only [List.set_cons_succ] | simp only [List.set_cons_zero]))
          refine wpAnyIn_take (i := 20) (oi := ⟨some 25, _, _, _, _, _⟩) (v := ?_) rfl rfl (by kernel_rfl) (by kernel_rfl) (by kernel_rfl) (fun _ _ _ h => h) ⟨Or.inl ⟨by kernel_rfl, ?_⟩, fun _ => rfl⟩ ?_
          rotate_left
          · (intro w; go_simp; try with_reducible rfl)
          (repeat (first | simp only [Act.put] | simp only [List.setIfInBounds_toArray] | simp only [List.set_cons_succ] | simp only [List.set_cons_zero]))
          refine wpAnyIn_take (i := 21) (oi := ⟨some 26, _, _, _, _, _⟩) (v := ?_) rfl rfl (by kernel_rfl) (by kernel_rfl) (by kernel_rfl) (fun _ _ _ h => h) ⟨Or.inl ⟨by kernel_rfl, ?_⟩, fun _ => rfl⟩ ?_
          rotate_left
          · (intro w; go_simp; try with_reducible rfl)
          (repeat (first | simp only [Act.put] | simp only [List.setIfInBounds_toArray] | simp only [List.set_cons_succ] | simp only [List.set_cons_zero]))
          refine wpAnyIn_take (i := 22) (oi := ⟨some 27, _, _, _, _, _⟩) (v := undef) rfl rfl (by kernel_rfl) (by kernel_rfl) (by kernel_rfl) (fun _ _ _ h => h) ⟨Or.inr ⟨by kernel_rfl, rfl⟩, fun _ => rfl⟩ ?_
          (repeat (first | simp only [Act.put] | simp only [List.setIfInBounds_toArray] | simp only [List.set_cons_succ] | simp only [List.set_cons_zero]))
          refine wpAnyIn_take (i := 23) (oi := ⟨some 28, _, _, _, _, _⟩) (v := undef) rfl rfl (by kernel_rfl) (by kernel_rfl) (by kernel_rfl) (fun _ _ _ h => h) ⟨Or.inr ⟨by kernel_rfl, rfl⟩, fun _ => rfl⟩ ?_
          (repeat (first | simp only [Act.put] | simp only [List.setIfInBounds_toArray] | simp only [List.set_cons_succ] | simp only [List.set_cons_zero]))
          refine wpAnyIn_take (i := 24) (oi := ⟨some 29, _, _, _, _, _⟩) (v := undef) rfl rfl (by kernel_rfl) (by kernel_rfl) (by kernel_rfl) (fun _ _ _ h => h) ⟨Or.inr ⟨by kernel_rfl, rfl⟩, fun _ => rfl⟩ ?_
          (repeat (first | simp only [Act.put] | simp only [List.setIfInBounds_toArray] | simp only [List.set_cons_succ] | simp only [List.set_cons_zero]))
          refine wpAnyIn_take (i := 25) (oi := ⟨some 30, _, _, _, _, _⟩) (v := undef) rfl rfl (by kernel_rfl) (by kernel_rfl) (by kernel_rfl) (fun _ _ _ h => h) ⟨Or.inr ⟨by kernel_rfl, rfl⟩, fun _ => rfl⟩ ?_
          (repeat (first | simp only [Act.put] | simp only [List.setIfInBounds_toArray] | simp only [List.set_cons_succ] | simp only [List.set_cons_zero]))
          refine wpAnyIn_take (i := 26) (oi := ⟨some 31, _, _, _, _, _⟩) (v := undef) rfl rfl (by kernel_rfl) (by kernel_rfl) (by kernel_rfl) (fun _ _ _ h => h) ⟨Or.inr ⟨by kernel_rfl, rfl⟩, fun _ => rfl⟩ ?_
          (repeat (first | simp only [Act.put] | simp only [List.setIfInBounds_toArray] | simp only [List.set_cons_succ] | simp only [List.set_cons_zero]))
          refine wpAnyIn_ready (rs := [27]) (by kernel_rfl) (by simp) ?_
          refine AllReadyIn.cons (o := ⟨some 32, _, _, _, _, _⟩) rfl (fun K hK => ?_) AllReadyIn.nil
          go_simp
          refine ⟨trivial, ?_⟩
          refine hK _ _ ?_
          clear hK K
          (repeat (first | simp only [Act.put] | simp only [List.setIfInBounds_toArray] | simp only [List.set_cons_succ] | simp only [List.set_cons_zero]))
          refine wpAnyIn_take (i := 28) (oi := ⟨some 33, _, _, _, _, _⟩) (v := ?_) rfl rfl (by kernel_rfl) (by kernel_rfl) (by kernel_rfl) (fun _ _ _ h => h) ⟨Or.inl ⟨by kernel_rfl, ?_⟩, fun _ => rfl⟩ ?_
          rotate_left
          · (intro w; go_simp; try with_reducible rfl)
          (repeat (first | simp only [Act.put] | simp only [List.setIfInBounds_toArray] | simp only [List.set_cons_succ] | simp only [List.set_cons_zero]))
          refine wpAnyIn_take (i := 29) (oi := ⟨some 34, _, _, _, _, _⟩) (v := ?_) rfl rfl (by kernel_rfl) (by kernel_rfl) (by kernel_rfl) (fun _ _ _ h => h) ⟨Or.inl ⟨by kernel_rfl, ?_⟩, fun _ => rfl⟩ ?_
          rotate_left
          · (intro w; go_simp; try with_reducible rfl)
          (repeat (first | simp only [Act.put] | simp only [List.setIfInBounds_toArray] | simp only [List.set_cons_succ] | simp only [List.set_cons_zero]))
          refine wpAnyIn_take (i := 30) (oi := ⟨some 4, _, _, _, _, _⟩) (v := ?_) rfl rfl (by kernel_rfl) (by kernel_rfl) (by kernel_rfl) (fun _ _ _ h => h) ⟨Or.inl ⟨by kernel_rfl, ?_⟩, fun _ => rfl⟩ ?_
          rotate_left
          · (intro w; go_simp; try with_reducible rfl)
          (repeat (first | simp only [Act.put] | simp only [List.setIfInBounds_toArray] | simp only [List.set_cons_succ] | simp only [List.set_cons_zero]))
          refine wpAnyIn_done (by kernel_rfl) ?_ _
          gi_wp2_with fail
          go_ret
          exact .inr ⟨rfl, l.items ++ [(k, Value.slice va q.length vc)], ⟨r.items, by simp⟩, by simpa [List.append_assoc] using hx⟩
      · go_simp
        refine hK _ _ ?_
        clear hK K
        (repeat (first | simp only [Act.put] | simp only [List.setIfInBounds_toArray] | simp only [List.set_cons_succ] | simp only [List.set_cons_zero]))
        refine wpAnyIn_ready (rs := [14]) (by kernel_rfl) (by simp) ?_
        refine AllReadyIn.cons (o := ⟨some 19, _, _, _, _, _⟩) rfl (fun K hK => ?_) AllReadyIn.nil
        go_simp
        (try go_simp)
        refine hK _ _ ?_
        clear hK K
        (repeat (first | simp only [Act.put] | simp only [List.setIfInBounds_toArray] | simp only [List.set_cons_succ] | simp only [List.set_cons_zero]))
        obtain ⟨fn, tmps, assign, body, hy, hRo⟩ := HY1.out
        refine wpAnyIn_ready (rs := [19]) (by kernel_rfl) (by simp) ?_
        refine AllReadyIn.cons (o := ⟨some 24, _, _, _, _, _⟩) rfl (fun K hK => ?_) AllReadyIn.nil
        go_simp
        (try refine ⟨fun h => (by cases h), ?_⟩)
        refine hRo.mono ?_
        rintro e W2 (⟨rfl, hJ2, hF2⟩ | ⟨rfl, hx⟩)
        · refine hK _ _ ?_
          clear hK K
          (repeat (first | simp only [Act.put] | simp only [List.setIfInBounds_toArray] | simp only [List.set_cons_succ] | simp only [List.set_cons_zero]))
          obtain ⟨-, -, e3, htr2⟩ := HC.out W2 (hF1.t hF2)
          have HR1 := Lib.hid (HR.out W2 htr2 hJ2)
          clear HR HC hJ2
          refine wpAnyIn_take (i := 20) (oi := ⟨some 25, _, _, _, _, _⟩) (v := ?_) rfl rfl (by kernel_rfl) (by kernel_rfl) (by kernel_rfl) (fun _ _ _ h => h) ⟨Or.inl ⟨by kernel_rfl, ?_⟩, fun _ => rfl⟩ ?_
          rotate_left
          · (intro w; go_simp; try with_reducible rfl)
          (repeat (first | simp only [Act.put] | simp only [List.setIfInBounds_toArray] | simp only [List.set_cons_succ] | simp only [List.set_cons_zero]))
          refine wpAnyIn_take (i := 21) (oi := ⟨some 26, _, _, _, _, _⟩) (v := ?_) rfl rfl (by kernel_rfl) (by kernel_rfl) (by kernel_rfl) (fun _ _ _ h => h) ⟨Or.inl ⟨by kernel_rfl, ?_⟩, fun _ => rfl⟩ ?_
          rotate_left
          · (intro w; go_simp; try with_reducible rfl)
          (repeat (first | simp only [Act.put] | simp only [List.setIfInBounds_toArray] | simp only [List.set_cons_succ] | simp only [List.set_cons_zero]))
          refine wpAnyIn_take (i := 22) (oi := ⟨some 27, _, _, _, _, _⟩) (v := ?_) rfl rfl (by kernel_rfl) (by kernel_rfl) (by kernel_rfl) (fun _ _ _ h => h) ⟨Or.inl ⟨by kernel_rfl, ?_⟩, fun _ => rfl⟩ ?_
          rotate_left
          · (intro w; go_simp; try with_reducible rfl)
          (repeat (first | simp only [Act.put] | simp only [List.setIfInBounds_toArray] | simp only [List.set_cons_succ] | simp only [List.set_cons_zero]))
          refine wpAnyIn_take (i := 23) (oi := ⟨some 28, _, _, _, _, _⟩) (v := ?_) rfl rfl (by kernel_rfl) (by kernel_rfl) (by kernel_rfl) (fun _ _ _ h => h) ⟨Or.inl ⟨by kernel_rfl, ?_⟩, fun _ => rfl⟩ ?_
          rotate_left
          · (intro w; go_simp; try with_reducible rfl)
          (repeat (first | simp only [Act.put] | simp only [List.setIfInBounds_toArray] | simp only [List.set_cons_succ] | simp only [List.set_cons_zero]))
          refine wpAnyIn_take (i := 24) (oi := ⟨some 29, _, _, _, _, _⟩) (v := ?_) rfl rfl (by kernel_rfl) (by kernel_rfl) (by kernel_rfl) (fun _ _ _ h => h) ⟨Or.inl ⟨by kernel_rfl, ?_⟩, fun _ => rfl⟩ ?_
          rotate_left
          · (intro w; go_simp; try with_reducible rfl)
          (repeat (first | simp only [Act.put] | simp only [List.setIfInBounds_toArray] | simp only [List.set_cons_succ] | simp only [List.set_cons_zero]))
          refine wpAnyIn_take (i := 26) (oi := ⟨some 31, _, _, _, _, _⟩) (v := ?_) rfl rfl (by kernel_rfl) (by kernel_rfl) (by kernel_rfl) (fun _ _ _ h => h) ⟨Or.inl ⟨by kernel_rfl, ?_⟩, fun _ => rfl⟩ ?_
          rotate_left
          · (intro w; go_simp; try with_reducible rfl)
          (repeat (first | simp only [Act.put] | simp only [List.setIfInBounds_toArray] | simp only [List.set_cons_succ] | simp only [List.set_cons_zero]))
          refine wpAnyIn_ready (rs := [25]) (by kernel_rfl) (by simp) ?_
          refine AllReadyIn.cons (o := ⟨some 30, _, _, _, _, _⟩) rfl (fun K hK => ?_) AllReadyIn.nil
          go_simp
          (try go_simp)
          refine hK _ _ ?_
          clear hK K
          (repeat (first | simp only [Act.put] | simp only [List.setIfInBounds_toArray] | simp only [List.set_cons_succ] | simp only [List.set_cons_zero]))
          refine wpAnyIn_ready (rs := [27]) (by kernel_rfl) (by simp) ?_
          refine AllReadyIn.cons (o := ⟨some 32, _, _, _, _, _⟩) rfl (fun K hK => ?_) AllReadyIn.nil
          go_simp
          refine ⟨trivial, fun h => (by cases h), ?_⟩
          refine HR1.out.mono ?_
          rintro e W3 (⟨rfl, hJ3, hF3⟩ | ⟨rfl, q2, hq, hx⟩)
          · refine hK _ _ ?_
            clear hK K
            (repeat (first | simp only [Act.put] | simp only [List.setIfInBounds_toArray] | simp only [List.set_cons_succ] | simp only [List.set_cons_zero]))
            refine wpAnyIn_take (i := 28) (oi := ⟨some 33, _, _, _, _, _⟩) (v := ?_) rfl rfl (by kernel_rfl) (by kernel_rfl) (by kernel_rfl) (fun _ _ _ h => h) ⟨Or.inl ⟨by kernel_rfl, ?_⟩, fun _ => rfl⟩ ?_
            rotate_left
            · (intro w; go_simp; try with_reducible rfl)
            (repeat (first | simp only [Act.put] | simp only [List.setIfInBounds_toArray] | simp only [List.set_cons_succ] | simp only [List.set_cons_zero]))
            refine wpAnyIn_take (i := 29) (oi := ⟨some 34, _, _, _, _, _⟩) (v := ?_) rfl rfl (by kernel_rfl) (by kernel_rfl) (by kernel_rfl) (fun _ _ _ h => h) ⟨Or.inl ⟨by kernel_rfl, ?_⟩, fun _ => rfl⟩ ?_
            rotate_left
            · (intro w; go_simp; try with_reducible rfl)
            (repeat (first | simp only [Act.put] | simp only [List.setIfInBounds_toArray] | simp only [List.set_cons_succ] | simp only [List.set_cons_zero]))
            refine wpAnyIn_take (i := 30) (oi := ⟨some 4, _, _, _, _, _⟩) (v := ?_) rfl rfl (by kernel_rfl) (by kernel_rfl) (by kernel_rfl) (fun _ _ _ h => h) ⟨Or.inl ⟨by kernel_rfl, ?_⟩, fun _ => rfl⟩ ?_
            rotate_left
            · (intro w; go_simp; try with_reducible rfl)
            (repeat (first | simp only [Act.put] | simp only [List.setIfInBounds_toArray] | simp only [List.set_cons_succ] | simp only [List.set_cons_zero]))
            refine wpAnyIn_done (by kernel_rfl) ?_ _
            gi_wp2_with fail
            go_ret
            exact .inl ⟨rfl, by simpa [List.append_assoc] using hJ3, ((Fr.refl S W).drew.t hF1).t (hF2.t hF3)⟩
          · refine hK _ _ ?_
            clear hK K
            (repeat (first | simp only [Act.put] | simp only [List.setIfInBounds_toArray] | simp only [List.set_cons_succ] | simp only [List.set_cons_zero]))
            refine wpAnyIn_take (i := 28) (oi := ⟨some 33, _, _, _, _, _⟩) (v := ?_) rfl rfl (by kernel_rfl) (by kernel_rfl) (by kernel_rfl) (fun _ _ _ h => h) ⟨Or.inl ⟨by kernel_rfl, ?_⟩, fun _ => rfl⟩ ?_
            rotate_left
            · (intro w; go_simp; try with_reducible rfl)
            (repeat (first | simp only [Act.put] | simp only [List.setIfInBounds_toArray] | simp only [List.set_cons_succ] | simp only [List.set_cons_zero]))
            refine wpAnyIn_take (i := 29) (oi := ⟨some 34, _, _, _, _, _⟩) (v := ?_) rfl rfl (by kernel_rfl) (by kernel_rfl) (by kernel_rfl) (fun _ _ _ h => h) ⟨Or.inl ⟨by kernel_rfl, ?_⟩, fun _ => rfl⟩ ?_
            rotate_left
            · (intro w; go_simp; try with_reducible rfl)
            (repeat (first | simp only [Act.put] | simp only [List.setIfInBounds_toArray] | simp only [List.set_cons_succ] | simp only [List.set_cons_zero]))
            refine wpAnyIn_take (i := 30) (oi := ⟨some 4, _, _, _, _, _⟩) (v := ?_) rfl rfl (by kernel_rfl) (by kernel_rfl) (by kernel_rfl) (fun _ _ _ h => h) ⟨Or.inl ⟨by kernel_rfl, ?_⟩, fun _ => rfl⟩ ?_
            rotate_left
            · (intro w; go_simp; try with_reducible rfl)
            (repeat (first | simp only [Act.put] | simp only [List.setIfInBounds_toArray] | simp only [List.set_cons_succ] | simp only [List.set_cons_zero]))
            refine wpAnyIn_done (by kernel_rfl) ?_ _
            gi_wp2_with fail
            go_ret
            obtain ⟨z, hz⟩ := hq
            exact .inr ⟨rfl, l.items ++ (k, Value.slice va q.length vc) :: q2, ⟨z, by simp [← hz]⟩, by simpa [List.append_assoc] using hx⟩
        · refine hK _ _ ?_
          clear hK K
          (repeat (first | simp only [Act.put] | simp only [List.setIfInBounds_toArray] | simp only [List.set_cons_succ] | simp only [List.set_cons_zero]))
          refine wpAnyIn_take (i := 20) (oi := ⟨some 25, _, _, _, _, _⟩) (v := ?_) rfl rfl (by kernel_rfl) (by kernel_rfl) (by kernel_rfl) (fun _ _ _ h => h) ⟨Or.inl ⟨by kernel_rfl, ?_⟩, fun _ => rfl⟩ ?_
          rotate_left
          · (intro w; go_simp; try with_reducible rfl)
          (repeat (first | simp only [Act.put] | simp only [List.setIfInBounds_toArray] | simp only [List.set_cons_succ] | simp only [List.set_cons_zero]))
          refine wpAnyIn_take (i := 21) (oi := ⟨some 26, _, _, _, _, _⟩) (v := ?_) rfl rfl (by kernel_rfl) (by kernel_rfl) (by kernel_rfl) (fun _ _ _ h => h) ⟨Or.inl ⟨by kernel_rfl, ?_⟩, fun _ => rfl⟩ ?_
          rotate_left
          · (intro w; go_simp; try with_reducible rfl)
          (repeat (first | simp only [Act.put] | simp only [List.setIfInBounds_toArray] | simp only [List.set_cons_succ] | simp only [List.set_cons_zero]))
          refine wpAnyIn_take (i := 22) (oi := ⟨some 27, _, _, _, _, _⟩) (v := undef) rfl rfl (by kernel_rfl) (by kernel_rfl) (by kernel_rfl) (fun _ _ _ h => h) ⟨Or.inr ⟨by kernel_rfl, rfl⟩, fun _ => rfl⟩ ?_
          (repeat (first | simp only [Act.put] | simp only [List.setIfInBounds_toArray] | simp only [List.set_cons_succ] | simp only [List.set_cons_zero]))
          refine wpAnyIn_take (i := 23) (oi := ⟨some 28, _, _, _, _, _⟩) (v := undef) rfl rfl (by kernel_rfl) (by kernel_rfl) (by kernel_rfl) (fun _ _ _ h => h) ⟨Or.inr ⟨by kernel_rfl, rfl⟩, fun _ => rfl⟩ ?_
          (repeat (first | simp only [Act.put] | simp only [List.setIfInBounds_toArray] | simp only [List.set_cons_succ] | simp only [List.set_cons_zero]))
          refine wpAnyIn_take (i := 24) (oi := ⟨some 29, _, _, _, _, _⟩) (v := undef) rfl rfl (by kernel_rfl) (by kernel_rfl) (by kernel_rfl) (fun _ _ _ h => h) ⟨Or.inr ⟨by kernel_rfl, rfl⟩, fun _ => rfl⟩ ?_
          (repeat (first | simp only [Act.put] | simp only [List.setIfInBounds_toArray] | simp only [List.set_cons_succ] | simp only [List.set_cons_zero]))
          refine wpAnyIn_take (i := 25) (oi := ⟨some 30, _, _, _, _, _⟩) (v := undef) rfl rfl (by kernel_rfl) (by kernel_rfl) (by kernel_rfl) (fun _ _ _ h => h) ⟨Or.inr ⟨by kernel_rfl, rfl⟩, fun _ => rfl⟩ ?_
          (repeat (first | simp only [Act.put] | simp only [List.setIfInBounds_toArray] | simp only [List.set_cons_succ] | simp only [List.set_cons_zero]))
          refine wpAnyIn_take (i := 26) (oi := ⟨some 31, _, _, _, _, _⟩) (v := undef) rfl rfl (by kernel_rfl) (by kernel_rfl) (by kernel_rfl) (fun _ _ _ h => h) ⟨Or.inr ⟨by kernel_rfl, rfl⟩, fun _ => rfl⟩ ?_
          (repeat (first | simp only [Act.put] | simp only [List.setIfInBounds_toArray] | simp only [List.set_cons_succ] | simp only [List.set_cons_zero]))
          refine wpAnyIn_ready (rs := [27]) (by kernel_rfl) (by simp) ?_
          refine AllReadyIn.cons (o := ⟨some 32, _, _, _, _, _⟩) rfl (fun K hK => ?_) AllReadyIn.nil
          go_simp
          refine ⟨trivial, ?_⟩
          refine hK _ _ ?_
          clear hK K
          (repeat (first | simp only [Act.put] | simp only [List.setIfInBounds_toArray] | simp only [List.set_cons_succ] | simp only [List.set_cons_zero]))
          refine wpAnyIn_take (i := 28) (oi := ⟨some 33, _, _, _, _, _⟩) (v := ?_) rfl rfl (by kernel_rfl) (by kernel_rfl) (by kernel_rfl) (fun _ _ _ h => h) ⟨Or.inl ⟨by kernel_rfl, ?_⟩, fun _ => rfl⟩ ?_
          rotate_left
          · (intro w; go_simp; try with_reducible rfl)
          (repeat (first | simp only [Act.put] | simp only [List.setIfInBounds_toArray] | simp only [List.set_cons_succ] | simp only [List.set_cons_zero]))
          refine wpAnyIn_take (i := 29) (oi := ⟨some 34, _, _, _, _, _⟩) (v := ?_) rfl rfl (by kernel_rfl) (by kernel_rfl) (by kernel_rfl) (fun _ _ _ h => h) ⟨Or.inl ⟨by kernel_rfl, ?_⟩, fun _ => rfl⟩ ?_
          rotate_left
          · (intro w; go_simp; try with_reducible rfl)
          (repeat (first | simp only [Act.put] | simp only [List.setIfInBounds_toArray] | simp only [List.set_cons_succ] | simp only [List.set_cons_zero]))
          refine wpAnyIn_take (i := 30) (oi := ⟨some 4, _, _, _, _, _⟩) (v := ?_) rfl rfl (by kernel_rfl) (by kernel_rfl) (by kernel_rfl) (fun _ _ _ h => h) ⟨Or.inl ⟨by kernel_rfl, ?_⟩, fun _ => rfl⟩ ?_
          rotate_left
          · (intro w; go_simp; try with_reducible rfl)
          (repeat (first | simp only [Act.put] | simp only [List.setIfInBounds_toArray] | simp only [List.set_cons_succ] | simp only [List.set_cons_zero]))
          refine wpAnyIn_done (by kernel_rfl) ?_ _
          gi_wp2_with fail
          go_ret
          exact .inr ⟨rfl, l.items ++ [(k, Value.slice va q.length vc)], ⟨r.items, by simp⟩, by simpa [List.append_assoc] using hx⟩
    · refine hK _ _ ?_
      clear hK K
      (repeat (first | simp only [Act.put] | simp only [List.setIfInBounds_toArray] | simp only [List.set_cons_succ] | simp only [List.set_cons_zero]))
      refine wpAnyIn_take (i := 9) (oi := ⟨some 14, _, _, _, _, _⟩) (v := ?_) rfl rfl (by kernel_rfl) (by kernel_rfl) (by kernel_rfl) (fun _ _ _ h => h) ⟨Or.inl ⟨by kernel_rfl, ?_⟩, fun _ => rfl⟩ ?_
      rotate_left
      · (intro w; go_simp; try with_reducible rfl)
      (repeat (first | simp only [Act.put] | simp only [List.setIfInBounds_toArray] | simp only [List.set_cons_succ] | simp only [List.set_cons_zero]))
      refine wpAnyIn_take (i := 10) (oi := ⟨some 15, _, _, _, _, _⟩) (v := undef) rfl rfl (by kernel_rfl) (by kernel_rfl) (by kernel_rfl) (fun _ _ _ h => h) ⟨Or.inr ⟨by kernel_rfl, rfl⟩, fun _ => rfl⟩ ?_
      (repeat (first | simp only [Act.put] | simp only [List.setIfInBounds_toArray] | simp only [List.set_cons_succ] | simp only [List.set_cons_zero]))
      refine wpAnyIn_take (i := 11) (oi := ⟨some 16, _, _, _, _, _⟩) (v := undef) rfl rfl (by kernel_rfl) (by kernel_rfl) (by kernel_rfl) (fun _ _ _ h => h) ⟨Or.inr ⟨by kernel_rfl, rfl⟩, fun _ => rfl⟩ ?_
      (repeat (first | simp only [Act.put] | simp only [List.setIfInBounds_toArray] | simp only [List.set_cons_succ] | simp only [List.set_cons_zero]))
      refine wpAnyIn_take (i := 12) (oi := ⟨some 17, _, _, _, _, _⟩) (v := undef) rfl rfl (by kernel_rfl) (by kernel_rfl) (by kernel_rfl) (fun _ _ _ h => h) ⟨Or.inr ⟨by kernel_rfl, rfl⟩, fun _ => rfl⟩ ?_
      (repeat (first | simp only [Act.put] | simp only [List.setIfInBounds_toArray] | simp only [List.set_cons_succ] | simp only [List.set_cons_zero]))
      refine wpAnyIn_take (i := 13) (oi := ⟨some 18, _, _, _, _, _⟩) (v := undef) rfl rfl (by kernel_rfl) (by kernel_rfl) (by kernel_rfl) (fun _ _ _ h => h) ⟨Or.inr ⟨by kernel_rfl, rfl⟩, fun _ => rfl⟩ ?_
      (repeat (first | simp only [Act.put] | simp only [List.setIfInBounds_toArray] | simp only [List.set_cons_succ] | simp only [List.set_cons_zero]))
      refine wpAnyIn_take (i := 14) (oi := ⟨some 19, _, _, _, _, _⟩) (v := undef) rfl rfl (by kernel_rfl) (by kernel_rfl) (by kernel_rfl) (fun _ _ _ h => h) ⟨Or.inr ⟨by kernel_rfl, rfl⟩, fun _ => rfl⟩ ?_
      (repeat (first | simp only [Act.put] | simp only [List.setIfInBounds_toArray] | simp only [List.set_cons_succ] | simp only [List.set_cons_zero]))
      refine wpAnyIn_take (i := 15) (oi := ⟨some 20, _, _, _, _, _⟩) (v := undef) rfl rfl (by kernel_rfl) (by kernel_rfl) (by kernel_rfl) (fun _ _ _ h => h) ⟨Or.inr ⟨by kernel_rfl, rfl⟩, fun _ => rfl⟩ ?_
      (repeat (first | simp only [Act.put] | simp only [List.setIfInBounds_toArray] | simp only [List.set_cons_succ] | simp only [List.set_cons_zero]))
      refine wpAnyIn_take (i := 16) (oi := ⟨some 21, _, _, _, _, _⟩) (v := undef) rfl rfl (by kernel_rfl) (by kernel_rfl) (by kernel_rfl) (fun _ _ _ h => h) ⟨Or.inr ⟨by kernel_rfl, rfl⟩, fun _ => rfl⟩ ?_
      (repeat (first | simp only [Act.put] | simp only [List.setIfInBounds_toArray] | simp only [List.set_cons_succ] | simp only [List.set_cons_zero]))
      refine wpAnyIn_take (i := 17) (oi := ⟨some 22, _, _, _, _, _⟩) (v := undef) rfl rfl (by kernel_rfl) (by kernel_rfl) (by kernel_rfl) (fun _ _ _ h => h) ⟨Or.inr ⟨by kernel_rfl, rfl⟩, fun _ => rfl⟩ ?_
      (repeat (first | simp only [Act.put] | simp only [List.setIfInBounds_toArray] | simp only [List.set_cons_succ] | simp only [List.set_cons_zero]))
      refine wpAnyIn_take (i := 18) (oi := ⟨some 23, _, _, _, _, _⟩) (v := undef) rfl rfl (by kernel_rfl) (by kernel_rfl) (by kernel_rfl) (fun _ _ _ h => h) ⟨Or.inr ⟨by kernel_rfl, rfl⟩, fun _ => rfl⟩ ?_
      (repeat (first | simp only [Act.put] | simp only [List.setIfInBounds_toArray] | simp only [List.set_cons_succ] | simp only [List.set_cons_zero]))
      refine wpAnyIn_ready (rs := [19]) (by kernel_rfl) (by simp) ?_
      refine AllReadyIn.cons (o := ⟨some 24, _, _, _, _, _⟩) rfl (fun K hK => ?_) AllReadyIn.nil
      go_simp
      (try refine ⟨fun _ h => (by cases h), ?_⟩)
      refine hK _ _ ?_
      clear hK K
      (repeat (first | simp only [Act.put] | simp only [List.setIfInBounds_toArray] | simp only [List.set_cons_succ] | simp only [List.set_cons_zero]))
      refine wpAnyIn_take (i := 20) (oi := ⟨some 25, _, _, _, _, _⟩) (v := ?_) rfl rfl (by kernel_rfl) (by kernel_rfl) (by kernel_rfl) (fun _ _ _ h => h) ⟨Or.inl ⟨by kernel_rfl, ?_⟩, fun _ => rfl⟩ ?_
      rotate_left
      · (intro w; go_simp; try with_reducible rfl)
      (repeat (first | simp only [Act.put] | simp only [List.setIfInBounds_toArray] | simp only [List.set_cons_succ] | simp only [List.set_cons_zero]))
      refine wpAnyIn_take (i := 21) (oi := ⟨some 26, _, _, _, _, _⟩) (v := ?_) rfl rfl (by kernel_rfl) (by kernel_rfl) (by kernel_rfl) (fun _ _ _ h => h) ⟨Or.inl ⟨by kernel_rfl, ?_⟩, fun _ => rfl⟩ ?_
      rotate_left
      · (intro w; go_simp; try with_reducible rfl)
      (repeat (first | simp only [Act.put] | simp only [List.setIfInBounds_toArray] | simp only [List.set_cons_succ] | simp only [List.set_cons_zero]))
      refine wpAnyIn_take (i := 22) (oi := ⟨some 27, _, _, _, _, _⟩) (v := undef) rfl rfl (by kernel_rfl) (by kernel_rfl) (by kernel_rfl) (fun _ _ _ h => h) ⟨Or.inr ⟨by kernel_rfl, rfl⟩, fun _ => rfl⟩ ?_
      (repeat (first | simp only [Act.put] | simp only [List.setIfInBounds_toArray] | simp only [List.set_cons_succ] | simp only [List.set_cons_zero]))
      refine wpAnyIn_take (i := 23) (oi := ⟨some 28, _, _, _, _, _⟩) (v := undef) rfl rfl (by kernel_rfl) (by kernel_rfl) (by kernel_rfl) (fun _ _ _ h => h) ⟨Or.inr ⟨by kernel_rfl, rfl⟩, fun _ => rfl⟩ ?_
      (repeat (first | simp only [Act.put] | simp only [List.setIfInBounds_toArray] | simp only [List.set_cons_succ] | simp only [List.set_cons_zero]))
      refine wpAnyIn_take (i := 24) (oi := ⟨some 29, _, _, _, _, _⟩) (v := undef) rfl rfl (by kernel_rfl) (by kernel_rfl) (by kernel_rfl) (fun _ _ _ h => h) ⟨Or.inr ⟨by kernel_rfl, rfl⟩, fun _ => rfl⟩ ?_
      (repeat (first | simp only [Act.put] | simp only [List.setIfInBounds_toArray] | simp only [List.set_cons_succ] | simp only [List.set_cons_zero]))
      refine wpAnyIn_take (i := 25) (oi := ⟨some 30, _, _, _, _, _⟩) (v := undef) rfl rfl (by kernel_rfl) (by kernel_rfl) (by kernel_rfl) (fun _ _ _ h => h) ⟨Or.inr ⟨by kernel_rfl, rfl⟩, fun _ => rfl⟩ ?_
      (repeat (first | simp only [Act.put] | simp only [List.setIfInBounds_toArray] | simp only [List.set_cons_succ] | simp only [List.set_cons_zero]))
      refine wpAnyIn_take (i := 26) (oi := ⟨some 31, _, _, _, _, _⟩) (v := undef) rfl rfl (by kernel_rfl) (by kernel_rfl) (by kernel_rfl) (fun _ _ _ h => h) ⟨Or.inr ⟨by kernel_rfl, rfl⟩, fun _ => rfl⟩ ?_
      (repeat (first | simp only [Act.put] | simp only [List.setIfInBounds_toArray] | simp only [List.set_cons_succ] | simp only [List.set_cons_zero]))
      refine wpAnyIn_ready (rs := [27]) (by kernel_rfl) (by simp) ?_
      refine AllReadyIn.cons (o := ⟨some 32, _, _, _, _, _⟩) rfl (fun K hK => ?_) AllReadyIn.nil
      go_simp
      refine ⟨trivial, ?_⟩
      refine hK _ _ ?_
      clear hK K
      (repeat (first | simp only [Act.put] | simp only [List.setIfInBounds_toArray] | simp only [List.set_cons_succ] | simp only [List.set_cons_zero]))
      refine wpAnyIn_take (i := 28) (oi := ⟨some 33, _, _, _, _, _⟩) (v := ?_) rfl rfl (by kernel_rfl) (by kernel_rfl) (by kernel_rfl) (fun _ _ _ h => h) ⟨Or.inl ⟨by kernel_rfl, ?_⟩, fun _ => rfl⟩ ?_
      rotate_left
      · (intro w; go_simp; try with_reducible rfl)
      (repeat (first | simp only [Act.put] | simp only [List.setIfInBounds_toArray] | simp only [List.set_cons_succ] | simp only [List.set_cons_zero]))
      refine wpAnyIn_take (i := 29) (oi := ⟨some 34, _, _, _, _, _⟩) (v := ?_) rfl rfl (by kernel_rfl) (by kernel_rfl) (by kernel_rfl) (fun _ _ _ h => h) ⟨Or.inl ⟨by kernel_rfl, ?_⟩, fun _ => rfl⟩ ?_
      rotate_left
      · (intro w; go_simp; try with_reducible rfl)
      (repeat (first | simp only [Act.put] | simp only [List.setIfInBounds_toArray] | simp only [List.set_cons_succ] | simp only [List.set_cons_zero]))
      refine wpAnyIn_take (i := 30) (oi := ⟨some 4, _, _, _, _, _⟩) (v := ?_) rfl rfl (by kernel_rfl) (by kernel_rfl) (by kernel_rfl) (fun _ _ _ h => h) ⟨Or.inl ⟨by kernel_rfl, ?_⟩, fun _ => rfl⟩ ?_
      rotate_left
      · (intro w; go_simp; try with_reducible rfl)
      (repeat (first | simp only [Act.put] | simp only [List.setIfInBounds_toArray] | simp only [List.set_cons_succ] | simp only [List.set_cons_zero]))
      refine wpAnyIn_done (by kernel_rfl) ?_ _
      gi_wp2_with fail
      go_ret
      exact .inr ⟨rfl, q2, hq.trans (List.prefix_append _ _), hx⟩
end Go.Proofs.Ytgbmgdffgmablaa

/- grove: each. -/
namespace Go.Proofs.Ytgbmgdffgmablaa
open Go.RowKit Go.Shelf Go.Sort Go.Maps Go.Lib
set_option linter.unusedVariables false

attribute [local go_sem] Oper.semAt_some

set_option maxRecDepth 100000 in
set_option maxHeartbeats 4000000 in
theorem each1_in (n ll Bt tb sb : Nat) (S : Nat → Prop) (T : Tr) (I : Int × Value → Prop) (J Jx : List (Int × Value) → World → Prop) (hJd : ∀ pre W, J pre W → J pre W.drew)
    (hY : ∀ m pre x W, J pre W → pre.length < T.items.length → I x → YieldAt Fence.wide m Try.prog ll #[.int .i64 x.1, x.2] W fun e W' =>
      (e = .returned (.bool true) ∧ J (pre ++ [x]) W' ∧ Fr S W W') ∨ (e = .returned (.bool false) ∧ Jx (pre ++ [x]) W'))
    (W : World) (hBt : W.cell? ⟨Bt, 0, none⟩ = some (.pointer (some ⟨tb, 0, none⟩))) (hc : CxIn W tb sb .top T.ptr) (ht : TrIn W T) (hb : ∀ b ∈ T.blks, ¬ S b) (hv : ∀ v ∈ T.vals, ∀ k, v.ownBlock = some k → ¬ S k) (hI : ∀ x ∈ T.items, I x) (h0 : J [] W) :
    CallsIn Fence.wide n Try.prog 53 #[.func (.yield ll) #[] #[], .pointer (some ⟨Bt, 0, none⟩)] W fun e W' => (∃ v, e = .returned v) ∧
      ((∃ ys, ys = T.items ∧ J ys W') ∨ (∃ pre, pre <+: T.items ∧ Jx pre W')) := by
  have HP := Lib.hid (trwalk_in ll S T.items.length I J Jx hJd hY T (n - 1) [] W ht hb hv hI h0 (by simp))
  have c1 := (cx_hole hc).1
  obtain ⟨pt, hpt⟩ : ∃ p, T.ptr = .pointer p := by cases T <;> exact ⟨_, rfl⟩
  rw [hpt] at c1 HP
  have c1' : W.cell? ⟨tb, 1, none⟩ = some (.pointer pt) := c1
  clear hY hJd hc ht hb hv hI h0 c1
  refine callsIn_of_wp Try.func53 rfl trivial ?_ rfl
  simp only [Try.ntmps53, List.size_toArray, List.length_cons, List.length_nil, Nat.reduceAdd, Nat.reduceSub, Array.replicate_succ, Array.replicate_zero, List.push_toArray, List.append_toArray, List.nil_append, List.cons_append]
  gi_wp2_with ((first | refine ⟨trivial, fun h => (by cases h), ?_⟩ | refine ⟨trivial, ?_⟩ | refine ⟨fun h => (by cases h), ?_⟩); refine HP.out.mono ?_; clear HP; rintro e W1 (⟨rfl, hJ1, _⟩ | ⟨rfl, q, hq, hx⟩))
  · go_end0
    exact ⟨⟨_, rfl⟩, .inl ⟨_, rfl, by simpa using hJ1⟩⟩
  · go_end0
    exact ⟨⟨_, rfl⟩, .inr ⟨q, hq, by simpa using hx⟩⟩
end Go.Proofs.Ytgbmgdffgmablaa

/- grove, plain: the orders' map as it reads; the book's two sides by its rows. -/
namespace Go.Proofs.Ytgbmgdffgmablaa
open Go.RowKit Go.Sort Go.Lib Go.Maps
set_option linter.unusedVariables false

def zO : Od := ⟨0, 0, 0, 0, 0, 0⟩
def Ids (L : List Od) : Prop := L.Pairwise (fun x y => ¬ x.id = y.id)
/-- The order with that ID. -/
def omL (L : List Od) (id : Int) : Option Od := L.find? (fun x => x.id == id)
theorem ids_eq : ∀ {L : List Od}, Ids L → ∀ {x y : Od}, x ∈ L → y ∈ L → x.id = y.id → x = y
  | [], _, x, y, hx, _, _ => (by cases hx)
  | z :: L, h, x, y, hx, hy, e => by
    obtain ⟨h1, h2⟩ := List.pairwise_cons.1 h
    rcases List.mem_cons.1 hx with ex | hx
    · rcases List.mem_cons.1 hy with ey | hy
      · rw [ex, ey]
      · rw [ex] at e; exact absurd e (h1 y hy)
    · rcases List.mem_cons.1 hy with ey | hy
      · rw [ey] at e; exact absurd e.symm (h1 x hx)
      · exact ids_eq h2 hx hy e
theorem omL_some {L : List Od} (h : Ids L) {id : Int} {x : Od} : omL L id = some x ↔ x ∈ L ∧ x.id = id := by
  unfold omL
  constructor
  · intro hf
    exact ⟨List.mem_of_find?_eq_some hf, by have := List.find?_some hf; simpa using this⟩
  · rintro ⟨hx, rfl⟩
    cases hf : L.find? (fun y => y.id == x.id) with
    | none =>
      have := List.find?_eq_none.1 hf x hx
      simp at this
    | some y =>
      have e1 := List.mem_of_find?_eq_some hf
      have e2 := List.find?_some hf
      simp at e2
      rw [ids_eq h e1 hx e2]
theorem omL_none {L : List Od} {id : Int} : omL L id = none ↔ ∀ x ∈ L, ¬ x.id = id := by
  unfold omL
  rw [List.find?_eq_none]
  simp
theorem idsP {L M : List Od} (h : Ids L) (hp : L.Perm M) : Ids M := hp.pairwise h (fun h e => h e.symm)
theorem omL_perm {L M : List Od} (h : Ids L) (hp : L.Perm M) (id : Int) : omL L id = omL M id := by
  apply Option.ext
  intro x
  rw [omL_some h, omL_some (idsP h hp), hp.mem_iff]
theorem omL_cons (x : Od) (L : List Od) (id : Int) : omL (x :: L) id = if id = x.id then some x else omL L id := by
  unfold omL
  rw [List.find?_cons]
  by_cases e : id = x.id
  · subst e; simp
  · rw [if_neg e]
    have : (x.id == id) = false := by simp; exact fun h => e h.symm
    rw [this]
theorem omL_drop (L : List Od) (k id : Int) : omL (L.filter (fun x => !(x.id == k))) id = if id = k then none else omL L id := by
  by_cases e : id = k
  · subst e
    rw [if_pos rfl, omL_none]
    intro x hx
    have := (List.mem_filter.1 hx).2
    simpa using this
  · rw [if_neg e]
    unfold omL
    rw [List.find?_filter]
    congr 1
    funext x
    by_cases h : x.id = id
    · have : ¬ x.id = k := fun h2 => e (h.symm.trans h2)
      simp [h, e]
    · simp [h]
/-- How the orders' map reads. -/
structure OmT (D : DataW Value) (L : List Od) : Prop where
  tidy : Tidy D
  at_ : ∀ id, D.atKey (.int .u64 id) (.held zO.val) = .held ((omL L id).getD zO).val
  has : ∀ id, Maps.has D (.int .u64 id) = (omL L id).isSome
  size : Maps.size D = L.length
theorem omT_empty : OmT (.map []) [] := ⟨tidy_empty, fun _ => rfl, fun _ => rfl, rfl⟩
theorem OmT.of {D : DataW Value} {L M : List Od} (h : OmT D L) (hf : ∀ id, omL M id = omL L id) (hl : M.length = L.length) : OmT D M :=
  ⟨h.tidy, fun id => by rw [hf, h.at_], fun id => by rw [hf, h.has], by rw [hl, h.size]⟩
theorem OmT.perm {D : DataW Value} {L M : List Od} (h : OmT D L) (hd : Ids L) (hp : L.Perm M) : OmT D M :=
  h.of (fun id => (omL_perm hd hp id).symm) hp.length_eq.symm
theorem lit_ne {a b : Int} (h : ¬ a = b) : (Lit.int .u64 a) ≠ (Lit.int .u64 b) := fun e => by injection e with _ e; exact h e
theorem OmT.put {D : DataW Value} {L M : List Od} (h : OmT D L) (x : Od) (hk : WideAt.IsKeyLit (.int .u64 x.id)) (hf : ∀ id, omL M id = if id = x.id then some x else omL L id) (hl : M.length = if (omL L x.id).isSome = true then L.length else L.length + 1) :
    OmT (D.put (.int .u64 x.id) (.held x.val)) M := by
  refine ⟨h.tidy.put hk _, fun id => ?_, fun id => ?_, ?_⟩
  · rw [hf]
    by_cases e : id = x.id
    · subst e; rw [if_pos rfl, atKey_put_same h.tidy.isMap hk]; rfl
    · rw [if_neg e, atKey_put_other (lit_ne e), h.at_]
  · rw [hf]
    by_cases e : id = x.id
    · subst e; rw [if_pos rfl, has_put_same h.tidy.isMap hk]; rfl
    · rw [if_neg e, has_put_other (lit_ne e), h.has]
  · rw [size_put h.tidy, h.has, h.size, hl]
theorem OmT.del {D : DataW Value} {L M : List Od} (h : OmT D L) (k : Int) (hf : ∀ id, omL M id = if id = k then none else omL L id) (hl : M.length + (if (omL L k).isSome = true then 1 else 0) = L.length) :
    OmT (D.del (.int .u64 k)) M := by
  refine ⟨h.tidy.del _, fun id => ?_, fun id => ?_, ?_⟩
  · rw [hf]
    by_cases e : id = k
    · subst e; rw [if_pos rfl, atKey_del_same]; rfl
    · rw [if_neg e, atKey_del_other (lit_ne e), h.at_]
  · rw [hf]
    by_cases e : id = k
    · subst e; rw [if_pos rfl, has_del_same]; rfl
    · rw [if_neg e, has_del_other (lit_ne e), h.has]
  · have := size_del (k := .int .u64 k) h.tidy
    rw [h.has, h.size] at this
    omega

/-- A row's price and IDs. -/
def rqOf (r : Rw) : Rq := (r.pr, r.q.map (·.id))
theorem rq_fst (r : Rw) : (rqOf r).1 = r.pr := rfl
/-- No two queues lie in one block. -/
def VD (l : List Value) : Prop := l.Pairwise (fun u v => ∀ j, u.ownBlock = some j → v.ownBlock ≠ some j)
theorem VD.perm {l m : List Value} (h : VD l) (hp : l.Perm m) : VD m := hp.pairwise h (fun h j hj hi => h j hi hj)
/-- Where a sorted row is parted at a price, in one way alone. -/
theorem part_one {s p : Int} {A B P Q : List Rw} {M R : List Rw} (h : A ++ M ++ B = P ++ R ++ Q) (hA : ∀ a ∈ A, betN s a.pr p = true) (hM : ∀ a ∈ M, a.pr = p) (hB : ∀ b ∈ B, betN s p b.pr = true)
    (hP : ∀ a ∈ P, betN s a.pr p = true) (hR : ∀ a ∈ R, a.pr = p) (hQ : ∀ b ∈ Q, betN s p b.pr = true) : A = P ∧ M = R ∧ B = Q := by
  have irr : ∀ x : Int, betN s x x = false := fun x => by
    cases hx : betN s x x with
    | false => rfl
    | true => rw [bet_iff] at hx; omega
  have asy : ∀ x y : Int, betN s x y = true → betN s y x = false := fun x y hx => by
    cases hy : betN s y x with
    | false => rfl
    | true => have := bet_trans hx hy; rw [irr] at this; cases this
  have key : ∀ (X Y Z : List Rw), (∀ a ∈ X, betN s a.pr p = true) → (∀ a ∈ Y, a.pr = p) → (∀ a ∈ Z, betN s p a.pr = true) →
      X = (X ++ Y ++ Z).filter (fun a => betN s a.pr p) ∧ Y = (X ++ Y ++ Z).filter (fun a => a.pr == p) ∧ Z = (X ++ Y ++ Z).filter (fun a => betN s p a.pr) := by
    intro X Y Z hX hY hZ
    refine ⟨?_, ?_, ?_⟩
    · rw [List.filter_append, List.filter_append, List.filter_eq_self.2 hX, List.filter_eq_nil_iff.2 (fun a ha => by rw [hY a ha, irr]; decide), List.filter_eq_nil_iff.2 (fun a ha => by rw [asy _ _ (hZ a ha)]; decide)]
      simp
    · rw [List.filter_append, List.filter_append, List.filter_eq_nil_iff.2 (fun a ha => by
        intro e
        have := hX a ha
        rw [beq_iff_eq.1 e, irr] at this; cases this), List.filter_eq_self.2 (fun a ha => by rw [hY a ha]; simp), List.filter_eq_nil_iff.2 (fun a ha => by
        intro e
        have := hZ a ha
        rw [beq_iff_eq.1 e, irr] at this; cases this)]
      simp
    · rw [List.filter_append, List.filter_append, List.filter_eq_nil_iff.2 (fun a ha => by rw [asy _ _ (hX a ha)]; decide), List.filter_eq_nil_iff.2 (fun a ha => by rw [hY a ha, irr]; decide), List.filter_eq_self.2 hZ]
      simp
  have k1 := key A M B hA hM hB
  have k2 := key P R Q hP hR hQ
  rw [h] at k1
  exact ⟨k1.1.trans k2.1.symm, k1.2.1.trans k2.2.1.symm, k1.2.2.trans k2.2.2.symm⟩
/-- The same, of rows as the tree has them. -/
theorem part_rq {s p : Int} {Rs : List Rw} {A B : List Rw} {M : List Rw} (hs : Rs = A ++ M ++ B) (hA : ∀ a ∈ A, betN s a.pr p = true) (hM : ∀ a ∈ M, a.pr = p) (hB : ∀ b ∈ B, betN s p b.pr = true)
    {P R Q : List Rq} (h : Rs.map rqOf = P ++ R ++ Q) (hP : ∀ a ∈ P, betN s a.1 p = true) (hR : ∀ a ∈ R, a.1 = p) (hQ : ∀ b ∈ Q, betN s p b.1 = true) : A.map rqOf = P ∧ M.map rqOf = R ∧ B.map rqOf = Q := by
  obtain ⟨X, Z, rfl, hXP, hZ⟩ := List.map_eq_append_iff.1 h
  obtain ⟨X, Y, rfl, hX, hY⟩ := List.map_eq_append_iff.1 hXP
  have mem : ∀ {l : List Rw} {m : List Rq} {f : Int → Prop}, l.map rqOf = m → (∀ a ∈ m, f a.1) → ∀ a ∈ l, f a.pr := fun hl hm a ha => hm (rqOf a) (by rw [← hl]; exact List.mem_map_of_mem ha)
  obtain ⟨rfl, rfl, rfl⟩ := part_one hs.symm hA hM hB (mem (f := fun x => betN s x p = true) hX hP) (mem (f := fun x => x = p) hY hR) (mem (f := fun x => betN s p x = true) hZ hQ)
  exact ⟨hX, hY, hZ⟩
end Go.Proofs.Ytgbmgdffgmablaa

/- slices.Insert of one uint64: the old slice behind it. (By mkgwk.py.) -/
namespace Go.Proofs.Ytgbmgdffgmablaa
open Go.RowKit Go.Sort Go.Lib Go.Shelf

/-- append to a full row: a new one; nothing else turns. -/
theorem app_full (w : World) (base n g : Nat) (xs : List Value) (ys : List Value) (ad : Addr) (cc : Nat) (ty : TypeId) (i0 : TypeInfo) (hi0 : Try.prog.info? 22 = some i0) (hz0 : i0.zero = some (.int .u64 0)) (hz1 : i0.size = 1) (hz2 : i0.bytes = 8)
    (hown : w.ownsRow base 22 1 (.slice (some ⟨g, 0, none⟩) n n) n xs) (hl : ys.length = 1) (hnews : ∀ j u, ys[j]? = some u → w.cell? (ad.add j) = some u) (hn : n ≤ 1000) (hb : base ≤ w.heap.size) :
    ∃ v' w', (Builtin.append_ #[66, 66] ty #[.slice (some ⟨g, 0, none⟩) n n, .slice (some ad) 1 cc]).run Try.prog w = .ok v' w' ∧ w'.ownsRow base 22 1 v' (n + 1) (xs ++ ys) ∧ w.grownBy w' none ∧ v'.ownBlock = some w.heap.size := by
  have holds : ∀ j u, xs[j]? = some u → w.cell? ((⟨g, 0, none⟩ : Addr).add j) = some u := hown.cells (g := g) rfl
  have hr := run_append_grow (P := Try.prog) w 66 ty 22 i0 (.int .u64 0) Try.underlying66 hi0 hz0 ⟨g, 0, none⟩ n n xs (by rw [hz1]; exact hown.1) holds ad 1 cc ys (by rw [hz1]; exact hl) hnews (by omega) (by omega) (growslice_fits (by omega) (by rw [hz2]; omega))
  have hge := grownCap_ge w (n + 1) n 22
  have hcm : grownCap w (n + 1) n 22 ≤ maxLen := grownCap_le_maxLen w (n + 1) n 22 (by unfold maxLen; omega)
  have hlen : (xs ++ ys).length = (n + 1) * 1 := by rw [List.length_append, hown.1, hl]; omega
  refine ⟨_, _, hr, ⟨hlen, .inr ⟨w.heap.size, _, _, rfl, hb, heap_alloc_new w.drew _, hge, hcm, ?_, ?_⟩⟩, ⟨rfl, rfl, rfl, by simp, fun k hk _ => heap_alloc_old w.drew _ hk⟩, rfl⟩
  · have := hown.1
    simp only [Array.size_append, List.size_toArray, size_zeroCells, hl, Value.cells]
    simp
    omega
  · simp only [Array.toList_append, List.append_assoc]
    rw [← List.append_assoc, ← hlen]
    exact List.take_left
set_option maxHeartbeats 4000000 in
set_option maxRecDepth 100000 in
theorem insB_U (w : World) (base n : Nat) (v : Value) (xs ys : List Value) (vb : Nat) (hown : w.ownsRow base 22 1 v n xs) (hb : base ≤ w.heap.size) (hn : n ≤ 1000) (hv : w.heap[vb]? = some (.cells ys.toArray 22 (0, 0))) (hy : ys.length = 1) (h2 : ∀ v ∈ ys, v.oneCell' = true) :
    Calls Try.prog 52 #[v, .int .i64 n, .slice (some ⟨vb, 0, none⟩) 1 1] w fun e w' => ∃ v', e = .returned v' ∧ Hid (w'.ownsRow base 22 1 v' (n + 1) (xs ++ ys) ∧ w.grownBy w' v.ownBlock ∧ ((v'.ownBlock = some w.heap.size ∧ w.grownBy w' none) ∨ ∃ g c, v = .slice (some ⟨g, 0, none⟩) n c ∧ v' = .slice (some ⟨g, 0, none⟩) (n + 1) c)) := by
  obtain ⟨i0, hi0, hz0, hz1, hz2⟩ := info_parts info_U
  have HO := Lib.hid hown
  have hnw : Hid (∀ (j : Nat) (u : Value), ys[j]? = some u → w.cell? ((⟨vb, 0, none⟩ : Addr).add j) = some u) := Lib.hid (fun j u hj => by
    rw [addr_add, Nat.zero_add, cell_of_row _ _ _ _ _ _ hv, List.getElem?_toArray]; exact hj)
  have q1 : IntKind.i64.wrap ((n : Int) + 1) = (n : Int) + 1 := by rw [IntKind.wrap_i64]; omega
  rcases hown.2 with ⟨rfl, rfl⟩ | ⟨g, c, cur, rfl, _, _, hc, hm, _, _⟩
  · clear hown hv
    go_enter Try.func52, Try.ntmps52
    go_wp2_with (at_builtin; refine wpList_append_own_at _ rfl _ _ 66 rfl base 22 i0 (.int .u64 0) 1 8 Try.underlying66 hi0 hz0 hz1 hz2 rfl (by decide) _ _ _ rfl HO.out ⟨vb, 0, none⟩ 1 1 ys rfl (by omega) hnw.out h2 (by unfold maxLen; omega) (by omega) hb ?_)
    intro v1 w1 k1 k2 k4 k3
    have HR : Hid (w1.ownsRow base 22 1 v1 (0 + 1) (xs ++ ys) ∧ w.grownBy w1 none ∧ v1.ownBlock = some w.heap.size) := by
      refine ⟨k1, k2, ?_⟩
      rcases k3 with h | h
      · rcases k1.2 with ⟨_, h0⟩ | ⟨g, c, cur, rfl, _⟩
        · omega
        · cases h
      · exact h
    clear k1 k2 k3 k4
    go_wp2_with fail
    go_ret
    exact ⟨_, rfl, HR.out.1, HR.out.2.1, .inl ⟨HR.out.2.2, HR.out.2.1⟩⟩
  · have hcm : c ≤ 9223372036854775807 := by unfold maxLen at hm; omega
    have q2 : (n : Int) ≤ (c : Int) := by omega
    have q3 : (c : Int) ≤ 9223372036854775807 := by omega
    clear hown hv hm
    by_cases hcn : c = n
    · subst hcn
      have HA := Lib.hid (fun ty => app_full w base c g xs ys ⟨vb, 0, none⟩ 1 ty i0 hi0 hz0 hz1 hz2 HO.out hy hnw.out hn hb)
      go_enter Try.func52, Try.ntmps52
      obtain ⟨v1, w1, hr, k1, k2, k3⟩ := HA.out 66
      have HR : Hid (w1.ownsRow base 22 1 v1 (c + 1) (xs ++ ys) ∧ w.grownBy w1 none ∧ v1.ownBlock = some w.heap.size) := ⟨k1, k2, k3⟩
      have HX := Lib.hid hr
      clear k1 k2 k3 HA hr
      go_wp2_with (at_builtin; refine wpList_append_run _ rfl _ _ _ _ rfl _ _ rfl rfl _ _ HX.out ?_)
      go_wp2_with fail
      go_ret
      have h := HR.out.2.1
      exact ⟨_, rfl, HR.out.1, ⟨h.os, h.tape, h.output, h.size, fun k hk _ => h.block k hk (by simp)⟩, .inl ⟨HR.out.2.2, h⟩⟩
    · go_enter Try.func52, Try.ntmps52
      go_wp2_with (at_builtin; refine wpList_append_fits _ rfl _ _ 66 rfl base 22 i0 1 Try.underlying66 hi0 hz1 g n c xs rfl HO.out ⟨vb, 0, none⟩ 1 1 ys rfl (by omega) hnw.out h2 (by omega) ?_)
      intro w1 k1 k2
      have HR : Hid (w1.ownsRow base 22 1 (.slice (some ⟨g, 0, none⟩) (n + 1) c) (n + 1) (xs ++ ys) ∧ w.grownBy w1 (some g)) := ⟨k1, k2⟩
      clear k1 k2
      go_wp2_with fail
      go_ret
      exact ⟨_, rfl, HR.out.1, HR.out.2, .inr ⟨g, c, rfl, rfl⟩⟩
theorem ins2_U (w : World) (base n i : Nat) (v : Value) (xs ys : List Value) (vb : Nat) (hown : w.ownsRow base 22 1 v n xs) (hb : base ≤ w.heap.size) (hn : n ≤ 1000) (hi : i ≤ n) (hvb : v.ownBlock ≠ some vb) (hv : w.heap[vb]? = some (.cells ys.toArray 22 (0, 0))) (hy : ys.length = 1) (h1 : ∀ u ∈ xs, u.oneCell' = true) (h2 : ∀ u ∈ ys, u.oneCell' = true) :
    Calls Try.prog 52 #[v, .int .i64 i, .slice (some ⟨vb, 0, none⟩) 1 1] w fun e w' => ∃ v', e = .returned v' ∧ Hid (w'.ownsRow base 22 1 v' (n + 1) (xs.take (i * 1) ++ ys ++ xs.drop (i * 1)) ∧ w.grownBy w' v.ownBlock ∧ ((v'.ownBlock = some w.heap.size ∧ w.grownBy w' none) ∨ ∃ g c, v = .slice (some ⟨g, 0, none⟩) n c ∧ v' = .slice (some ⟨g, 0, none⟩) (n + 1) c)) := by
  have hl := hown.1
  by_cases hin : i = n
  · subst hin
    refine (insB_U w base i v xs ys vb hown hb hn hv hy h2).mono fun e w' ⟨v', he, h⟩ => ⟨v', he, ?_⟩
    rw [List.take_of_length_le (by omega), List.drop_eq_nil_of_le (by omega), List.append_nil]
    exact h
  rcases hown.2 with ⟨_, h0⟩ | ⟨g, c, cur, rfl, hbg, hg, hc, hm, hs, ht⟩
  · omega
  have hvg : vb ≠ g := fun e => hvb (by rw [e]; rfl)
  have hll : cur.toList.length = c * 1 := by rw [Array.length_toList]; exact hs
  by_cases hcn : n + 1 ≤ c
  · refine (insS_U w g n c i vb cur.toList ys (by rw [Array.toArray_toList]; exact hg) hll hcn (by omega) hm hvg hv hy (by rw [ht]; exact h1) h2).mono fun e w' ⟨he, h⟩ => ⟨_, he, ?_⟩
    obtain ⟨k1, k2⟩ := insC_take (xs := xs) (i := i) (by omega) hcn hll hy ht
    refine ⟨⟨?_, .inr ⟨g, c, _, rfl, hbg, h.out.2, hcn, hm, by rw [List.size_toArray]; exact k1, k2⟩⟩, h.out.1, .inr ⟨g, c, rfl, rfl⟩⟩
    simp only [List.length_append, List.length_take, List.length_drop, hy]
    omega
  · obtain rfl : c = n := by omega
    have ex : cur = xs.toArray := by rw [← ht, List.take_of_length_le (by omega), Array.toArray_toList]
    rw [ex] at hg
    refine (insG_U w g c i vb xs ys hg hl hn (by omega) hv hy h1 h2).mono fun e w' ⟨v', he, h⟩ => ⟨v', he, own_base h.out.1 hb, ?_, .inl ⟨h.out.2.2, ⟨h.out.2.1.os, h.out.2.1.tape, h.out.2.1.output, h.out.2.1.size, fun j hj _ => h.out.2.1.block j hj⟩⟩⟩
    exact ⟨h.out.2.1.os, h.out.2.1.tape, h.out.2.1.output, h.out.2.1.size, fun j hj _ => h.out.2.1.block j hj⟩
end Go.Proofs.Ytgbmgdffgmablaa

/- grove: slices.DeleteFunc at []uint64, by Take's closure. -/
namespace Go.Proofs.Ytgbmgdffgmablaa
open Go.RowKit Go.Sort Go.Lib Go.Shelf
set_option linter.unusedVariables false

abbrev encU : Int → Value := Value.int .u64
theorem idV_enc (q : List Int) : idV q = q.map encU := rfl
set_option maxHeartbeats 4000000 in
set_option maxRecDepth 100000 in
theorem tak1_c (id x : Int) (B : Nat) (W : World) (hc : W.cell? ⟨B, 0, none⟩ = some (.int .u64 id)) :
    FnGives Try.prog 29 #[.pointer (some ⟨B, 0, none⟩)] #[.int .u64 x] (.bool (x == id)) W := by
  show Calls Try.prog 29 #[.int .u64 x, .pointer (some ⟨B, 0, none⟩)] W _
  generalize hr : (x == id) = r
  go_enter Try.func29, Try.ntmps29
  go_wp2
  all_goals (go_ret; exact ⟨by simp_all, 0, rfl⟩)
theorem holds_u {w : World} {g : Nat} {cur : Array Value} {e : TypeId} {ss : List Int} (hb : w.heap[g]? = some (.cells cur e (0, 0))) (ht : cur.toList.take ss.length = ss.map encU) : Holds encU w g 0 ss.toArray := by
  intro j hj
  have hj' : j < ss.length := by simpa using hj
  refine ⟨?_, by simp [World.frozen?, hb]⟩
  have h1 : (cur.toList.take ss.length)[j]? = (ss.map encU)[j]? := by rw [ht]
  rw [List.getElem?_take_of_lt hj'] at h1
  simp only [World.cell?, hb, Nat.zero_add]
  simp only [Option.isSome_none, Bool.false_eq_true, if_false]
  rw [← Array.getElem?_toList, h1]
  simp [hj']
theorem heap_u {w : World} {g n : Nat} {cur : Array Value} {e : TypeId} {fr : Nat × Nat} (d : Array Int) (hb : w.heap[g]? = some (.cells cur e fr)) :
    (putRow encU (Sort.ahead w n) g 0 d).heap[g]? = some (.cells (putCells encU 0 d cur) e fr) := by
  simp [putRow, mapBlock, Sort.ahead, Array.getElem?_modify, hb, onCells]
theorem grownBy_u {w : World} {g n : Nat} (d : Array Int) : w.grownBy (putRow encU (Sort.ahead w n) g 0 d) (some g) := by
  refine ⟨rfl, rfl, rfl, by simp, fun k hk hne => ?_⟩
  have : g ≠ k := fun e => hne (by rw [e])
  simp [putRow, mapBlock, Sort.ahead, Array.getElem?_modify, this]
theorem take_u (cur : Array Value) (ts : List Int) (h : ts.length ≤ cur.size) : (putCells encU 0 ts.toArray cur).toList.take ts.length = ts.map encU := by
  apply List.ext_getElem?
  intro j
  by_cases hj : j < ts.length
  · rw [List.getElem?_take_of_lt hj, Array.getElem?_toList]
    simp [putCells, hj, show j < cur.size by omega]
  · rw [List.getElem?_take_eq_none (by omega), List.getElem?_eq_none (by simp; omega)]
/-- What is left of IDs behind one that goes, and the rest of the row. -/
def outQ (id : Int) (q : List Int) : List Int := q.filter fun x => !(x == id)
def oldQ (id : Int) (q : List Int) : List Int := outQ id q ++ List.replicate (q.length - (outQ id q).length) 0
theorem outQ_len (id : Int) (q : List Int) : (outQ id q).length ≤ q.length := List.length_filter_le _ _
theorem oldQ_len (id : Int) (q : List Int) : (oldQ id q).length = q.length := by
  have := outQ_len id q
  unfold oldQ
  rw [List.length_append, List.length_replicate]
  omega
theorem zero_u (w : World) : (zeroValue 22).run Try.prog w = .ok (.int .u64 0) w := by kernel_rfl
set_option maxHeartbeats 4000000 in
set_option maxRecDepth 100000 in
theorem del_U (w : World) (base g c B : Nat) (id : Int) (q : List Int) (hown : w.ownsRow base 22 1 (.slice (some ⟨g, 0, none⟩) q.length c) q.length (idV q)) (hn : q.length ≤ 1000) (hB : Cl 22 w B #[.int .u64 id]) (hne : B ≠ g) :
    Calls Try.prog 27 #[.slice (some ⟨g, 0, none⟩) q.length c, .func (.func 29) #[] #[.pointer (some ⟨B, 0, none⟩)]] w fun e w' =>
      e = .returned (.slice (some ⟨g, 0, none⟩) (outQ id q).length c) ∧ Hid (w'.ownsRow base 22 1 (.slice (some ⟨g, 0, none⟩) (outQ id q).length c) (outQ id q).length (idV (outQ id q)) ∧
        w'.ownsRow base 22 1 (.slice (some ⟨g, 0, none⟩) q.length c) q.length (idV (oldQ id q)) ∧ w.grownBy w' (some g)) := by
  rcases hown.2 with ⟨hv, _⟩ | ⟨k, cap, cur, hv, hbk, hk, hnc, hcm, hcs, ht⟩
  · cases hv
  injection hv with e1 _ e3
  injection e1 with e1
  injection e1 with e1
  subst e1 e3
  have hcell : w.cell? ⟨B, 0, none⟩ = some (.int .u64 id) := (hB.c 0).trans rfl
  have hBl : B < w.heap.size := blk_lt hB
  have eg : ∀ args w, (callFunc 29 args).run Try.prog w = .ok (.enter 29 args) w := enters_of Try.func29 (by kernel_rfl) rfl
  have hcon := AnyE.slices_DeleteFunc Try.delL encU (fun _ => rfl) (fun x => x == id) 29 #[.pointer (some ⟨B, 0, none⟩)] eg 0 zero_u g 0 c q.toArray w
    (fun W x hb => tak1_c id x B W ((hb.cell (p := ⟨B, 0, none⟩) hBl).trans hcell))
    (fun n os dk x _ => tak1_c id x B _ (by
      unfold sortWorld
      rw [cell?_grow _ _ _ (by show B < (putRow _ _ _ _ _).heap.size; rw [size_putRow]; exact hBl), cell?_putRow_other _ _ g 0 _ _ (Or.inl hne)]
      exact hcell))
    (holds_u hk (by rw [Nat.mul_one] at ht; exact ht)) (by simp; omega) (by simpa using hnc)
  change Calls Try.prog 27 _ _ _ at hcon
  have es : q.toArray.size = q.length := by simp
  rw [es] at hcon
  refine hcon.mono fun e w' ⟨he, n, hw⟩ => ⟨he, ?_⟩
  have hw2 : w' = putRow encU (Sort.ahead w n) g 0 (oldQ id q).toArray := hw
  subst hw2
  have hl := oldQ_len id q
  have hT := take_u cur (oldQ id q) (by rw [hl, hcs]; omega)
  refine ⟨⟨by simp [idV], .inr ⟨g, c, _, rfl, hbk, heap_u _ hk, Nat.le_trans (outQ_len id q) hnc, hcm, by simp [putCells, hcs], ?_⟩⟩, ⟨by simp [idV, hl], .inr ⟨g, c, _, rfl, hbk, heap_u _ hk, hnc, hcm, by simp [putCells, hcs], ?_⟩⟩, grownBy_u _⟩
  · rw [Nat.mul_one]
    have h2 : ((putCells encU 0 (oldQ id q).toArray cur).toList.take (oldQ id q).length).take (outQ id q).length = ((oldQ id q).map encU).take (outQ id q).length := by rw [hT]
    rw [List.take_take, Nat.min_eq_left (by rw [hl]; exact outQ_len id q)] at h2
    rw [h2, idV_enc]
    unfold oldQ
    rw [List.map_append, List.take_left' (by simp)]
  · rw [Nat.mul_one, idV_enc, ← hl]
    exact hT
end Go.Proofs.Ytgbmgdffgmablaa

/- grove: the orders' map; a book as it lies, with its orders; Len, Get. -/
namespace Go.Proofs.Ytgbmgdffgmablaa
open Go.RowKit Go.Sort Go.Lib Go.Maps
set_option linter.unusedVariables false

theorem keyU : Keyed Try.prog 22 := int_keyed Try.underlying22
theorem om_le {w : World} {P : Program} {K : TypeId} {m n k : Nat} {D : DataW Value} (h : w.ownsMap P K RV m n D) (hz : Maps.size D ≤ k) : w.ownsMap P K RV m k D := by
  obtain ⟨es, clock, hb, F, _, hD⟩ := h
  refine ⟨es, clock, hb, F, ?_, hD⟩
  rw [hD] at hz
  simpa [Maps.size, length_sorted] using hz
theorem zero_o (w : World) : (zeroValue 24).run Try.prog w = .ok zO.val w := by kernel_rfl
theorem rv_eq {v u : Value} {ps : List MemPlace} (h : RV v = some (.held u, ps)) : v = u := DataW.held.inj (congrArg Prod.fst (Option.some.inj h))
theorem look_o {w : World} {m n : Nat} {D : DataW Value} {L : List Od} (h : w.ownsMap Try.prog 22 RV m n D) (hO : OmT D L) (id : Int) (hs : (Lit.int .u64 id).wf = true) :
    (Instr.lookup 26 (.map (some m)) (.int .u64 id) false).run Try.prog w = .ok ((omL L id).getD zO).val w := by
  obtain ⟨v, ps, hr, hv⟩ := h.lookup keyU Try.underlying26 (zero_o w) (R := RV) rfl (keyOf_int_mk Try.underlying22 hs)
  rw [hO.at_] at hv
  rw [hr, rv_eq hv]
theorem look_ok {w : World} {m n : Nat} {D : DataW Value} {L : List Od} (h : w.ownsMap Try.prog 22 RV m n D) (hO : OmT D L) (id : Int) (hs : (Lit.int .u64 id).wf = true) :
    (Instr.lookup 26 (.map (some m)) (.int .u64 id) true).run Try.prog w = .ok (.tuple #[((omL L id).getD zO).val, .bool (omL L id).isSome]) w := by
  obtain ⟨v, ps, hr, hv⟩ := h.look_ok keyU Try.underlying26 (zero_o w) (R := RV) rfl (keyOf_int_mk Try.underlying22 hs)
  rw [hO.at_] at hv
  rw [hr, rv_eq hv, hO.has]
theorem len_o {w : World} {m n : Nat} {D : DataW Value} {L : List Od} (h : w.ownsMap Try.prog 22 RV m n D) (hO : OmT D L) (ty : TypeId) :
    (Builtin.len_ #[26] ty #[.map (some m)]).run Try.prog w = .ok (.int .i64 (L.length : Nat)) w := by
  rw [h.len Try.underlying26 ty, hO.size]
theorem put_o {w : World} {m n : Nat} {D : DataW Value} {L M : List Od} (h : w.ownsMap Try.prog 22 RV m n D) (hn : n ≤ 1000) (hO : OmT D L) (x : Od) (hs : (Lit.int .u64 x.id).wf = true)
    (hf : ∀ id, omL M id = if id = x.id then some x else omL L id) (hl : M.length = if (omL L x.id).isSome = true then L.length else L.length + 1) (hk : M.length ≤ 64) :
    ∃ w', (Instr.mapUpdate 26 (.map (some m)) (.int .u64 x.id) x.val).run Try.prog w = .ok () w' ∧ ∃ D', w'.ownsMap Try.prog 22 RV m 64 D' ∧ OmT D' M ∧ w.grownBy w' (some m) := by
  obtain ⟨w', hr, h1, h2⟩ := h.store keyU Try.underlying26 (by unfold maxLen; omega) (keyOf_int_mk Try.underlying22 hs) (show RV x.val = some (.held x.val, []) from rfl)
  have hO' := hO.put x (by trivial) hf hl
  exact ⟨w', hr, _, om_le h1 (by rw [hO'.size]; exact hk), hO', h2.grown⟩
theorem del_o {w : World} {m n : Nat} {D : DataW Value} {L M : List Od} (h : w.ownsMap Try.prog 22 RV m n D) (hO : OmT D L) (k : Int) (hs : (Lit.int .u64 k).wf = true)
    (hf : ∀ id, omL M id = if id = k then none else omL L id) (hl : M.length + (if (omL L k).isSome = true then 1 else 0) = L.length) (hk : M.length ≤ 64) (ty : TypeId) :
    ∃ w', (Builtin.delete_ #[26, 22] ty #[.map (some m), .int .u64 k]).run Try.prog w = .ok (.tuple #[]) w' ∧ ∃ D', w'.ownsMap Try.prog 22 RV m 64 D' ∧ OmT D' M ∧ w.grownBy w' (some m) := by
  obtain ⟨w', hr, h1, h2⟩ := h.drop keyU Try.underlying26 (keyOf_int_mk Try.underlying22 hs) ty
  have hO' := hO.del k hf hl
  exact ⟨w', hr, _, om_le h1 (by rw [hO'.size]; exact hk), hO', h2.grown⟩

/-- A book as it lies, and its orders, side by side, row by row. -/
structure GW (w : World) (p m ms : Nat) (D : DataW Value) (g1 g2 : Sg) (Q1 Q2 : List Rw) : Prop where
  gk : Gk w (some ⟨p, 0, none⟩) (some (m, ms)) D g1 g2
  om : OmT D (bookL Q1 Q2)
  e1 : g1.t.rows = Q1.map rqOf
  e2 : g2.t.rows = Q2.map rqOf
  ok1 : SideOk 1 Q1
  ok2 : SideOk 2 Q2
  ids : Ids (bookL Q1 Q2)
  len : (bookL Q1 Q2).length ≤ 64
  ok : ∀ x ∈ bookL Q1 Q2, Od.ok w x ∧ goodO x = true
  vd : VD (g1.t.vals ++ g2.t.vals)
  bd : ∀ b ∈ g1.t.blks, b ∉ g2.t.blks
  tb : g1.tb ≠ g2.tb
  mm : m ≠ ms
  sb : g1.sb ≠ g2.sb
/-- The blocks of a side, of a book. -/
def sfoot (g : Sg) (k : Nat) : Prop := k = g.sb ∨ k = g.tb ∨ k ∈ g.t.blks ∨ ∃ v ∈ g.t.vals, v.ownBlock = some k
def gfoot (p m ms : Nat) (g1 g2 : Sg) (k : Nat) : Prop := k = p ∨ k = m ∨ k = ms ∨ sfoot g1 k ∨ sfoot g2 k
theorem Gk.fr {S : Nat → Prop} {w w' : World} {p m ms : Nat} {D : DataW Value} {g1 g2 : Sg} (h : Gk w (some ⟨p, 0, none⟩) (some (m, ms)) D g1 g2) (hf : Fr S w w') (hn : ∀ k, gfoot p m ms g1 g2 k → ¬ S k) : Gk w' (some ⟨p, 0, none⟩) (some (m, ms)) D g1 g2 := by
  refine ⟨?_, fun a b e => ?_, fun a b e => ?_, fun e => ?_, fun e => ?_⟩
  · rcases h.shape with ⟨h0, _⟩ | ⟨q, hq, hc⟩
    · cases h0
    · refine .inr ⟨q, hq, hf.blk hc ?_⟩
      injection hq with hq; injection hq with hq
      exact hn q (.inl hq.symm)
  · have := h.om a b e
    injection e with e; injection e with e1 e2
    exact ownsMap_fr this hf (hn a (.inr (.inl e1.symm)))
  · have := h.sm a b e
    injection e with e; injection e with e1 e2
    exact ownsMap_fr this hf (hn b (.inr (.inr (.inl e2.symm))))
  · exact (h.s1 e).fr hf (hn _ (.inr (.inr (.inr (.inl (.inl rfl)))))) (hn _ (.inr (.inr (.inr (.inl (.inr (.inl rfl))))))) (fun b hb => hn _ (.inr (.inr (.inr (.inl (.inr (.inr (.inl hb)))))))) (fun v hv k hk => hn _ (.inr (.inr (.inr (.inl (.inr (.inr (.inr ⟨v, hv, hk⟩))))))))
  · exact (h.s2 e).fr hf (hn _ (.inr (.inr (.inr (.inr (.inl rfl)))))) (hn _ (.inr (.inr (.inr (.inr (.inr (.inl rfl))))))) (fun b hb => hn _ (.inr (.inr (.inr (.inr (.inr (.inr (.inl hb)))))))) (fun v hv k hk => hn _ (.inr (.inr (.inr (.inr (.inr (.inr (.inr ⟨v, hv, hk⟩))))))))
theorem GW.fr {S : Nat → Prop} {w w' : World} {p m ms : Nat} {D : DataW Value} {g1 g2 : Sg} {Q1 Q2 : List Rw} (h : GW w p m ms D g1 g2 Q1 Q2) (hf : Fr S w w') (hn : ∀ k, gfoot p m ms g1 g2 k → ¬ S k) : GW w' p m ms D g1 g2 Q1 Q2 :=
  ⟨h.gk.fr hf hn, h.om, h.e1, h.e2, h.ok1, h.ok2, h.ids, h.len, h.ok, h.vd, h.bd, h.tb, h.mm, h.sb⟩
theorem GW.below {w w' : World} {p m ms : Nat} {D : DataW Value} {g1 g2 : Sg} {Q1 Q2 : List Rw} (h : GW w p m ms D g1 g2 Q1 Q2) (hf : Below w.heap.size w w') : GW w' p m ms D g1 g2 Q1 Q2 :=
  h.fr (S := fun _ => False) (Fr.of_below hf) (fun _ _ h => h)
theorem TrIn.vlt {W : World} : ∀ {t : Tr}, TrIn W t → ∀ v ∈ t.vals, ∀ k, v.ownBlock = some k → k < W.heap.size
  | .nil, _, v, h => (by cases h)
  | .node a k v q l r, h, u, hu => by
    unfold Tr.vals at hu
    rcases List.mem_append.1 hu with hu | hu
    · exact TrIn.vlt h.2.2.1 u hu
    · rcases List.mem_cons.1 hu with rfl | hu
      · exact fun k hk => (h.2.1.lt k hk).2
      · exact TrIn.vlt h.2.2.2 u hu
theorem SgIn.lt {w : World} {s : Int} {g : Sg} (h : SgIn w s g) : ∀ k, sfoot g k → k < w.heap.size := by
  rintro k (rfl | rfl | hk | ⟨v, hv, hk⟩)
  · exact blk_lt h.box
  · exact blk_lt h.cx
  · exact h.tr.lt k hk
  · exact h.tr.vlt v hv k hk
theorem GW.lt {w : World} {p m ms : Nat} {D : DataW Value} {g1 g2 : Sg} {Q1 Q2 : List Rw} (h : GW w p m ms D g1 g2 Q1 Q2) : ∀ k, gfoot p m ms g1 g2 k → k < w.heap.size := by
  rintro k (rfl | rfl | rfl | hk | hk)
  · rcases h.gk.shape with ⟨h0, _⟩ | ⟨q, hq, hc⟩
    · cases h0
    · injection hq with hq; injection hq with hq
      rw [hq]; exact blk_lt hc
  · exact (h.gk.om _ _ rfl).lt
  · exact (h.gk.sm _ _ rfl).lt
  · exact (h.gk.s1 rfl).lt k hk
  · exact (h.gk.s2 rfl).lt k hk
theorem GW.bookp {w : World} {p m ms : Nat} {D : DataW Value} {g1 g2 : Sg} {Q1 Q2 : List Rw} (h : GW w p m ms D g1 g2 Q1 Q2) : Cl 29 w p #[.map (some m), .map (some ms)] := by
  rcases h.gk.shape with ⟨h0, _⟩ | ⟨q, hq, hc⟩
  · cases h0
  · injection hq with hq; injection hq with hq
    rw [hq]; exact hc

set_option maxHeartbeats 4000000 in
set_option maxRecDepth 100000 in
theorem gLen_c (p m ms : Nat) (D : DataW Value) (g1 g2 : Sg) (Q1 Q2 : List Rw) (w : World) (H : GW w p m ms D g1 g2 Q1 Q2) :
    Calls Try.prog 15 #[.pointer (some ⟨p, 0, none⟩)] w fun e w' => e = .returned (.int .i64 (bookL Q1 Q2).length) ∧ w = w' := by
  have HM := Lib.hid (gMade_c (some ⟨p, 0, none⟩) (some (m, ms)) D g1 g2 w H.gk)
  have k0 : w.cell? ⟨p, 0, none⟩ = some (.map (some m)) := (H.bookp.c 0).trans rfl
  have hl := fun ty => len_o (H.gk.om _ _ rfl) H.om ty
  generalize (bookL Q1 Q2).length = n at hl
  clear H
  go_enter Try.func15, Try.ntmps15
  go_wp2_with ((with_reducible refine HM.out.mono ?_); rintro e w1 ⟨rfl, rfl⟩; clear HM)
  go_ret
  exact ⟨rfl, rfl⟩
set_option maxHeartbeats 4000000 in
set_option maxRecDepth 100000 in
theorem gGet_c (p m ms : Nat) (D : DataW Value) (g1 g2 : Sg) (Q1 Q2 : List Rw) (id : Int) (hs : (Lit.int .u64 id).wf = true) (w : World) (H : GW w p m ms D g1 g2 Q1 Q2) :
    Calls Try.prog 7 #[.pointer (some ⟨p, 0, none⟩), .int .u64 id] w fun e w' => e = .returned (.tuple #[.agg (OC ((omL (bookL Q1 Q2) id).getD zO)), .bool (omL (bookL Q1 Q2) id).isSome]) ∧ Hid (Below w.heap.size w w') := by
  have hb : Below w.heap.size w (w.alloc (.cells (OC ⟨0, 0, 0, 0, 0, 0⟩) 24)) := (Below.refl _ _).alloc (Nat.le_refl _) _
  have HM := Lib.hid (gMade_c (some ⟨p, 0, none⟩) (some (m, ms)) D g1 g2 _ (H.below hb).gk)
  have k0 : (w.alloc (.cells (OC ⟨0, 0, 0, 0, 0, 0⟩) 24)).cell? ⟨p, 0, none⟩ = some (.map (some m)) := ((H.below hb).bookp.c 0).trans rfl
  have hl := look_ok ((H.below hb).gk.om _ _ rfl) H.om id hs
  generalize (omL (bookL Q1 Q2) id).isSome = there at hl ⊢
  generalize (omL (bookL Q1 Q2) id).getD zO = z at hl ⊢
  have hl' : (Instr.lookup 26 (.map (some m)) (.int .u64 id) true).run Try.prog (w.alloc (.cells (OC ⟨0, 0, 0, 0, 0, 0⟩) 24)) = .ok (.tuple #[.agg (OC z), .bool there]) (w.alloc (.cells (OC ⟨0, 0, 0, 0, 0, 0⟩) 24)) := hl
  have HB := Lib.hid hb
  clear H hb hl
  go_enter Try.func7, Try.ntmps7
  go_wp2_with ((with_reducible refine HM.out.mono ?_); rintro e w1 ⟨rfl, rfl⟩; clear HM)
  refine bodyPost_ret (retOt rfl _ _ _ rfl z _ (hd_prev (by simp) (hd_last rfl)) _ rfl) rfl ?_
  exact ⟨rfl, Lib.hid (((Below.refl _ _).alloc (Nat.le_refl _) _).alloc (by simp) _)⟩
end Go.Proofs.Ytgbmgdffgmablaa

/- grove: told; Level. -/
namespace Go.Proofs.Ytgbmgdffgmablaa
open Go.RowKit Go.Sort Go.Lib Go.Maps
set_option linter.unusedVariables false

theorem fr_below {B : Nat} {w w' : World} (h : Below B w w') : Fr (fun k => B ≤ k) w w' := ⟨h.os, h.tape, h.output, h.size, fun k hk hn => h.block k (by omega)⟩
theorem wf_u {a : Int} (h : 0 ≤ a ∧ a ≤ 18446744073709551615) : (Lit.int .u64 a).wf = true := WalkArith.wf_u64 h
theorem six_o (w : World) (x : Od) (T : TypeId) : ∀ (j : Nat) (u : Value), (encO x)[j]? = some u → (w.alloc (Obj.cells (OC x) T)).cell? ((⟨w.heap.size, 0, none⟩ : Addr).add j) = some u := by
  intro j u hu
  rw [addr_add, cell_of_row _ _ _ _ _ _ (heap_alloc_new w _)]
  match j, hu with
  | 0, hu => simpa [encO] using hu
  | 1, hu => simpa [encO] using hu
  | 2, hu => simpa [encO] using hu
  | 3, hu => simpa [encO] using hu
  | 4, hu => simpa [encO] using hu
  | 5, hu => simpa [encO] using hu
theorem info_or : (Try.prog.info? 24).map (fun i => (i.zero, i.size, i.bytes)) = some (some (.agg (OC ⟨0, 0, 0, 0, 0, 0⟩)), 6, 48) := by kernel_rfl
/-- A queue's slice as it is read. -/
def QIn (w : World) (B : Nat) (A : Option Addr) (Y : List Od) : Prop := ∀ k, k < Y.length → ∃ g, A = some ⟨g, 0, none⟩ ∧ g < B ∧ w.cell? ⟨g, k, none⟩ = some (.int .u64 (Y[k]!).id)
theorem QIn.below {w w' : World} {B : Nat} {A : Option Addr} {Y : List Od} (h : QIn w B A Y) (hb : Below B w w') : QIn w' B A Y := fun k hk => by
  obtain ⟨g, h1, h2, h3⟩ := h k hk
  exact ⟨g, h1, h2, (hb.cell (p := ⟨g, k, none⟩) h2).trans h3⟩
set_option maxHeartbeats 4000000 in
set_option maxRecDepth 100000 in
theorem gtold_c (p m ms : Nat) (D : DataW Value) (g1 g2 : Sg) (Q1 Q2 : List Rw) (w : World) (H : GW w p m ms D g1 g2 Q1 Q2) (B : Nat) (hB : ∀ k, gfoot p m ms g1 g2 k → k < B) (hBw : B ≤ w.heap.size)
    (v : Value) (n : Nat) (X : List Od) (hown : w.ownsRow B 24 6 v n (ol X)) (hn : n ≤ 1000) (A : Option Addr) (c : Nat) (Y : List Od) (hY : ∀ x ∈ Y, x ∈ bookL Q1 Q2) (hQ : QIn w B A Y) (hm : Y.length ≤ 1000) :
    Calls Try.prog 36 #[.pointer (some ⟨p, 0, none⟩), v, .slice A Y.length c] w fun e w' => ∃ v', e = .returned v' ∧ Hid (w'.ownsRow B 24 6 v' (n + Y.length) (ol (X ++ Y)) ∧ Below B w w') := by
  obtain ⟨i0, hi0, hz0, hz1, hz2⟩ := info_parts info_or
  have HH := Lib.hid H
  have HB := Lib.hid hB
  have HQ := Lib.hid hQ
  have HY := Lib.hid hY
  clear H hB hQ hY
  have hmI : (Y.length : Int) ≤ 1000 := by omega
  go_enter Try.func36, Try.ntmps36
  go_wp2_with fail
  obtain ⟨N, hN⟩ : ∃ N, N = Y.length := ⟨_, rfl⟩
  rw [← hN] at hm hmI ⊢
  have HN := Lib.hid hN
  clear hN
  go_loopg [1, 11] N (fun kx s1 s11 wr => ∃ k : Nat, s11 = .int .i64 (k : Int) ∧ k ≤ N ∧ N - k ≤ kx ∧ wr.ownsRow B 24 6 s1 (n + k) (ol (X ++ Y.take k)) ∧ Hid (Below B w wr))
  case atStart => exact ⟨0, rfl, by omega, by omega, by simpa using hown, Below.refl _ _⟩
  case round =>
    obtain ⟨k, rfl, hk, hkx, hown', hd⟩ := hrel
    by_cases hlt : k < N
    · have hltI : (k : Int) < (N : Int) := by omega
      have hk0 : (0 : Int) ≤ (k : Int) := by omega
      have hkY : k < Y.length := by rw [← HN.out]; exact hlt
      obtain ⟨g, rfl, hgB, hc⟩ := (HQ.out.below hd.out) k hkY
      obtain ⟨x, ex⟩ : ∃ x, Y[k]! = x := ⟨_, rfl⟩
      rw [ex] at hc
      have hxY : x ∈ Y := by rw [← ex, getElem!_pos Y k hkY]; exact List.getElem_mem _
      have hxL := HY.out x hxY
      have G := HH.out.fr (fr_below hd.out) (fun j hj hbad => by have := HB.out j hj; omega)
      have hsome : omL (bookL Q1 Q2) x.id = some x := (omL_some G.ids).2 ⟨hxL, rfl⟩
      have hl := look_o (G.gk.om _ _ rfl) G.om x.id (wf_u (G.ok x hxL).1.1)
      rw [hsome] at hl
      have hl' : (Instr.lookup 26 (.map (some m)) (.int .u64 x.id) false).run Try.prog wr = .ok (.agg (OC x)) wr := hl
      have k0 : wr.cell? ⟨p, 0, none⟩ = some (.map (some m)) := (G.bookp.c 0).trans rfl
      have HS : Hid (ol (X ++ Y.take (k + 1)) = ol (X ++ Y.take k) ++ encO x) := Lib.hid (by
        rw [List.take_succ_eq_append_getElem hkY, ← List.append_assoc, ol_app, ← getElem!_pos Y k hkY, ex])
      have hsz := hd.out.size
      have hnk : n + k ≤ 2000 := by omega
      clear ex hxY hxL G hsome hl
      generalize x.id = xi at *
      go_wp2_with (at_builtin; refine wpList_append_own _ rfl _ _ 37 rfl B 24 i0 (.agg (OC ⟨0, 0, 0, 0, 0, 0⟩)) 6 48 Try.underlying37 hi0 hz0 hz1 hz2 rfl (by decide) _ _ _ rfl (hown'.alloc _) ⟨wr.heap.size, 0, none⟩ 1 1 (encO x) rfl rfl ?c1 ?c2 ?c3 ?c4 ?c5 ?_)
      case c1 => exact six_o wr x _
      case c2 => exact enc_one x
      case c3 => unfold maxLen; omega
      case c4 => omega
      case c5 => simp; omega
      intro v1 w1 hown1 hg1 _
      have hB1 : Hid (Below B w w1) := Below.grown (hd.out.alloc (Nat.le_trans hBw hsz) _) hg1 (by simp; omega) (fun k hk => (hown'.lt k hk).1)
      rw [← HS.out] at hown1
      clear hg1 hown' hd
      go_wp2_with fail
      go_roundg (N - (k + 1))
      case measure => omega
      case rel => exact ⟨k + 1, by go_num, by omega, by omega, hown1, hB1⟩
    · have hltI : ¬ (k : Int) < (N : Int) := by omega
      obtain rfl : k = N := by omega
      rw [List.take_of_length_le (by rw [← HN.out]; exact Nat.le_refl _)] at hown'
      have HF := Lib.hid (And.intro hown' hd.out)
      clear hown' hd
      go_wp2_with fail
      go_ret
      have eN := HN.out
      subst eN
      refine ⟨?v, ?e, ?h⟩
      case h => exact HF
      case e => rfl

/-- A queue as get tells it. -/
theorem val_in {w : World} {t : Tr} (h : TrIn w t) : ∃ A n c, t.val = .slice A n c ∧ ((t = .nil ∧ n = 0) ∨ ∃ a k q l r g, t = .node a k (.slice A n c) q l r ∧ n = q.length ∧ w.ownsRow 0 22 1 (.slice A n c) n (idV q) ∧ (n = 0 ∨ A = some ⟨g, 0, none⟩)) := by
  cases t with
  | nil => exact ⟨none, 0, 0, rfl, .inl ⟨rfl, rfl⟩⟩
  | node a k v q l r =>
    have ho := h.2.1
    rcases ho.2 with ⟨hv, h0⟩ | ⟨g, cap, cur, hv, _⟩
    · subst hv
      refine ⟨none, 0, 0, rfl, .inr ⟨a, k, q, l, r, 0, rfl, h0.symm, ?_, .inl rfl⟩⟩
      rw [h0] at ho; exact ho
    · subst hv
      exact ⟨_, _, _, rfl, .inr ⟨a, k, q, l, r, g, rfl, rfl, ho, .inr rfl⟩⟩
theorem row_q {w : World} {A : Option Addr} {n c : Nat} {Y : List Od} {B : Nat} (h : w.ownsRow 0 22 1 (.slice A n c) n (idV (Y.map (·.id)))) (hB : ∀ k, (Value.slice A n c).ownBlock = some k → k < B) : n = Y.length ∧ QIn w B A Y := by
  have hl := h.1
  simp only [idV, List.length_map] at hl
  refine ⟨by omega, fun k hk => ?_⟩
  rcases h.2 with ⟨hv, h0⟩ | ⟨g, cap, cur, hv, _, hg, _, _, _, ht⟩
  · omega
  · injection hv with e1 _ _
    subst e1
    refine ⟨g, rfl, hB g rfl, ?_⟩
    rw [cell_of_row _ _ _ _ _ _ hg, ← Array.getElem?_toList]
    have h2 : (cur.toList.take (n * 1))[k]? = (idV (Y.map (·.id)))[k]? := by rw [ht]
    rw [List.getElem?_take, if_pos (by omega)] at h2
    rw [h2, idV, List.map_map, List.getElem?_map, List.getElem?_eq_getElem hk, getElem!_pos Y k hk]
    rfl
/-- The orders that wait at a price, if the tree hangs there so. -/
theorem spot_row {w : World} {g : Sg} {s pr : Int} {Q : List Rw} {c : Cx} {t : Tr} (hI : SpI w g.tb g.sb s pr g.t c t) (hh : Hangs pr t) (e : g.t.rows = Q.map rqOf) (hQ : SideOk s Q) :
    ∃ A M B, Q = A ++ M ++ B ∧ (∀ a ∈ A, betN s a.pr pr = true) ∧ (∀ b ∈ B, betN s pr b.pr = true) ∧
      ((t = .nil ∧ M = []) ∨ ∃ a v q l r m, t = .node a pr v q l r ∧ M = [m] ∧ m.pr = pr ∧ q = m.q.map (·.id) ∧ A.map rqOf = c.pre ++ l.rows ∧ B.map rqOf = r.rows ++ c.post) := by
  have h := e.symm
  rw [← hI.eq, rows_plug] at h
  have mem : ∀ {l : List Rw} {m : List Rq} {f : Int → Prop}, l.map rqOf = m → (∀ a ∈ m, f a.1) → ∀ a ∈ l, f a.pr := fun hl hm a ha => hm (rqOf a) (by rw [← hl]; exact List.mem_map_of_mem ha)
  cases t with
  | nil =>
    rw [show Tr.rows .nil = [] from rfl, List.append_nil] at h
    obtain ⟨X, Z, rfl, hX, hZ⟩ := List.map_eq_append_iff.1 h
    exact ⟨X, [], Z, by simp, mem (f := fun x => betN s x pr = true) hX hI.at_.pre, mem (f := fun x => betN s pr x = true) hZ hI.at_.post, .inl ⟨rfl, rfl⟩⟩
  | node a k v q l r =>
    have hk : k = pr := hh
    subst hk
    have hs := hI.at_.srt
    rw [rows_plug] at hs
    unfold Srt at hs
    rw [show Tr.rows (.node a k v q l r) = l.rows ++ (k, q) :: r.rows from rfl] at hs h
    have e1 : c.pre ++ (l.rows ++ (k, q) :: r.rows) ++ c.post = (c.pre ++ l.rows) ++ [(k, q)] ++ (r.rows ++ c.post) := by simp
    rw [e1] at hs h
    obtain ⟨XY, Z, rfl, hXY, hZ⟩ := List.map_eq_append_iff.1 h
    obtain ⟨X, Y, rfl, hX, hY⟩ := List.map_eq_append_iff.1 hXY
    have hs1 := (List.pairwise_append.1 hs).1
    have hs2 := (List.pairwise_append.1 hs).2.2
    have hs3 := (List.pairwise_append.1 hs1).2.2
    match Y, hY with
    | [m], hY =>
      injection hY with hm _
      have hm1 : m.pr = k := congrArg Prod.fst hm
      have hm2 : m.q.map (·.id) = q := congrArg Prod.snd hm
      exact ⟨X, [m], Z, rfl, mem (f := fun x => betN s x k = true) hX (fun x hx => hs3 x hx (k, q) (by simp)), mem (f := fun x => betN s k x = true) hZ (fun x hx => hs2 (k, q) (by simp) x hx), .inr ⟨a, v, q, l, r, m, rfl, rfl, hm1, hm2.symm, hX, hZ⟩⟩

/-- The orders at a price, of a side's rows. -/
def atP (pr : Int) (Q : List Rw) : List Od := (flatR Q).filter (fun x => x.price == pr)
theorem irr_b (s x : Int) : betN s x x = false := by
  cases hx : betN s x x with
  | false => rfl
  | true => rw [bet_iff] at hx; omega
theorem atP_split {s pr : Int} {A M B : List Rw} (h : SideOk s (A ++ M ++ B)) (hA : ∀ a ∈ A, betN s a.pr pr = true) (hB : ∀ b ∈ B, betN s pr b.pr = true) (hM : ∀ r ∈ M, r.pr = pr) : atP pr (A ++ M ++ B) = flatR M := by
  unfold atP flatR
  rw [List.flatMap_append, List.flatMap_append, List.filter_append, List.filter_append]
  have fA : ∀ (X : List Rw), (∀ r ∈ X, r ∈ A ++ M ++ B) → (∀ r ∈ X, ¬ r.pr = pr) → (X.flatMap (·.q)).filter (fun x => x.price == pr) = [] := fun X hX hp => by
    rw [List.filter_eq_nil_iff]
    intro x hx
    obtain ⟨r, hr, hxr⟩ := List.mem_flatMap.1 hx
    have := (h.mem r (hX r hr) x hxr).2
    intro e
    rw [beq_iff_eq] at e
    exact hp r hr (this.symm.trans e)
  have fM : ((M.flatMap (·.q)).filter (fun x => x.price == pr)) = M.flatMap (·.q) := by
    rw [List.filter_eq_self]
    intro x hx
    obtain ⟨r, hr, hxr⟩ := List.mem_flatMap.1 hx
    rw [(h.mem r (by simp [hr]) x hxr).2, hM r hr]
    simp
  rw [fA A (fun r hr => by simp [hr]) (fun r hr e => by have := hA r hr; rw [e, irr_b] at this; cases this), fA B (fun r hr => by simp [hr]) (fun r hr e => by have := hB r hr; rw [e, irr_b] at this; cases this), fM]
  simp
/-- Which orders get tells, of a side's tree. -/
theorem get_row {w : World} {g : Sg} {s pr : Int} {Q : List Rw} {c : Cx} {t : Tr} (hI : SpI w g.tb g.sb s pr g.t c t) (hh : Hangs pr t) (e : g.t.rows = Q.map rqOf) (hQ : SideOk s Q) (hS : SgIn w s g) {B : Nat} (hB : ∀ k, sfoot g k → k < B) :
    ∃ A cc, t.val = .slice A (atP pr Q).length cc ∧ QIn w B A (atP pr Q) := by
  obtain ⟨X, M, Z, rfl, hX, hZ, hM⟩ := spot_row hI hh e hQ
  rcases hM with ⟨rfl, rfl⟩ | ⟨a, v, q, l, r, m, rfl, rfl, hm, rfl, _, _⟩
  · rw [atP_split hQ hX hZ (fun r hr => by cases hr)]
    exact ⟨none, 0, rfl, fun k hk => absurd hk (by simp [flatR])⟩
  · rw [atP_split hQ hX hZ (fun r hr => by rw [List.mem_singleton.1 hr]; exact hm)]
    have e1 : flatR [m] = m.q := by simp [flatR]
    rw [e1]
    have ho := hI.tr.2.1
    have hv : v ∈ g.t.vals := by
      obtain ⟨A, C, hp⟩ := plug_vals c
      rw [← hI.eq, hp]
      simp [Tr.vals]
    rw [List.length_map] at ho
    rcases ho.2 with ⟨rfl, h0⟩ | ⟨gg, cap, cur, rfl, _⟩
    · rw [h0] at ho ⊢
      have := row_q (Y := m.q) (B := B) ho (fun k hk => by cases hk)
      exact ⟨none, 0, by rw [Tr.val], this.2⟩
    · have := row_q (Y := m.q) (B := B) ho (fun k hk => hB k (.inr (.inr (.inr ⟨_, hv, hk⟩))))
      exact ⟨_, _, rfl, this.2⟩
end Go.Proofs.Ytgbmgdffgmablaa

/- grove: a side of a made book; Level. -/
namespace Go.Proofs.Ytgbmgdffgmablaa
open Go.RowKit Go.Sort Go.Lib Go.Maps
set_option linter.unusedVariables false

/-- A side of a book. -/
structure OwnS (w : World) (p m ms : Nat) (D : DataW Value) (g1 g2 : Sg) (Q1 Q2 : List Rw) (sd : Int) (g : Sg) (Q : List Rw) : Prop where
  s12 : sd = 1 ∨ sd = 2
  sg : SgIn w sd g
  eq : g.t.rows = Q.map rqOf
  ok : SideOk sd Q
  ft : ∀ k, sfoot g k → gfoot p m ms g1 g2 k
  mem : ∀ x ∈ flatR Q, x ∈ bookL Q1 Q2
  len : (flatR Q).length ≤ 64
  ids : Ids (bookL Q1 Q2) → Ids (flatR Q)
  call : ∀ W, GW W p m ms D g1 g2 Q1 Q2 → Calls Try.prog 26 #[.pointer (some ⟨p, 0, none⟩), .int .i64 sd] W fun e w' => e = .returned (.pointer (some ⟨g.tb, 0, none⟩)) ∧ W = w'
theorem GW.own1 {w : World} {p m ms : Nat} {D : DataW Value} {g1 g2 : Sg} {Q1 Q2 : List Rw} (h : GW w p m ms D g1 g2 Q1 Q2) : OwnS w p m ms D g1 g2 Q1 Q2 1 g1 Q1 := by
  refine ⟨.inl rfl, h.gk.s1 rfl, h.e1, h.ok1, fun k hk => .inr (.inr (.inr (.inl hk))), fun x hx => List.mem_append_left _ hx, (by have := h.len; unfold bookL at this; rw [List.length_append] at this; omega), fun hi => (List.pairwise_append.1 hi).1, fun W hW => (gSide_c _ _ D g1 g2 1 W (by decide) hW.gk).mono ?_⟩
  rintro e w' ⟨g, rfl, hg⟩
  cases hg.out with
  | own1 _ _ hw => exact ⟨rfl, hw⟩
  | own2 _ h2 _ => exact absurd h2 (by decide)
  | new h1 _ _ => rcases h1 with h1 | h1; cases h1; exact absurd rfl h1.1
theorem GW.own2 {w : World} {p m ms : Nat} {D : DataW Value} {g1 g2 : Sg} {Q1 Q2 : List Rw} (h : GW w p m ms D g1 g2 Q1 Q2) : OwnS w p m ms D g1 g2 Q1 Q2 2 g2 Q2 := by
  refine ⟨.inr rfl, h.gk.s2 rfl, h.e2, h.ok2, fun k hk => .inr (.inr (.inr (.inr hk))), fun x hx => List.mem_append_right _ hx, (by have := h.len; unfold bookL at this; rw [List.length_append] at this; omega), fun hi => (List.pairwise_append.1 hi).2.1, fun W hW => (gSide_c _ _ D g1 g2 2 W (by decide) hW.gk).mono ?_⟩
  rintro e w' ⟨g, rfl, hg⟩
  cases hg.out with
  | own1 _ h1 _ => exact absurd h1 (by decide)
  | own2 _ _ hw => exact ⟨rfl, hw⟩
  | new h1 _ _ => rcases h1 with h1 | h1; cases h1; exact absurd rfl h1.2
/-- A side's rows. -/
def rsq (Q1 Q2 : List Rw) (sd : Int) : List Rw := if sd = 1 then Q1 else if sd = 2 then Q2 else []
theorem GW.drewN {w : World} {p m ms : Nat} {D : DataW Value} {g1 g2 : Sg} {Q1 Q2 : List Rw} (h : GW w p m ms D g1 g2 Q1 Q2) (n : Nat) : GW (w.drewN n) p m ms D g1 g2 Q1 Q2 := h.below (below_drewN (Below.refl _ _) n)

set_option maxHeartbeats 4000000 in
set_option maxRecDepth 100000 in
theorem gLevel_own (p m ms : Nat) (D : DataW Value) (g1 g2 : Sg) (Q1 Q2 : List Rw) (sd pr : Int) (g : Sg) (Q : List Rw) (w : World) (H : GW w p m ms D g1 g2 Q1 Q2) (S : OwnS w p m ms D g1 g2 Q1 Q2 sd g Q) :
    Calls Try.prog 13 #[.pointer (some ⟨p, 0, none⟩), .int .i64 sd, .int .i64 pr] w fun e w' => ∃ v, e = .returned v ∧ Hid (w'.ownsRow w.heap.size 24 6 v (atP pr Q).length (ol (atP pr Q)) ∧ Below w.heap.size w w') := by
  have HS := Lib.hid (S.call w H)
  have HG := Lib.hid (tGet_c g.tb g.sb sd pr g.t w (fun _ => S.s12) S.sg.box S.sg.cx S.sg.tr S.sg.srt)
  have HT := Lib.hid (show ∀ n A c, QIn (w.drewN n) w.heap.size A (atP pr Q) → Calls Try.prog 36 #[.pointer (some ⟨p, 0, none⟩), .slice none 0 0, .slice A (atP pr Q).length c] (w.drewN n) fun e w' => ∃ v', e = .returned v' ∧ Hid (w'.ownsRow w.heap.size 24 6 v' (0 + (atP pr Q).length) (ol ([] ++ atP pr Q)) ∧ Below w.heap.size (w.drewN n) w') from fun n A c hq =>
    gtold_c p m ms D g1 g2 Q1 Q2 (w.drewN n) (H.drewN n) w.heap.size (fun k hk => H.lt k hk) (Nat.le_refl _) _ 0 [] (World.ownsRow_nil _ _ _ _) (by omega) A c (atP pr Q) (fun x hx => S.mem x (List.mem_filter.1 hx).1) hq (by
      have h1 : (atP pr Q).length ≤ (flatR Q).length := List.length_filter_le _ _
      have h2 := S.len
      omega))
  have HI := Lib.hid (show ∀ W c t n, W = w.drewN n → SpI w g.tb g.sb sd pr g.t c t → Hangs pr t → ∃ A cc, t.val = .slice A (atP pr Q).length cc ∧ QIn (w.drewN n) w.heap.size A (atP pr Q) from fun W c t n hW hI hh => by
    obtain ⟨A, cc, h1, h2⟩ := get_row hI hh S.eq S.ok S.sg (B := w.heap.size) (fun k hk => S.sg.lt k hk)
    exact ⟨A, cc, h1, h2.below (below_drewN (Below.refl _ _) n)⟩)
  clear H S
  go_enter Try.func13, Try.ntmps13
  go_wp2_with fail
  ((with_reducible refine HS.out.mono ?_); rintro e w1 ⟨rfl, rfl⟩)
  go_wp2_with fail
  ((with_reducible refine HG.out.mono ?_); rintro e w2 ⟨c, t, rfl, hh, n, rfl⟩)
  obtain ⟨A, cc, ev, hq⟩ := HI.out _ c t n rfl hh.out.1 hh.out.2
  rw [ev]
  have HT2 := Lib.hid (HT.out n A cc hq)
  clear HS HG HT HI hh ev hq
  go_wp2_with fail
  ((with_reducible refine HT2.out.mono ?_); rintro e w3 ⟨v, rfl, h3⟩)
  clear HT2
  go_wp2_with fail
  go_ret
  refine ⟨_, rfl, ?_⟩
  rw [Nat.zero_add, List.nil_append] at h3
  exact Lib.hid ⟨h3.out.1, (below_drewN (Below.refl _ _) n).trans h3.out.2⟩
end Go.Proofs.Ytgbmgdffgmablaa

/- grove: Best; sides that are none. (By mkgwe.py.) -/
namespace Go.Proofs.Ytgbmgdffgmablaa
open Go.RowKit Go.Sort Go.Lib Go.Maps Go.Shelf
set_option linter.unusedVariables false

theorem off_side {w w' : World} {mm : Option (Nat × Nat)} {side : Int} {g g1 g2 : Sg} (h : SideIs w w' mm g1 g2 side g) (hn : ¬ side = 1 ∧ ¬ side = 2) : g.t = .nil ∧ SgIn w' side g ∧ Below w.heap.size w w' := by
  cases h with
  | own1 _ h => exact absurd h hn.1
  | own2 _ h => exact absurd h hn.2
  | new _ hb hs => exact ⟨rfl, hs, hb⟩
set_option maxHeartbeats 4000000 in
set_option maxRecDepth 100000 in
theorem gLevel_off (b : Option Addr) (mm : Option (Nat × Nat)) (D : DataW Value) (g1 g2 : Sg) (sd pr : Int) (hn : ¬ sd = 1 ∧ ¬ sd = 2) (hs : (Lit.int .i64 sd).wf = true) (w : World) (H : Gk w b mm D g1 g2) :
    Calls Try.prog 13 #[.pointer b, .int .i64 sd, .int .i64 pr] w fun e w' => ∃ v, e = .returned v ∧ Hid (w'.ownsRow w.heap.size 24 6 v 0 (ol []) ∧ Below w.heap.size w w') := by
  have HS := Lib.hid (gSide_c b mm D g1 g2 sd w hs H)
  have HT : Hid (∀ W, Calls Try.prog 36 #[.pointer b, .slice none 0 0, .slice none 0 0] W fun e w' => e = .returned (.slice none 0 0) ∧ W = w') := Lib.hid (fun W => told_nil b W)
  clear H
  go_enter Try.func13, Try.ntmps13
  go_wp2_with (first | ((with_reducible refine HS.out.mono ?_); rintro e w1 ⟨⟨tb, sb, t⟩, rfl, hg⟩; obtain ⟨h1, h2, h3⟩ := off_side hg.out hn; dsimp only at h1 h2; subst h1; have HF := Lib.hid (tGet_c tb sb sd pr .nil w1 (fun h => absurd rfl h) h2.box h2.cx h2.tr h2.srt); have B1 := Lib.hid h3; clear HS hg h2 h3) | ((with_reducible refine HF.out.mono ?_); rintro e w2 ⟨c, t, rfl, ht, n, rfl⟩; obtain rfl := spot_nil ht.out.1; dsimp only [Tr.val]) | ((with_reducible refine (HT.out _).mono ?_); rintro e w3 ⟨rfl, rfl⟩))
  go_ret
  exact ⟨.slice none 0 0, rfl, Lib.hid ⟨World.ownsRow_nil _ _ _ _, ((Fr.of_below (S := fun _ => False) B1.out).drewN _).below (fun _ h => False.elim h) (Nat.le_refl _)⟩⟩
theorem gk_below {w w' : World} {b : Option Addr} {mm : Option (Nat × Nat)} {D : DataW Value} {g1 g2 : Sg} (h : Gk w b mm D g1 g2) (hf : Below w.heap.size w w') : Gk w' b mm D g1 g2 := by
  refine ⟨?_, fun a b e => ownsMap_fr (h.om a b e) (Fr.of_below (S := fun _ => False) hf) (fun h => h), fun a b e => ownsMap_fr (h.sm a b e) (Fr.of_below (S := fun _ => False) hf) (fun h => h), fun e => (h.s1 e).below hf, fun e => (h.s2 e).below hf⟩
  rcases h.shape with h0 | ⟨q, hq, hc⟩
  · exact .inl h0
  · exact .inr ⟨q, hq, (Fr.of_below (S := fun _ => False) hf).blk hc (fun h => h)⟩
set_option maxHeartbeats 4000000 in
set_option maxRecDepth 100000 in
theorem gBest_off (b : Option Addr) (mm : Option (Nat × Nat)) (D : DataW Value) (g1 g2 : Sg) (sd : Int) (hn : ¬ sd = 1 ∧ ¬ sd = 2) (hs : (Lit.int .i64 sd).wf = true) (w : World) (H : Gk w b mm D g1 g2) :
    Calls Try.prog 9 #[.pointer b, .int .i64 sd] w fun e w' => e = .returned (.tuple #[optV none, .bool false]) ∧ Hid (Below w.heap.size w w') := by
  have hb : Below w.heap.size w (w.alloc (.cells (OC ⟨0, 0, 0, 0, 0, 0⟩) 24)) := (Below.refl _ _).alloc (Nat.le_refl _) _
  have HS := Lib.hid (gSide_c b mm D g1 g2 sd (w.alloc (.cells (OC ⟨0, 0, 0, 0, 0, 0⟩) 24)) hs (gk_below H hb))
  have HB := Lib.hid hb
  clear H hb
  go_enter Try.func9, Try.ntmps9
  go_wp2_with (first | ((with_reducible refine HS.out.mono ?_); rintro e w1 ⟨⟨tb, sb, t⟩, rfl, hg⟩; obtain ⟨h1, h2, h3⟩ := off_side hg.out hn; dsimp only at h1 h2; subst h1; have HF := Lib.hid (tFirst_c tb sb .nil w1 h2.cx h2.tr); have B1 : Hid (Below w.heap.size w w1) := HB.out.trans (h3.mono HB.out.size); have C1 : Cl 24 w1 w.heap.size (OC ⟨0, 0, 0, 0, 0, 0⟩) := (h3.block _ (by rw [World.size_alloc]; exact Nat.lt_succ_self _)).trans (hd_last rfl); have C0 := Lib.hid C1; obtain ⟨x0, x1, x2, x3, x4, x5⟩ := six_of C1; have f0 := C1.f (k := 0); have f1 := C1.f (k := 1); have f2 := C1.f (k := 2); have f3 := C1.f (k := 3); have f4 := C1.f (k := 4); have f5 := C1.f (k := 5); clear HS hg h2 h3 C1) | ((with_reducible refine HF.out.mono ?_); rintro e w2 ⟨rfl, rfl⟩; dsimp only [fstV, Tr.fst]))
  have hf := put6_cl ⟨0, 0, 0, 0, 0, 0⟩ C0.out
  have hb := put6_below ⟨0, 0, 0, 0, 0, 0⟩ (Nat.le_refl _) B1.out
  refine bodyPost_ret (retOt rfl _ _ _ rfl ⟨0, 0, 0, 0, 0, 0⟩ _ hf _ rfl) rfl ?_
  exact ⟨rfl, Lib.hid hb⟩
theorem size_oc (x : Od) : (Try.prog.info? 24).map (·.size) = some (OC x).size := infoO
section
variable {ops : Array Oper} {o : Oper} {a : Act} {w : World} {Q : Exit → Act → World → Prop}
theorem any_storeOd {K : Act → World → Prop} {E : Prop} (hgd : Region.wanted o (yielded ops a.tmps) = true) (x y : Operand) (ho : o.op = .store 24 x y) (g : Nat) (z : Od) (hx : a.eval x = .pointer (some ⟨g, 0, none⟩)) (hy : a.eval y = .agg (OC z)) (z' : Od) (t : TypeId)
    (hg : w.heap[g]? = some (.cells (OC z') t (0, 0))) (h : K (a.put o.dst undef) (w.setRow g (OC z))) : if Region.wanted o (yielded ops a.tmps) = true then Oper.wp Try.prog o a w K Q else E := by
  rw [if_pos hgd]
  exact wp_store_row _ x y ho g _ hx hy _ _ hg (size_oc z) rfl (all_oneCell_toArray (cs := encO z) (enc_one z)) h
end
theorem fr_row {w X : World} {c : Nat} {cs : Array Value} (h : Fr (· = c) w X) : Fr (· = c) w (X.setRow c cs) :=
  ⟨h.os, h.tape, h.output, by simpa [World.setRow] using h.size, fun k hk hn => (setRow_other X c k cs hn).trans (h.block k hk hn)⟩
theorem put6_frg {w X : World} {c : Nat} (o : Od) (h : Fr (· = c) w X) : Fr (· = c) w (put6 X c o) := by
  unfold put6
  exact (((((h.set (.inl rfl) _).set (.inl rfl) _).set (.inl rfl) _).set (.inl rfl) _).set (.inl rfl) _).set (.inl rfl) _
/-- The first order of a side's rows. -/
def fstO (Q : List Rw) : Option Od := (flatR Q).head?
theorem fst_none {Q : List Rw} (h : ∀ r ∈ Q, r.q ≠ []) (e : fstO Q = none) : Q = [] := by
  cases Q with
  | nil => rfl
  | cons r Q =>
    unfold fstO flatR at e
    rw [List.flatMap_cons, List.head?_append] at e
    cases hq : r.q with
    | nil => exact absurd hq (h r List.mem_cons_self)
    | cons x q => rw [hq] at e; simp at e
set_option maxHeartbeats 4000000 in
set_option maxRecDepth 100000 in
theorem gBest_own (p m ms : Nat) (D : DataW Value) (g1 g2 : Sg) (Q1 Q2 : List Rw) (sd : Int) (g : Sg) (Q : List Rw) (w : World) (H : GW w p m ms D g1 g2 Q1 Q2) (S : OwnS w p m ms D g1 g2 Q1 Q2 sd g Q) :
    Calls Try.prog 9 #[.pointer (some ⟨p, 0, none⟩), .int .i64 sd] w fun e w' => e = .returned (.tuple #[optV (fstO Q), .bool (fstO Q).isSome]) ∧ Hid (Below w.heap.size w w') := by
  have hb : Below w.heap.size w (w.alloc (.cells (OC ⟨0, 0, 0, 0, 0, 0⟩) 24)) := (Below.refl _ _).alloc (Nat.le_refl _) _
  obtain ⟨w1, hw1⟩ : ∃ w1, w.alloc (.cells (OC ⟨0, 0, 0, 0, 0, 0⟩) 24) = w1 := ⟨_, rfl⟩
  rw [hw1] at hb
  have HS := Lib.hid (S.call w1 (H.below hb))
  have hsg := S.sg.below hb
  have HF := Lib.hid (tFirst_c g.tb g.sb g.t w1 hsg.cx hsg.tr)
  have HC1 : Hid (Cl 24 w1 w.heap.size (OC ⟨0, 0, 0, 0, 0, 0⟩)) := Lib.hid (by rw [← hw1]; exact hd_last rfl)
  have HB := Lib.hid hb
  have hr := fst_rows g.t
  rw [S.eq] at hr
  cases hf : g.t.fst with
  | none =>
    rw [hf] at hr HF
    have hQ : Q = [] := by cases Q with | nil => rfl | cons r Q => simp at hr
    subst hQ
    obtain ⟨x0, x1, x2, x3, x4, x5⟩ := six_of HC1.out
    have f0 := Cl.f HC1.out (k := 0); have f1 := Cl.f HC1.out (k := 1); have f2 := Cl.f HC1.out (k := 2); have f3 := Cl.f HC1.out (k := 3); have f4 := Cl.f HC1.out (k := 4); have f5 := Cl.f HC1.out (k := 5)
    clear H S hsg hr hf hb
    go_enter Try.func9, Try.ntmps9
    go_wp2_with fail
    ((with_reducible refine HS.out.mono ?_); rintro e w2 ⟨rfl, rfl⟩)
    go_wp2_with fail
    ((with_reducible refine HF.out.mono ?_); rintro e w2 ⟨rfl, rfl⟩; dsimp only [fstV])
    go_wp2_with fail
    have hf := put6_cl ⟨0, 0, 0, 0, 0, 0⟩ HC1.out
    have hb := put6_below ⟨0, 0, 0, 0, 0, 0⟩ (Nat.le_refl _) HB.out
    refine bodyPost_ret (retOt rfl _ _ _ rfl ⟨0, 0, 0, 0, 0, 0⟩ _ hf _ rfl) rfl ?_
    exact ⟨rfl, Lib.hid hb⟩
  | some f =>
    obtain ⟨k, v, q⟩ := f
    rw [hf] at hr HF
    obtain ⟨r, Q', rfl⟩ : ∃ r Q', Q = r :: Q' := by cases Q with | nil => simp at hr | cons r Q' => exact ⟨r, Q', rfl⟩
    have hr2 : rqOf r = (k, q) := by simpa using hr
    have hq : q = r.q.map (·.id) := (congrArg Prod.snd hr2).symm
    obtain ⟨x, rq, hx⟩ : ∃ x rq, r.q = x :: rq := by
      cases hh : r.q with
      | nil => exact absurd hh (S.ok.some r List.mem_cons_self)
      | cons x rq => exact ⟨x, rq, rfl⟩
    have hfo : fstO (r :: Q') = some x := by unfold fstO flatR; rw [List.flatMap_cons, hx]; rfl
    have hxm : x ∈ bookL Q1 Q2 := S.mem x (by unfold flatR; rw [List.flatMap_cons, hx]; simp)
    rw [hfo]
    have ho := fst_in hsg.tr _ hf
    dsimp only at ho
    have hv : v ∈ g.t.vals := by
      have := fst_vals g.t
      rw [hf] at this
      cases hvl : g.t.vals with
      | nil => rw [hvl] at this; simp at this
      | cons u vs => rw [hvl] at this; simp at this; rw [this]; exact List.mem_cons_self
    rw [hq, hx] at ho
    rcases ho.2 with ⟨_, h0⟩ | ⟨gg, cap, cur, rfl, _, hg, _, _, hcs, ht⟩
    · simp at h0
    have hc0 : w1.cell? ⟨gg, 0, none⟩ = some (.int .u64 x.id) := by
      rw [cell_of_row _ _ _ _ _ _ hg, ← Array.getElem?_toList]
      have h2 : (cur.toList.take (((x :: rq).map (·.id)).length * 1))[0]? = (idV ((x :: rq).map (·.id)))[0]? := by rw [ht]
      rw [List.getElem?_take, if_pos (by simp)] at h2
      rw [h2]; rfl
    have hft := S.ft gg (.inr (.inr (.inr ⟨_, hv, rfl⟩)))
    have hgl : gg < w.heap.size := H.lt gg hft
    have hne : ∀ j, gfoot p m ms g1 g2 j → ¬ j = w.heap.size := fun j hj e => by have := H.lt j hj; omega
    have HP2 : Hid (∀ W, (Fr (· = w.heap.size) w1 W ∧ ∃ z0, Cl 24 W w.heap.size (OC z0)) → W.cell? ⟨p, 0, none⟩ = some (.map (some m))) := Lib.hid fun W hW => (((H.below hb).fr hW.1 hne).bookp.c 0).trans rfl
    have HQ2 : Hid (∀ W, (Fr (· = w.heap.size) w1 W ∧ ∃ z0, Cl 24 W w.heap.size (OC z0)) → W.cell? ⟨gg, 0, none⟩ = some (.int .u64 x.id)) := Lib.hid fun W hW => by
      have e := hW.1.block gg (blk_lt hg) (by omega)
      have : W.heap[gg]? = some (.cells cur 22 (0, 0)) := e.trans hg
      rw [cell_of_row _ _ _ _ _ _ this, ← cell_of_row _ _ _ _ _ _ hg]
      exact hc0
    have HL2 : Hid (∀ W, (Fr (· = w.heap.size) w1 W ∧ ∃ z0, Cl 24 W w.heap.size (OC z0)) → (Instr.lookup 26 (.map (some m)) (.int .u64 x.id) false).run Try.prog W = .ok (.agg (OC x)) W) := Lib.hid fun W hW => by
      have G := (H.below hb).fr hW.1 hne
      have := look_o (G.gk.om _ _ rfl) G.om x.id (wf_u (G.ok x hxm).1.1)
      rw [(omL_some G.ids).2 ⟨hxm, rfl⟩] at this
      exact this
    have hlq : ((x :: rq).map (·.id)).length = rq.length + 1 := by simp
    rw [hq, hx, hlq] at HF
    have hl0 : (0 : Int) ≤ (rq.length : Int) := by omega
    generalize rq.length = n at HF hl0
    generalize x.id = xi at HQ2 HL2
    clear H S hsg hr hf hb hr2 hq hx hfo hxm ho hv hg hcs ht hc0 hft hgl hne hlq
    go_enter Try.func9, Try.ntmps9
    go_wp2_with fail
    ((with_reducible refine HS.out.mono ?_); rintro e w2 ⟨rfl, rfl⟩)
    go_wp2_with fail
    ((with_reducible refine HF.out.mono ?_); rintro e w2 ⟨rfl, rfl⟩; dsimp only [fstV])
    go_wp2_with fail
    refine wp_region_held_drew (S := fun W => Fr (· = w.heap.size) w1 W ∧ ∃ z0, Cl 24 W w.heap.size (OC z0)) (by kernel_rfl) (by exact ⟨Fr.drew (Fr.refl _ _), _, hd_drew HC1.out⟩) (fun hHeld => ?_)
    refine wpAnyH_take (i := 0) (oi := ⟨some 18, _, _, _, _, _⟩) (v := ?_) rfl (by kernel_rfl) (by kernel_rfl) (by kernel_rfl) (fun _ _ _ h => h) (Or.inl ⟨by kernel_rfl, ?_⟩) (by assumption) ?_
    rotate_left
    · (intro w hSw; (try dsimp only at hSw); go_simp; try with_reducible rfl)
    (repeat (first | simp only [Act.put] | simp only [List.setIfInBounds_toArray] | simp only [List.set_cons_succ] | simp only [List.set_cons_zero]))
    refine wpAnyH_take (i := 1) (oi := ⟨some 19, _, _, _, _, _⟩) (v := ?_) rfl (by kernel_rfl) (by kernel_rfl) (by kernel_rfl) (fun _ _ _ h => h) (Or.inl ⟨by kernel_rfl, ?_⟩) (by assumption) ?_
    rotate_left
    · (intro w hSw; (try dsimp only at hSw); go_simp; try with_reducible rfl)
    (repeat (first | simp only [Act.put] | simp only [List.setIfInBounds_toArray] | simp only [List.set_cons_succ] | simp only [List.set_cons_zero]))
    refine wpAnyH_take (i := 2) (oi := ⟨some 20, _, _, _, _, _⟩) (v := ?_) rfl (by kernel_rfl) (by kernel_rfl) (by kernel_rfl) (fun _ _ _ h => h) (Or.inl ⟨by kernel_rfl, ?_⟩) (by assumption) ?_
    rotate_left
    · (intro w hSw; (try dsimp only at hSw); go_simp; try with_reducible rfl)
    (repeat (first | simp only [Act.put] | simp only [List.setIfInBounds_toArray] | simp only [List.set_cons_succ] | simp only [List.set_cons_zero]))
    refine wpAnyH_take (i := 3) (oi := ⟨some 21, _, _, _, _, _⟩) (v := ?_) rfl (by kernel_rfl) (by kernel_rfl) (by kernel_rfl) (fun _ _ _ h => h) (Or.inl ⟨by kernel_rfl, ?_⟩) (by assumption) ?_
    rotate_left
    · (intro w hSw; have hs := HP2.out _ hSw; (try dsimp only at hSw); go_simp; try with_reducible rfl)
    (repeat (first | simp only [Act.put] | simp only [List.setIfInBounds_toArray] | simp only [List.set_cons_succ] | simp only [List.set_cons_zero]))
    refine wpAnyH_take (i := 4) (oi := ⟨some 22, _, _, _, _, _⟩) (v := ?_) rfl (by kernel_rfl) (by kernel_rfl) (by kernel_rfl) (fun _ _ _ h => h) (Or.inl ⟨by kernel_rfl, ?_⟩) (by assumption) ?_
    rotate_left
    · (intro w hSw; (try dsimp only at hSw); go_simp; try with_reducible rfl)
    (repeat (first | simp only [Act.put] | simp only [List.setIfInBounds_toArray] | simp only [List.set_cons_succ] | simp only [List.set_cons_zero]))
    refine wpAnyH_take (i := 5) (oi := ⟨some 23, _, _, _, _, _⟩) (v := ?_) rfl (by kernel_rfl) (by kernel_rfl) (by kernel_rfl) (fun _ _ _ h => h) (Or.inl ⟨by kernel_rfl, ?_⟩) (by assumption) ?_
    rotate_left
    · (intro w hSw; (try dsimp only at hSw); go_simp; try with_reducible rfl)
    (repeat (first | simp only [Act.put] | simp only [List.setIfInBounds_toArray] | simp only [List.set_cons_succ] | simp only [List.set_cons_zero]))
    refine wpAnyH_take (i := 6) (oi := ⟨some 24, _, _, _, _, _⟩) (v := ?_) rfl (by kernel_rfl) (by kernel_rfl) (by kernel_rfl) (fun _ _ _ h => h) (Or.inl ⟨by kernel_rfl, ?_⟩) (by assumption) ?_
    rotate_left
    · (intro w hSw; have hs := HQ2.out _ hSw; (try dsimp only at hSw); go_simp; try with_reducible rfl)
    (repeat (first | simp only [Act.put] | simp only [List.setIfInBounds_toArray] | simp only [List.set_cons_succ] | simp only [List.set_cons_zero]))
    refine wpAnyH_take (i := 7) (oi := ⟨some 25, _, _, _, _, _⟩) (v := ?_) rfl (by kernel_rfl) (by kernel_rfl) (by kernel_rfl) (fun _ _ _ h => h) (Or.inl ⟨by kernel_rfl, ?_⟩) (by assumption) ?_
    rotate_left
    · (intro w hSw; have hs := HL2.out _ hSw; (try dsimp only at hSw); go_simp; try with_reducible rfl)
    (repeat (first | simp only [Act.put] | simp only [List.setIfInBounds_toArray] | simp only [List.set_cons_succ] | simp only [List.set_cons_zero]))
    refine wpAnyH_ready (rs := [8]) (by kernel_rfl) (by simp) ?_
    refine AllReadyH.cons (o := ⟨none, _, _, _, _, _⟩) rfl (fun K hK => ?_) AllReadyH.nil
    ((with_reducible apply any_storeOd); rfl; rfl; rfl; rfl; exact hd_drew HC1.out; skip)
    refine hK.out _ _ (by exact ⟨fr_row (Fr.drew (Fr.refl _ _)), _, setRow_heap _ _ _ _ _ _ (hd_drew HC1.out)⟩) (fun hHeld => ?_)
    clear hK K
    (repeat (first | simp only [Act.put] | simp only [List.setIfInBounds_toArray] | simp only [List.set_cons_succ] | simp only [List.set_cons_zero]))
    refine wpAnyH_take (i := 9) (oi := ⟨some 5, _, _, _, _, _⟩) (v := ?_) rfl (by kernel_rfl) (by kernel_rfl) (by kernel_rfl) (fun _ _ _ h => h) (Or.inl ⟨by kernel_rfl, ?_⟩) (by assumption) ?_
    rotate_left
    · (intro w hSw; (try dsimp only at hSw); go_simp; try with_reducible rfl)
    (repeat (first | simp only [Act.put] | simp only [List.setIfInBounds_toArray] | simp only [List.set_cons_succ] | simp only [List.set_cons_zero]))
    refine wpAnyH_done (by kernel_rfl) ?_ _
    go_wp2_with fail
    have hX : Cl 24 (w1.drew.setRow w.heap.size (OC x)) w.heap.size (OC x) := setRow_heap _ _ _ _ _ _ (hd_drew HC1.out)
    refine bodyPost_ret (retOt rfl _ _ _ rfl x _ hX _ rfl) rfl ?_
    exact ⟨rfl, Lib.hid (HB.out.trans (hHeld.1.below (fun k hk => by rw [hk]; exact Nat.le_refl _) (by rw [← hw1]; simp)))⟩
/-- What waits first on a side; the orders at a price of a side. -/
def bstQ (Q1 Q2 : List Rw) (sd : Int) : Option Od := fstO (rsq Q1 Q2 sd)
theorem gBest_c (p m ms : Nat) (D : DataW Value) (g1 g2 : Sg) (Q1 Q2 : List Rw) (sd : Int) (hs : (Lit.int .i64 sd).wf = true) (w : World) (H : GW w p m ms D g1 g2 Q1 Q2) :
    Calls Try.prog 9 #[.pointer (some ⟨p, 0, none⟩), .int .i64 sd] w fun e w' => e = .returned (.tuple #[optV (bstQ Q1 Q2 sd), .bool (bstQ Q1 Q2 sd).isSome]) ∧ Hid (Below w.heap.size w w') := by
  unfold bstQ rsq
  by_cases h1 : sd = 1
  · subst h1; rw [if_pos rfl]; exact gBest_own p m ms D g1 g2 Q1 Q2 1 g1 Q1 w H H.own1
  rw [if_neg h1]
  by_cases h2 : sd = 2
  · subst h2; rw [if_pos rfl]; exact gBest_own p m ms D g1 g2 Q1 Q2 2 g2 Q2 w H H.own2
  rw [if_neg h2]
  exact gBest_off _ _ D g1 g2 sd ⟨h1, h2⟩ hs w H.gk
theorem gLevel_c (p m ms : Nat) (D : DataW Value) (g1 g2 : Sg) (Q1 Q2 : List Rw) (sd pr : Int) (hs : (Lit.int .i64 sd).wf = true) (w : World) (H : GW w p m ms D g1 g2 Q1 Q2) :
    Calls Try.prog 13 #[.pointer (some ⟨p, 0, none⟩), .int .i64 sd, .int .i64 pr] w fun e w' => ∃ v, e = .returned v ∧ Hid (w'.ownsRow w.heap.size 24 6 v (atP pr (rsq Q1 Q2 sd)).length (ol (atP pr (rsq Q1 Q2 sd))) ∧ Below w.heap.size w w') := by
  unfold rsq
  by_cases h1 : sd = 1
  · subst h1; rw [if_pos rfl]; exact gLevel_own p m ms D g1 g2 Q1 Q2 1 pr g1 Q1 w H H.own1
  rw [if_neg h1]
  by_cases h2 : sd = 2
  · subst h2; rw [if_pos rfl]; exact gLevel_own p m ms D g1 g2 Q1 Q2 2 pr g2 Q2 w H H.own2
  rw [if_neg h2]
  refine (gLevel_off _ _ D g1 g2 sd pr ⟨h1, h2⟩ hs w H.gk).mono ?_
  rintro e w' ⟨v, rfl, h⟩
  exact ⟨v, rfl, h⟩
end Go.Proofs.Ytgbmgdffgmablaa

/- grove: put's closure. (By mkgwf.py.) -/
namespace Go.Proofs.Ytgbmgdffgmablaa
open Go.RowKit Go.Sort Go.Lib Go.Maps Go.Shelf
set_option linter.unusedVariables false

set_option maxHeartbeats 4000000 in
set_option maxRecDepth 100000 in
theorem put1_c (W : World) (ob bb qb p m g n c i : Nat) (o x : Od) (hi : i < n) (h1 : Cl 24 W ob (OC o)) (h2 : Cl 25 W bb #[.pointer (some ⟨p, 0, none⟩)]) (h3 : Cl 66 W qb #[.slice (some ⟨g, 0, none⟩) n c])
    (hp : W.cell? ⟨p, 0, none⟩ = some (.map (some m)) ∧ p < W.heap.size) (hx : W.cell? ⟨g, i, none⟩ = some (.int .u64 x.id) ∧ g < W.heap.size)
    (hl : ∀ W', Gw W W' → (Instr.lookup 26 (.map (some m)) (.int .u64 x.id) false).run Try.prog W' = .ok (.agg (OC x)) W') :
    Calls Try.prog 50 #[.int .i64 i, .pointer (some ⟨ob, 0, none⟩), .pointer (some ⟨bb, 0, none⟩), .pointer (some ⟨qb, 0, none⟩)] W fun e w' => e = .returned (.bool (ahdO o x)) ∧ Gw W w' := by
  have HO : Hid (∀ W', Gw W W' → Cl 24 W' ob (OC o)) := Lib.hid fun W' h => (h.b.block _ (blk_lt h1)).trans h1
  have HB : Hid (∀ W', Gw W W' → W'.cell? ⟨bb, 0, none⟩ = some (.pointer (some ⟨p, 0, none⟩))) := Lib.hid fun W' h => (h.b.cell (p := ⟨bb, 0, none⟩) (blk_lt h2)).trans ((h2.c 0).trans rfl)
  have HP : Hid (∀ W', Gw W W' → W'.cell? ⟨p, 0, none⟩ = some (.map (some m))) := Lib.hid fun W' h => (h.b.cell (p := ⟨p, 0, none⟩) hp.2).trans hp.1
  have HQ : Hid (∀ W', Gw W W' → W'.cell? ⟨qb, 0, none⟩ = some (.slice (some ⟨g, 0, none⟩) n c)) := Lib.hid fun W' h => (h.b.cell (p := ⟨qb, 0, none⟩) (blk_lt h3)).trans ((h3.c 0).trans rfl)
  have HX : Hid (∀ W', Gw W W' → W'.cell? ⟨g, i, none⟩ = some (.int .u64 x.id)) := Lib.hid fun W' h => (h.b.cell (p := ⟨g, i, none⟩) hx.2).trans hx.1
  have HL := Lib.hid hl
  have HA := Lib.hid (fun W' => ahead_c o.id o.acc o.side o.price o.qty o.seq x.id x.acc x.side x.price x.qty x.seq W')
  have hr : ahdN o.id o.side o.price o.seq x.id x.side x.price x.seq = ahdO o x := rfl
  rw [hr] at HA
  generalize ahdO o x = r at HA ⊢
  have q1 : (i : Int) < (n : Int) := by omega
  have q2 : (0 : Int) ≤ (i : Int) := by omega
  clear h1 h2 h3 hp hx hl hr hi
  go_enter Try.func50, Try.ntmps50
  go_wp2_with fail
  refine wp_region_held_drew (S := fun W' => Gw W W') (by kernel_rfl) (by exact ⟨(Below.refl _ _).drew, Nat.le_succ _⟩) (fun hHeld => ?_)
  refine wpAnyH_take (i := 0) (oi := ⟨some 6, _, _, _, _, _⟩) (v := ?_) rfl (by kernel_rfl) (by kernel_rfl) (by kernel_rfl) (fun _ _ _ h => h) (Or.inl ⟨by kernel_rfl, ?_⟩) (by assumption) ?_
  rotate_left
  · (intro w hSw; obtain ⟨x0, x1, x2, x3, x4, x5⟩ := six_of (HO.out _ hSw); (try dsimp only at hSw); go_simp; try with_reducible rfl)
  (repeat (first | simp only [Act.put] | simp only [List.setIfInBounds_toArray] | simp only [List.set_cons_succ] | simp only [List.set_cons_zero]))
  refine wpAnyH_take (i := 1) (oi := ⟨some 7, _, _, _, _, _⟩) (v := ?_) rfl (by kernel_rfl) (by kernel_rfl) (by kernel_rfl) (fun _ _ _ h => h) (Or.inl ⟨by kernel_rfl, ?_⟩) (by assumption) ?_
  rotate_left
  · (intro w hSw; have hs := HB.out _ hSw; (try dsimp only at hSw); go_simp; try with_reducible rfl)
  (repeat (first | simp only [Act.put] | simp only [List.setIfInBounds_toArray] | simp only [List.set_cons_succ] | simp only [List.set_cons_zero]))
  refine wpAnyH_take (i := 2) (oi := ⟨some 8, _, _, _, _, _⟩) (v := ?_) rfl (by kernel_rfl) (by kernel_rfl) (by kernel_rfl) (fun _ _ _ h => h) (Or.inl ⟨by kernel_rfl, ?_⟩) (by assumption) ?_
  rotate_left
  · (intro w hSw; (try dsimp only at hSw); go_simp; try with_reducible rfl)
  (repeat (first | simp only [Act.put] | simp only [List.setIfInBounds_toArray] | simp only [List.set_cons_succ] | simp only [List.set_cons_zero]))
  refine wpAnyH_take (i := 3) (oi := ⟨some 9, _, _, _, _, _⟩) (v := ?_) rfl (by kernel_rfl) (by kernel_rfl) (by kernel_rfl) (fun _ _ _ h => h) (Or.inl ⟨by kernel_rfl, ?_⟩) (by assumption) ?_
  rotate_left
  · (intro w hSw; (try dsimp only at hSw); go_simp; try with_reducible rfl)
  (repeat (first | simp only [Act.put] | simp only [List.setIfInBounds_toArray] | simp only [List.set_cons_succ] | simp only [List.set_cons_zero]))
  refine wpAnyH_take (i := 4) (oi := ⟨some 10, _, _, _, _, _⟩) (v := ?_) rfl (by kernel_rfl) (by kernel_rfl) (by kernel_rfl) (fun _ _ _ h => h) (Or.inl ⟨by kernel_rfl, ?_⟩) (by assumption) ?_
  rotate_left
  · (intro w hSw; have hs := HP.out _ hSw; (try dsimp only at hSw); go_simp; try with_reducible rfl)
  (repeat (first | simp only [Act.put] | simp only [List.setIfInBounds_toArray] | simp only [List.set_cons_succ] | simp only [List.set_cons_zero]))
  refine wpAnyH_take (i := 5) (oi := ⟨some 11, _, _, _, _, _⟩) (v := ?_) rfl (by kernel_rfl) (by kernel_rfl) (by kernel_rfl) (fun _ _ _ h => h) (Or.inl ⟨by kernel_rfl, ?_⟩) (by assumption) ?_
  rotate_left
  · (intro w hSw; have hs := HQ.out _ hSw; (try dsimp only at hSw); go_simp; try with_reducible rfl)
  (repeat (first | simp only [Act.put] | simp only [List.setIfInBounds_toArray] | simp only [List.set_cons_succ] | simp only [List.set_cons_zero]))
  refine wpAnyH_take (i := 6) (oi := ⟨some 12, _, _, _, _, _⟩) (v := ?_) rfl (by kernel_rfl) (by kernel_rfl) (by kernel_rfl) (fun _ _ _ h => h) (Or.inl ⟨by kernel_rfl, ?_⟩) (by assumption) ?_
  rotate_left
  · (intro w hSw; (try dsimp only at hSw); go_simp; try with_reducible rfl)
  (repeat (first | simp only [Act.put] | simp only [List.setIfInBounds_toArray] | simp only [List.set_cons_succ] | simp only [List.set_cons_zero]))
  refine wpAnyH_take (i := 7) (oi := ⟨some 13, _, _, _, _, _⟩) (v := ?_) rfl (by kernel_rfl) (by kernel_rfl) (by kernel_rfl) (fun _ _ _ h => h) (Or.inl ⟨by kernel_rfl, ?_⟩) (by assumption) ?_
  rotate_left
  · (intro w hSw; (try dsimp only at hSw); go_simp; try with_reducible rfl)
  (repeat (first | simp only [Act.put] | simp only [List.setIfInBounds_toArray] | simp only [List.set_cons_succ] | simp only [List.set_cons_zero]))
  refine wpAnyH_take (i := 8) (oi := ⟨some 14, _, _, _, _, _⟩) (v := ?_) rfl (by kernel_rfl) (by kernel_rfl) (by kernel_rfl) (fun _ _ _ h => h) (Or.inl ⟨by kernel_rfl, ?_⟩) (by assumption) ?_
  rotate_left
  · (intro w hSw; have hs := HX.out _ hSw; (try dsimp only at hSw); go_simp; try with_reducible rfl)
  (repeat (first | simp only [Act.put] | simp only [List.setIfInBounds_toArray] | simp only [List.set_cons_succ] | simp only [List.set_cons_zero]))
  refine wpAnyH_take (i := 9) (oi := ⟨some 15, _, _, _, _, _⟩) (v := ?_) rfl (by kernel_rfl) (by kernel_rfl) (by kernel_rfl) (fun _ _ _ h => h) (Or.inl ⟨by kernel_rfl, ?_⟩) (by assumption) ?_
  rotate_left
  · (intro w hSw; have hs := HL.out _ hSw; (try dsimp only at hSw); go_simp; try with_reducible rfl)
  (repeat (first | simp only [Act.put] | simp only [List.setIfInBounds_toArray] | simp only [List.set_cons_succ] | simp only [List.set_cons_zero]))
  refine wpAnyH_ready (rs := [10]) (by kernel_rfl) (by simp) ?_
  refine AllReadyH.cons (o := ⟨some 16, _, _, _, _, _⟩) rfl (fun K hK => ?_) AllReadyH.nil
  go_simp
  ((with_reducible refine (HA.out _).mono ?_); rintro e y1 ⟨rfl, hg'⟩; have hg := Lib.hid hg'; clear hg')
  refine hK.out _ _ (by exact hHeld.trans hg.out) (fun hHeld => ?_)
  clear hK K
  (repeat (first | simp only [Act.put] | simp only [List.setIfInBounds_toArray] | simp only [List.set_cons_succ] | simp only [List.set_cons_zero]))
  refine wpAnyH_take (i := 11) (oi := ⟨some 5, _, _, _, _, _⟩) (v := ?_) rfl (by kernel_rfl) (by kernel_rfl) (by kernel_rfl) (fun _ _ _ h => h) (Or.inl ⟨by kernel_rfl, ?_⟩) (by assumption) ?_
  rotate_left
  · (intro w hSw; (try dsimp only at hSw); go_simp; try with_reducible rfl)
  (repeat (first | simp only [Act.put] | simp only [List.setIfInBounds_toArray] | simp only [List.set_cons_succ] | simp only [List.set_cons_zero]))
  refine wpAnyH_done (by kernel_rfl) ?_ _
  go_wp2_with fail
  go_ret
  exact ⟨rfl, hHeld⟩
end Go.Proofs.Ytgbmgdffgmablaa

/- grove: memory behind put and Take: what stands elsewhere; a queue that was rewritten in place. -/
namespace Go.Proofs.Ytgbmgdffgmablaa
open Go.RowKit Go.Sort Go.Lib Go.Maps Go.Shelf
set_option linter.unusedVariables false

theorem cl_ne_map {T : TypeId} {w : World} {c m n : Nat} {cs : Array Value} {P : Program} {K : TypeId} {R : Value → Option (DataW Value × List MemPlace)} {D : DataW Value} (h : Cl T w c cs) (hm : w.ownsMap P K R m n D) : c ≠ m := by
  rintro rfl
  obtain ⟨es, clock, hb, _⟩ := hm
  rw [h] at hb
  cases hb
theorem TrIn.vcl {W : World} : ∀ {t : Tr}, TrIn W t → ∀ v ∈ t.vals, ∀ k, v.ownBlock = some k → ∃ cur, Cl 22 W k cur
  | .nil, _, v, h => (by cases h)
  | .node a k v q l r, h, u, hu => by
    unfold Tr.vals at hu
    rcases List.mem_append.1 hu with hu | hu
    · exact TrIn.vcl h.2.2.1 u hu
    · rcases List.mem_cons.1 hu with rfl | hu
      · intro j hj
        rcases h.2.1.2 with ⟨rfl, _⟩ | ⟨g, cap, cur, rfl, _, hg, _⟩
        · cases hj
        · injection hj with hj
          subst hj
          exact ⟨cur, hg⟩
      · exact TrIn.vcl h.2.2.2 u hu
theorem SgIn.cl {w : World} {s : Int} {g : Sg} (h : SgIn w s g) : ∀ k, sfoot g k → ∃ T cs, Cl T w k cs := by
  rintro k (rfl | rfl | hk | ⟨v, hv, hk⟩)
  · exact ⟨_, _, h.box⟩
  · exact ⟨_, _, h.cx⟩
  · obtain ⟨cs, hc⟩ := h.tr.at_ k hk
    exact ⟨_, cs, hc⟩
  · obtain ⟨cs, hc⟩ := h.tr.vcl v hv k hk
    exact ⟨_, cs, hc⟩
theorem SgIn.no_map {w : World} {s : Int} {g : Sg} (h : SgIn w s g) {m n : Nat} {P : Program} {K : TypeId} {R : Value → Option (DataW Value × List MemPlace)} {D : DataW Value} (hm : w.ownsMap P K R m n D) : ∀ k, sfoot g k → k ≠ m := by
  intro k hk
  obtain ⟨T, cs, hc⟩ := h.cl k hk
  exact cl_ne_map hc hm
theorem SgIn.keep {S : Nat → Prop} {w w' : World} {s : Int} {g : Sg} (h : SgIn w s g) (hf : Fr S w w') (hn : ∀ k, sfoot g k → ¬ S k) : SgIn w' s g :=
  h.fr hf (hn _ (.inl rfl)) (hn _ (.inr (.inl rfl))) (fun b hb => hn b (.inr (.inr (.inl hb)))) (fun v hv k hk => hn k (.inr (.inr (.inr ⟨v, hv, hk⟩))))
theorem fr_grown {row : Nat} {w w' : World} (h : w.grownBy w' (some row)) : Fr (· = row) w w' := ⟨h.os, h.tape, h.output, h.size, fun k hk hn => h.block k hk (fun e => hn (by injection e))⟩
theorem fr_grown0 {S : Nat → Prop} {w w' : World} (h : w.grownBy w' none) : Fr S w w' := ⟨h.os, h.tape, h.output, h.size, fun k hk _ => h.block k hk (by simp)⟩
/-- The orders' map turned, nothing else. -/
theorem Gk.setom {w w' : World} {p m ms : Nat} {D D' : DataW Value} {g1 g2 : Sg} (h : Gk w (some ⟨p, 0, none⟩) (some (m, ms)) D g1 g2) (hg : w.grownBy w' (some m)) (ho : w'.ownsMap Try.prog 22 RV m 64 D') (hm : m ≠ ms) : Gk w' (some ⟨p, 0, none⟩) (some (m, ms)) D' g1 g2 := by
  have hf := fr_grown hg
  refine ⟨?_, fun a b e => ?_, fun a b e => ?_, fun e => ?_, fun e => ?_⟩
  · rcases h.shape with ⟨h0, _⟩ | ⟨q, hq, hc⟩
    · cases h0
    · exact .inr ⟨q, hq, hf.blk hc (cl_ne_map hc (h.om _ _ rfl))⟩
  · injection e with e; injection e with e1 e2
    subst e1; exact ho
  · have := h.sm a b e
    injection e with e; injection e with e1 e2
    subst e2; exact ownsMap_fr this hf (fun e => hm e.symm)
  · exact (h.s1 e).keep hf (fun k hk => (h.s1 e).no_map (h.om _ _ rfl) k hk)
  · exact (h.s2 e).keep hf (fun k hk => (h.s2 e).no_map (h.om _ _ rfl) k hk)
theorem plug_vals2 : ∀ (c : Cx) (t : Tr), (c.plug t).vals.Perm (t.vals ++ c.vals)
  | .top, t => by simp [Cx.plug, Cx.vals]
  | .left a key v q r c, t => by
    refine (plug_vals2 c _).trans ?_
    simp only [Tr.vals, Cx.vals, List.append_assoc, List.cons_append]
    exact List.Perm.refl _
  | .right a key v q l c, t => by
    refine (plug_vals2 c _).trans ?_
    simp only [Tr.vals, Cx.vals, List.append_assoc, List.cons_append]
    exact List.perm_middle.trans ((List.Perm.cons v (List.perm_append_comm_assoc l.vals t.vals c.vals)).trans List.perm_middle.symm)
theorem plug_blks_eq : ∀ (c : Cx) (t t' : Tr), t.blks = t'.blks → (c.plug t).blks = (c.plug t').blks
  | .top, t, t', h => h
  | .left a key v q r c, t, t', h => plug_blks_eq c _ _ (by simp only [Tr.blks, h])
  | .right a key v q l c, t, t', h => plug_blks_eq c _ _ (by simp only [Tr.blks, h])
/-- The tree with other IDs at a place. -/
theorem stale {W W' : World} {g : Sg} {s key : Int} {c : Cx} {a b0 : Nat} {v : Value} {q q' : List Int} {l r : Tr} (hS : SgIn W s g) (hI : SpI W g.tb g.sb s key g.t c (.node a key v q l r)) (hv : v.ownBlock = some b0) (hVD : VD g.t.vals) (hf : Fr (· = b0) W W') (hq : W'.ownsRow 0 22 1 v q'.length (idV q')) :
    SgIn W' s ⟨g.tb, g.sb, c.plug (.node a key v q' l r)⟩ ∧ (c.plug (.node a key v q' l r)).vals = g.t.vals ∧ (c.plug (.node a key v q' l r)).blks = g.t.blks ∧ (c.plug (.node a key v q' l r)).items = g.t.items := by
  have hvv := hI.tr.2.1
  obtain ⟨cur, hcur⟩ : ∃ cur, Cl 22 W b0 cur := by
    rcases hvv.2 with ⟨rfl, _⟩ | ⟨gg, cap, cur, rfl, _, hg, _⟩
    · cases hv
    · injection hv with hv; subst hv; exact ⟨cur, hg⟩
  have hp0 : g.t.vals.Perm ((Tr.node a key v q l r).vals ++ c.vals) := by rw [← hI.eq]; exact plug_vals2 c _
  have hVP := hVD.perm hp0
  simp only [Tr.vals, List.append_assoc, List.cons_append] at hVP
  have hVQ : VD (v :: (l.vals ++ (r.vals ++ c.vals))) := hVP.perm List.perm_middle
  have hno : ∀ u ∈ l.vals ++ (r.vals ++ c.vals), ∀ k, u.ownBlock = some k → ¬ k = b0 := fun u hu k hk e => by
    subst e
    exact (List.pairwise_cons.1 hVQ).1 u hu k hv hk
  have cne : ∀ {T : TypeId} {k : Nat} {cs : Array Value}, 22 ≠ T → Cl T W k cs → ¬ k = b0 := fun hT hc e => by
    subst e
    have e2 : some _ = some _ := Eq.trans (Eq.symm hc) hcur
    injection e2 with e2
    injection e2 with _ e2 _
    exact hT e2.symm
  have hblk : ∀ b ∈ g.t.blks, ¬ b = b0 := fun b hb => by
    obtain ⟨cs, hc⟩ := hS.tr.at_ b hb
    exact cne (by decide) hc
  have hB := plug_blks c (.node a key v q l r)
  rw [hI.eq] at hB
  have hB2 : ∀ b ∈ (Tr.node a key v q l r).blks ++ c.blks, ¬ b = b0 := fun b hb => hblk b (hB.mem_iff.2 hb)
  simp only [Tr.blks, List.append_assoc, List.cons_append] at hB2
  have htb : ¬ g.tb = b0 := cne (by decide) hS.cx
  have cx' : CxIn W' g.tb g.sb c (.pointer (some ⟨a, 0, none⟩)) := CxIn.fr hf htb hI.cx (fun b hb => hB2 b (by simp [hb])) (fun u hu k hk => hno u (by simp [hu]) k hk)
  have tr' : TrIn W' (.node a key v q' l r) := ⟨hf.blk hI.tr.1 (hB2 a (by simp)), hq, TrIn.fr hf hI.tr.2.2.1 (fun b hb => hB2 b (by simp [hb])) (fun u hu k hk => hno u (by simp [hu]) k hk), TrIn.fr hf hI.tr.2.2.2 (fun b hb => hB2 b (by simp [hb])) (fun u hu k hk => hno u (by simp [hu]) k hk)⟩
  have hp := plug_in (t := .node a key v q' l r) cx' tr'
  obtain ⟨A, C, hpv⟩ := plug_vals c
  obtain ⟨A2, C2, hpi⟩ := plug_items c
  have ev : (c.plug (.node a key v q' l r)).vals = g.t.vals := by rw [← hI.eq, hpv, hpv]; rfl
  have eb : (c.plug (.node a key v q' l r)).blks = g.t.blks := by rw [← hI.eq]; exact plug_blks_eq c _ _ rfl
  have ei : (c.plug (.node a key v q' l r)).items = g.t.items := by rw [← hI.eq, hpi, hpi]; rfl
  have hbox : Cl 3 W' g.sb #[.int .i64 s] := hf.blk hS.box (cne (by decide) hS.box)
  have hsrt : Srt s (c.plug (.node a key v q' l r)).rows := by
    have h := hS.srt
    rw [← hI.eq, rows_plug] at h
    rw [rows_plug]
    unfold Srt at h ⊢
    simp only [Tr.rows, List.append_assoc, List.cons_append] at h ⊢
    have h2 := (List.pairwise_map (f := fun x : Rq => x.1) (R := fun x y => betN s x y = true)).2 h
    refine (List.pairwise_map (f := fun x : Rq => x.1) (R := fun x y => betN s x y = true)).1 ?_
    simpa using h2
  exact ⟨⟨hbox, hp.1, hp.2, hsrt, by rw [eb]; exact hS.nd⟩, ev, eb, ei⟩
end Go.Proofs.Ytgbmgdffgmablaa

/- grove: a side behind Insert; the rows behind put. -/
namespace Go.Proofs.Ytgbmgdffgmablaa
open Go.RowKit Go.Sort Go.Lib Go.Maps Go.Shelf
set_option linter.unusedVariables false

theorem own_take {w : World} {g n k c : Nat} {xs : List Int} (h : w.ownsRow 0 22 1 (.slice (some ⟨g, 0, none⟩) n c) n (idV xs)) (hk : k ≤ n) : w.ownsRow 0 22 1 (.slice (some ⟨g, 0, none⟩) k c) k (idV (xs.take k)) := by
  have hl := h.1
  simp only [idV, List.length_map] at hl
  rcases h.2 with ⟨hv, _⟩ | ⟨g', cap, cur, hv, hb, hg, hnc, hcm, hcs, ht⟩
  · cases hv
  · injection hv with e1 _ e3
    injection e1 with e1
    injection e1 with e1
    subst e1 e3
    refine ⟨by simp [idV]; omega, .inr ⟨g, c, cur, rfl, hb, hg, by omega, hcm, hcs, ?_⟩⟩
    have h2 : (cur.toList.take (n * 1)).take k = (idV xs).take k := by rw [ht]
    rw [List.take_take, Nat.min_eq_left (by omega)] at h2
    rw [Nat.mul_one, h2]
    simp [idV, List.map_take]
/-- A row of IDs alone. -/
def fakeR (pr : Int) (q : List Int) : Rw := ⟨pr, .slice none 0 0, q.map fun i => ⟨i, 0, 0, 0, 0, 0⟩⟩
theorem fake_rq (pr : Int) (q : List Int) : rqOf (fakeR pr q) = (pr, q) := by
  unfold rqOf fakeR
  simp [List.map_map, Function.comp_def]
/-- A side whose queue at a price was rewritten, in place or in a new row. -/
structure Rew (Wj : World) (s pr : Int) (g : Sg) (A M B : List Rw) (T : Tr) : Prop where
  sg : SgIn Wj s ⟨g.tb, g.sb, T⟩
  vals : T.vals = g.t.vals
  blks : T.blks = g.t.blks
  items : T.items = g.t.items
  rows : ∃ M', T.rows = (A ++ M' ++ B).map rqOf ∧ ∀ a ∈ M', a.pr = pr
theorem rew_same {Wj W : World} {s pr : Int} {g : Sg} {A M B : List Rw} (hS : SgIn W s g) (hf : Fr (fun _ => False) W Wj) (e : g.t.rows = (A ++ M ++ B).map rqOf) (hM : ∀ a ∈ M, a.pr = pr) : Rew Wj s pr g A M B g.t :=
  ⟨hS.keep hf (fun _ _ h => h), rfl, rfl, rfl, M, e, hM⟩
theorem rew_place {Wj W : World} {s pr : Int} {g : Sg} {A B : List Rw} {m : Rw} {c : Cx} {a b0 : Nat} {v : Value} {q q' : List Int} {l r : Tr} (hS : SgIn W s g) (hI : SpI W g.tb g.sb s pr g.t c (.node a pr v q l r)) (hv : v.ownBlock = some b0) (hVD : VD g.t.vals) (hf : Fr (· = b0) W Wj) (hq : Wj.ownsRow 0 22 1 v q'.length (idV q'))
    (hA : A.map rqOf = c.pre ++ l.rows) (hB : B.map rqOf = r.rows ++ c.post) : Rew Wj s pr g A [m] B (c.plug (.node a pr v q' l r)) := by
  obtain ⟨h1, h2, h3, h4⟩ := stale hS hI hv hVD hf hq
  refine ⟨h1, h2, h3, h4, [fakeR pr q'], ?_, fun a ha => by rw [List.mem_singleton.1 ha]; rfl⟩
  rw [rows_plug, List.map_append, List.map_append, hA, hB]
  simp [Tr.rows, fake_rq]
theorem ids_putQ (o : Od) (q : List Od) : (idV (q.map (·.id))).take (plN o q * 1) ++ [.int .u64 o.id] ++ (idV (q.map (·.id))).drop (plN o q * 1) = idV ((putQ o q).map (·.id)) := by
  unfold putQ idV
  simp [List.map_take, List.map_drop]
/-- The rows behind put. -/
theorem put_rows {W w' : World} {sd : Int} {tb sb : Nat} {g : Sg} {A M B : List Rw} {o : Od} {Tw T' : Tr} {v' : Value} {ids : List Int} (hQ : SideOk sd (A ++ M ++ B)) (hA : ∀ a ∈ A, betN sd a.pr o.price = true) (hB : ∀ b ∈ B, betN sd o.price b.pr = true)
    (hM : M = [] ∨ ∃ m, M = [m] ∧ m.pr = o.price) (hR : Rew W sd o.price g A M B Tw) (hP : TPut W w' tb sb sd o.price Tw T' v' ids) (hids : ids = (putQ o (flatR M)).map (·.id)) :
    ∃ Q', T'.rows = Q'.map rqOf ∧ PutR sd o (A ++ M ++ B) Q' := by
  obtain ⟨M', e, hM'⟩ := hR.rows
  obtain ⟨P, R, Z, h1, h2, h3, hP1, hZ1⟩ := hP.rows
  rw [e] at h1
  obtain ⟨e1, e2, e3⟩ := part_rq rfl hA hM' hB h1 hP1 (fun a ha => by rcases h3 with h3 | ⟨q0, h3⟩ <;> (rw [h3] at ha; simp at ha); rw [ha]) hZ1
  refine ⟨A ++ ⟨o.price, .slice none 0 0, putQ o (flatR M)⟩ :: B, ?_, A, B, _, M, rfl, rfl, rfl, hA, hB, ?_⟩
  · rw [h2, ← e1, ← e3, hids]
    simp [rqOf]
  · rcases hM with rfl | ⟨m, rfl, hm⟩
    · refine .inl ⟨rfl, ?_⟩
      show putQ o [] = [o]
      simp [putQ]
    · refine .inr ⟨m, rfl, hm, ?_⟩
      show putQ o (flatR [m]) = putQ o m.q
      simp [flatR]
theorem srt_nodup {s : Int} {R : List Rq} (h : Srt s R) {k : Int} {q q' : List Int} (h1 : (k, q) ∈ R) (h2 : (k, q') ∈ R) : q = q' := by
  have irr : ¬ betN s k k = true := by rw [bet_iff]; omega
  induction R with
  | nil => cases h1
  | cons x R ih =>
    obtain ⟨hx, hR⟩ := List.pairwise_cons.1 h
    rcases List.mem_cons.1 h1 with e1 | h1
    · rcases List.mem_cons.1 h2 with e2 | h2
      · rw [← e1] at e2; exact (Prod.mk.inj e2).2.symm
      · have := hx _ h2; rw [← e1] at this; exact absurd this irr
    · rcases List.mem_cons.1 h2 with e2 | h2
      · have := hx _ h1; rw [← e2] at this; exact absurd this irr
      · exact ih hR h1 h2
theorem items_fst : ∀ t : Tr, t.items.map Prod.fst = t.rows.map Prod.fst
  | .nil => rfl
  | .node a k v q l r => by simp [Tr.items, Tr.rows, items_fst l, items_fst r]
/-- One key, one queue. -/
theorem items_one {s : Int} {t : Tr} (h : Srt s t.rows) {k : Int} {u v : Value} (h1 : (k, u) ∈ t.items) (h2 : (k, v) ∈ t.items) : u = v := by
  have irr : ¬ betN s k k = true := by rw [bet_iff]; omega
  have hp : (t.items.map Prod.fst).Pairwise (fun x y => betN s x y = true) := by
    rw [items_fst]
    exact List.pairwise_map.2 h
  rw [List.pairwise_map] at hp
  revert h1 h2 hp
  generalize t.items = R
  intro h1 h2 hp
  induction R with
  | nil => cases h1
  | cons x R ih =>
    obtain ⟨hx, hR⟩ := List.pairwise_cons.1 hp
    rcases List.mem_cons.1 h1 with e1 | h1
    · rcases List.mem_cons.1 h2 with e2 | h2
      · rw [← e1] at e2; exact (Prod.mk.inj e2).2.symm
      · have := hx _ h2; rw [← e1] at this; exact absurd this irr
    · rcases List.mem_cons.1 h2 with e2 | h2
      · have := hx _ h1; rw [← e2] at this; exact absurd this irr
      · exact ih h1 h2 hR
end Go.Proofs.Ytgbmgdffgmablaa

/- grove: put. (By mkgwi.py.) -/
namespace Go.Proofs.Ytgbmgdffgmablaa
open Go.RowKit Go.Sort Go.Lib Go.Maps Go.Shelf
set_option linter.unusedVariables false

section
variable {ops : Array Oper} {o : Oper} {a : Act} {w : World} {Q : Exit → Act → World → Prop}
theorem any_upd {K : Act → World → Prop} {E : Prop} (hgd : Region.wanted o (yielded ops a.tmps) = true) (t : TypeId) (x y z : Operand) (ho : o.op = .mapUpdate t x y z) (mv kv vv : Value) (hx : a.eval x = mv) (hy : a.eval y = kv) (hz : a.eval z = vv) {w' : World}
    (hr : (Instr.mapUpdate t mv kv vv).run Try.prog w = .ok () w') (h : K (a.put o.dst undef) w') : if Region.wanted o (yielded ops a.tmps) = true then Oper.wp Try.prog o a w K Q else E := by
  rw [if_pos hgd]
  unfold Oper.wp
  simp [execOp, ho, hx, hy, hz, hr, Result.andThen]
  exact h
end
theorem gSideO_c {p m ms : Nat} {D : DataW Value} {g1 g2 : Sg} {sd : Int} {g : Sg} (h12 : (sd = 1 ∧ g = g1) ∨ (sd = 2 ∧ g = g2)) (W : World) (hG : Gk W (some ⟨p, 0, none⟩) (some (m, ms)) D g1 g2) :
    Calls Try.prog 26 #[.pointer (some ⟨p, 0, none⟩), .int .i64 sd] W fun e w' => e = .returned (.pointer (some ⟨g.tb, 0, none⟩)) ∧ W = w' := by
  have hwf : (Lit.int .i64 sd).wf = true := by rcases h12 with ⟨rfl, _⟩ | ⟨rfl, _⟩ <;> decide
  refine (gSide_c _ _ D g1 g2 sd W hwf hG).mono ?_
  rintro e w' ⟨g', rfl, hg⟩
  cases hg.out with
  | own1 _ h1 hw => rcases h12 with ⟨_, rfl⟩ | ⟨h2, _⟩; exact ⟨rfl, hw⟩; omega
  | own2 _ h1 hw => rcases h12 with ⟨h2, _⟩ | ⟨_, rfl⟩; omega; exact ⟨rfl, hw⟩
  | new h1 _ _ => rcases h1 with h1 | h1; cases h1; rcases h12 with ⟨h2, _⟩ | ⟨h2, _⟩; exact absurd h2 h1.1; exact absurd h2 h1.2
/-- What slices.Insert leaves, of a queue. -/
def InsIs (w4 w5 : World) (qv v' : Value) (n : Nat) (ids : List Int) : Prop :=
  Hid (w5.ownsRow 0 22 1 v' (n + 1) (idV ids) ∧ w4.grownBy w5 qv.ownBlock ∧ ((v'.ownBlock = some w4.heap.size ∧ w4.grownBy w5 none) ∨ ∃ g c, qv = .slice (some ⟨g, 0, none⟩) n c ∧ v' = .slice (some ⟨g, 0, none⟩) (n + 1) c))
theorem ins_rew {w1 w4 w5 : World} {s pr : Int} {g : Sg} {A M B : List Rw} {c : Cx} {t : Tr} {n : Nat} {v' : Value} {ids : List Int} (hS : SgIn w1 s g) (hI : SpI w1 g.tb g.sb s pr g.t c t) (hVD : VD g.t.vals) (e : g.t.rows = (A ++ M ++ B).map rqOf)
    (hM : (t = .nil ∧ M = []) ∨ ∃ a v q l r m, t = .node a pr v q l r ∧ M = [m] ∧ m.pr = pr ∧ q = m.q.map (·.id) ∧ A.map rqOf = c.pre ++ l.rows ∧ B.map rqOf = r.rows ++ c.post)
    (hf : Fr (fun _ => False) w1 w4) (h : InsIs w4 w5 t.val v' n ids) :
    ∃ Tw, Rew w5 s pr g A M B Tw ∧ ((∃ j, w1.heap.size ≤ j ∧ v'.ownBlock = some j) ∨ ∃ u, (pr, u) ∈ g.t.items ∧ v'.ownBlock = u.ownBlock) ∧ Fr (sfoot g) w1 w5 := by
  obtain ⟨k1, k2, k3⟩ := h.out
  rcases k3 with ⟨k3, k4⟩ | ⟨b0, cc, k3, k4⟩
  · have hf5 : Fr (fun _ => False) w1 w5 := hf.trans (fr_grown0 (S := fun _ => False) k4) (fun _ h => .inl h)
    exact ⟨g.t, rew_same hS hf5 e (fun a ha => by rcases hM with ⟨_, rfl⟩ | ⟨_, _, _, _, _, m, _, rfl, hm, _⟩; cases ha; rw [List.mem_singleton.1 ha]; exact hm), .inl ⟨_, hf.size, k3⟩, hf5.mono (fun _ h => h.elim)⟩
  · rcases hM with ⟨rfl, _⟩ | ⟨a, v, q, l, r, m, rfl, rfl, hm, hq, hA, hB⟩
    · cases k3
    · have hv : v = .slice (some ⟨b0, 0, none⟩) n cc := k3
      have hvb : v.ownBlock = some b0 := by rw [hv]; rfl
      have hval : (Tr.node a pr v q l r).val = v := rfl
      rw [hval, hvb] at k2
      rw [k4] at k1
      have hl := k1.1
      simp only [idV, List.length_map] at hl
      have hq' := own_take k1 (k := n) (by omega)
      rw [← hv] at hq'
      have hln : (ids.take n).length = n := by rw [List.length_take]; omega
      have hf5 : Fr (· = b0) w1 w5 := (hf.mono (fun _ h => h.elim)).trans (fr_grown k2) (fun _ h => .inl h)
      obtain ⟨A2, C2, hpi⟩ := plug_items c
      have hmem : (pr, v) ∈ g.t.items := by rw [← hI.eq, hpi]; simp [Tr.items]
      obtain ⟨A3, C3, hpv⟩ := plug_vals c
      have hvm : v ∈ g.t.vals := by rw [← hI.eq, hpv]; simp [Tr.vals]
      exact ⟨_, rew_place hS hI hvb hVD hf5 (by rw [hln]; exact hq') hA hB, .inr ⟨v, hmem, by rw [k4, hvb]; rfl⟩, hf5.mono (fun k h => .inl (.inr (.inr (.inr ⟨v, hvm, by rw [hvb, h]⟩))))⟩

theorem cl_ne {T T' : TypeId} {w : World} {k k' : Nat} {cs cs' : Array Value} (h : Cl T w k cs) (h' : Cl T' w k' cs') (hT : T ≠ T') : ¬ k = k' := by
  rintro rfl
  have e2 : some _ = some _ := Eq.trans (Eq.symm h) h'
  injection e2 with e2
  injection e2 with _ e2 _
  exact hT e2
theorem put_off {w : World} {s : Int} {g : Sg} {T : TypeId} {k : Nat} {cs : Array Value} (h : SgIn w s g) (hc : Cl T w k cs) (h1 : T ≠ 95) (h2 : T ≠ 91) : ¬ (k = g.tb ∨ k ∈ g.t.blks) := by
  rintro (rfl | hk)
  · exact cl_ne hc h.cx h1 rfl
  · obtain ⟨cs', hc'⟩ := h.tr.at_ k hk
    exact cl_ne hc hc' h2 rfl
/-- What put leaves in memory. -/
def PutMem (w w' : World) (m : Nat) (sd : Int) (g : Sg) (Q : List Rw) (L : List Od) (o : Od) : Prop := ∃ D' T' Q' v',
  w'.ownsMap Try.prog 22 RV m 64 D' ∧ OmT D' (o :: L) ∧ SgIn w' sd ⟨g.tb, g.sb, T'⟩ ∧ T'.rows = Q'.map rqOf ∧ PutR sd o Q Q' ∧ (∀ b ∈ T'.blks, b ∈ g.t.blks ∨ w.heap.size ≤ b) ∧
  (∃ A B C, g.t.vals = A ++ B ++ C ∧ T'.vals = A ++ v' :: C ∧ ((∃ j, w.heap.size ≤ j ∧ v'.ownBlock = some j) ∨ ∃ u, B = [u] ∧ v'.ownBlock = u.ownBlock)) ∧ Fr (fun k => k = m ∨ sfoot g k) w w'
theorem gput_fin {w w0 w1 w5 w6 : World} {m ms p : Nat} {D D' : DataW Value} {g1 g2 : Sg} {Q1 Q2 : List Rw} {g : Sg} {Q A M B : List Rw} {o : Od} {Tw T' : Tr} {v' : Value}
    (S : OwnS w p m ms D g1 g2 Q1 Q2 o.side g Q) (b0 : Below w.heap.size w w0) (hg01 : w0.grownBy w1 (some m)) (sg1 : SgIn w1 o.side g) (om1 : w1.ownsMap Try.prog 22 RV m 64 D') (hO1 : OmT D' (o :: bookL Q1 Q2)) (hQe : Q = A ++ M ++ B) (hA : ∀ a ∈ A, betN o.side a.pr o.price = true) (hB : ∀ b ∈ B, betN o.side o.price b.pr = true)
    (hM : M = [] ∨ ∃ m, M = [m] ∧ m.pr = o.price) (hR : Rew w5 o.side o.price g A M B Tw) (hN : ((∃ j, w1.heap.size ≤ j ∧ v'.ownBlock = some j) ∨ ∃ u, (o.price, u) ∈ g.t.items ∧ v'.ownBlock = u.ownBlock) ∧ Fr (sfoot g) w1 w5)
    (h6 : TPut w5 w6 g.tb g.sb o.side o.price Tw T' v' ((putQ o (flatR M)).map (·.id))) : PutMem w w6 m o.side g Q (bookL Q1 Q2) o := by
  have hf56 : Fr (sfoot g) w5 w6 := h6.fr.mono (fun k hk => .inl (by
    rcases hk with rfl | hk
    · exact .inr (.inl rfl)
    · rw [hR.blks] at hk; exact .inr (.inr (.inl hk))))
  have hf16 : Fr (sfoot g) w1 w6 := hN.2.trans hf56 (fun _ h => .inl h)
  have hz1 : w.heap.size ≤ w1.heap.size := Nat.le_trans b0.size hg01.size
  have hbx : Cl 3 w6 g.sb #[.int .i64 o.side] := h6.fr.blk hR.sg.box (put_off hR.sg hR.sg.box (by decide) (by decide))
  obtain ⟨Q', e1, e2⟩ := put_rows (by rw [← hQe]; exact S.ok) hA hB hM hR h6 rfl
  refine ⟨D', T', Q', v', ownsMap_fr om1 hf16 (fun h => sg1.no_map om1 m h rfl), hO1, ⟨hbx, h6.cx, h6.tr, h6.srt, h6.nd⟩, e1, by rw [hQe]; exact e2, fun b hb => ?_, ?_, ?_⟩
  · rcases h6.bl b hb with h | h
    · rw [hR.blks] at h; exact .inl h
    · exact .inr (Nat.le_trans hz1 (Nat.le_trans hN.2.size h))
  · obtain ⟨A', B', C', k1, k2, k3⟩ := h6.vals
    rw [hR.vals] at k1
    refine ⟨A', B', C', k1, k2, ?_⟩
    rcases hN.1 with ⟨j, hj, hv⟩ | ⟨u, hu, hv⟩
    · exact .inl ⟨j, by omega, hv⟩
    · rcases k3 with ⟨_, k3⟩ | ⟨u', rfl, k3⟩
      · exact absurd (by rw [hR.items]; exact hu) (k3 u)
      · rw [hR.items] at k3
        have := items_one sg1.srt hu k3
        exact .inr ⟨u', rfl, by rw [← this]; exact hv⟩
  · have f1 : Fr (fun k => k = m ∨ sfoot g k) w w1 := (Fr.of_below (S := fun k => k = m ∨ sfoot g k) b0).trans (fr_grown hg01) (fun k h => .inl (.inl h))
    exact f1.trans hf16 (fun k h => .inl (.inr h))
theorem val_que {w : World} {tb sb : Nat} {s pr : Int} {T : Tr} {A M B : List Rw} {c : Cx} {t : Tr} (hI : SpI w tb sb s pr T c t) (hM : (t = .nil ∧ M = []) ∨ ∃ a v q l r m, t = .node a pr v q l r ∧ M = [m] ∧ m.pr = pr ∧ q = m.q.map (·.id) ∧ A.map rqOf = c.pre ++ l.rows ∧ B.map rqOf = r.rows ++ c.post) :
    ∃ Aq cc, t.val = .slice Aq (flatR M).length cc ∧ w.ownsRow 0 22 1 (.slice Aq (flatR M).length cc) (flatR M).length (idV ((flatR M).map (·.id))) := by
  rcases hM with ⟨rfl, rfl⟩ | ⟨a, v, q, l, r, m, rfl, rfl, hm, rfl, _, _⟩
  · exact ⟨none, 0, rfl, World.ownsRow_nil _ _ _ _⟩
  · have e1 : flatR [m] = m.q := by simp [flatR]
    rw [e1]
    have ho := hI.tr.2.1
    rw [List.length_map] at ho
    rcases ho.2 with ⟨rfl, h0⟩ | ⟨gg, cap, cur, rfl, _⟩
    · rw [h0] at ho ⊢
      exact ⟨none, 0, rfl, ho⟩
    · exact ⟨_, _, rfl, ho⟩
theorem ahd_flip {sd : Int} (hsd : sd = 1 ∨ sd = 2) {o x : Od} (ho : o.side = sd) (hx : x.side = sd) (hp : x.price = o.price) (hi : ¬ x.id = o.id) : ahdO o x = !ahdO x o := by
  cases h : ahdO x o with
  | true =>
    cases h2 : ahdO o x with
    | false => rfl
    | true => have h1 := lt_of_ahd h; have h2 := lt_of_ahd h2; rw [lt_asym h1] at h2; cases h2
  | false => exact ahd_tot (hx.trans ho.symm) (by rw [hx]; exact hsd) hp hi h

set_option maxHeartbeats 4000000 in
set_option maxRecDepth 100000 in
theorem gPut_w (p m ms : Nat) (D : DataW Value) (g1 g2 : Sg) (Q1 Q2 : List Rw) (sd : Int) (g : Sg) (Q : List Rw) (o : Od) (w : World) (H : GW w p m ms D g1 g2 Q1 Q2) (S : OwnS w p m ms D g1 g2 Q1 Q2 sd g Q) (h12 : (sd = 1 ∧ g = g1) ∨ (sd = 2 ∧ g = g2))
    (hVD : VD g.t.vals) (hs : o.side = sd) (hid : ∀ x ∈ bookL Q1 Q2, ¬ x.id = o.id) (hok : Od.ok w o) (hl : (bookL Q1 Q2).length < 64) :
    Calls Try.prog 34 #[.pointer (some ⟨p, 0, none⟩), .agg #[.int .u64 o.id, .int .i64 o.acc, .int .i64 o.side, .int .i64 o.price, .int .i64 o.qty, .int .u64 o.seq]] w fun e w' => e = .returned (.tuple #[]) ∧ Hid (PutMem w w' m sd g Q (bookL Q1 Q2) o) := by
  subst hs
  have hmf := hmf_any
  have hsd := S.s12
  obtain ⟨w0, hw0⟩ : ∃ w0, ((w.alloc (.cells #[.pointer (some ⟨p, 0, none⟩)] 25)).alloc (.cells (OC o) 24)) = w0 := ⟨_, rfl⟩
  have b0 : Below w.heap.size w w0 := by rw [← hw0]; exact ((Below.refl _ _).alloc (Nat.le_refl _) _).alloc (by simp) _
  have hz0 : w0.heap.size = w.heap.size + 2 := by rw [← hw0]; simp
  have cB : Cl 25 w0 w.heap.size #[.pointer (some ⟨p, 0, none⟩)] := by rw [← hw0]; exact hd_prev (by simp) (hd_last rfl)
  have cO : Cl 24 w0 (w.heap.size + 1) (OC o) := by rw [← hw0]; exact hd_last (by simp)
  have H0 := H.below b0
  have om0 := H0.gk.om _ _ rfl
  have hnone : omL (bookL Q1 Q2) o.id = none := omL_none.2 hid
  obtain ⟨w1, hr, D', om1, hO1, hg1⟩ := put_o (M := o :: bookL Q1 Q2) (om0.drew) (by omega) H.om o (wf_u hok.1) (fun id => omL_cons o _ id) (by rw [hnone]; simp) (by simp; omega)
  have hg01 : w0.grownBy w1 (some m) := ⟨hg1.os, hg1.tape, hg1.output, hg1.size, hg1.block⟩
  have HR : Hid ((Instr.mapUpdate 26 (.map (some m)) (.int .u64 o.id) (.agg (OC o))).run Try.prog w0.drew = .ok () w1) := Lib.hid hr
  have nB := cl_ne_map cB om0
  have nO := cl_ne_map cO om0
  have nP := cl_ne_map H0.bookp om0
  have HB : Hid (∀ W, w0.grownBy W (some m) → W.cell? ⟨w.heap.size, 0, none⟩ = some (.pointer (some ⟨p, 0, none⟩))) := Lib.hid fun W h => (Cl.c ((fr_grown h).blk cB nB) 0).trans rfl
  have HO : Hid (∀ W, w0.grownBy W (some m) → Cl 24 W (w.heap.size + 1) (OC o)) := Lib.hid fun W h => (fr_grown h).blk cO nO
  have HP : Hid (∀ W, w0.grownBy W (some m) → W.cell? ⟨p, 0, none⟩ = some (.map (some m))) := Lib.hid fun W h => (Cl.c ((fr_grown h).blk H0.bookp nP) 0).trans rfl
  have HG1 := Lib.hid hg01
  have gk1 := H0.gk.setom hg01 om1 H.mm
  have sg1 : SgIn w1 o.side g := by
    rcases h12 with ⟨h, rfl⟩ | ⟨h, rfl⟩
    · rw [h]; exact gk1.s1 rfl
    · rw [h]; exact gk1.s2 rfl
  have cB1 := (fr_grown hg01).blk cB nB
  have cO1 := (fr_grown hg01).blk cO nO
  have HS1 := Lib.hid (gSideO_c h12 w1 gk1)
  have HGt := Lib.hid (tGet_c g.tb g.sb o.side o.price g.t w1 (fun _ => hsd) sg1.box sg1.cx sg1.tr sg1.srt)
  obtain ⟨x0, x1, x2, x3, x4, x5⟩ := six_of cO1
  have kB : w1.cell? ⟨w.heap.size, 0, none⟩ = some (.pointer (some ⟨p, 0, none⟩)) := (Cl.c cB1 0).trans rfl
  have HH := Lib.hid (And.intro H (And.intro S (And.intro b0 (And.intro hz0 (And.intro gk1 (And.intro sg1 (And.intro cB1 (And.intro cO1 (And.intro om1 (And.intro hO1 (And.intro hid (And.intro hVD (And.intro hok hl)))))))))))))
  clear om0 H0 nB nO nP cB cO b0 hz0 gk1 sg1 cB1 cO1 om1 hO1 hnone hr hg1 hg01 H S hid hVD hok hl
  go_enter Try.func34, Try.ntmps34
  go_wp2_with fail
  refine wp_region_held_drew (S := fun W => w0.grownBy W (some m)) (by kernel_rfl) (by exact ⟨rfl, rfl, rfl, Nat.le_refl _, fun _ _ _ => rfl⟩) (fun hHeld => ?_)
  refine wpAnyH_take (i := 0) (oi := ⟨some 7, _, _, _, _, _⟩) (v := ?_) rfl (by kernel_rfl) (by kernel_rfl) (by kernel_rfl) (fun _ _ _ h => h) (Or.inl ⟨by kernel_rfl, ?_⟩) (by assumption) ?_
  rotate_left
  · (intro w hSw; have hs := HB.out _ hSw; (try dsimp only at hSw); go_simp; try with_reducible rfl)
  (repeat (first | simp only [Act.put] | simp only [List.setIfInBounds_toArray] | simp only [List.set_cons_succ] | simp only [List.set_cons_zero]))
  refine wpAnyH_take (i := 1) (oi := ⟨some 8, _, _, _, _, _⟩) (v := ?_) rfl (by kernel_rfl) (by kernel_rfl) (by kernel_rfl) (fun _ _ _ h => h) (Or.inl ⟨by kernel_rfl, ?_⟩) (by assumption) ?_
  rotate_left
  · (intro w hSw; (try dsimp only at hSw); go_simp; try with_reducible rfl)
  (repeat (first | simp only [Act.put] | simp only [List.setIfInBounds_toArray] | simp only [List.set_cons_succ] | simp only [List.set_cons_zero]))
  refine wpAnyH_take (i := 2) (oi := ⟨some 9, _, _, _, _, _⟩) (v := ?_) rfl (by kernel_rfl) (by kernel_rfl) (by kernel_rfl) (fun _ _ _ h => h) (Or.inl ⟨by kernel_rfl, ?_⟩) (by assumption) ?_
  rotate_left
  · (intro w hSw; (try dsimp only at hSw); go_simp; try with_reducible rfl)
  (repeat (first | simp only [Act.put] | simp only [List.setIfInBounds_toArray] | simp only [List.set_cons_succ] | simp only [List.set_cons_zero]))
  refine wpAnyH_take (i := 3) (oi := ⟨some 10, _, _, _, _, _⟩) (v := ?_) rfl (by kernel_rfl) (by kernel_rfl) (by kernel_rfl) (fun _ _ _ h => h) (Or.inl ⟨by kernel_rfl, ?_⟩) (by assumption) ?_
  rotate_left
  · (intro w hSw; have hs := HP.out _ hSw; (try dsimp only at hSw); go_simp; try with_reducible rfl)
  (repeat (first | simp only [Act.put] | simp only [List.setIfInBounds_toArray] | simp only [List.set_cons_succ] | simp only [List.set_cons_zero]))
  refine wpAnyH_take (i := 4) (oi := ⟨some 11, _, _, _, _, _⟩) (v := ?_) rfl (by kernel_rfl) (by kernel_rfl) (by kernel_rfl) (fun _ _ _ h => h) (Or.inl ⟨by kernel_rfl, ?_⟩) (by assumption) ?_
  rotate_left
  · (intro w hSw; (try dsimp only at hSw); go_simp; try with_reducible rfl)
  (repeat (first | simp only [Act.put] | simp only [List.setIfInBounds_toArray] | simp only [List.set_cons_succ] | simp only [List.set_cons_zero]))
  refine wpAnyH_take (i := 5) (oi := ⟨some 12, _, _, _, _, _⟩) (v := ?_) rfl (by kernel_rfl) (by kernel_rfl) (by kernel_rfl) (fun _ _ _ h => h) (Or.inl ⟨by kernel_rfl, ?_⟩) (by assumption) ?_
  rotate_left
  · (intro w hSw; obtain ⟨x0, x1, x2, x3, x4, x5⟩ := six_of (HO.out _ hSw); (try dsimp only at hSw); go_simp; try with_reducible rfl)
  (repeat (first | simp only [Act.put] | simp only [List.setIfInBounds_toArray] | simp only [List.set_cons_succ] | simp only [List.set_cons_zero]))
  refine wpAnyH_take (i := 6) (oi := ⟨some 13, _, _, _, _, _⟩) (v := ?_) rfl (by kernel_rfl) (by kernel_rfl) (by kernel_rfl) (fun _ _ _ h => h) (Or.inl ⟨by kernel_rfl, ?_⟩) (by assumption) ?_
  rotate_left
  · (intro w hSw; obtain ⟨x0, x1, x2, x3, x4, x5⟩ := six_of (HO.out _ hSw); (try dsimp only at hSw); go_simp; try with_reducible rfl)
  (repeat (first | simp only [Act.put] | simp only [List.setIfInBounds_toArray] | simp only [List.set_cons_succ] | simp only [List.set_cons_zero]))
  refine wpAnyH_ready (rs := [7]) (by kernel_rfl) (by simp) ?_
  refine AllReadyH.cons (o := ⟨none, _, _, _, _, _⟩) rfl (fun K hK => ?_) AllReadyH.nil
  ((with_reducible apply any_upd); rfl; rfl; rfl; rfl; rfl; exact HR.out; skip)
  refine hK.out _ _ (by exact HG1.out) (fun hHeld => ?_)
  clear hK K
  (repeat (first | simp only [Act.put] | simp only [List.setIfInBounds_toArray] | simp only [List.set_cons_succ] | simp only [List.set_cons_zero]))
  refine wpAnyH_done (by kernel_rfl) ?_ _
  clear hHeld HB HO HP HR
  go_wp2_with fail
  ((with_reducible refine HS1.out.mono ?_); rintro e wS ⟨rfl, rfl⟩)
  clear HS1
  go_wp2_with fail
  ((with_reducible refine HGt.out.mono ?_); rintro e wG ⟨c, t, rfl, hh, n, rfl⟩)
  clear HGt
  obtain ⟨H, S, b0, hz0, gk1, sg1, cB1, cO1, om1, hO1, hid, hVD, hok, hl⟩ := HH.out
  obtain ⟨A, M, B, hQe, hA, hB, hM⟩ := spot_row hh.out.1 hh.out.2 S.eq S.ok
  obtain ⟨Aq, cc, ev, hown⟩ := val_que hh.out.1 hM
  rw [ev]
  have hQok : SideOk o.side (A ++ M ++ B) := by rw [← hQe]; exact S.ok
  have hMp : ∀ r ∈ M, r.pr = o.price := by rcases hM with ⟨_, rfl⟩ | ⟨_, _, _, _, _, m', _, rfl, hm, _⟩; intro r hr; cases hr; intro r hr; rw [List.mem_singleton.1 hr]; exact hm
  have hxm : ∀ x ∈ flatR M, x ∈ bookL Q1 Q2 ∧ x.side = o.side ∧ x.price = o.price := fun x hx => by
    obtain ⟨r, hr, hxr⟩ := List.mem_flatMap.1 hx
    have hr' : r ∈ A ++ M ++ B := by simp [hr]
    have h := hQok.mem r hr' x hxr
    exact ⟨S.mem x (by rw [hQe]; exact List.mem_flatMap.2 ⟨r, hr', hxr⟩), h.1, h.2.trans (hMp r hr)⟩
  have hpw : (flatR M).Pairwise (fun x y => ahdO x y = true) := by
    rcases hM with ⟨_, rfl⟩ | ⟨_, _, _, _, _, m', _, rfl, hm, _⟩
    · exact List.Pairwise.nil
    · have := hQok.que m' (by simp)
      simpa [flatR] using this
  have hNl : (flatR M).length ≤ 64 := by
    have h1 : (flatR Q).length = (flatR A).length + (flatR M).length + (flatR B).length := by rw [hQe]; simp [flatR]; omega
    have := S.len
    omega
  obtain ⟨w2, hw2⟩ : ∃ w2, ((w1.drewN n).alloc (.cells #[.slice none 0 0] 66)).setCell ⟨w1.heap.size, 0, none⟩ (.slice Aq (flatR M).length cc) = w2 := ⟨_, rfl⟩
  have cz : Cl 66 ((w1.drewN n).alloc (.cells #[.slice none 0 0] 66)) w1.heap.size #[.slice none 0 0] := hd_last rfl
  have z1 : ((w1.drewN n).alloc (.cells #[.slice none 0 0] 66)).cell? ⟨w1.heap.size, 0, none⟩ = some (.slice none 0 0) := (Cl.c cz 0).trans rfl
  have z2 : ((w1.drewN n).alloc (.cells #[.slice none 0 0] 66)).frozen? ⟨w1.heap.size, 0, none⟩ = false := Cl.f cz
  have hn0 : (w1.drewN n).heap.size = w1.heap.size := rfl
  have b12 : Below w1.heap.size w1 w2 := by rw [← hw2]; exact ((below_drewN (Below.refl _ _) n).alloc (Nat.le_refl _) _).setCell (p := ⟨w1.heap.size, 0, none⟩) (Nat.le_refl _) _
  have cQ2 : Cl 66 w2 w1.heap.size #[.slice Aq (flatR M).length cc] := by rw [← hw2]; exact heap_set cz
  have cO2 : Cl 24 w2 (w.heap.size + 1) (OC o) := (b12.block _ (blk_lt cO1)).trans cO1
  have cB2 : Cl 25 w2 w.heap.size #[.pointer (some ⟨p, 0, none⟩)] := (b12.block _ (blk_lt cB1)).trans cB1
  have hbp : Cl 29 w1 p #[.map (some m), .map (some ms)] := by
    rcases gk1.shape with ⟨h0, _⟩ | ⟨q, hq, hc⟩
    · cases h0
    · injection hq with hq; injection hq with hq
      rw [hq]; exact hc
  have hq2 : QIn w1 w1.heap.size Aq (flatR M) := (row_q hown (fun k hk => (hown.lt k hk).2)).2
  have hids2 : Ids (o :: bookL Q1 Q2) := List.pairwise_cons.2 ⟨fun x hx e => hid x hx e.symm, H.ids⟩
  have HSr := Any.sort_Search Try.searchL 50 #[.pointer (some ⟨w.heap.size + 1, 0, none⟩), .pointer (some ⟨w.heap.size, 0, none⟩), .pointer (some ⟨w1.heap.size, 0, none⟩)] (flatR M).length (fun i => !ahdO (flatR M)[i]! o) w2 (enters_of Try.func50 (by kernel_rfl) rfl) (by omega)
    (fun mm os i hi => by
      have hG := Gw.of_grow w2 mm os
      have hB1 : Below w1.heap.size w1 (Go.Sort.grow (w2.drewN mm) os) := b12.trans (hG.b.mono b12.size)
      obtain ⟨gq, rfl, hgq, hcq⟩ := hq2 i hi
      have hxi := hxm (flatR M)[i]! (by rw [getElem!_pos (flatR M) i hi]; exact List.getElem_mem _)
      have hfl := ahd_flip hsd rfl hxi.2.1 hxi.2.2 (hid _ hxi.1)
      have := put1_c (Go.Sort.grow (w2.drewN mm) os) (w.heap.size + 1) w.heap.size w1.heap.size p m gq (flatR M).length cc i o (flatR M)[i]! hi ((hG.b.block _ (blk_lt cO2)).trans cO2) ((hG.b.block _ (blk_lt cB2)).trans cB2) ((hG.b.block _ (blk_lt cQ2)).trans cQ2)
        ⟨(hB1.cell (p := ⟨p, 0, none⟩) (blk_lt hbp)).trans ((Cl.c hbp 0).trans rfl), Nat.lt_of_lt_of_le (blk_lt hbp) hB1.size⟩ ⟨(hB1.cell (p := ⟨gq, i, none⟩) hgq).trans hcq, Nat.lt_of_lt_of_le hgq hB1.size⟩
        (fun W' hW' => by
          have hBW : Below w1.heap.size w1 W' := hB1.trans (hW'.b.mono hB1.size)
          have om' := ownsMap_fr om1 (Fr.of_below (S := fun _ => False) hBW) (fun h => h)
          have hlk := look_o om' hO1 (flatR M)[i]!.id (wf_u (H.ok _ hxi.1).1.1)
          rw [(omL_some hids2).2 ⟨List.mem_cons_of_mem _ hxi.1, rfl⟩] at hlk
          exact hlk)
      rw [hfl] at this
      exact this.mono fun e w' ⟨h1, h2⟩ => ⟨h1, h2.grow⟩)
    (mono_not (que_mono hpw))
  rw [count_not (flatR M) (fun x => ahdO x o), show List.countP (fun x => ahdO x o) (flatR M) = plN o (flatR M) from rfl] at HSr
  have HSr' := Lib.hid HSr
  have hpl : plN o (flatR M) ≤ (flatR M).length := List.countP_le_length
  have kQ : w2.cell? ⟨w1.heap.size, 0, none⟩ = some (.slice Aq (flatR M).length cc) := (Cl.c cQ2 0).trans rfl
  have kB2 : w2.cell? ⟨w.heap.size, 0, none⟩ = some (.pointer (some ⟨p, 0, none⟩)) := (Cl.c cB2 0).trans rfl
  have HH2 := Lib.hid (And.intro b12 (And.intro cQ2 (And.intro cO2 (And.intro hown (And.intro hQok (And.intro hQe (And.intro hA (And.intro hB (And.intro hM (And.intro hNl (And.intro hh.out.1 ev)))))))))))
  clear cz H S b0 hz0 gk1 sg1 cB1 cO1 om1 hO1 hid hVD hok hl hh hA hB hM ev hown hQok hQe hMp hxm hpw hNl b12 cQ2 cO2 cB2 hbp hq2 hids2 HSr kB x0 x1 x2 x3 x4 x5
  generalize hNN : (flatR M).length = N at *
  go_wp2_with fail
  refine HSr'.out.mono ?_
  rintro e w3 ⟨rfl, hg3'⟩
  have g3 : Gw w2 w3 := by obtain ⟨nq, os, rfl⟩ := hg3'; exact Gw.of_grow _ _ _
  clear hg3' HSr' z1 z2 hw2 kQ kB2
  obtain ⟨H, S, b0, hz0, gk1, sg1, cB1, cO1, om1, hO1, hid, hVD, hok, hl⟩ := HH.out
  obtain ⟨b12, cQ2, cO2, hown, hQok, hQe, hA, hB, hM, hNl, hI, ev⟩ := HH2.out
  have b13 : Below w1.heap.size w1 w3 := b12.trans (g3.b.mono b12.size)
  have cO3 : Cl 24 w3 (w.heap.size + 1) (OC o) := (g3.b.block _ (blk_lt cO2)).trans cO2
  have cQ3 : Cl 66 w3 w1.heap.size #[.slice Aq N cc] := (g3.b.block _ (blk_lt cQ2)).trans cQ2
  have C3 := Lib.hid (And.intro cO3 cQ3)
  obtain ⟨w4, hw4⟩ : ∃ w4, w3.drew.alloc (.cells #[.int .u64 o.id] 22) = w4 := ⟨_, rfl⟩
  have b34 : Below w3.heap.size w3 w4 := by rw [← hw4]; exact ((Below.refl _ _).drew).alloc (Nat.le_refl _) _
  have b14 : Below w1.heap.size w1 w4 := b13.trans (b34.mono b13.size)
  have cO4 : Cl 24 w4 (w.heap.size + 1) (OC o) := (b34.block _ (blk_lt cO3)).trans cO3
  have cQ4 : Cl 66 w4 w1.heap.size #[.slice Aq N cc] := (b34.block _ (blk_lt cQ3)).trans cQ3
  have C4 := Lib.hid (And.intro cO4 cQ4)
  have hv4 : w4.heap[w3.heap.size]? = some (.cells ([.int .u64 o.id] : List Value).toArray 22 (0, 0)) := by rw [← hw4]; exact hd_last rfl
  have own4 : w4.ownsRow 0 22 1 (.slice Aq N cc) N (idV ((flatR M).map (·.id))) := own_fr hown (Fr.of_below (S := fun _ => False) b14) (fun _ _ h => h)
  have hvb : (Value.slice Aq N cc).ownBlock ≠ some w3.heap.size := fun e => by have := (hown.lt _ e).2; have := b13.size; omega
  have HI : Hid (Calls Try.prog 52 #[.slice Aq N cc, .int .i64 (plN o (flatR M)), .slice (some ⟨w3.heap.size, 0, none⟩) 1 1] w4 fun e w' => ∃ v', e = .returned v' ∧ InsIs w4 w' (.slice Aq N cc) v' N ((putQ o (flatR M)).map (·.id))) :=
    Lib.hid ((ins2_U w4 0 N (plN o (flatR M)) (.slice Aq N cc) (idV ((flatR M).map (·.id))) [.int .u64 o.id] w3.heap.size own4 (Nat.zero_le _) (by omega) hpl hvb hv4 rfl (fun u hu => by
      obtain ⟨a, _, rfl⟩ := List.mem_map.1 hu; rfl) (fun u hu => by rw [List.mem_singleton.1 hu]; rfl)).mono fun e w' ⟨v', he, h⟩ => ⟨v', he, by rw [ids_putQ] at h; exact h⟩)
  have HX := Lib.hid (fun w5 v' (h : InsIs w4 w5 (.slice Aq N cc) v' N ((putQ o (flatR M)).map (·.id))) => ins_rew sg1 hI hVD (A := A) (M := M) (B := B) (by rw [S.eq, hQe]) hM (Fr.of_below b14) (by rw [ev]; exact h))
  have HC5 := Lib.hid (fun w5 v' (h : InsIs w4 w5 (.slice Aq N cc) v' N ((putQ o (flatR M)).map (·.id))) => And.intro ((h.out.2.1.block _ (blk_lt cO4) (fun e => own_ne own4 cO4 (by decide) e.symm)).trans cO4) ((h.out.2.1.block _ (blk_lt cQ4) (fun e => own_ne own4 cQ4 (by decide) e.symm)).trans cQ4))
  have HND := Lib.hid sg1.nd
  have HLN : Hid (((putQ o (flatR M)).map (·.id)).length = N + 1) := Lib.hid (by rw [List.length_map, putQ_len, hNN])
  have hpI : (plN o (flatR M) : Int) ≤ (N : Int) := by omega
  clear H S b0 hz0 gk1 sg1 cB1 cO1 om1 hO1 hid hVD hok hl b12 cQ2 cO2 hown hQok hQe hA hB hM hNl hI ev b13 cO3 cQ3 b34 b14 cO4 cQ4 hv4 own4 hvb g3
  go_wp2_with fail
  refine wp_region_held_drew (S := fun W => Cl 24 W (w.heap.size + 1) (OC o) ∧ Cl 66 W w1.heap.size #[.slice Aq N cc]) (by kernel_rfl) (by exact ⟨hd_drew C3.out.1, hd_drew C3.out.2⟩) (fun hHeld => ?_)
  refine wpAnyH_take (i := 0) (oi := ⟨some 26, _, _, _, _, _⟩) (v := ?_) rfl (by kernel_rfl) (by kernel_rfl) (by kernel_rfl) (fun _ _ _ h => h) (Or.inl ⟨by kernel_rfl, ?_⟩) (by assumption) ?_
  rotate_left
  · (intro w hSw; (try dsimp only at hSw); go_simp; try with_reducible rfl)
  (repeat (first | simp only [Act.put] | simp only [List.setIfInBounds_toArray] | simp only [List.set_cons_succ] | simp only [List.set_cons_zero]))
  refine wpAnyH_take (i := 1) (oi := ⟨some 27, _, _, _, _, _⟩) (v := ?_) rfl (by kernel_rfl) (by kernel_rfl) (by kernel_rfl) (fun _ _ _ h => h) (Or.inl ⟨by kernel_rfl, ?_⟩) (by assumption) ?_
  rotate_left
  · (intro w hSw; (try dsimp only at hSw); go_simp; try with_reducible rfl)
  (repeat (first | simp only [Act.put] | simp only [List.setIfInBounds_toArray] | simp only [List.set_cons_succ] | simp only [List.set_cons_zero]))
  refine wpAnyH_take (i := 2) (oi := ⟨some 28, _, _, _, _, _⟩) (v := ?_) rfl (by kernel_rfl) (by kernel_rfl) (by kernel_rfl) (fun _ _ _ h => h) (Or.inl ⟨by kernel_rfl, ?_⟩) (by assumption) ?_
  rotate_left
  · (intro w hSw; obtain ⟨x0, x1, x2, x3, x4, x5⟩ := six_of hSw.1; (try dsimp only at hSw); go_simp; try with_reducible rfl)
  (repeat (first | simp only [Act.put] | simp only [List.setIfInBounds_toArray] | simp only [List.set_cons_succ] | simp only [List.set_cons_zero]))
  refine wpAnyH_take (i := 3) (oi := ⟨some 29, _, _, _, _, _⟩) (v := ?_) rfl (by kernel_rfl) (by kernel_rfl) (by kernel_rfl) (fun _ _ _ h => h) (Or.inl ⟨by kernel_rfl, ?_⟩) (by assumption) ?_
  rotate_left
  · (intro w hSw; have hs : w.cell? ⟨w1.heap.size, 0, none⟩ = some (.slice Aq N cc) := (hSw.2.c 0).trans rfl; (try dsimp only at hSw); go_simp; try with_reducible rfl)
  (repeat (first | simp only [Act.put] | simp only [List.setIfInBounds_toArray] | simp only [List.set_cons_succ] | simp only [List.set_cons_zero]))
  refine wpAnyH_take (i := 4) (oi := ⟨some 30, _, _, _, _, _⟩) (v := ?_) rfl (by kernel_rfl) (by kernel_rfl) (by kernel_rfl) (fun _ _ _ h => h) (Or.inl ⟨by kernel_rfl, ?_⟩) (by assumption) ?_
  rotate_left
  · (intro w hSw; (try dsimp only at hSw); go_simp; try with_reducible rfl)
  (repeat (first | simp only [Act.put] | simp only [List.setIfInBounds_toArray] | simp only [List.set_cons_succ] | simp only [List.set_cons_zero]))
  refine wpAnyH_take (i := 5) (oi := ⟨some 31, _, _, _, _, _⟩) (v := ?_) rfl (by kernel_rfl) (by kernel_rfl) (by kernel_rfl) (fun _ _ _ h => h) (Or.inl ⟨by kernel_rfl, ?_⟩) (by assumption) ?_
  rotate_left
  · (intro w hSw; (try dsimp only at hSw); go_simp; try with_reducible rfl)
  (repeat (first | simp only [Act.put] | simp only [List.setIfInBounds_toArray] | simp only [List.set_cons_succ] | simp only [List.set_cons_zero]))
  refine wpAnyH_take (i := 6) (oi := ⟨some 32, _, _, _, _, _⟩) (v := ?_) rfl (by kernel_rfl) (by kernel_rfl) (by kernel_rfl) (fun _ _ _ h => h) (Or.inl ⟨by kernel_rfl, ?_⟩) (by assumption) ?_
  rotate_left
  · (intro w hSw; obtain ⟨x0, x1, x2, x3, x4, x5⟩ := six_of hSw.1; (try dsimp only at hSw); go_simp; try with_reducible rfl)
  (repeat (first | simp only [Act.put] | simp only [List.setIfInBounds_toArray] | simp only [List.set_cons_succ] | simp only [List.set_cons_zero]))
  refine wpAnyH_ready (rs := [7]) (by kernel_rfl) (by simp) ?_
  refine AllReadyH.cons (o := ⟨some 33, _, _, _, _, _⟩) rfl (fun K hK => ?_) AllReadyH.nil
  go_simp
  refine hK.out _ _ (by exact ⟨C4.out.1, C4.out.2⟩) (fun hHeld => ?_)
  clear hK K
  (repeat (first | simp only [Act.put] | simp only [List.setIfInBounds_toArray] | simp only [List.set_cons_succ] | simp only [List.set_cons_zero]))
  refine wpAnyH_ready (rs := [8]) (by kernel_rfl) (by simp) ?_
  refine AllReadyH.cons (o := ⟨some 34, _, _, _, _, _⟩) rfl (fun K hK => ?_) AllReadyH.nil
  go_simp
  ((with_reducible refine HI.out.mono ?_); rintro e w5 ⟨v', rfl, h5⟩)
  obtain ⟨Tw, hR, hN⟩ := HX.out _ _ h5
  have HPt := Lib.hid (tPut_c g.tb g.sb o.side o.price Tw v' ((putQ o (flatR M)).map (·.id)) w5 hsd hR.sg.box hR.sg.cx hR.sg.tr hR.sg.srt (by have := hR.blks; rw [this]; exact HND.out) (by have := h5.out.1; rw [HLN.out]; exact this))
  have HK := Lib.hid (And.intro hR hN)
  have C5 : Hid (Cl 24 w5 (w.heap.size + 1) (OC o) ∧ Cl 66 w5 w1.heap.size #[.slice Aq N cc]) := HC5.out _ _ h5
  clear h5 hR hN HI
  refine hK.out _ _ (by exact ⟨C5.out.1, C5.out.2⟩) (fun hHeld => ?_)
  clear hK K
  (repeat (first | simp only [Act.put] | simp only [List.setIfInBounds_toArray] | simp only [List.set_cons_succ] | simp only [List.set_cons_zero]))
  refine wpAnyH_ready (rs := [9]) (by kernel_rfl) (by simp) ?_
  refine AllReadyH.cons (o := ⟨some 35, _, _, _, _, _⟩) rfl (fun K hK => ?_) AllReadyH.nil
  go_simp
  ((with_reducible refine HPt.out.mono ?_); rintro e w6 ⟨rfl, T', h6⟩)
  have C6 : Hid (Cl 24 w6 (w.heap.size + 1) (OC o) ∧ Cl 66 w6 w1.heap.size #[.slice Aq N cc]) := Lib.hid ⟨h6.out.fr.blk C5.out.1 (put_off HK.out.1.sg C5.out.1 (by decide) (by decide)), h6.out.fr.blk C5.out.2 (put_off HK.out.1.sg C5.out.2 (by decide) (by decide))⟩
  refine hK.out _ _ (by exact ⟨C6.out.1, C6.out.2⟩) (fun hHeld => ?_)
  clear hK K
  (repeat (first | simp only [Act.put] | simp only [List.setIfInBounds_toArray] | simp only [List.set_cons_succ] | simp only [List.set_cons_zero]))
  refine wpAnyH_done (by kernel_rfl) ?_ _
  go_wp2_with fail
  go_end0
  obtain ⟨H, S, b0, hz0, gk1, sg1, cB1, cO1, om1, hO1, hid, hVD, hok, hl⟩ := HH.out
  obtain ⟨b12, cQ2, cO2, hown, hQok, hQe, hA, hB, hM, hNl, hI, ev⟩ := HH2.out
  exact ⟨rfl, Lib.hid (gput_fin S b0 HG1.out sg1 om1 hO1 hQe hA hB (by rcases hM with ⟨_, h⟩ | ⟨_, _, _, _, _, m', _, h, hm, _⟩; exact .inl h; exact .inr ⟨m', h, hm⟩) HK.out.1 HK.out.2 h6.out)⟩
end Go.Proofs.Ytgbmgdffgmablaa

/- grove: a book with its orders, before and behind put. -/
namespace Go.Proofs.Ytgbmgdffgmablaa
open Go.RowKit Go.Sort Go.Lib Go.Maps Go.Shelf
set_option linter.unusedVariables false

/-- A side, and its orders row by row. -/
structure Gd where
  g : Sg
  rs : List Rw
/-- A whole book: p its block, m its maps. -/
def gWhole (w : World) (p : Nat) (m : Nat × Nat) (s1 s2 : Gd) : Prop := ∃ D, GW w p m.1 m.2 D s1.g s2.g s1.rs s2.rs
def gft (p : Nat) (m : Nat × Nat) (s1 s2 : Gd) (k : Nat) : Prop := gfoot p m.1 m.2 s1.g s2.g k
structure gTurnIs (w w' : World) (p : Nat) (m : Nat × Nat) (s1 s2 s1' s2' : Gd) : Prop where
  wh : gWhole w' p m s1' s2'
  fr : Fr (gft p m s1 s2) w w'
  ft : ∀ k, gft p m s1' s2' k → gft p m s1 s2 k ∨ w.heap.size ≤ k
structure gPutIs (w w' : World) (p : Nat) (m : Nat × Nat) (s1 s2 s1' s2' : Gd) (o : Od) : Prop where
  tu : gTurnIs w w' p m s1 s2 s1' s2'
  perm : (bookL s1'.rs s2'.rs).Perm (o :: bookL s1.rs s2.rs)
  e2 : o.side = 1 → s2' = s2
  e1 : o.side = 2 → s1' = s1
theorem VD.sub {l m : List Value} (h : VD l) (hs : m.Sublist l) : VD m := List.Pairwise.sublist hs h
theorem vd_vals {A B C Y : List Value} {v' : Value} {n : Nat} (h : VD (A ++ B ++ C ++ Y)) (hlt : ∀ u ∈ A ++ B ++ C ++ Y, ∀ k, u.ownBlock = some k → k < n) (hv : (∃ j, n ≤ j ∧ v'.ownBlock = some j) ∨ ∃ u, B = [u] ∧ v'.ownBlock = u.ownBlock) : VD (A ++ v' :: C ++ Y) := by
  have hp : (A ++ v' :: C ++ Y).Perm (v' :: (A ++ C ++ Y)) := by
    simp only [List.append_assoc, List.cons_append]
    exact List.perm_middle
  have hsub : (A ++ C ++ Y).Sublist (A ++ B ++ C ++ Y) := by
    refine List.Sublist.append ?_ (List.Sublist.refl _)
    refine List.Sublist.append ?_ (List.Sublist.refl _)
    exact List.sublist_append_left A B
  refine VD.perm ?_ hp.symm
  refine List.pairwise_cons.2 ⟨fun u hu j hj hk => ?_, h.sub hsub⟩
  rcases hv with ⟨i, hi, hv⟩ | ⟨b, rfl, hv⟩
  · have := hlt u (hsub.subset hu) j hk
    rw [hv] at hj
    injection hj with hj
    omega
  · have hq : (A ++ [b] ++ C ++ Y).Perm (b :: (A ++ C ++ Y)) := by
      simp only [List.append_assoc, List.cons_append, List.nil_append]
      exact List.perm_middle
    have := (List.pairwise_cons.1 (h.perm hq)).1 u hu j (by rw [← hv]; exact hj)
    exact this hk
theorem SgIn.cls {w : World} {s : Int} {g : Sg} (h : SgIn w s g) {k : Nat} (hk : sfoot g k) : (k = g.sb ∧ ∃ cs, Cl 3 w k cs) ∨ (k = g.tb ∧ ∃ cs, Cl 95 w k cs) ∨ (k ∈ g.t.blks ∧ ∃ cs, Cl 91 w k cs) ∨ ((∃ v ∈ g.t.vals, v.ownBlock = some k) ∧ ∃ cs, Cl 22 w k cs) := by
  rcases hk with rfl | rfl | hk | ⟨v, hv, hk⟩
  · exact .inl ⟨rfl, _, h.box⟩
  · exact .inr (.inl ⟨rfl, _, h.cx⟩)
  · exact .inr (.inr (.inl ⟨hk, h.tr.at_ k hk⟩))
  · exact .inr (.inr (.inr ⟨⟨v, hv, hk⟩, h.tr.vcl v hv k hk⟩))
theorem GW.apart {w : World} {p m ms : Nat} {D : DataW Value} {g1 g2 : Sg} {Q1 Q2 : List Rw} (H : GW w p m ms D g1 g2 Q1 Q2) : ∀ k, sfoot g1 k → ¬ sfoot g2 k := by
  intro k h1 h2
  have d : ∀ {T T' : TypeId} {cs cs' : Array Value}, Cl T w k cs → Cl T' w k cs' → T ≠ T' → False := fun a b c => cl_ne a b c rfl
  rcases (H.gk.s1 rfl).cls h1 with ⟨a, c, hc⟩ | ⟨a, c, hc⟩ | ⟨a, c, hc⟩ | ⟨⟨v, hv, hk⟩, c, hc⟩ <;> rcases (H.gk.s2 rfl).cls h2 with ⟨b, c', hc'⟩ | ⟨b, c', hc'⟩ | ⟨b, c', hc'⟩ | ⟨⟨v', hv', hk'⟩, c', hc'⟩
  · exact H.sb (a.symm.trans b)
  · exact d hc hc' (by decide)
  · exact d hc hc' (by decide)
  · exact d hc hc' (by decide)
  · exact d hc hc' (by decide)
  · exact H.tb (a.symm.trans b)
  · exact d hc hc' (by decide)
  · exact d hc hc' (by decide)
  · exact d hc hc' (by decide)
  · exact d hc hc' (by decide)
  · exact H.bd k a b
  · exact d hc hc' (by decide)
  · exact d hc hc' (by decide)
  · exact d hc hc' (by decide)
  · exact d hc hc' (by decide)
  · exact (List.pairwise_append.1 H.vd).2.2 v hv v' hv' k hk hk'
theorem sfoot_p {w : World} {p m ms : Nat} {D : DataW Value} {g1 g2 : Sg} {Q1 Q2 : List Rw} (H : GW w p m ms D g1 g2 Q1 Q2) {s : Int} {g : Sg} (h : SgIn w s g) : ¬ sfoot g p := by
  intro hk
  have d : ∀ {T T' : TypeId} {cs cs' : Array Value}, Cl T w p cs → Cl T' w p cs' → T ≠ T' → False := fun a b c => cl_ne a b c rfl
  rcases h.cls hk with ⟨a, c, hc⟩ | ⟨a, c, hc⟩ | ⟨a, c, hc⟩ | ⟨_, c, hc⟩ <;> exact d hc H.bookp (by decide)
/-- Blocks of a side that put made anew. -/
structure SideTo (w w' : World) (m : Nat) (sd : Int) (g g' : Sg) : Prop where
  sg : SgIn w' sd g'
  tb : g'.tb = g.tb
  sb : g'.sb = g.sb
  bl : ∀ b ∈ g'.t.blks, b ∈ g.t.blks ∨ w.heap.size ≤ b
  vl : ∀ v ∈ g'.t.vals, ∀ k, v.ownBlock = some k → sfoot g k ∨ w.heap.size ≤ k
  fr : Fr (fun k => k = m ∨ sfoot g k) w w'
theorem SideTo.ft {w w' : World} {m : Nat} {sd : Int} {g g' : Sg} (h : SideTo w w' m sd g g') : ∀ k, sfoot g' k → sfoot g k ∨ w.heap.size ≤ k := by
  rintro k (rfl | rfl | hk | ⟨v, hv, hk⟩)
  · exact .inl (.inl h.sb)
  · exact .inl (.inr (.inl h.tb))
  · exact (h.bl k hk).imp (fun h => .inr (.inr (.inl h))) id
  · exact h.vl v hv k hk
/-- The book when side 1 was turned. -/
theorem turn1 {w w' : World} {p : Nat} {m : Nat × Nat} {D D' : DataW Value} {s1 s2 : Gd} {g' : Sg} {Q' : List Rw} (H : GW w p m.1 m.2 D s1.g s2.g s1.rs s2.rs) (h : SideTo w w' m.1 1 s1.g g') (om : w'.ownsMap Try.prog 22 RV m.1 64 D') (hO : OmT D' (bookL Q' s2.rs))
    (er : g'.t.rows = Q'.map rqOf) (ok : SideOk 1 Q') (ids : Ids (bookL Q' s2.rs)) (hl : (bookL Q' s2.rs).length ≤ 64) (hok : ∀ x ∈ bookL Q' s2.rs, Od.ok w' x ∧ goodO x = true) (vd : VD (g'.t.vals ++ s2.g.t.vals)) :
    gTurnIs w w' p m s1 s2 ⟨g', Q'⟩ s2 := by
  have hS1 := H.gk.s1 rfl
  have hS2 := H.gk.s2 rfl
  have far2 : ∀ k, sfoot s2.g k → ¬ (k = m.1 ∨ sfoot s1.g k) := fun k hk h => by
    rcases h with rfl | h
    · exact hS2.no_map (H.gk.om _ _ rfl) _ hk rfl
    · exact H.apart k h hk
  have farp : ¬ (p = m.1 ∨ sfoot s1.g p) := fun h => by
    rcases h with h | h
    · exact cl_ne_map H.bookp (H.gk.om _ _ rfl) h
    · exact sfoot_p H hS1 h
  have fars : ¬ (m.2 = m.1 ∨ sfoot s1.g m.2) := fun h => by
    rcases h with h | h
    · exact H.mm h.symm
    · exact hS1.no_map (H.gk.sm _ _ rfl) _ h rfl
  refine ⟨⟨D', ⟨⟨.inr ⟨p, rfl, h.fr.blk H.bookp farp⟩, fun a b e => ?_, fun a b e => ?_, fun _ => h.sg, fun _ => hS2.keep h.fr far2⟩, hO, er, H.e2, ok, H.ok2, ids, hl, hok, vd, ?_, ?_, H.mm, ?_⟩⟩, ?_, ?_⟩
  · injection e with e; injection e with e1 e2
    subst e1; exact om
  · have := H.gk.sm a b e
    injection e with e; injection e with e1 e2
    subst e2
    have hD : sidD s1.g s2.g = sidD g' s2.g := by unfold sidD; rw [h.tb]
    rw [← hD]
    exact ownsMap_fr this h.fr fars
  · intro b hb hb2
    rcases h.bl b hb with h1 | h1
    · exact H.bd b h1 hb2
    · have := hS2.tr.lt b hb2; omega
  · rw [h.tb]; exact H.tb
  · rw [h.sb]; exact H.sb
  · exact h.fr.mono (fun k hk => .inl (by
      rcases hk with rfl | hk
      · exact .inr (.inl rfl)
      · exact .inr (.inr (.inr (.inl hk)))))
  · rintro k (rfl | rfl | rfl | hk | hk)
    · exact .inl (.inl rfl)
    · exact .inl (.inr (.inl rfl))
    · exact .inl (.inr (.inr (.inl rfl)))
    · exact (h.ft k hk).imp (fun h => .inr (.inr (.inr (.inl h)))) id
    · exact .inl (.inr (.inr (.inr (.inr hk))))
/-- The book when side 2 was turned. -/
theorem turn2 {w w' : World} {p : Nat} {m : Nat × Nat} {D D' : DataW Value} {s1 s2 : Gd} {g' : Sg} {Q' : List Rw} (H : GW w p m.1 m.2 D s1.g s2.g s1.rs s2.rs) (h : SideTo w w' m.1 2 s2.g g') (om : w'.ownsMap Try.prog 22 RV m.1 64 D') (hO : OmT D' (bookL s1.rs Q'))
    (er : g'.t.rows = Q'.map rqOf) (ok : SideOk 2 Q') (ids : Ids (bookL s1.rs Q')) (hl : (bookL s1.rs Q').length ≤ 64) (hok : ∀ x ∈ bookL s1.rs Q', Od.ok w' x ∧ goodO x = true) (vd : VD (s1.g.t.vals ++ g'.t.vals)) :
    gTurnIs w w' p m s1 s2 s1 ⟨g', Q'⟩ := by
  have hS1 := H.gk.s1 rfl
  have hS2 := H.gk.s2 rfl
  have far1 : ∀ k, sfoot s1.g k → ¬ (k = m.1 ∨ sfoot s2.g k) := fun k hk h => by
    rcases h with rfl | h
    · exact hS1.no_map (H.gk.om _ _ rfl) _ hk rfl
    · exact H.apart k hk h
  have farp : ¬ (p = m.1 ∨ sfoot s2.g p) := fun h => by
    rcases h with h | h
    · exact cl_ne_map H.bookp (H.gk.om _ _ rfl) h
    · exact sfoot_p H hS2 h
  have fars : ¬ (m.2 = m.1 ∨ sfoot s2.g m.2) := fun h => by
    rcases h with h | h
    · exact H.mm h.symm
    · exact hS2.no_map (H.gk.sm _ _ rfl) _ h rfl
  refine ⟨⟨D', ⟨⟨.inr ⟨p, rfl, h.fr.blk H.bookp farp⟩, fun a b e => ?_, fun a b e => ?_, fun _ => hS1.keep h.fr far1, fun _ => h.sg⟩, hO, H.e1, er, H.ok1, ok, ids, hl, hok, vd, ?_, ?_, H.mm, ?_⟩⟩, ?_, ?_⟩
  · injection e with e; injection e with e1 e2
    subst e1; exact om
  · have := H.gk.sm a b e
    injection e with e; injection e with e1 e2
    subst e2
    have hD : sidD s1.g s2.g = sidD s1.g g' := by unfold sidD; rw [h.tb]
    rw [← hD]
    exact ownsMap_fr this h.fr fars
  · intro b hb hb2
    rcases h.bl b hb2 with h1 | h1
    · exact H.bd b hb h1
    · have := hS1.tr.lt b hb; omega
  · rw [h.tb]; exact H.tb
  · rw [h.sb]; exact H.sb
  · exact h.fr.mono (fun k hk => .inl (by
      rcases hk with rfl | hk
      · exact .inr (.inl rfl)
      · exact .inr (.inr (.inr (.inr hk)))))
  · rintro k (rfl | rfl | rfl | hk | hk)
    · exact .inl (.inl rfl)
    · exact .inl (.inr (.inl rfl))
    · exact .inl (.inr (.inr (.inl rfl)))
    · exact .inl (.inr (.inr (.inr (.inl hk))))
    · exact (h.ft k hk).imp (fun h => .inr (.inr (.inr (.inr h)))) id
theorem gput_w1 {w w' : World} {p : Nat} {m : Nat × Nat} {D : DataW Value} {s1 s2 : Gd} {o : Od} (H : GW w p m.1 m.2 D s1.g s2.g s1.rs s2.rs) (h : PutMem w w' m.1 1 s1.g s1.rs (bookL s1.rs s2.rs) o) (hs : o.side = 1) (hid : ∀ x ∈ bookL s1.rs s2.rs, ¬ x.id = o.id) (hok : Od.ok w o) (hg : goodO o = true) (hl : (bookL s1.rs s2.rs).length < 64) :
    ∃ s1', gPutIs w w' p m s1 s2 s1' s2 o := by
  obtain ⟨D', T', Q', v', om, hO, sg, er, hP, hbl, ⟨A, B, C, v1, v2, v3⟩, hf⟩ := h
  have hids1 : ∀ x ∈ flatR s1.rs, ¬ x.id = o.id := fun x hx => hid x (List.mem_append_left _ hx)
  obtain ⟨ok', perm'⟩ := putR_ok (.inl rfl) hs H.ok1 hids1 hP
  have hperm : (bookL Q' s2.rs).Perm (o :: bookL s1.rs s2.rs) := perm'.append_right (flatR s2.rs)
  have hids : Ids (o :: bookL s1.rs s2.rs) := List.pairwise_cons.2 ⟨fun x hx e => hid x hx e.symm, H.ids⟩
  have hS1 := H.gk.s1 rfl
  have hS2 := H.gk.s2 rfl
  have hlt : ∀ u ∈ A ++ B ++ C ++ s2.g.t.vals, ∀ k, u.ownBlock = some k → k < w.heap.size := fun u hu k hk => by
    rcases List.mem_append.1 hu with hu | hu
    · rw [← v1] at hu; exact hS1.tr.vlt u hu k hk
    · exact hS2.tr.vlt u hu k hk
  have hvd : VD (A ++ B ++ C ++ s2.g.t.vals) := by rw [← v1]; exact H.vd
  have vd' := vd_vals hvd hlt v3
  refine ⟨⟨⟨s1.g.tb, s1.g.sb, T'⟩, Q'⟩, turn1 H ⟨sg, rfl, rfl, hbl, fun u hu k hk => ?_, hf⟩ om (hO.perm hids hperm.symm) er ok' (idsP hids hperm.symm) ?_ (fun x hx => ?_) ?_, hperm, fun _ => rfl, fun h => by omega⟩
  · dsimp only at hu
    rw [v2] at hu
    rcases List.mem_append.1 hu with hu | hu
    · exact .inl (.inr (.inr (.inr ⟨u, by rw [v1]; simp [hu], hk⟩)))
    · rcases List.mem_cons.1 hu with rfl | hu
      · rcases v3 with ⟨j, hj, hv⟩ | ⟨b, rfl, hv⟩
        · rw [hv] at hk; injection hk with hk; subst hk; exact .inr hj
        · exact .inl (.inr (.inr (.inr ⟨b, by rw [v1]; simp, by rw [← hv]; exact hk⟩)))
      · exact .inl (.inr (.inr (.inr ⟨u, by rw [v1]; simp [hu], hk⟩)))
  · rw [hperm.length_eq]; simp; omega
  · rcases List.mem_cons.1 (hperm.mem_iff.1 hx) with rfl | hx
    · exact ⟨hok, hg⟩
    · exact H.ok x hx
  · dsimp only; rw [v2]; exact vd'
theorem gput_w2 {w w' : World} {p : Nat} {m : Nat × Nat} {D : DataW Value} {s1 s2 : Gd} {o : Od} (H : GW w p m.1 m.2 D s1.g s2.g s1.rs s2.rs) (h : PutMem w w' m.1 2 s2.g s2.rs (bookL s1.rs s2.rs) o) (hs : o.side = 2) (hid : ∀ x ∈ bookL s1.rs s2.rs, ¬ x.id = o.id) (hok : Od.ok w o) (hg : goodO o = true) (hl : (bookL s1.rs s2.rs).length < 64) :
    ∃ s2', gPutIs w w' p m s1 s2 s1 s2' o := by
  obtain ⟨D', T', Q', v', om, hO, sg, er, hP, hbl, ⟨A, B, C, v1, v2, v3⟩, hf⟩ := h
  have hids1 : ∀ x ∈ flatR s2.rs, ¬ x.id = o.id := fun x hx => hid x (List.mem_append_right _ hx)
  obtain ⟨ok', perm'⟩ := putR_ok (.inr rfl) hs H.ok2 hids1 hP
  have hperm : (bookL s1.rs Q').Perm (o :: bookL s1.rs s2.rs) := (perm'.append_left (flatR s1.rs)).trans List.perm_middle
  have hids : Ids (o :: bookL s1.rs s2.rs) := List.pairwise_cons.2 ⟨fun x hx e => hid x hx e.symm, H.ids⟩
  have hS1 := H.gk.s1 rfl
  have hS2 := H.gk.s2 rfl
  have hlt : ∀ u ∈ A ++ B ++ C ++ s1.g.t.vals, ∀ k, u.ownBlock = some k → k < w.heap.size := fun u hu k hk => by
    rcases List.mem_append.1 hu with hu | hu
    · rw [← v1] at hu; exact hS2.tr.vlt u hu k hk
    · exact hS1.tr.vlt u hu k hk
  have hvd : VD (A ++ B ++ C ++ s1.g.t.vals) := by rw [← v1]; exact H.vd.perm List.perm_append_comm
  have vd' := vd_vals hvd hlt v3
  refine ⟨⟨⟨s2.g.tb, s2.g.sb, T'⟩, Q'⟩, turn2 H ⟨sg, rfl, rfl, hbl, fun u hu k hk => ?_, hf⟩ om (hO.perm hids hperm.symm) er ok' (idsP hids hperm.symm) ?_ (fun x hx => ?_) ?_, hperm, fun h => by omega, fun _ => rfl⟩
  · dsimp only at hu
    rw [v2] at hu
    rcases List.mem_append.1 hu with hu | hu
    · exact .inl (.inr (.inr (.inr ⟨u, by rw [v1]; simp [hu], hk⟩)))
    · rcases List.mem_cons.1 hu with rfl | hu
      · rcases v3 with ⟨j, hj, hv⟩ | ⟨b, rfl, hv⟩
        · rw [hv] at hk; injection hk with hk; subst hk; exact .inr hj
        · exact .inl (.inr (.inr (.inr ⟨b, by rw [v1]; simp, by rw [← hv]; exact hk⟩)))
      · exact .inl (.inr (.inr (.inr ⟨u, by rw [v1]; simp [hu], hk⟩)))
  · rw [hperm.length_eq]; simp; omega
  · rcases List.mem_cons.1 (hperm.mem_iff.1 hx) with rfl | hx
    · exact ⟨hok, hg⟩
    · exact H.ok x hx
  · dsimp only; rw [v2]; exact vd'.perm List.perm_append_comm

theorem gPut_c (p : Nat) (m : Nat × Nat) (s1 s2 : Gd) (o : Od) (w : World) (H : gWhole w p m s1 s2) (hid : ∀ x ∈ bookL s1.rs s2.rs, ¬ x.id = o.id) (hok : Od.ok w o) (hg : goodO o = true) (hl : (bookL s1.rs s2.rs).length < 64) :
    Calls Try.prog 34 #[.pointer (some ⟨p, 0, none⟩), .agg #[.int .u64 o.id, .int .i64 o.acc, .int .i64 o.side, .int .i64 o.price, .int .i64 o.qty, .int .u64 o.seq]] w fun e w' => e = .returned (.tuple #[]) ∧ ∃ s1' s2', Hid (gPutIs w w' p m s1 s2 s1' s2' o) := by
  obtain ⟨D, H⟩ := H
  rcases good_side hg with hs | hs
  · refine (gPut_w p m.1 m.2 D s1.g s2.g s1.rs s2.rs 1 s1.g s1.rs o w H H.own1 (.inl ⟨rfl, rfl⟩) (List.pairwise_append.1 H.vd).1 hs hid hok hl).mono fun e w' h => ⟨h.1, ?_⟩
    obtain ⟨s1', h'⟩ := gput_w1 H h.2.out hs hid hok hg hl
    exact ⟨s1', s2, Lib.hid h'⟩
  · refine (gPut_w p m.1 m.2 D s1.g s2.g s1.rs s2.rs 2 s2.g s2.rs o w H H.own2 (.inr ⟨rfl, rfl⟩) (List.pairwise_append.1 H.vd).2.1 hs hid hok hl).mono fun e w' h => ⟨h.1, ?_⟩
    obtain ⟨s2', h'⟩ := gput_w2 H h.2.out hs hid hok hg hl
    exact ⟨s1, s2', Lib.hid h'⟩
end Go.Proofs.Ytgbmgdffgmablaa
