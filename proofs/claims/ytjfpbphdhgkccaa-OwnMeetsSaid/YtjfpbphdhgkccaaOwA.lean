/- own: what it calls of others; its deeds; who is own. (By mkowa.py.) -/
import Derived.Test.YtjfpbphdhgkccaaOrO
import Derived.Deep.LoopGhost
namespace Go.Proofs.Ytjfpbphdhgkccaa
open Go.RowKit Go.Lib
set_option linter.unusedVariables false

def InR (x : Int) : Prop := -9223372036854775808 ≤ x ∧ x ≤ 9223372036854775807
def trimN (lot qty : Int) : Int := if lot < 1 ∨ qty < 1 then 0 else qty / lot * lot
theorem trim_bd {lot qty : Int} (h1 : 1 ≤ lot) (h2 : 1 ≤ qty) : 0 ≤ trimN lot qty ∧ trimN lot qty ≤ qty ∧ trimN lot qty % lot = 0 ∧ qty - trimN lot qty < lot ∧ trimN lot qty = qty - qty % lot := by
  unfold trimN
  rw [if_neg (by omega)]
  have e := Int.mul_ediv_add_emod qty lot
  have e1 := Int.emod_nonneg qty (show lot ≠ 0 by omega)
  have e2 := Int.emod_lt_of_pos qty (show 0 < lot by omega)
  have e3 : 0 ≤ qty / lot * lot := Int.mul_nonneg (Int.ediv_nonneg (by omega) (by omega)) (by omega)
  have e4 : qty / lot * lot % lot = 0 := Int.mul_emod_left _ _
  rw [Int.mul_comm] at e
  generalize qty / lot * lot = x at *
  generalize qty % lot = y at *
  omega


set_option maxHeartbeats 4000000 in
set_option maxRecDepth 100000 in
theorem trim_c (lot qty : Int) (hq : InR qty) (hl : InR lot) (w : World) :
    Calls Try.prog 21 #[.int .i64 lot, .int .i64 qty] w fun e w' => e = .returned (.int .i64 (trimN lot qty)) ∧ w = w' := by
  by_cases h1 : lot < 1
  · have h : Hid (trimN lot qty = 0) := by show _ = _; unfold trimN; rw [if_pos (.inl h1)]
    go_enter Try.func21, Try.ntmps21
    go_wp2_with fail
    go_ret
    rw [h.out]; exact ⟨rfl, rfl⟩
  by_cases h2 : qty < 1
  · have h : Hid (trimN lot qty = 0) := by show _ = _; unfold trimN; rw [if_pos (.inr h2)]
    go_enter Try.func21, Try.ntmps21
    go_wp2_with fail
    go_ret
    rw [h.out]; exact ⟨rfl, rfl⟩
  have ht := trim_bd (lot := lot) (qty := qty) (by omega) (by omega)
  obtain ⟨t, htt⟩ : ∃ t, t = trimN lot qty := ⟨_, rfl⟩
  rw [← htt] at ht ⊢
  obtain ⟨t0, t1, _, _, t4⟩ := ht
  obtain ⟨m, hm⟩ : ∃ m, m = qty % lot := ⟨_, rfl⟩
  have hm' : qty % lot = m := hm.symm
  rw [← hm] at t4
  have e1 : IntKind.i64.wrap (qty - m) = t := by unfold InR at hq hl; rw [IntKind.wrap_i64]; omega
  have e2 : qty - m = t := by omega
  have g1 : 1 ≤ lot := by omega
  have g3 : 1 ≤ qty := by omega
  have g5 : (lot == 0) = false := by simp; omega
  have g6 : 0 ≤ qty := by omega
  have g7 : qty ≤ 9223372036854775807 := hq.2
  have g8 : lot ≤ 9223372036854775807 := hl.2
  clear h1 h2 hq hl htt hm t4
  go_enter Try.func21, Try.ntmps21
  go_wp2_with fail
  go_ret
  exact ⟨rfl, rfl⟩

set_option maxHeartbeats 4000000 in
set_option maxRecDepth 100000 in
theorem rTrim_c (lot qty : Int) (hq : InR qty) (hl : InR lot) (w : World) :
    Calls Try.prog 23 #[.int .i64 lot, .int .i64 qty] w fun e w' => e = .returned (.int .i64 (trimN lot qty)) ∧ w = w' := by
  by_cases h1 : lot < 1
  · have h : Hid (trimN lot qty = 0) := by show _ = _; unfold trimN; rw [if_pos (.inl h1)]
    go_enter Try.func23, Try.ntmps23
    go_wp2_with fail
    go_ret
    rw [h.out]; exact ⟨rfl, rfl⟩
  by_cases h2 : qty < 1
  · have h : Hid (trimN lot qty = 0) := by show _ = _; unfold trimN; rw [if_pos (.inr h2)]
    go_enter Try.func23, Try.ntmps23
    go_wp2_with fail
    go_ret
    rw [h.out]; exact ⟨rfl, rfl⟩
  have ht := trim_bd (lot := lot) (qty := qty) (by omega) (by omega)
  obtain ⟨t, htt⟩ : ∃ t, t = trimN lot qty := ⟨_, rfl⟩
  rw [← htt] at ht ⊢
  obtain ⟨t0, t1, _, _, t4⟩ := ht
  have H5 : Hid (qty - qty % lot = t) := t4.symm
  have hq2 : qty / lot ≤ qty := Int.ediv_le_self _ (by omega)
  have hq3 : 0 ≤ qty / lot := Int.ediv_nonneg (by omega) (by omega)
  have g1 : 1 ≤ lot := by omega
  have g3 : 1 ≤ qty := by omega
  have g5 : (lot == 0) = false := by simp; omega
  have g6 : 0 ≤ qty := by omega
  have g7 : qty ≤ 9223372036854775807 := hq.2
  have g8 : lot ≤ 9223372036854775807 := hl.2
  have e1 : IntKind.i64.wrap (qty / lot * lot) = qty - qty % lot := by
    have hm := Int.mul_ediv_add_emod qty lot
    rw [Int.mul_comm] at hm
    have h0 := H5.out
    generalize qty / lot * lot = y at *
    generalize qty % lot = z at *
    rw [IntKind.wrap_i64]; omega
  clear h1 h2 hq hl htt t4
  go_enter Try.func23, Try.ntmps23
  go_wp2_with fail
  go_ret
  refine ⟨?_, rfl⟩
  show Ending.returned (Value.int IntKind.i64 (qty - qty % lot)) = _
  rw [H5.out]

set_option maxHeartbeats 1000000 in
theorem Capped_c (a b : Int) (ha : InR a) (hb : InR b) (r : Int)
    (hr : r = if a < 0 ∨ b < 0 ∨ 4611686018427387904 < a ∨ 4611686018427387904 < b then 0 else if 4611686018427387904 < a + b then 4611686018427387904 else a + b) (w : World) :
    Calls Try.prog 20 #[.int .i64 a, .int .i64 b] w fun e w' => e = .returned (.int .i64 r) ∧ w = w' := by
  have ⟨a0, a1⟩ := ha
  have ⟨b0, b1⟩ := hb
  clear ha hb
  have Hr := Lib.hid hr; clear hr
  have fin : ∀ x : Int, x = r → Ending.returned (.int .i64 x) = .returned (.int .i64 r) := fun x h => by rw [h]
  by_cases c1 : a < 0
  · go_enter Try.func20, Try.ntmps20
    go_wp2
    go_ret
    exact ⟨fin _ (by rw [Hr.out, if_pos (by omega)]), rfl⟩
  · by_cases c2 : b < 0
    · go_enter Try.func20, Try.ntmps20
      go_wp2
      go_ret
      exact ⟨fin _ (by rw [Hr.out, if_pos (by omega)]), rfl⟩
    · by_cases c3 : 4611686018427387904 < a
      · go_enter Try.func20, Try.ntmps20
        go_wp2
        go_ret
        exact ⟨fin _ (by rw [Hr.out, if_pos (by omega)]), rfl⟩
      · by_cases c4 : 4611686018427387904 < b
        · go_enter Try.func20, Try.ntmps20
          go_wp2
          go_ret
          exact ⟨fin _ (by rw [Hr.out, if_pos (by omega)]), rfl⟩
        · by_cases c5 : 4611686018427387904 - b < a
          · go_enter Try.func20, Try.ntmps20
            go_wp2
            go_ret
            exact ⟨fin _ (by rw [Hr.out, if_neg (by omega), if_pos (by omega)]), rfl⟩
          · go_enter Try.func20, Try.ntmps20
            go_wp2
            go_ret
            exact ⟨fin _ (by rw [Hr.out, if_neg (by omega), if_neg (by omega)]), rfl⟩
set_option maxHeartbeats 1000000 in
theorem refCapped_c (a b : Int) (ha : InR a) (hb : InR b) (r : Int)
    (hr : r = if a < 0 ∨ b < 0 ∨ 4611686018427387904 < a ∨ 4611686018427387904 < b then 0 else if 4611686018427387904 < a + b then 4611686018427387904 else a + b) (w : World) :
    Calls Try.prog 22 #[.int .i64 a, .int .i64 b] w fun e w' => e = .returned (.int .i64 r) ∧ w = w' := by
  have ⟨a0, a1⟩ := ha
  have ⟨b0, b1⟩ := hb
  clear ha hb
  have Hr := Lib.hid hr; clear hr
  have fin : ∀ x : Int, x = r → Ending.returned (.int .i64 x) = .returned (.int .i64 r) := fun x h => by rw [h]
  by_cases c1 : a < 0
  · go_enter Try.func22, Try.ntmps22
    go_wp2
    go_ret
    exact ⟨fin _ (by rw [Hr.out, if_pos (by omega)]), rfl⟩
  · by_cases c2 : b < 0
    · go_enter Try.func22, Try.ntmps22
      go_wp2
      go_ret
      exact ⟨fin _ (by rw [Hr.out, if_pos (by omega)]), rfl⟩
    · by_cases c3 : 4611686018427387904 < a
      · go_enter Try.func22, Try.ntmps22
        go_wp2
        go_ret
        exact ⟨fin _ (by rw [Hr.out, if_pos (by omega)]), rfl⟩
      · by_cases c4 : 4611686018427387904 < b
        · go_enter Try.func22, Try.ntmps22
          go_wp2
          go_ret
          exact ⟨fin _ (by rw [Hr.out, if_pos (by omega)]), rfl⟩
        · by_cases c5 : 4611686018427387904 - b < a
          · go_enter Try.func22, Try.ntmps22
            go_wp2
            go_ret
            exact ⟨fin _ (by rw [Hr.out, if_neg (by omega), if_pos (by omega)]), rfl⟩
          · go_enter Try.func22, Try.ntmps22
            go_wp2
            go_ret
            exact ⟨fin _ (by rw [Hr.out, if_neg (by omega), if_neg (by omega)]), rfl⟩


theorem below_drewN {B : Nat} {a w : World} (h : Below B a w) (n : Nat) : Below B a (w.drewN n) := ⟨h.os, h.tape, h.output, h.size, h.block⟩
theorem info43 : (Try.prog.info? 43).map (·.size) = some 2 := by kernel_rfl
theorem retA2 {fn : Func} {p q : Tmp} (h : fn.results = #[.cell p 43, .tmp q]) (tmps : Array Value) (w : World) (g : Nat) (v : Value) (hp : tmps.getD p undef = .pointer (some ⟨g, 0, none⟩)) (hq : tmps.getD q undef = v) (a b : Bool) (t : TypeId)
    (hg : w.heap[g]? = some (.cells #[.bool a, .bool b] t (0, 0))) : (results fn tmps).run Try.prog w = .ok (.tuple #[.agg #[.bool a, .bool b], v]) w := by
  have hp' : tmps[p]?.getD undef = .pointer (some ⟨g, 0, none⟩) := by simpa using hp
  have hq' : tmps[q]?.getD undef = v := by simpa using hq
  simp [results, h, hp', hq', asAddr, run_loadVar_row w g _ _ _ (0, 0) _ hg Try.underlying43 rfl info43]
def isPol (p : Int) : Bool := (p == 1) || (p == 2) || (p == 3) || (p == 4)
def drN (p : Int) : Bool := (p == 3) || (p == 4)
def stN (p : Int) : Bool := (p == 2) || (p == 4)

set_option maxHeartbeats 4000000 in
set_option maxRecDepth 100000 in
theorem deeds_c (p : Int) (w : World) :
    Calls Try.prog 17 #[.int .i64 p] w fun e w' => e = .returned (.tuple #[.agg #[.bool (drN p), .bool (stN p)], .bool (isPol p)]) ∧ Below w.heap.size w w' := by
  by_cases p1 : p = 1
  · subst p1
    go_enter Try.func17, Try.ntmps17
    go_wp2_with fail
    (with_reducible apply bodyPost_ret)
    (apply retA2; rfl; rfl; rfl; exact heap_alloc_new _ _)
    rfl
    exact ⟨rfl, by first | (focus ((repeat' (first | (with_reducible exact Below.refl _ _) | (with_reducible assumption) | (with_reducible refine Below.alloc ?_ ?_ _) | (with_reducible refine Below.setCell ?_ ?_ _) | (with_reducible refine Below.row ?_ ?_ _) | (with_reducible refine Below.drew ?_) | (with_reducible refine below_drewN ?_ _) | (focus (first | (simp; done) | omega | (simp; omega))))); done)) | go_grown⟩
  by_cases p2 : p = 2
  · subst p2
    go_enter Try.func17, Try.ntmps17
    go_wp2_with fail
    (with_reducible apply bodyPost_ret)
    (apply retA2; rfl; rfl; rfl; exact heap_alloc_new _ _)
    rfl
    exact ⟨rfl, by first | (focus ((repeat' (first | (with_reducible exact Below.refl _ _) | (with_reducible assumption) | (with_reducible refine Below.alloc ?_ ?_ _) | (with_reducible refine Below.setCell ?_ ?_ _) | (with_reducible refine Below.row ?_ ?_ _) | (with_reducible refine Below.drew ?_) | (with_reducible refine below_drewN ?_ _) | (focus (first | (simp; done) | omega | (simp; omega))))); done)) | go_grown⟩
  by_cases p3 : p = 3
  · subst p3
    go_enter Try.func17, Try.ntmps17
    go_wp2_with fail
    (with_reducible apply bodyPost_ret)
    (apply retA2; rfl; rfl; rfl; exact heap_alloc_new _ _)
    rfl
    exact ⟨rfl, by first | (focus ((repeat' (first | (with_reducible exact Below.refl _ _) | (with_reducible assumption) | (with_reducible refine Below.alloc ?_ ?_ _) | (with_reducible refine Below.setCell ?_ ?_ _) | (with_reducible refine Below.row ?_ ?_ _) | (with_reducible refine Below.drew ?_) | (with_reducible refine below_drewN ?_ _) | (focus (first | (simp; done) | omega | (simp; omega))))); done)) | go_grown⟩
  by_cases p4 : p = 4
  · subst p4
    go_enter Try.func17, Try.ntmps17
    go_wp2_with fail
    (with_reducible apply bodyPost_ret)
    (apply retA2; rfl; rfl; rfl; exact heap_alloc_new _ _)
    rfl
    exact ⟨rfl, by first | (focus ((repeat' (first | (with_reducible exact Below.refl _ _) | (with_reducible assumption) | (with_reducible refine Below.alloc ?_ ?_ _) | (with_reducible refine Below.setCell ?_ ?_ _) | (with_reducible refine Below.row ?_ ?_ _) | (with_reducible refine Below.drew ?_) | (with_reducible refine below_drewN ?_ _) | (focus (first | (simp; done) | omega | (simp; omega))))); done)) | go_grown⟩
  have e1 : (p == 1) = false := by simp [p1]
  have e2 : (p == 2) = false := by simp [p2]
  have e3 : (p == 3) = false := by simp [p3]
  have e4 : (p == 4) = false := by simp [p4]
  have d1 : drN p = false := by unfold drN; rw [e3, e4]; rfl
  have d2 : stN p = false := by unfold stN; rw [e2, e4]; rfl
  have d3 : isPol p = false := by unfold isPol; rw [e1, e2, e3, e4]; rfl
  rw [d1, d2, d3]
  clear d1 d2 d3 p1 p2 p3 p4
  go_enter Try.func17, Try.ntmps17
  go_wp2_with fail
  (with_reducible apply bodyPost_ret)
  (apply retA2; rfl; rfl; rfl; exact heap_alloc_new _ _)
  rfl
  exact ⟨rfl, by first | (focus ((repeat' (first | (with_reducible exact Below.refl _ _) | (with_reducible assumption) | (with_reducible refine Below.alloc ?_ ?_ _) | (with_reducible refine Below.setCell ?_ ?_ _) | (with_reducible refine Below.row ?_ ?_ _) | (with_reducible refine Below.drew ?_) | (with_reducible refine below_drewN ?_ _) | (focus (first | (simp; done) | omega | (simp; omega))))); done)) | go_grown⟩

set_option maxHeartbeats 4000000 in
set_option maxRecDepth 100000 in
theorem drops_c (p : Int) (w : World) :
    Calls Try.prog 10 #[.int .i64 p] w fun e w' => e = .returned (.bool (drN p)) ∧ Below w.heap.size w w' := by
  have HD : Hid (Calls Try.prog 17 #[.int .i64 p] w fun e w' => e = .returned (.tuple #[.agg #[.bool (drN p), .bool (stN p)], .bool (isPol p)]) ∧ Below w.heap.size w w') := Lib.hid (deeds_c p w)
  generalize drN p = d at HD ⊢
  generalize stN p = s at HD ⊢
  generalize isPol p = k at HD ⊢
  go_enter Try.func10, Try.ntmps10
  go_wp2_with ((with_reducible refine HD.out.mono ?_); rintro e w1 ⟨rfl, b1⟩)
  go_ret
  exact ⟨rfl, by first | exact b1.alloc b1.size _ | (focus ((repeat' (first | (with_reducible exact Below.refl _ _) | (with_reducible assumption) | (with_reducible refine Below.alloc ?_ ?_ _) | (with_reducible refine Below.setCell ?_ ?_ _) | (with_reducible refine Below.row ?_ ?_ _) | (with_reducible refine Below.drew ?_) | (with_reducible refine below_drewN ?_ _) | (focus (first | (simp; done) | omega | (simp; omega))))); done)) | go_grown⟩

set_option maxHeartbeats 4000000 in
set_option maxRecDepth 100000 in
theorem stops_c (p : Int) (w : World) :
    Calls Try.prog 12 #[.int .i64 p] w fun e w' => e = .returned (.bool (stN p)) ∧ Below w.heap.size w w' := by
  have HD : Hid (Calls Try.prog 17 #[.int .i64 p] w fun e w' => e = .returned (.tuple #[.agg #[.bool (drN p), .bool (stN p)], .bool (isPol p)]) ∧ Below w.heap.size w w') := Lib.hid (deeds_c p w)
  generalize drN p = d at HD ⊢
  generalize stN p = s at HD ⊢
  generalize isPol p = k at HD ⊢
  go_enter Try.func12, Try.ntmps12
  go_wp2_with ((with_reducible refine HD.out.mono ?_); rintro e w1 ⟨rfl, b1⟩)
  go_ret
  exact ⟨rfl, by first | exact b1.alloc b1.size _ | (focus ((repeat' (first | (with_reducible exact Below.refl _ _) | (with_reducible assumption) | (with_reducible refine Below.alloc ?_ ?_ _) | (with_reducible refine Below.setCell ?_ ?_ _) | (with_reducible refine Below.row ?_ ?_ _) | (with_reducible refine Below.drew ?_) | (with_reducible refine below_drewN ?_ _) | (focus (first | (simp; done) | omega | (simp; omega))))); done)) | go_grown⟩

set_option maxHeartbeats 4000000 in
set_option maxRecDepth 100000 in
theorem rdrops_c (p : Int) (w : World) :
    Calls Try.prog 11 #[.int .i64 p] w fun e w' => e = .returned (.bool (drN p)) ∧ w = w' := by
  by_cases h1 : p = 3
  · subst h1
    go_enter Try.func11, Try.ntmps11
    go_wp2_with fail
    go_ret
    exact ⟨rfl, rfl⟩
  by_cases h2 : p = 4
  · subst h2
    go_enter Try.func11, Try.ntmps11
    go_wp2_with fail
    go_ret
    exact ⟨rfl, rfl⟩
  have e1 : (p == 3) = false := by simp [h1]
  have e2 : (p == 4) = false := by simp [h2]
  have d : drN p = false := by unfold drN; rw [e1, e2]; rfl
  rw [d]
  clear d h1 h2
  go_enter Try.func11, Try.ntmps11
  go_wp2_with fail
  go_ret
  exact ⟨rfl, rfl⟩

set_option maxHeartbeats 4000000 in
set_option maxRecDepth 100000 in
theorem rstops_c (p : Int) (w : World) :
    Calls Try.prog 13 #[.int .i64 p] w fun e w' => e = .returned (.bool (stN p)) ∧ w = w' := by
  by_cases h1 : p = 2
  · subst h1
    go_enter Try.func13, Try.ntmps13
    go_wp2_with fail
    go_ret
    exact ⟨rfl, rfl⟩
  by_cases h2 : p = 4
  · subst h2
    go_enter Try.func13, Try.ntmps13
    go_wp2_with fail
    go_ret
    exact ⟨rfl, rfl⟩
  have e1 : (p == 2) = false := by simp [h1]
  have e2 : (p == 4) = false := by simp [h2]
  have d : stN p = false := by unfold stN; rw [e1, e2]; rfl
  rw [d]
  clear d h1 h2
  go_enter Try.func13, Try.ntmps13
  go_wp2_with fail
  go_ret
  exact ⟨rfl, rfl⟩

/-- Is it own? -/
def isOwn (p a : Int) (x : Od) : Bool := !(p == 1) && (x.acc == a)
/-- The closure's two boxes. -/
def Bxs (w : World) (c : Nat) (p a : Int) : Prop := w.heap[c]? = some (.cells #[.int .i64 p] 3 (0, 0)) ∧ w.heap[c + 1]? = some (.cells #[.int .i64 a] 3 (0, 0))
theorem Bxs.below {w w' : World} {c : Nat} {p a : Int} {B : Nat} (h : Bxs w c p a) (hb : Below B w w') (hc : c + 1 < B) : Bxs w' c p a :=
  ⟨(hb.block c (by omega)).trans h.1, (hb.block (c + 1) hc).trans h.2⟩
theorem Bxs.c0 {w : World} {c : Nat} {p a : Int} (h : Bxs w c p a) : w.cell? ⟨c, 0, none⟩ = some (.int .i64 p) := by rw [cell_of_row _ _ _ _ _ _ h.1]; rfl
theorem Bxs.c1 {w : World} {c : Nat} {p a : Int} (h : Bxs w c p a) : w.cell? ⟨c + 1, 0, none⟩ = some (.int .i64 a) := by rw [cell_of_row _ _ _ _ _ _ h.2]; rfl

set_option maxHeartbeats 4000000 in
set_option maxRecDepth 100000 in
theorem own1_c (c : Nat) (p a : Int) (x : Od) (w : World) (h : Bxs w c p a) :
    Calls Try.prog 24 #[.agg #[.int .u64 x.id, .int .i64 x.acc, .int .i64 x.side, .int .i64 x.price, .int .i64 x.qty, .int .u64 x.seq], .pointer (some ⟨c, 0, none⟩), .pointer (some ⟨c + 1, 0, none⟩)] w fun e w' => e = .returned (.bool (isOwn p a x)) ∧ Below w.heap.size w w' := by
  obtain ⟨r, hr⟩ : ∃ r, r = isOwn p a x := ⟨_, rfl⟩
  rw [← hr]
  unfold isOwn at hr
  obtain ⟨i, ac, s, pr, q, sq⟩ := x
  have hl : c + 1 < w.heap.size := blk_lt h.2
  have b0 : Below w.heap.size w (w.alloc (.cells #[.int .u64 i, .int .i64 ac, .int .i64 s, .int .i64 pr, .int .i64 q, .int .u64 sq] 35)) := (Below.refl _ _).alloc (Nat.le_refl _) _
  have k0 := (h.below b0 hl).c0
  have k1 := (h.below b0 hl).c1
  clear h
  show Calls Try.prog 24 #[.agg #[.int .u64 i, .int .i64 ac, .int .i64 s, .int .i64 pr, .int .i64 q, .int .u64 sq], .pointer (some ⟨c, 0, none⟩), .pointer (some ⟨c + 1, 0, none⟩)] w _
  by_cases h1 : p = 1
  · subst h1
    have hf : r = false := by rw [hr]; rfl
    subst hf; clear hr
    go_enter Try.func24, Try.ntmps24
    go_wp2_with fail
    go_ret
    exact ⟨rfl, b0⟩
  have e1 : (p == 1) = false := by simp [h1]
  have e2 : (p != 1) = true := by simp [h1]
  rw [e1] at hr
  by_cases h2 : ac = a
  · subst h2
    have hf : r = true := by rw [hr]; simp
    subst hf; clear hr h1
    have e3 : (ac == ac) = true := by simp
    go_enter Try.func24, Try.ntmps24
    go_wp2_with fail
    go_ret
    exact ⟨rfl, b0⟩
  · have e3 : (ac == a) = false := by simp [h2]
    have hf : r = false := by rw [hr]; simp [e3]
    subst hf; clear hr h1 h2
    go_enter Try.func24, Try.ntmps24
    go_wp2_with fail
    go_ret
    exact ⟨rfl, b0⟩
end Go.Proofs.Ytjfpbphdhgkccaa
