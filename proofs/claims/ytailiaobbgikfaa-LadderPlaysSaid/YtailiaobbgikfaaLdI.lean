/- slices.Insert of one element. (By mkldi.py.) -/
import Derived.Test.YtailiaobbgikfaaOrX
import Derived.Shelf.Spec.SlicesInsert
import Derived.Lib.AppendZerosOnto
import Derived.Lib.Overlaps
import Derived.Laws.CopyRow
import Derived.Laws.CopyOwn
namespace Go.Proofs.Ytailiaobbgikfaa
open Go.RowKit Go.Sort Go.Lib Go.Shelf

theorem own_base {w : World} {b b' n size : Nat} {e : TypeId} {v : Value} {xs : List Value} (h : w.ownsRow b e size v n xs) (hb : b' ≤ b) : w.ownsRow b' e size v n xs := by
  obtain ⟨h1, h2⟩ := h
  refine ⟨h1, ?_⟩
  rcases h2 with h | ⟨g, cp, cur, hv, hg, rest⟩
  · exact .inl h
  · exact .inr ⟨g, cp, cur, hv, Nat.le_trans hb hg, rest⟩
/-- 'copy' of elements of k cells. -/
theorem run_copyK (w : World) (dT sT ty elem : TypeId) (k g o dLen dCap : Nat) (a : Addr) (sLen sCap : Nat) (cur : Array Value) (t : TypeId) (cs : List Value)
    (hu : Try.prog.underlying dT = some (.slice elem)) (hs : (Try.prog.info? elem).map (·.size) = some k)
    (hg : w.heap[g]? = some (.cells cur t (0, 0))) (m : Nat) (hm : Nat.min sLen dLen = m) (hn : cs.length = m * k)
    (hsrc : ∀ j v, cs[j]? = some v → w.cell? (a.add j) = some v) (hfit : o + cs.length ≤ cur.size) (h1 : ∀ v ∈ cs, v.oneCell' = true) :
    (Builtin.copy_ #[dT, sT] ty #[.slice (some ⟨g, o, none⟩) dLen dCap, .slice (some a) sLen sCap]).run Try.prog w =
      .ok (goInt m) (w.setRow g (cur.toList.take o ++ cs ++ cur.toList.drop (o + cs.length)).toArray) := by
  have hl := run_loadCells_list (P := Try.prog) w a cs hsrc
  have hst := run_storeCells_at Try.prog g o t cs 0 cur w hg (by simpa using hfit) h1
  cases hq : Try.prog.info? elem with
  | none => simp [hq] at hs
  | some i =>
    have hi : i.size = k := by simpa [hq] using hs
    simp [Builtin.copy_, run_underlying hu, Builtin.lenOf, Builtin.firstCells, sizeOf, typeInfo, hq, hi, hm, ← hn, hl, hst]
/-- What block g holds behind an insertion in place. -/
def insC (cur ys : List Value) (n i k : Nat) : List Value := cur.take (i * k) ++ ys ++ (cur.drop (i * k)).take ((n - i) * k) ++ cur.drop ((n + 1) * k)
theorem insC_steps {cur ys : List Value} {n i k c : Nat} (hi : i ≤ n) (hc : n + 1 ≤ c) (hl : cur.length = c * k) (hy : ys.length = k) :
    (cur.take ((i + 1) * k) ++ (cur.drop (i * k)).take ((n - i) * k) ++ cur.drop ((i + 1) * k + ((cur.drop (i * k)).take ((n - i) * k)).length)).take (i * k) ++ ys ++
      (cur.take ((i + 1) * k) ++ (cur.drop (i * k)).take ((n - i) * k) ++ cur.drop ((i + 1) * k + ((cur.drop (i * k)).take ((n - i) * k)).length)).drop (i * k + ys.length) = insC cur ys n i k := by
  have e1 : (i + 1) * k = i * k + k := Nat.succ_mul i k
  have e2 : (n + 1) * k = n * k + k := Nat.succ_mul n k
  have e3 : (n - i) * k = n * k - i * k := Nat.sub_mul n i k
  have h1 : i * k ≤ n * k := Nat.mul_le_mul_right k hi
  have h2 : n * k + k ≤ c * k := by rw [← e2]; exact Nat.mul_le_mul_right k hc
  have lx : ((cur.drop (i * k)).take ((n - i) * k)).length = n * k - i * k := by rw [List.length_take, List.length_drop]; omega
  have lt : (cur.take ((i + 1) * k)).length = i * k + k := by rw [List.length_take]; omega
  rw [lx]
  have a1 : (cur.take ((i + 1) * k) ++ (cur.drop (i * k)).take ((n - i) * k) ++ cur.drop ((i + 1) * k + (n * k - i * k))).take (i * k) = cur.take (i * k) := by
    rw [List.append_assoc, List.take_append_of_le_length (by omega), List.take_take, Nat.min_eq_left (by omega)]
  have a2 : (cur.take ((i + 1) * k) ++ (cur.drop (i * k)).take ((n - i) * k) ++ cur.drop ((i + 1) * k + (n * k - i * k))).drop (i * k + ys.length) = (cur.drop (i * k)).take ((n - i) * k) ++ cur.drop ((n + 1) * k) := by
    rw [List.append_assoc, List.drop_append, lt, hy]
    have z : (cur.take ((i + 1) * k)).drop (i * k + k) = [] := List.drop_eq_nil_of_le (by omega)
    rw [z, Nat.sub_self, List.drop_zero, List.nil_append, show (i + 1) * k + (n * k - i * k) = (n + 1) * k by omega]
  rw [a1, a2]
  unfold insC
  simp only [List.append_assoc]
theorem insC_take {cur ys xs : List Value} {n i k c : Nat} (hi : i ≤ n) (hc : n + 1 ≤ c) (hl : cur.length = c * k) (hy : ys.length = k) (hx : cur.take (n * k) = xs) :
    (insC cur ys n i k).length = c * k ∧ (insC cur ys n i k).take ((n + 1) * k) = xs.take (i * k) ++ ys ++ xs.drop (i * k) := by
  have e2 : (n + 1) * k = n * k + k := Nat.succ_mul n k
  have e3 : (n - i) * k = n * k - i * k := Nat.sub_mul n i k
  have h1 : i * k ≤ n * k := Nat.mul_le_mul_right k hi
  have h2 : n * k + k ≤ c * k := by rw [← e2]; exact Nat.mul_le_mul_right k hc
  have lx : ((cur.drop (i * k)).take ((n - i) * k)).length = n * k - i * k := by rw [List.length_take, List.length_drop]; omega
  have ly : (cur.take (i * k)).length = i * k := by rw [List.length_take]; omega
  refine ⟨?_, ?_⟩
  · unfold insC
    simp only [List.length_append, lx, ly, hy, List.length_drop]
    omega
  · unfold insC
    rw [List.take_append_of_le_length (by simp only [List.length_append, lx, ly, hy]; omega), List.take_of_length_le (by simp only [List.length_append, lx, ly, hy]; omega)]
    rw [← hx, List.take_take, Nat.min_eq_left h1, List.drop_take, e3]
theorem grow_steps {R xs ys : List Value} {n i k G : Nat} (hR : R.take (i * k) = xs.take (i * k)) (lR : R.length = G * k) (hG : n + 1 ≤ G) (hx : xs.length = n * k) (hy : ys.length = k) (hi : i ≤ n) {R1 R2 : List Value} (e1 : R1 = R.take (i * k) ++ ys ++ R.drop (i * k + ys.length)) (e2 : R2 = R1.take ((i + 1) * k) ++ xs.drop (i * k) ++ R1.drop ((i + 1) * k + (xs.drop (i * k)).length)) :
    R1.length = G * k ∧ R2.length = G * k ∧ R2.take ((n + 1) * k) = xs.take (i * k) ++ ys ++ xs.drop (i * k) := by
  have a1 : (i + 1) * k = i * k + k := Nat.succ_mul i k
  have a2 : (n + 1) * k = n * k + k := Nat.succ_mul n k
  have h1 : i * k ≤ n * k := Nat.mul_le_mul_right k hi
  have h2 : n * k + k ≤ G * k := by rw [← a2]; exact Nat.mul_le_mul_right k hG
  have lt : (R.take (i * k)).length = i * k := by rw [List.length_take]; omega
  have l1 : R1.length = G * k := by rw [e1]; simp only [List.length_append, lt, hy, List.length_drop]; omega
  have t1 : R1.take ((i + 1) * k) = xs.take (i * k) ++ ys := by
    rw [e1, List.take_append_of_le_length (by simp only [List.length_append, lt, hy]; omega), List.take_of_length_le (by simp only [List.length_append, lt, hy]; omega), hR]
  have lx : (xs.take (i * k)).length = i * k := by rw [List.length_take]; omega
  have ld : (xs.drop (i * k)).length = n * k - i * k := by rw [List.length_drop, hx]
  refine ⟨l1, ?_, ?_⟩
  · rw [e2, t1]; simp only [List.length_append, lx, hy, ld, List.length_drop, l1]; omega
  · rw [e2, t1, List.take_append_of_le_length (by simp only [List.length_append, lx, hy, ld]; omega), List.take_of_length_le (by simp only [List.length_append, lx, hy, ld]; omega)]
/-- Behind an insertion in place. -/
def InsIn (w : World) (g : Nat) (E : TypeId) (cs : List Value) (w' : World) : Prop := w.grownBy w' (some g) ∧ w'.heap[g]? = some (.cells cs.toArray E (0, 0))
theorem insIn_set {w : World} {g : Nat} {E : TypeId} {cur cs : List Value} (h : w.heap[g]? = some (.cells cur.toArray E (0, 0))) : InsIn w g E cs (w.setRow g cs.toArray) :=
  ⟨⟨rfl, rfl, rfl, by rw [size_setRow]; exact Nat.le_refl _, fun j _ hj => setRow_other _ _ _ _ (fun e => hj (by rw [e]))⟩, setRow_heap _ _ _ _ _ _ h⟩
theorem insIn_trans {w w1 w2 : World} {g : Nat} {E : TypeId} {cs cs' : List Value} (h : InsIn w g E cs w1) (k : InsIn w1 g E cs' w2) : InsIn w g E cs' w2 := ⟨h.1.trans k.1, k.2⟩
theorem insIn_drew {w : World} {g : Nat} {E : TypeId} {cs : List Value} (h : w.heap[g]? = some (.cells cs.toArray E (0, 0))) : InsIn w g E cs w.drew := ⟨⟨rfl, rfl, rfl, Nat.le_refl _, fun _ _ _ => rfl⟩, h⟩

theorem info_R : (Try.prog.info? 100).map (fun i => (i.zero, i.size, i.bytes)) = some (some (.agg #[.int .i64 0, .slice none 0 0]), 2, 32) := by kernel_rfl
theorem size_R : (Try.prog.info? 100).map (·.size) = some 2 := by kernel_rfl
theorem sizeOf_R (w : World) : (sizeOf 100).run Try.prog w = .ok 2 w := by kernel_rfl
theorem ov_R (w : World) (g vb a b c d n m : Nat) (hne : vb ≠ g) (cs ys : Array Value) (hg : w.heap[g]? = some (.cells cs 100 (0, 0))) (hv : w.heap[vb]? = some (.cells ys 100 (0, 0))) (h0 : 0 < cs.size) :
    (callFunc 94 #[.slice (some ⟨vb, a, none⟩) n c, .slice (some ⟨g, b, none⟩) m d]).run Try.prog w = .ok (.value (.bool false)) w := by
  rw [run_callFunc_extern Try.func94 (by kernel_rfl) (by kernel_rfl) (by kernel_rfl) (e := Extern.SlicesOverlaps.overlaps #[95, 95] #[4]) (by kernel_rfl),
    Lib.run_overlaps_apart w 95 4 100 Try.underlying95 2 sizeOf_R ⟨vb, a, none⟩ ⟨g, b, none⟩ n c m d hne 100 100 ys.size cs.size (by unfold World.shape?; rw [hv]) (by unfold World.shape?; rw [hg]) (by omega) (frozen_of_row _ _ _ _ _ hv) (frozen_of_row _ _ _ _ _ hv)]
  rfl
set_option maxHeartbeats 4000000 in
set_option maxRecDepth 100000 in
theorem insS_R (w : World) (g n c i vb : Nat) (cur ys : List Value) (hg : w.heap[g]? = some (.cells cur.toArray 100 (0, 0))) (hl : cur.length = c * 2) (hc : n + 1 ≤ c) (hi : i < n) (hcm : c ≤ maxLen) (hvb : vb ≠ g) (hv : w.heap[vb]? = some (.cells ys.toArray 100 (0, 0))) (hy : ys.length = 2) (h1 : ∀ v ∈ cur.take (n * 2), v.oneCell' = true) (h2 : ∀ v ∈ ys, v.oneCell' = true) :
    Calls Try.prog 84 #[.slice (some ⟨g, 0, none⟩) n c, .int .i64 i, .slice (some ⟨vb, 0, none⟩) 1 1] w fun e w' => e = .returned (.slice (some ⟨g, 0, none⟩) (n + 1) c) ∧ Hid (InsIn w g 100 (insC cur ys n i 2) w') := by
  have mixed : Try.prog.follows .mixedOrders = true := by kernel_rfl
  have hcm' : c ≤ 9223372036854775807 := by unfold maxLen at hcm; omega
  have hov := fun W (h : W.heap[g]? = some (.cells cur.toArray 100 (0, 0))) (h' : W.heap[vb]? = some (.cells ys.toArray 100 (0, 0))) b n c m d => ov_R W g vb 0 b c d n m hvb cur.toArray ys.toArray h h' (by simp; omega)
  have hov := hov w hg hv
  have q1 : ¬ ((i : Int) = (n : Int)) := by omega
  have q2 : ¬ ((c : Int) < (n : Int) + 1) := by omega
  have q3 : (0 : Int) ≤ (i : Int) + 1 := by omega
  have q4 : ¬ (c = i + 1) := by omega
  have q5 : ¬ (c = i) := by omega
  have q6 : (i : Int) ≤ (n : Int) := by omega
  have q7 : (n : Int) + 1 ≤ (c : Int) := by omega
  have q8 : IntKind.i64.wrap ((i : Int) + 1) = (i : Int) + 1 := by rw [IntKind.wrap_i64]; omega
  have q9 : IntKind.i64.wrap ((n : Int) + 1) = (n : Int) + 1 := by rw [IntKind.wrap_i64]; omega
  have q10 : ((i : Int) + 1).toNat = i + 1 := by omega
  have q11 : ((n : Int) + 1).toNat = n + 1 := by omega
  have q12 : (i : Int) ≤ (n : Int) + 1 := by omega
  have q13 : (i : Int) + 1 ≤ (n : Int) + 1 := by omega
  have q14 : (c : Int) ≤ 9223372036854775807 := by omega
  have hik : (i + 1) * 2 = i * 2 + 2 := by omega
  have hni : (n - i) * 2 = n * 2 - i * 2 := by omega
  have hnk : (n + 1) * 2 ≤ c * 2 := by omega
  obtain ⟨X, eX⟩ : ∃ X, X = (cur.drop (i * 2)).take ((n - i) * 2) := ⟨_, rfl⟩
  have lX : X.length = (n - i) * 2 := by rw [eX, List.length_take, List.length_drop]; omega
  obtain ⟨A1, e1⟩ : ∃ A1, A1 = (cur.take ((i + 1) * 2) ++ X ++ cur.drop ((i + 1) * 2 + X.length)) := ⟨_, rfl⟩
  have l1 : A1.length = c * 2 := by rw [e1]; simp only [List.length_append, List.length_take, List.length_drop, lX]; omega
  have e2 : A1.take (i * 2) ++ ys ++ A1.drop (i * 2 + ys.length) = insC cur ys n i 2 := by rw [e1, eX]; exact insC_steps (by omega) hc hl hy
  have C1 : Hid (∀ ty dl dc sl sc, Nat.min sl dl = n - i → (Builtin.copy_ #[95, 95] ty #[.slice (some ⟨g, (i + 1) * 2, none⟩) dl dc, .slice (some ⟨g, i * 2, none⟩) sl sc]).run Try.prog w.drew = .ok (goInt ((n - i : Nat) : Int)) (w.drew.setRow g A1.toArray)) := Lib.hid (fun ty dl dc sl sc hm => by
    have := run_copyK w.drew 95 95 ty 100 2 g ((i + 1) * 2) dl dc ⟨g, i * 2, none⟩ sl sc cur.toArray 100 X Try.underlying95 size_R (hd_drew hg) (n - i) hm lX (fun j v hj => by
      rw [addr_add, cell_of_row _ _ _ _ _ _ (hd_drew hg)]
      rw [eX, List.getElem?_take] at hj
      split at hj
      · rw [List.getElem?_drop] at hj
        rw [List.getElem?_toArray]; exact hj
      · cases hj) (by rw [lX]; simp only [List.size_toArray]; omega) (fun v hv => h1 v (by rw [eX, hni, ← List.drop_take] at hv; exact List.mem_of_mem_drop hv))
    rw [e1]
    exact this)
  have G1 : (w.drew.setRow g A1.toArray).heap[g]? = some (.cells A1.toArray 100 (0, 0)) := setRow_heap _ _ _ _ _ _ (hd_drew hg)
  have C2 : Hid (∀ ty dl dc sc, Nat.min 1 dl = 1 → (Builtin.copy_ #[95, 95] ty #[.slice (some ⟨g, i * 2, none⟩) dl dc, .slice (some ⟨vb, 0, none⟩) 1 sc]).run Try.prog (w.drew.setRow g A1.toArray) = .ok (goInt 1) ((w.drew.setRow g A1.toArray).setRow g (insC cur ys n i 2).toArray)) := Lib.hid (fun ty dl dc sc hm => by
    have := run_copyK (w.drew.setRow g A1.toArray) 95 95 ty 100 2 g (i * 2) dl dc ⟨vb, 0, none⟩ 1 sc A1.toArray 100 ys Try.underlying95 size_R G1 1 hm (by omega) (fun j v hj => by
      rw [addr_add, Nat.zero_add, cell_of_row _ _ _ _ _ _ ((setRow_other _ _ _ _ hvb).trans (hd_drew hv)), List.getElem?_toArray]; exact hj) (by simp only [List.size_toArray]; omega) h2
    rw [← e2]
    exact this)
  have F : Hid (InsIn w g 100 (insC cur ys n i 2) ((w.drew.setRow g A1.toArray).setRow g (insC cur ys n i 2).toArray)) := insIn_trans (insIn_trans (insIn_drew hg) (insIn_set (hd_drew hg))) (insIn_set G1)
  clear eX lX e1 l1 e2 G1 hik hni hnk
  have HX := Lib.hid (And.intro hl (And.intro hc (And.intro hi (And.intro hy (And.intro h1 h2)))))
  clear hg hv hl hc hy h1 h2 hcm
  go_enter Try.func84, Try.ntmps84
  go_wp2_with (simp only [hov])
  refine wp_region_held_drew (S := fun _ => True) (by kernel_rfl) trivial (fun hHeld => ?_)
  clear hHeld
  refine wpAnyH_take (i := 0) (oi := ⟨some 69, _, _, _, _, _⟩) (v := ?_) rfl (by kernel_rfl) (by kernel_rfl) (by kernel_rfl) (fun _ _ _ h => h) (Or.inl ⟨by kernel_rfl, ?_⟩) trivial ?_
  rotate_left
  · (intro w hSw; go_simp; try with_reducible rfl)
  (repeat (first | simp only [Act.put] | simp only [List.setIfInBounds_toArray] | simp only [List.set_cons_succ] | simp only [List.set_cons_zero]))
  refine wpAnyH_take (i := 1) (oi := ⟨some 70, _, _, _, _, _⟩) (v := ?_) rfl (by kernel_rfl) (by kernel_rfl) (by kernel_rfl) (fun _ _ _ h => h) (Or.inl ⟨by kernel_rfl, ?_⟩) trivial ?_
  rotate_left
  · (intro w hSw; go_simp; try with_reducible rfl)
  (repeat (first | simp only [Act.put] | simp only [List.setIfInBounds_toArray] | simp only [List.set_cons_succ] | simp only [List.set_cons_zero]))
  refine wpAnyH_take (i := 2) (oi := ⟨some 71, _, _, _, _, _⟩) (v := ?_) rfl (by kernel_rfl) (by kernel_rfl) (by kernel_rfl) (fun _ _ _ h => h) (Or.inl ⟨by kernel_rfl, ?_⟩) trivial ?_
  rotate_left
  · (intro w hSw; go_simp; try with_reducible rfl)
  (repeat (first | simp only [Act.put] | simp only [List.setIfInBounds_toArray] | simp only [List.set_cons_succ] | simp only [List.set_cons_zero]))
  refine wpAnyH_take (i := 3) (oi := ⟨some 72, _, _, _, _, _⟩) (v := ?_) rfl (by kernel_rfl) (by kernel_rfl) (by kernel_rfl) (fun _ _ _ h => h) (Or.inl ⟨by kernel_rfl, ?_⟩) trivial ?_
  rotate_left
  · (intro w hSw; go_simp; try with_reducible rfl)
  (repeat (first | simp only [Act.put] | simp only [List.setIfInBounds_toArray] | simp only [List.set_cons_succ] | simp only [List.set_cons_zero]))
  refine wpAnyH_take (i := 4) (oi := ⟨some 73, _, _, _, _, _⟩) (v := ?_) rfl (by kernel_rfl) (by kernel_rfl) (by kernel_rfl) (fun _ _ _ h => h) (Or.inl ⟨by kernel_rfl, ?_⟩) trivial ?_
  rotate_left
  · (intro w hSw; go_simp; try with_reducible rfl)
  (repeat (first | simp only [Act.put] | simp only [List.setIfInBounds_toArray] | simp only [List.set_cons_succ] | simp only [List.set_cons_zero]))
  refine wpAnyH_take (i := 5) (oi := ⟨some 74, _, _, _, _, _⟩) (v := ?_) rfl (by kernel_rfl) (by kernel_rfl) (by kernel_rfl) (fun _ _ _ h => h) (Or.inl ⟨by kernel_rfl, ?_⟩) trivial ?_
  rotate_left
  · (intro w hSw; go_simp; try with_reducible rfl)
  (repeat (first | simp only [Act.put] | simp only [List.setIfInBounds_toArray] | simp only [List.set_cons_succ] | simp only [List.set_cons_zero]))
  refine wpAnyH_take (i := 6) (oi := ⟨some 75, _, _, _, _, _⟩) (v := ?_) rfl (by kernel_rfl) (by kernel_rfl) (by kernel_rfl) (fun _ _ _ h => h) (Or.inl ⟨by kernel_rfl, ?_⟩) trivial ?_
  rotate_left
  · (intro w hSw; go_simp; try with_reducible rfl)
  (repeat (first | simp only [Act.put] | simp only [List.setIfInBounds_toArray] | simp only [List.set_cons_succ] | simp only [List.set_cons_zero]))
  refine wpAnyH_take (i := 7) (oi := ⟨some 76, _, _, _, _, _⟩) (v := ?_) rfl (by kernel_rfl) (by kernel_rfl) (by kernel_rfl) (fun _ _ _ h => h) (Or.inl ⟨by kernel_rfl, ?_⟩) trivial ?_
  rotate_left
  · (intro w hSw; go_simp; try with_reducible rfl)
  (repeat (first | simp only [Act.put] | simp only [List.setIfInBounds_toArray] | simp only [List.set_cons_succ] | simp only [List.set_cons_zero]))
  refine wpAnyH_ready (rs := [8]) (by kernel_rfl) (by simp) ?_
  refine AllReadyH.cons (o := ⟨some 77, _, _, _, _, _⟩) rfl (fun K hK => ?_) AllReadyH.nil
  refine step_copy_runI rfl _ _ 95 95 rfl _ _ rfl rfl (C1.out _ _ _ _ _ (by simp only [Nat.min_def]; split <;> omega)) ?_
  refine hK.out _ _ trivial (fun hHeld => ?_)
  clear hK K hHeld
  (repeat (first | simp only [Act.put] | simp only [List.setIfInBounds_toArray] | simp only [List.set_cons_succ] | simp only [List.set_cons_zero]))
  refine wpAnyH_done (by kernel_rfl) ?_ _
  clear C1
  go_wp2_with fail
  rw [C2.out _ _ _ _ (by simp only [Nat.min_def]; split <;> omega)]
  go_wp2_with fail
  go_ret
  exact ⟨rfl, F.out⟩
set_option maxHeartbeats 4000000 in
set_option maxRecDepth 100000 in
theorem insA_R (w : World) (base n : Nat) (v : Value) (xs ys : List Value) (vb : Nat) (hown : w.ownsRow base 100 2 v n xs) (hb : base ≤ w.heap.size) (hn : n ≤ 1000) (hv : w.heap[vb]? = some (.cells ys.toArray 100 (0, 0))) (hy : ys.length = 2) (h2 : ∀ v ∈ ys, v.oneCell' = true) :
    Calls Try.prog 84 #[v, .int .i64 n, .slice (some ⟨vb, 0, none⟩) 1 1] w fun e w' => ∃ v', e = .returned v' ∧ Hid (w'.ownsRow base 100 2 v' (n + 1) (xs ++ ys) ∧ w.grownBy w' v.ownBlock ∧ (v'.ownBlock = v.ownBlock ∨ v'.ownBlock = some w.heap.size)) := by
  obtain ⟨i0, hi0, hz0, hz1, hz2⟩ := info_parts info_R
  have HO := Lib.hid hown
  have hnw : Hid (∀ (j : Nat) (u : Value), ys[j]? = some u → w.cell? ((⟨vb, 0, none⟩ : Addr).add j) = some u) := Lib.hid (fun j u hj => by
    rw [addr_add, Nat.zero_add, cell_of_row _ _ _ _ _ _ hv, List.getElem?_toArray]; exact hj)
  have q1 : IntKind.i64.wrap ((n : Int) + 1) = (n : Int) + 1 := by rw [IntKind.wrap_i64]; omega
  rcases hown.2 with ⟨rfl, rfl⟩ | ⟨g, c, cur, rfl, _, _, hc, hm, _, _⟩
  · clear hown hv
    go_enter Try.func84, Try.ntmps84
    go_wp2_with (at_builtin; refine wpList_append_own_at _ rfl _ _ 95 rfl base 100 i0 (.agg #[.int .i64 0, .slice none 0 0]) 2 32 Try.underlying95 hi0 hz0 hz1 hz2 rfl (by decide) _ _ _ rfl HO.out ⟨vb, 0, none⟩ 1 1 ys rfl (by omega) hnw.out h2 (by unfold maxLen; omega) (by omega) hb ?_)
    intro v1 w1 k1 k2 _ k3
    have HR : Hid (w1.ownsRow base 100 2 v1 (0 + 1) (xs ++ ys) ∧ w.grownBy w1 (Value.slice none 0 0).ownBlock ∧ (v1.ownBlock = (Value.slice none 0 0).ownBlock ∨ v1.ownBlock = some w.heap.size)) := ⟨k1, k2, k3⟩
    clear k1 k2 k3
    go_wp2_with fail
    go_ret
    exact ⟨_, rfl, HR.out⟩
  · have hcm : c ≤ 9223372036854775807 := by unfold maxLen at hm; omega
    have q2 : (n : Int) ≤ (c : Int) := by omega
    have q3 : (c : Int) ≤ 9223372036854775807 := by omega
    clear hown hv hm
    by_cases hcn : c = n
    · subst hcn
      go_enter Try.func84, Try.ntmps84
      go_wp2_with (at_builtin; refine wpList_append_own_at _ rfl _ _ 95 rfl base 100 i0 (.agg #[.int .i64 0, .slice none 0 0]) 2 32 Try.underlying95 hi0 hz0 hz1 hz2 rfl (by decide) _ _ _ rfl HO.out ⟨vb, 0, none⟩ 1 1 ys rfl (by omega) hnw.out h2 (by unfold maxLen; omega) (by omega) hb ?_)
      intro v1 w1 k1 k2 _ k3
      have HR : Hid (w1.ownsRow base 100 2 v1 (c + 1) (xs ++ ys) ∧ w.grownBy w1 (Value.slice (some ⟨g, 0, none⟩) c c).ownBlock ∧ (v1.ownBlock = (Value.slice (some ⟨g, 0, none⟩) c c).ownBlock ∨ v1.ownBlock = some w.heap.size)) := ⟨k1, k2, k3⟩
      clear k1 k2 k3
      go_wp2_with fail
      go_ret
      exact ⟨_, rfl, HR.out⟩
    · go_enter Try.func84, Try.ntmps84
      go_wp2_with (at_builtin; refine wpList_append_own_at _ rfl _ _ 95 rfl base 100 i0 (.agg #[.int .i64 0, .slice none 0 0]) 2 32 Try.underlying95 hi0 hz0 hz1 hz2 rfl (by decide) _ _ _ rfl HO.out ⟨vb, 0, none⟩ 1 1 ys rfl (by omega) hnw.out h2 (by unfold maxLen; omega) (by omega) hb ?_)
      intro v1 w1 k1 k2 _ k3
      have HR : Hid (w1.ownsRow base 100 2 v1 (n + 1) (xs ++ ys) ∧ w.grownBy w1 (Value.slice (some ⟨g, 0, none⟩) n c).ownBlock ∧ (v1.ownBlock = (Value.slice (some ⟨g, 0, none⟩) n c).ownBlock ∨ v1.ownBlock = some w.heap.size)) := ⟨k1, k2, k3⟩
      clear k1 k2 k3
      go_wp2_with fail
      go_ret
      exact ⟨_, rfl, HR.out⟩
set_option maxHeartbeats 4000000 in
set_option maxRecDepth 100000 in
theorem insG_R (w : World) (g n i vb : Nat) (xs ys : List Value) (hg : w.heap[g]? = some (.cells xs.toArray 100 (0, 0))) (hl : xs.length = n * 2) (hn : n ≤ 1000) (hi : i < n) (hv : w.heap[vb]? = some (.cells ys.toArray 100 (0, 0))) (hy : ys.length = 2) (h1 : ∀ v ∈ xs, v.oneCell' = true) (h2 : ∀ v ∈ ys, v.oneCell' = true) :
    Calls Try.prog 84 #[.slice (some ⟨g, 0, none⟩) n n, .int .i64 i, .slice (some ⟨vb, 0, none⟩) 1 1] w fun e w' => ∃ v', e = .returned v' ∧ Hid (w'.ownsRow w.heap.size 100 2 v' (n + 1) (xs.take (i * 2) ++ ys ++ xs.drop (i * 2)) ∧ Below w.heap.size w w' ∧ v'.ownBlock = some w.heap.size) := by
  have mixed : Try.prog.follows .mixedOrders = true := by kernel_rfl
  obtain ⟨i0, hi0, hz0, hz1, hz2⟩ := info_parts info_R
  have hgl := blk_lt hg
  have hvl := blk_lt hv
  have q0 : (n : Int) < (n : Int) + 1 := by omega
  have q1 : ¬ ((i : Int) = (n : Int)) := by omega
  have q3 : (0 : Int) ≤ (i : Int) + 1 := by omega
  have q5 : ¬ (n = i) := by omega
  have q6 : (i : Int) ≤ (n : Int) := by omega
  have q8 : IntKind.i64.wrap ((i : Int) + 1) = (i : Int) + 1 := by rw [IntKind.wrap_i64]; omega
  have q9 : IntKind.i64.wrap ((n : Int) + 1) = (n : Int) + 1 := by rw [IntKind.wrap_i64]; omega
  have q10 : ((i : Int) + 1).toNat = i + 1 := by omega
  have q12 : (i : Int) ≤ (n : Int) + 1 := by omega
  have q13 : (i : Int) + 1 ≤ (n : Int) + 1 := by omega
  have q14 : (n : Int) ≤ 9223372036854775807 := by omega
  have q15 : IntKind.i64.wrap ((n : Int) + 1 - (i : Int)) = ((n + 1 - i : Nat) : Int) := by rw [IntKind.wrap_i64]; omega
  have hik : (i + 1) * 2 = i * 2 + 2 := by omega
  have hxt : (xs.take (i * 2)).length = i * 2 := by rw [List.length_take]; omega
  have hold : (Builtin.firstCells i0.size i (.slice (some ⟨g, 0, none⟩) i n)).run Try.prog w.drew = .ok (xs.take (i * 2)).toArray w.drew := by
    rw [hz1]
    exact run_firstCells_some w.drew 2 i ⟨g, 0, none⟩ i n (xs.take (i * 2)) hxt (fun j v hj => by
      rw [addr_add, Nat.zero_add, cell_of_row _ _ _ _ _ _ (hd_drew hg), List.getElem?_toArray]
      rw [List.getElem?_take] at hj
      split at hj
      · exact hj
      · cases hj)
  have hin : i + (n + 1 - i) = n + 1 := by omega
  have hrz : ∀ ty, (Builtin.append_ #[95, 3] ty #[.slice (some ⟨g, 0, none⟩) i n, .int .i64 ((n + 1 - i : Nat) : Int)]).run Try.prog w = .ok (.slice (some ⟨w.heap.size, 0, none⟩) (n + 1) (grownCap w (n + 1) n 100)) (w.drew.alloc (.cells ((xs.take (i * 2)).toArray ++ Builtin.zeroCells ((.agg #[.int .i64 0, .slice none 0 0]) : Value).cells (n + 1 - i) ++ Builtin.zeroCells ((.agg #[.int .i64 0, .slice none 0 0]) : Value).cells (grownCap w (n + 1) n 100 - (n + 1))) 100)) := fun ty => by
    have h := Lib.run_append_grow_zeros w 95 3 ty 100 i0 _ .i64 .i64 Try.underlying95 Try.underlying3 hi0 hz0 (some ⟨g, 0, none⟩) i n (xs.take (i * 2)) hold (n + 1 - i) (by omega) (by omega) (by omega) (by omega) (by rw [hz2]; omega) (by rw [hz2, hin]; exact growslice_fits (by omega) (by omega))
    rw [hin] at h
    exact h
  obtain ⟨G, hG⟩ : ∃ G, G = grownCap w (n + 1) n 100 := ⟨_, rfl⟩
  have hGn : n + 1 ≤ G := by rw [hG]; exact grownCap_ge w _ _ _
  have hGm : G ≤ maxLen := by rw [hG]; exact grownCap_le_maxLen w (n + 1) n 100 (by unfold maxLen; omega)
  have hG63 : (G : Int) ≤ 9223372036854775807 := by unfold maxLen at hGm; omega
  rw [← hG] at hrz
  obtain ⟨R, hR⟩ : ∃ R : List Value, R.toArray = (xs.take (i * 2)).toArray ++ Builtin.zeroCells ((.agg #[.int .i64 0, .slice none 0 0]) : Value).cells (n + 1 - i) ++ Builtin.zeroCells ((.agg #[.int .i64 0, .slice none 0 0]) : Value).cells (G - (n + 1)) := ⟨_, Array.toArray_toList⟩
  rw [← hR] at hrz
  have lR : R.length = G * 2 := by
    have := congrArg Array.size hR
    simp only [List.size_toArray, Array.size_append, hxt] at this
    simp [Builtin.zeroCells, Value.cells] at this
    omega
  have tR : R.take (i * 2) = xs.take (i * 2) := by
    have := congrArg Array.toList hR
    rw [Array.toList_append, Array.toList_append] at this
    rw [show R = R.toArray.toList from rfl, this, List.append_assoc, List.take_append_of_le_length (by show _ ≤ (xs.take (i * 2)).length; omega)]
    exact List.take_of_length_le (by show (xs.take (i * 2)).length ≤ _; omega)
  obtain ⟨R1, e1⟩ : ∃ R1, R1 = R.take (i * 2) ++ ys ++ R.drop (i * 2 + ys.length) := ⟨_, rfl⟩
  obtain ⟨R2, e2⟩ : ∃ R2, R2 = R1.take ((i + 1) * 2) ++ xs.drop (i * 2) ++ R1.drop ((i + 1) * 2 + (xs.drop (i * 2)).length) := ⟨_, rfl⟩
  obtain ⟨l1, l2, t2⟩ := grow_steps tR lR hGn hl hy (by omega) e1 e2
  have HW : Hid (∀ W, W = (w.alloc (.cells R.toArray 100)).drew → W.heap[w.heap.size]? = some (.cells R.toArray 100 (0, 0)) ∧ W.heap[vb]? = some (.cells ys.toArray 100 (0, 0)) ∧ W.heap[g]? = some (.cells xs.toArray 100 (0, 0)) ∧ Below w.heap.size w W) := Lib.hid (fun W hW => by
    rw [hW]
    exact ⟨hd_drew (hd_last rfl), hd_drew (hd_prev hvl hv), hd_drew (hd_prev hgl hg), ((Below.refl _ _).alloc (Nat.le_refl _) _).drew⟩)
  have ldx : (xs.drop (i * 2)).length = (n - i) * 2 := by rw [List.length_drop, hl]; omega
  have C1 : Hid (∀ W, W.heap[w.heap.size]? = some (.cells R.toArray 100 (0, 0)) → W.heap[vb]? = some (.cells ys.toArray 100 (0, 0)) → ∀ ty dl dc sc, Nat.min 1 dl = 1 → (Builtin.copy_ #[95, 95] ty #[.slice (some ⟨w.heap.size, i * 2, none⟩) dl dc, .slice (some ⟨vb, 0, none⟩) 1 sc]).run Try.prog W = .ok (goInt 1) (W.setRow w.heap.size R1.toArray)) := Lib.hid (fun W k1 k2 ty dl dc sc hm => by
    have := run_copyK W 95 95 ty 100 2 w.heap.size (i * 2) dl dc ⟨vb, 0, none⟩ 1 sc R.toArray 100 ys Try.underlying95 size_R k1 1 hm (by omega) (fun j v hj => by
      rw [addr_add, Nat.zero_add, cell_of_row _ _ _ _ _ _ k2, List.getElem?_toArray]; exact hj) (by simp only [List.size_toArray]; omega) h2
    rw [e1]
    exact this)
  have C2 : Hid (∀ W, W.heap[w.heap.size]? = some (.cells R1.toArray 100 (0, 0)) → W.heap[g]? = some (.cells xs.toArray 100 (0, 0)) → ∀ ty dl dc sl sc, Nat.min sl dl = n - i → (Builtin.copy_ #[95, 95] ty #[.slice (some ⟨w.heap.size, (i + 1) * 2, none⟩) dl dc, .slice (some ⟨g, i * 2, none⟩) sl sc]).run Try.prog W = .ok (goInt ((n - i : Nat) : Int)) (W.setRow w.heap.size R2.toArray)) := Lib.hid (fun W k1 k2 ty dl dc sl sc hm => by
    have := run_copyK W 95 95 ty 100 2 w.heap.size ((i + 1) * 2) dl dc ⟨g, i * 2, none⟩ sl sc R1.toArray 100 (xs.drop (i * 2)) Try.underlying95 size_R k1 (n - i) hm ldx (fun j v hj => by
      rw [addr_add, cell_of_row _ _ _ _ _ _ k2, List.getElem?_toArray]
      rw [List.getElem?_drop] at hj
      exact hj) (by simp only [List.size_toArray]; omega) (fun v hv => h1 v (List.mem_of_mem_drop hv))
    rw [e2]
    exact this)
  have HE := Lib.hid (And.intro l2 (And.intro t2 (And.intro hGn hGm)))
  have HX := Lib.hid (And.intro hgl hy)
  have HXL := Lib.hid (show (xs.take (i * 2) ++ ys ++ xs.drop (i * 2)).length = (n + 1) * 2 by simp only [List.length_append, hxt, hy, ldx]; omega)
  have q16 : ¬ (G = i) := by omega
  have q17 : ¬ (G = i + 1) := by omega
  clear e1 e2 l1 l2 t2 tR lR hR hG hold hin hg hv hl hy hz0 hz1 hz2 hi0 hGn hGm ldx hxt h1 h2 hik
  go_enter Try.func84, Try.ntmps84
  go_wp2_with (at_builtin; refine Lib.wpList_append_run _ rfl _ _ _ _ rfl _ _ rfl rfl _ _ (hrz _) ?_)
  clear hrz
  generalize hW1 : World.drew (w.alloc (.cells R.toArray 100)) = W1
  obtain ⟨k1, k2, k3, k4⟩ := HW.out W1 hW1.symm
  have K := Lib.hid (And.intro k1 (And.intro k2 (And.intro k3 k4)))
  clear hW1 HW k1 k2 k3 k4
  rw [C1.out W1 K.out.1 K.out.2.1 _ _ _ _ (by simp only [Nat.min_def]; split <;> omega)]
  go_wp2_with fail
  refine wp_region_held_drew (S := fun _ => True) (by kernel_rfl) trivial (fun hHeld => ?_)
  clear hHeld
  refine wpAnyH_take (i := 0) (oi := ⟨some 46, _, _, _, _, _⟩) (v := ?_) rfl (by kernel_rfl) (by kernel_rfl) (by kernel_rfl) (fun _ _ _ h => h) (Or.inl ⟨by kernel_rfl, ?_⟩) trivial ?_
  rotate_left
  · (intro w hSw; go_simp; try with_reducible rfl)
  (repeat (first | simp only [Act.put] | simp only [List.setIfInBounds_toArray] | simp only [List.set_cons_succ] | simp only [List.set_cons_zero]))
  refine wpAnyH_take (i := 1) (oi := ⟨some 47, _, _, _, _, _⟩) (v := ?_) rfl (by kernel_rfl) (by kernel_rfl) (by kernel_rfl) (fun _ _ _ h => h) (Or.inl ⟨by kernel_rfl, ?_⟩) trivial ?_
  rotate_left
  · (intro w hSw; go_simp; try with_reducible rfl)
  (repeat (first | simp only [Act.put] | simp only [List.setIfInBounds_toArray] | simp only [List.set_cons_succ] | simp only [List.set_cons_zero]))
  refine wpAnyH_take (i := 2) (oi := ⟨some 48, _, _, _, _, _⟩) (v := ?_) rfl (by kernel_rfl) (by kernel_rfl) (by kernel_rfl) (fun _ _ _ h => h) (Or.inl ⟨by kernel_rfl, ?_⟩) trivial ?_
  rotate_left
  · (intro w hSw; go_simp; try with_reducible rfl)
  (repeat (first | simp only [Act.put] | simp only [List.setIfInBounds_toArray] | simp only [List.set_cons_succ] | simp only [List.set_cons_zero]))
  refine wpAnyH_take (i := 3) (oi := ⟨some 49, _, _, _, _, _⟩) (v := ?_) rfl (by kernel_rfl) (by kernel_rfl) (by kernel_rfl) (fun _ _ _ h => h) (Or.inl ⟨by kernel_rfl, ?_⟩) trivial ?_
  rotate_left
  · (intro w hSw; go_simp; try with_reducible rfl)
  (repeat (first | simp only [Act.put] | simp only [List.setIfInBounds_toArray] | simp only [List.set_cons_succ] | simp only [List.set_cons_zero]))
  refine wpAnyH_take (i := 4) (oi := ⟨some 50, _, _, _, _, _⟩) (v := ?_) rfl (by kernel_rfl) (by kernel_rfl) (by kernel_rfl) (fun _ _ _ h => h) (Or.inl ⟨by kernel_rfl, ?_⟩) trivial ?_
  rotate_left
  · (intro w hSw; go_simp; try with_reducible rfl)
  (repeat (first | simp only [Act.put] | simp only [List.setIfInBounds_toArray] | simp only [List.set_cons_succ] | simp only [List.set_cons_zero]))
  refine wpAnyH_take (i := 5) (oi := ⟨some 51, _, _, _, _, _⟩) (v := ?_) rfl (by kernel_rfl) (by kernel_rfl) (by kernel_rfl) (fun _ _ _ h => h) (Or.inl ⟨by kernel_rfl, ?_⟩) trivial ?_
  rotate_left
  · (intro w hSw; go_simp; try with_reducible rfl)
  (repeat (first | simp only [Act.put] | simp only [List.setIfInBounds_toArray] | simp only [List.set_cons_succ] | simp only [List.set_cons_zero]))
  refine wpAnyH_take (i := 6) (oi := ⟨some 52, _, _, _, _, _⟩) (v := ?_) rfl (by kernel_rfl) (by kernel_rfl) (by kernel_rfl) (fun _ _ _ h => h) (Or.inl ⟨by kernel_rfl, ?_⟩) trivial ?_
  rotate_left
  · (intro w hSw; go_simp; try with_reducible rfl)
  (repeat (first | simp only [Act.put] | simp only [List.setIfInBounds_toArray] | simp only [List.set_cons_succ] | simp only [List.set_cons_zero]))
  refine wpAnyH_take (i := 7) (oi := ⟨some 53, _, _, _, _, _⟩) (v := ?_) rfl (by kernel_rfl) (by kernel_rfl) (by kernel_rfl) (fun _ _ _ h => h) (Or.inl ⟨by kernel_rfl, ?_⟩) trivial ?_
  rotate_left
  · (intro w hSw; go_simp; try with_reducible rfl)
  (repeat (first | simp only [Act.put] | simp only [List.setIfInBounds_toArray] | simp only [List.set_cons_succ] | simp only [List.set_cons_zero]))
  have G1 : (W1.setRow w.heap.size R1.toArray).drew.heap[w.heap.size]? = some (.cells R1.toArray 100 (0, 0)) := hd_drew (setRow_heap _ _ _ _ _ _ K.out.1)
  have G2 : (W1.setRow w.heap.size R1.toArray).drew.heap[g]? = some (.cells xs.toArray 100 (0, 0)) := hd_drew ((setRow_other _ _ _ _ (by have := HX.out.1; omega)).trans K.out.2.2.1)
  refine wpAnyH_ready (rs := [8]) (by kernel_rfl) (by simp) ?_
  refine AllReadyH.cons (o := ⟨some 54, _, _, _, _, _⟩) rfl (fun K hK => ?_) AllReadyH.nil
  refine step_copy_runI rfl _ _ 95 95 rfl _ _ rfl rfl (C2.out _ G1 G2 _ _ _ _ _ (by simp only [Nat.min_def]; split <;> omega)) ?_
  refine hK.out _ _ trivial (fun hHeld => ?_)
  clear hK K hHeld
  (repeat (first | simp only [Act.put] | simp only [List.setIfInBounds_toArray] | simp only [List.set_cons_succ] | simp only [List.set_cons_zero]))
  refine wpAnyH_done (by kernel_rfl) ?_ _
  have F : Hid (((W1.setRow w.heap.size R1.toArray).drew.setRow w.heap.size R2.toArray).ownsRow w.heap.size 100 2 (.slice (some ⟨w.heap.size, 0, none⟩) (n + 1) G) (n + 1) (xs.take (i * 2) ++ ys ++ xs.drop (i * 2)) ∧ Below w.heap.size w ((W1.setRow w.heap.size R1.toArray).drew.setRow w.heap.size R2.toArray)) := by
    refine ⟨⟨HXL.out, .inr ⟨w.heap.size, G, R2.toArray, rfl, Nat.le_refl _, setRow_heap _ _ _ _ _ _ G1, HE.out.2.2.1, HE.out.2.2.2, by rw [List.size_toArray]; exact HE.out.1, HE.out.2.1⟩⟩, ?_⟩
    exact below_setRow ((below_setRow K.out.2.2.2 (Nat.le_refl _) _).drew) (Nat.le_refl _) _
  clear G1 G2 C1 C2 K HE HXL HX
  go_wp2_with fail
  go_ret
  exact ⟨_, rfl, F.out.1, F.out.2, rfl⟩
theorem ins_R (w : World) (base n i : Nat) (v : Value) (xs ys : List Value) (vb : Nat) (hown : w.ownsRow base 100 2 v n xs) (hb : base ≤ w.heap.size) (hn : n ≤ 1000) (hi : i ≤ n) (hvb : v.ownBlock ≠ some vb) (hv : w.heap[vb]? = some (.cells ys.toArray 100 (0, 0))) (hy : ys.length = 2) (h1 : ∀ u ∈ xs, u.oneCell' = true) (h2 : ∀ u ∈ ys, u.oneCell' = true) :
    Calls Try.prog 84 #[v, .int .i64 i, .slice (some ⟨vb, 0, none⟩) 1 1] w fun e w' => ∃ v', e = .returned v' ∧ Hid (w'.ownsRow base 100 2 v' (n + 1) (xs.take (i * 2) ++ ys ++ xs.drop (i * 2)) ∧ w.grownBy w' v.ownBlock ∧ (v'.ownBlock = v.ownBlock ∨ v'.ownBlock = some w.heap.size)) := by
  have hl := hown.1
  by_cases hin : i = n
  · subst hin
    refine (insA_R w base i v xs ys vb hown hb hn hv hy h2).mono fun e w' ⟨v', he, h⟩ => ⟨v', he, ?_⟩
    rw [List.take_of_length_le (by omega), List.drop_eq_nil_of_le (by omega), List.append_nil]
    exact h
  rcases hown.2 with ⟨_, h0⟩ | ⟨g, c, cur, rfl, hbg, hg, hc, hm, hs, ht⟩
  · omega
  have hvg : vb ≠ g := fun e => hvb (by rw [e]; rfl)
  have hll : cur.toList.length = c * 2 := by rw [Array.length_toList]; exact hs
  by_cases hcn : n + 1 ≤ c
  · refine (insS_R w g n c i vb cur.toList ys (by rw [Array.toArray_toList]; exact hg) hll hcn (by omega) hm hvg hv hy (by rw [ht]; exact h1) h2).mono fun e w' ⟨he, h⟩ => ⟨_, he, ?_⟩
    obtain ⟨k1, k2⟩ := insC_take (xs := xs) (i := i) (by omega) hcn hll hy ht
    refine ⟨⟨?_, .inr ⟨g, c, _, rfl, hbg, h.out.2, hcn, hm, by rw [List.size_toArray]; exact k1, k2⟩⟩, h.out.1, .inl rfl⟩
    simp only [List.length_append, List.length_take, List.length_drop, hy]
    omega
  · obtain rfl : c = n := by omega
    have ex : cur = xs.toArray := by rw [← ht, List.take_of_length_le (by omega), Array.toArray_toList]
    rw [ex] at hg
    refine (insG_R w g c i vb xs ys hg hl hn (by omega) hv hy h1 h2).mono fun e w' ⟨v', he, h⟩ => ⟨v', he, own_base h.out.1 hb, ?_, .inr h.out.2.2⟩
    exact ⟨h.out.2.1.os, h.out.2.1.tape, h.out.2.1.output, h.out.2.1.size, fun j hj _ => h.out.2.1.block j hj⟩

theorem info_O : (Try.prog.info? 24).map (fun i => (i.zero, i.size, i.bytes)) = some (some (.agg (OC ⟨0, 0, 0, 0, 0, 0⟩)), 6, 48) := by kernel_rfl
theorem size_O : (Try.prog.info? 24).map (·.size) = some 6 := by kernel_rfl
theorem sizeOf_O (w : World) : (sizeOf 24).run Try.prog w = .ok 6 w := by kernel_rfl
theorem ov_O (w : World) (g vb a b c d n m : Nat) (hne : vb ≠ g) (cs ys : Array Value) (hg : w.heap[g]? = some (.cells cs 24 (0, 0))) (hv : w.heap[vb]? = some (.cells ys 24 (0, 0))) (h0 : 0 < cs.size) :
    (callFunc 96 #[.slice (some ⟨vb, a, none⟩) n c, .slice (some ⟨g, b, none⟩) m d]).run Try.prog w = .ok (.value (.bool false)) w := by
  rw [run_callFunc_extern Try.func96 (by kernel_rfl) (by kernel_rfl) (by kernel_rfl) (e := Extern.SlicesOverlaps.overlaps #[37, 37] #[4]) (by kernel_rfl),
    Lib.run_overlaps_apart w 37 4 24 Try.underlying37 6 sizeOf_O ⟨vb, a, none⟩ ⟨g, b, none⟩ n c m d hne 24 24 ys.size cs.size (by unfold World.shape?; rw [hv]) (by unfold World.shape?; rw [hg]) (by omega) (frozen_of_row _ _ _ _ _ hv) (frozen_of_row _ _ _ _ _ hv)]
  rfl
set_option maxHeartbeats 4000000 in
set_option maxRecDepth 100000 in
theorem insS_O (w : World) (g n c i vb : Nat) (cur ys : List Value) (hg : w.heap[g]? = some (.cells cur.toArray 24 (0, 0))) (hl : cur.length = c * 6) (hc : n + 1 ≤ c) (hi : i < n) (hcm : c ≤ maxLen) (hvb : vb ≠ g) (hv : w.heap[vb]? = some (.cells ys.toArray 24 (0, 0))) (hy : ys.length = 6) (h1 : ∀ v ∈ cur.take (n * 6), v.oneCell' = true) (h2 : ∀ v ∈ ys, v.oneCell' = true) :
    Calls Try.prog 85 #[.slice (some ⟨g, 0, none⟩) n c, .int .i64 i, .slice (some ⟨vb, 0, none⟩) 1 1] w fun e w' => e = .returned (.slice (some ⟨g, 0, none⟩) (n + 1) c) ∧ Hid (InsIn w g 24 (insC cur ys n i 6) w') := by
  have mixed : Try.prog.follows .mixedOrders = true := by kernel_rfl
  have hcm' : c ≤ 9223372036854775807 := by unfold maxLen at hcm; omega
  have hov := fun W (h : W.heap[g]? = some (.cells cur.toArray 24 (0, 0))) (h' : W.heap[vb]? = some (.cells ys.toArray 24 (0, 0))) b n c m d => ov_O W g vb 0 b c d n m hvb cur.toArray ys.toArray h h' (by simp; omega)
  have hov := hov w hg hv
  have q1 : ¬ ((i : Int) = (n : Int)) := by omega
  have q2 : ¬ ((c : Int) < (n : Int) + 1) := by omega
  have q3 : (0 : Int) ≤ (i : Int) + 1 := by omega
  have q4 : ¬ (c = i + 1) := by omega
  have q5 : ¬ (c = i) := by omega
  have q6 : (i : Int) ≤ (n : Int) := by omega
  have q7 : (n : Int) + 1 ≤ (c : Int) := by omega
  have q8 : IntKind.i64.wrap ((i : Int) + 1) = (i : Int) + 1 := by rw [IntKind.wrap_i64]; omega
  have q9 : IntKind.i64.wrap ((n : Int) + 1) = (n : Int) + 1 := by rw [IntKind.wrap_i64]; omega
  have q10 : ((i : Int) + 1).toNat = i + 1 := by omega
  have q11 : ((n : Int) + 1).toNat = n + 1 := by omega
  have q12 : (i : Int) ≤ (n : Int) + 1 := by omega
  have q13 : (i : Int) + 1 ≤ (n : Int) + 1 := by omega
  have q14 : (c : Int) ≤ 9223372036854775807 := by omega
  have hik : (i + 1) * 6 = i * 6 + 6 := by omega
  have hni : (n - i) * 6 = n * 6 - i * 6 := by omega
  have hnk : (n + 1) * 6 ≤ c * 6 := by omega
  obtain ⟨X, eX⟩ : ∃ X, X = (cur.drop (i * 6)).take ((n - i) * 6) := ⟨_, rfl⟩
  have lX : X.length = (n - i) * 6 := by rw [eX, List.length_take, List.length_drop]; omega
  obtain ⟨A1, e1⟩ : ∃ A1, A1 = (cur.take ((i + 1) * 6) ++ X ++ cur.drop ((i + 1) * 6 + X.length)) := ⟨_, rfl⟩
  have l1 : A1.length = c * 6 := by rw [e1]; simp only [List.length_append, List.length_take, List.length_drop, lX]; omega
  have e2 : A1.take (i * 6) ++ ys ++ A1.drop (i * 6 + ys.length) = insC cur ys n i 6 := by rw [e1, eX]; exact insC_steps (by omega) hc hl hy
  have C1 : Hid (∀ ty dl dc sl sc, Nat.min sl dl = n - i → (Builtin.copy_ #[37, 37] ty #[.slice (some ⟨g, (i + 1) * 6, none⟩) dl dc, .slice (some ⟨g, i * 6, none⟩) sl sc]).run Try.prog w.drew = .ok (goInt ((n - i : Nat) : Int)) (w.drew.setRow g A1.toArray)) := Lib.hid (fun ty dl dc sl sc hm => by
    have := run_copyK w.drew 37 37 ty 24 6 g ((i + 1) * 6) dl dc ⟨g, i * 6, none⟩ sl sc cur.toArray 24 X Try.underlying37 size_O (hd_drew hg) (n - i) hm lX (fun j v hj => by
      rw [addr_add, cell_of_row _ _ _ _ _ _ (hd_drew hg)]
      rw [eX, List.getElem?_take] at hj
      split at hj
      · rw [List.getElem?_drop] at hj
        rw [List.getElem?_toArray]; exact hj
      · cases hj) (by rw [lX]; simp only [List.size_toArray]; omega) (fun v hv => h1 v (by rw [eX, hni, ← List.drop_take] at hv; exact List.mem_of_mem_drop hv))
    rw [e1]
    exact this)
  have G1 : (w.drew.setRow g A1.toArray).heap[g]? = some (.cells A1.toArray 24 (0, 0)) := setRow_heap _ _ _ _ _ _ (hd_drew hg)
  have C2 : Hid (∀ ty dl dc sc, Nat.min 1 dl = 1 → (Builtin.copy_ #[37, 37] ty #[.slice (some ⟨g, i * 6, none⟩) dl dc, .slice (some ⟨vb, 0, none⟩) 1 sc]).run Try.prog (w.drew.setRow g A1.toArray) = .ok (goInt 1) ((w.drew.setRow g A1.toArray).setRow g (insC cur ys n i 6).toArray)) := Lib.hid (fun ty dl dc sc hm => by
    have := run_copyK (w.drew.setRow g A1.toArray) 37 37 ty 24 6 g (i * 6) dl dc ⟨vb, 0, none⟩ 1 sc A1.toArray 24 ys Try.underlying37 size_O G1 1 hm (by omega) (fun j v hj => by
      rw [addr_add, Nat.zero_add, cell_of_row _ _ _ _ _ _ ((setRow_other _ _ _ _ hvb).trans (hd_drew hv)), List.getElem?_toArray]; exact hj) (by simp only [List.size_toArray]; omega) h2
    rw [← e2]
    exact this)
  have F : Hid (InsIn w g 24 (insC cur ys n i 6) ((w.drew.setRow g A1.toArray).setRow g (insC cur ys n i 6).toArray)) := insIn_trans (insIn_trans (insIn_drew hg) (insIn_set (hd_drew hg))) (insIn_set G1)
  clear eX lX e1 l1 e2 G1 hik hni hnk
  have HX := Lib.hid (And.intro hl (And.intro hc (And.intro hi (And.intro hy (And.intro h1 h2)))))
  clear hg hv hl hc hy h1 h2 hcm
  go_enter Try.func85, Try.ntmps85
  go_wp2_with (simp only [hov])
  refine wp_region_held_drew (S := fun _ => True) (by kernel_rfl) trivial (fun hHeld => ?_)
  clear hHeld
  refine wpAnyH_take (i := 0) (oi := ⟨some 69, _, _, _, _, _⟩) (v := ?_) rfl (by kernel_rfl) (by kernel_rfl) (by kernel_rfl) (fun _ _ _ h => h) (Or.inl ⟨by kernel_rfl, ?_⟩) trivial ?_
  rotate_left
  · (intro w hSw; go_simp; try with_reducible rfl)
  (repeat (first | simp only [Act.put] | simp only [List.setIfInBounds_toArray] | simp only [List.set_cons_succ] | simp only [List.set_cons_zero]))
  refine wpAnyH_take (i := 1) (oi := ⟨some 70, _, _, _, _, _⟩) (v := ?_) rfl (by kernel_rfl) (by kernel_rfl) (by kernel_rfl) (fun _ _ _ h => h) (Or.inl ⟨by kernel_rfl, ?_⟩) trivial ?_
  rotate_left
  · (intro w hSw; go_simp; try with_reducible rfl)
  (repeat (first | simp only [Act.put] | simp only [List.setIfInBounds_toArray] | simp only [List.set_cons_succ] | simp only [List.set_cons_zero]))
  refine wpAnyH_take (i := 2) (oi := ⟨some 71, _, _, _, _, _⟩) (v := ?_) rfl (by kernel_rfl) (by kernel_rfl) (by kernel_rfl) (fun _ _ _ h => h) (Or.inl ⟨by kernel_rfl, ?_⟩) trivial ?_
  rotate_left
  · (intro w hSw; go_simp; try with_reducible rfl)
  (repeat (first | simp only [Act.put] | simp only [List.setIfInBounds_toArray] | simp only [List.set_cons_succ] | simp only [List.set_cons_zero]))
  refine wpAnyH_take (i := 3) (oi := ⟨some 72, _, _, _, _, _⟩) (v := ?_) rfl (by kernel_rfl) (by kernel_rfl) (by kernel_rfl) (fun _ _ _ h => h) (Or.inl ⟨by kernel_rfl, ?_⟩) trivial ?_
  rotate_left
  · (intro w hSw; go_simp; try with_reducible rfl)
  (repeat (first | simp only [Act.put] | simp only [List.setIfInBounds_toArray] | simp only [List.set_cons_succ] | simp only [List.set_cons_zero]))
  refine wpAnyH_take (i := 4) (oi := ⟨some 73, _, _, _, _, _⟩) (v := ?_) rfl (by kernel_rfl) (by kernel_rfl) (by kernel_rfl) (fun _ _ _ h => h) (Or.inl ⟨by kernel_rfl, ?_⟩) trivial ?_
  rotate_left
  · (intro w hSw; go_simp; try with_reducible rfl)
  (repeat (first | simp only [Act.put] | simp only [List.setIfInBounds_toArray] | simp only [List.set_cons_succ] | simp only [List.set_cons_zero]))
  refine wpAnyH_take (i := 5) (oi := ⟨some 74, _, _, _, _, _⟩) (v := ?_) rfl (by kernel_rfl) (by kernel_rfl) (by kernel_rfl) (fun _ _ _ h => h) (Or.inl ⟨by kernel_rfl, ?_⟩) trivial ?_
  rotate_left
  · (intro w hSw; go_simp; try with_reducible rfl)
  (repeat (first | simp only [Act.put] | simp only [List.setIfInBounds_toArray] | simp only [List.set_cons_succ] | simp only [List.set_cons_zero]))
  refine wpAnyH_take (i := 6) (oi := ⟨some 75, _, _, _, _, _⟩) (v := ?_) rfl (by kernel_rfl) (by kernel_rfl) (by kernel_rfl) (fun _ _ _ h => h) (Or.inl ⟨by kernel_rfl, ?_⟩) trivial ?_
  rotate_left
  · (intro w hSw; go_simp; try with_reducible rfl)
  (repeat (first | simp only [Act.put] | simp only [List.setIfInBounds_toArray] | simp only [List.set_cons_succ] | simp only [List.set_cons_zero]))
  refine wpAnyH_take (i := 7) (oi := ⟨some 76, _, _, _, _, _⟩) (v := ?_) rfl (by kernel_rfl) (by kernel_rfl) (by kernel_rfl) (fun _ _ _ h => h) (Or.inl ⟨by kernel_rfl, ?_⟩) trivial ?_
  rotate_left
  · (intro w hSw; go_simp; try with_reducible rfl)
  (repeat (first | simp only [Act.put] | simp only [List.setIfInBounds_toArray] | simp only [List.set_cons_succ] | simp only [List.set_cons_zero]))
  refine wpAnyH_ready (rs := [8]) (by kernel_rfl) (by simp) ?_
  refine AllReadyH.cons (o := ⟨some 77, _, _, _, _, _⟩) rfl (fun K hK => ?_) AllReadyH.nil
  refine step_copy_runI rfl _ _ 37 37 rfl _ _ rfl rfl (C1.out _ _ _ _ _ (by simp only [Nat.min_def]; split <;> omega)) ?_
  refine hK.out _ _ trivial (fun hHeld => ?_)
  clear hK K hHeld
  (repeat (first | simp only [Act.put] | simp only [List.setIfInBounds_toArray] | simp only [List.set_cons_succ] | simp only [List.set_cons_zero]))
  refine wpAnyH_done (by kernel_rfl) ?_ _
  clear C1
  go_wp2_with fail
  rw [C2.out _ _ _ _ (by simp only [Nat.min_def]; split <;> omega)]
  go_wp2_with fail
  go_ret
  exact ⟨rfl, F.out⟩
set_option maxHeartbeats 4000000 in
set_option maxRecDepth 100000 in
theorem insA_O (w : World) (base n : Nat) (v : Value) (xs ys : List Value) (vb : Nat) (hown : w.ownsRow base 24 6 v n xs) (hb : base ≤ w.heap.size) (hn : n ≤ 1000) (hv : w.heap[vb]? = some (.cells ys.toArray 24 (0, 0))) (hy : ys.length = 6) (h2 : ∀ v ∈ ys, v.oneCell' = true) :
    Calls Try.prog 85 #[v, .int .i64 n, .slice (some ⟨vb, 0, none⟩) 1 1] w fun e w' => ∃ v', e = .returned v' ∧ Hid (w'.ownsRow base 24 6 v' (n + 1) (xs ++ ys) ∧ w.grownBy w' v.ownBlock ∧ (v'.ownBlock = v.ownBlock ∨ v'.ownBlock = some w.heap.size)) := by
  obtain ⟨i0, hi0, hz0, hz1, hz2⟩ := info_parts info_O
  have HO := Lib.hid hown
  have hnw : Hid (∀ (j : Nat) (u : Value), ys[j]? = some u → w.cell? ((⟨vb, 0, none⟩ : Addr).add j) = some u) := Lib.hid (fun j u hj => by
    rw [addr_add, Nat.zero_add, cell_of_row _ _ _ _ _ _ hv, List.getElem?_toArray]; exact hj)
  have q1 : IntKind.i64.wrap ((n : Int) + 1) = (n : Int) + 1 := by rw [IntKind.wrap_i64]; omega
  rcases hown.2 with ⟨rfl, rfl⟩ | ⟨g, c, cur, rfl, _, _, hc, hm, _, _⟩
  · clear hown hv
    go_enter Try.func85, Try.ntmps85
    go_wp2_with (at_builtin; refine wpList_append_own_at _ rfl _ _ 37 rfl base 24 i0 (.agg (OC ⟨0, 0, 0, 0, 0, 0⟩)) 6 48 Try.underlying37 hi0 hz0 hz1 hz2 rfl (by decide) _ _ _ rfl HO.out ⟨vb, 0, none⟩ 1 1 ys rfl (by omega) hnw.out h2 (by unfold maxLen; omega) (by omega) hb ?_)
    intro v1 w1 k1 k2 _ k3
    have HR : Hid (w1.ownsRow base 24 6 v1 (0 + 1) (xs ++ ys) ∧ w.grownBy w1 (Value.slice none 0 0).ownBlock ∧ (v1.ownBlock = (Value.slice none 0 0).ownBlock ∨ v1.ownBlock = some w.heap.size)) := ⟨k1, k2, k3⟩
    clear k1 k2 k3
    go_wp2_with fail
    go_ret
    exact ⟨_, rfl, HR.out⟩
  · have hcm : c ≤ 9223372036854775807 := by unfold maxLen at hm; omega
    have q2 : (n : Int) ≤ (c : Int) := by omega
    have q3 : (c : Int) ≤ 9223372036854775807 := by omega
    clear hown hv hm
    by_cases hcn : c = n
    · subst hcn
      go_enter Try.func85, Try.ntmps85
      go_wp2_with (at_builtin; refine wpList_append_own_at _ rfl _ _ 37 rfl base 24 i0 (.agg (OC ⟨0, 0, 0, 0, 0, 0⟩)) 6 48 Try.underlying37 hi0 hz0 hz1 hz2 rfl (by decide) _ _ _ rfl HO.out ⟨vb, 0, none⟩ 1 1 ys rfl (by omega) hnw.out h2 (by unfold maxLen; omega) (by omega) hb ?_)
      intro v1 w1 k1 k2 _ k3
      have HR : Hid (w1.ownsRow base 24 6 v1 (c + 1) (xs ++ ys) ∧ w.grownBy w1 (Value.slice (some ⟨g, 0, none⟩) c c).ownBlock ∧ (v1.ownBlock = (Value.slice (some ⟨g, 0, none⟩) c c).ownBlock ∨ v1.ownBlock = some w.heap.size)) := ⟨k1, k2, k3⟩
      clear k1 k2 k3
      go_wp2_with fail
      go_ret
      exact ⟨_, rfl, HR.out⟩
    · go_enter Try.func85, Try.ntmps85
      go_wp2_with (at_builtin; refine wpList_append_own_at _ rfl _ _ 37 rfl base 24 i0 (.agg (OC ⟨0, 0, 0, 0, 0, 0⟩)) 6 48 Try.underlying37 hi0 hz0 hz1 hz2 rfl (by decide) _ _ _ rfl HO.out ⟨vb, 0, none⟩ 1 1 ys rfl (by omega) hnw.out h2 (by unfold maxLen; omega) (by omega) hb ?_)
      intro v1 w1 k1 k2 _ k3
      have HR : Hid (w1.ownsRow base 24 6 v1 (n + 1) (xs ++ ys) ∧ w.grownBy w1 (Value.slice (some ⟨g, 0, none⟩) n c).ownBlock ∧ (v1.ownBlock = (Value.slice (some ⟨g, 0, none⟩) n c).ownBlock ∨ v1.ownBlock = some w.heap.size)) := ⟨k1, k2, k3⟩
      clear k1 k2 k3
      go_wp2_with fail
      go_ret
      exact ⟨_, rfl, HR.out⟩
set_option maxHeartbeats 4000000 in
set_option maxRecDepth 100000 in
theorem insG_O (w : World) (g n i vb : Nat) (xs ys : List Value) (hg : w.heap[g]? = some (.cells xs.toArray 24 (0, 0))) (hl : xs.length = n * 6) (hn : n ≤ 1000) (hi : i < n) (hv : w.heap[vb]? = some (.cells ys.toArray 24 (0, 0))) (hy : ys.length = 6) (h1 : ∀ v ∈ xs, v.oneCell' = true) (h2 : ∀ v ∈ ys, v.oneCell' = true) :
    Calls Try.prog 85 #[.slice (some ⟨g, 0, none⟩) n n, .int .i64 i, .slice (some ⟨vb, 0, none⟩) 1 1] w fun e w' => ∃ v', e = .returned v' ∧ Hid (w'.ownsRow w.heap.size 24 6 v' (n + 1) (xs.take (i * 6) ++ ys ++ xs.drop (i * 6)) ∧ Below w.heap.size w w' ∧ v'.ownBlock = some w.heap.size) := by
  have mixed : Try.prog.follows .mixedOrders = true := by kernel_rfl
  obtain ⟨i0, hi0, hz0, hz1, hz2⟩ := info_parts info_O
  have hgl := blk_lt hg
  have hvl := blk_lt hv
  have q0 : (n : Int) < (n : Int) + 1 := by omega
  have q1 : ¬ ((i : Int) = (n : Int)) := by omega
  have q3 : (0 : Int) ≤ (i : Int) + 1 := by omega
  have q5 : ¬ (n = i) := by omega
  have q6 : (i : Int) ≤ (n : Int) := by omega
  have q8 : IntKind.i64.wrap ((i : Int) + 1) = (i : Int) + 1 := by rw [IntKind.wrap_i64]; omega
  have q9 : IntKind.i64.wrap ((n : Int) + 1) = (n : Int) + 1 := by rw [IntKind.wrap_i64]; omega
  have q10 : ((i : Int) + 1).toNat = i + 1 := by omega
  have q12 : (i : Int) ≤ (n : Int) + 1 := by omega
  have q13 : (i : Int) + 1 ≤ (n : Int) + 1 := by omega
  have q14 : (n : Int) ≤ 9223372036854775807 := by omega
  have q15 : IntKind.i64.wrap ((n : Int) + 1 - (i : Int)) = ((n + 1 - i : Nat) : Int) := by rw [IntKind.wrap_i64]; omega
  have hik : (i + 1) * 6 = i * 6 + 6 := by omega
  have hxt : (xs.take (i * 6)).length = i * 6 := by rw [List.length_take]; omega
  have hold : (Builtin.firstCells i0.size i (.slice (some ⟨g, 0, none⟩) i n)).run Try.prog w.drew = .ok (xs.take (i * 6)).toArray w.drew := by
    rw [hz1]
    exact run_firstCells_some w.drew 6 i ⟨g, 0, none⟩ i n (xs.take (i * 6)) hxt (fun j v hj => by
      rw [addr_add, Nat.zero_add, cell_of_row _ _ _ _ _ _ (hd_drew hg), List.getElem?_toArray]
      rw [List.getElem?_take] at hj
      split at hj
      · exact hj
      · cases hj)
  have hin : i + (n + 1 - i) = n + 1 := by omega
  have hrz : ∀ ty, (Builtin.append_ #[37, 3] ty #[.slice (some ⟨g, 0, none⟩) i n, .int .i64 ((n + 1 - i : Nat) : Int)]).run Try.prog w = .ok (.slice (some ⟨w.heap.size, 0, none⟩) (n + 1) (grownCap w (n + 1) n 24)) (w.drew.alloc (.cells ((xs.take (i * 6)).toArray ++ Builtin.zeroCells ((.agg (OC ⟨0, 0, 0, 0, 0, 0⟩)) : Value).cells (n + 1 - i) ++ Builtin.zeroCells ((.agg (OC ⟨0, 0, 0, 0, 0, 0⟩)) : Value).cells (grownCap w (n + 1) n 24 - (n + 1))) 24)) := fun ty => by
    have h := Lib.run_append_grow_zeros w 37 3 ty 24 i0 _ .i64 .i64 Try.underlying37 Try.underlying3 hi0 hz0 (some ⟨g, 0, none⟩) i n (xs.take (i * 6)) hold (n + 1 - i) (by omega) (by omega) (by omega) (by omega) (by rw [hz2]; omega) (by rw [hz2, hin]; exact growslice_fits (by omega) (by omega))
    rw [hin] at h
    exact h
  obtain ⟨G, hG⟩ : ∃ G, G = grownCap w (n + 1) n 24 := ⟨_, rfl⟩
  have hGn : n + 1 ≤ G := by rw [hG]; exact grownCap_ge w _ _ _
  have hGm : G ≤ maxLen := by rw [hG]; exact grownCap_le_maxLen w (n + 1) n 24 (by unfold maxLen; omega)
  have hG63 : (G : Int) ≤ 9223372036854775807 := by unfold maxLen at hGm; omega
  rw [← hG] at hrz
  obtain ⟨R, hR⟩ : ∃ R : List Value, R.toArray = (xs.take (i * 6)).toArray ++ Builtin.zeroCells ((.agg (OC ⟨0, 0, 0, 0, 0, 0⟩)) : Value).cells (n + 1 - i) ++ Builtin.zeroCells ((.agg (OC ⟨0, 0, 0, 0, 0, 0⟩)) : Value).cells (G - (n + 1)) := ⟨_, Array.toArray_toList⟩
  rw [← hR] at hrz
  have lR : R.length = G * 6 := by
    have := congrArg Array.size hR
    simp only [List.size_toArray, Array.size_append, hxt] at this
    simp [Builtin.zeroCells, Value.cells, OC] at this
    omega
  have tR : R.take (i * 6) = xs.take (i * 6) := by
    have := congrArg Array.toList hR
    rw [Array.toList_append, Array.toList_append] at this
    rw [show R = R.toArray.toList from rfl, this, List.append_assoc, List.take_append_of_le_length (by show _ ≤ (xs.take (i * 6)).length; omega)]
    exact List.take_of_length_le (by show (xs.take (i * 6)).length ≤ _; omega)
  obtain ⟨R1, e1⟩ : ∃ R1, R1 = R.take (i * 6) ++ ys ++ R.drop (i * 6 + ys.length) := ⟨_, rfl⟩
  obtain ⟨R2, e2⟩ : ∃ R2, R2 = R1.take ((i + 1) * 6) ++ xs.drop (i * 6) ++ R1.drop ((i + 1) * 6 + (xs.drop (i * 6)).length) := ⟨_, rfl⟩
  obtain ⟨l1, l2, t2⟩ := grow_steps tR lR hGn hl hy (by omega) e1 e2
  have HW : Hid (∀ W, W = (w.alloc (.cells R.toArray 24)).drew → W.heap[w.heap.size]? = some (.cells R.toArray 24 (0, 0)) ∧ W.heap[vb]? = some (.cells ys.toArray 24 (0, 0)) ∧ W.heap[g]? = some (.cells xs.toArray 24 (0, 0)) ∧ Below w.heap.size w W) := Lib.hid (fun W hW => by
    rw [hW]
    exact ⟨hd_drew (hd_last rfl), hd_drew (hd_prev hvl hv), hd_drew (hd_prev hgl hg), ((Below.refl _ _).alloc (Nat.le_refl _) _).drew⟩)
  have ldx : (xs.drop (i * 6)).length = (n - i) * 6 := by rw [List.length_drop, hl]; omega
  have C1 : Hid (∀ W, W.heap[w.heap.size]? = some (.cells R.toArray 24 (0, 0)) → W.heap[vb]? = some (.cells ys.toArray 24 (0, 0)) → ∀ ty dl dc sc, Nat.min 1 dl = 1 → (Builtin.copy_ #[37, 37] ty #[.slice (some ⟨w.heap.size, i * 6, none⟩) dl dc, .slice (some ⟨vb, 0, none⟩) 1 sc]).run Try.prog W = .ok (goInt 1) (W.setRow w.heap.size R1.toArray)) := Lib.hid (fun W k1 k2 ty dl dc sc hm => by
    have := run_copyK W 37 37 ty 24 6 w.heap.size (i * 6) dl dc ⟨vb, 0, none⟩ 1 sc R.toArray 24 ys Try.underlying37 size_O k1 1 hm (by omega) (fun j v hj => by
      rw [addr_add, Nat.zero_add, cell_of_row _ _ _ _ _ _ k2, List.getElem?_toArray]; exact hj) (by simp only [List.size_toArray]; omega) h2
    rw [e1]
    exact this)
  have C2 : Hid (∀ W, W.heap[w.heap.size]? = some (.cells R1.toArray 24 (0, 0)) → W.heap[g]? = some (.cells xs.toArray 24 (0, 0)) → ∀ ty dl dc sl sc, Nat.min sl dl = n - i → (Builtin.copy_ #[37, 37] ty #[.slice (some ⟨w.heap.size, (i + 1) * 6, none⟩) dl dc, .slice (some ⟨g, i * 6, none⟩) sl sc]).run Try.prog W = .ok (goInt ((n - i : Nat) : Int)) (W.setRow w.heap.size R2.toArray)) := Lib.hid (fun W k1 k2 ty dl dc sl sc hm => by
    have := run_copyK W 37 37 ty 24 6 w.heap.size ((i + 1) * 6) dl dc ⟨g, i * 6, none⟩ sl sc R1.toArray 24 (xs.drop (i * 6)) Try.underlying37 size_O k1 (n - i) hm ldx (fun j v hj => by
      rw [addr_add, cell_of_row _ _ _ _ _ _ k2, List.getElem?_toArray]
      rw [List.getElem?_drop] at hj
      exact hj) (by simp only [List.size_toArray]; omega) (fun v hv => h1 v (List.mem_of_mem_drop hv))
    rw [e2]
    exact this)
  have HE := Lib.hid (And.intro l2 (And.intro t2 (And.intro hGn hGm)))
  have HX := Lib.hid (And.intro hgl hy)
  have HXL := Lib.hid (show (xs.take (i * 6) ++ ys ++ xs.drop (i * 6)).length = (n + 1) * 6 by simp only [List.length_append, hxt, hy, ldx]; omega)
  have q16 : ¬ (G = i) := by omega
  have q17 : ¬ (G = i + 1) := by omega
  clear e1 e2 l1 l2 t2 tR lR hR hG hold hin hg hv hl hy hz0 hz1 hz2 hi0 hGn hGm ldx hxt h1 h2 hik
  go_enter Try.func85, Try.ntmps85
  go_wp2_with (at_builtin; refine Lib.wpList_append_run _ rfl _ _ _ _ rfl _ _ rfl rfl _ _ (hrz _) ?_)
  clear hrz
  generalize hW1 : World.drew (w.alloc (.cells R.toArray 24)) = W1
  obtain ⟨k1, k2, k3, k4⟩ := HW.out W1 hW1.symm
  have K := Lib.hid (And.intro k1 (And.intro k2 (And.intro k3 k4)))
  clear hW1 HW k1 k2 k3 k4
  rw [C1.out W1 K.out.1 K.out.2.1 _ _ _ _ (by simp only [Nat.min_def]; split <;> omega)]
  go_wp2_with fail
  refine wp_region_held_drew (S := fun _ => True) (by kernel_rfl) trivial (fun hHeld => ?_)
  clear hHeld
  refine wpAnyH_take (i := 0) (oi := ⟨some 46, _, _, _, _, _⟩) (v := ?_) rfl (by kernel_rfl) (by kernel_rfl) (by kernel_rfl) (fun _ _ _ h => h) (Or.inl ⟨by kernel_rfl, ?_⟩) trivial ?_
  rotate_left
  · (intro w hSw; go_simp; try with_reducible rfl)
  (repeat (first | simp only [Act.put] | simp only [List.setIfInBounds_toArray] | simp only [List.set_cons_succ] | simp only [List.set_cons_zero]))
  refine wpAnyH_take (i := 1) (oi := ⟨some 47, _, _, _, _, _⟩) (v := ?_) rfl (by kernel_rfl) (by kernel_rfl) (by kernel_rfl) (fun _ _ _ h => h) (Or.inl ⟨by kernel_rfl, ?_⟩) trivial ?_
  rotate_left
  · (intro w hSw; go_simp; try with_reducible rfl)
  (repeat (first | simp only [Act.put] | simp only [List.setIfInBounds_toArray] | simp only [List.set_cons_succ] | simp only [List.set_cons_zero]))
  refine wpAnyH_take (i := 2) (oi := ⟨some 48, _, _, _, _, _⟩) (v := ?_) rfl (by kernel_rfl) (by kernel_rfl) (by kernel_rfl) (fun _ _ _ h => h) (Or.inl ⟨by kernel_rfl, ?_⟩) trivial ?_
  rotate_left
  · (intro w hSw; go_simp; try with_reducible rfl)
  (repeat (first | simp only [Act.put] | simp only [List.setIfInBounds_toArray] | simp only [List.set_cons_succ] | simp only [List.set_cons_zero]))
  refine wpAnyH_take (i := 3) (oi := ⟨some 49, _, _, _, _, _⟩) (v := ?_) rfl (by kernel_rfl) (by kernel_rfl) (by kernel_rfl) (fun _ _ _ h => h) (Or.inl ⟨by kernel_rfl, ?_⟩) trivial ?_
  rotate_left
  · (intro w hSw; go_simp; try with_reducible rfl)
  (repeat (first | simp only [Act.put] | simp only [List.setIfInBounds_toArray] | simp only [List.set_cons_succ] | simp only [List.set_cons_zero]))
  refine wpAnyH_take (i := 4) (oi := ⟨some 50, _, _, _, _, _⟩) (v := ?_) rfl (by kernel_rfl) (by kernel_rfl) (by kernel_rfl) (fun _ _ _ h => h) (Or.inl ⟨by kernel_rfl, ?_⟩) trivial ?_
  rotate_left
  · (intro w hSw; go_simp; try with_reducible rfl)
  (repeat (first | simp only [Act.put] | simp only [List.setIfInBounds_toArray] | simp only [List.set_cons_succ] | simp only [List.set_cons_zero]))
  refine wpAnyH_take (i := 5) (oi := ⟨some 51, _, _, _, _, _⟩) (v := ?_) rfl (by kernel_rfl) (by kernel_rfl) (by kernel_rfl) (fun _ _ _ h => h) (Or.inl ⟨by kernel_rfl, ?_⟩) trivial ?_
  rotate_left
  · (intro w hSw; go_simp; try with_reducible rfl)
  (repeat (first | simp only [Act.put] | simp only [List.setIfInBounds_toArray] | simp only [List.set_cons_succ] | simp only [List.set_cons_zero]))
  refine wpAnyH_take (i := 6) (oi := ⟨some 52, _, _, _, _, _⟩) (v := ?_) rfl (by kernel_rfl) (by kernel_rfl) (by kernel_rfl) (fun _ _ _ h => h) (Or.inl ⟨by kernel_rfl, ?_⟩) trivial ?_
  rotate_left
  · (intro w hSw; go_simp; try with_reducible rfl)
  (repeat (first | simp only [Act.put] | simp only [List.setIfInBounds_toArray] | simp only [List.set_cons_succ] | simp only [List.set_cons_zero]))
  refine wpAnyH_take (i := 7) (oi := ⟨some 53, _, _, _, _, _⟩) (v := ?_) rfl (by kernel_rfl) (by kernel_rfl) (by kernel_rfl) (fun _ _ _ h => h) (Or.inl ⟨by kernel_rfl, ?_⟩) trivial ?_
  rotate_left
  · (intro w hSw; go_simp; try with_reducible rfl)
  (repeat (first | simp only [Act.put] | simp only [List.setIfInBounds_toArray] | simp only [List.set_cons_succ] | simp only [List.set_cons_zero]))
  have G1 : (W1.setRow w.heap.size R1.toArray).drew.heap[w.heap.size]? = some (.cells R1.toArray 24 (0, 0)) := hd_drew (setRow_heap _ _ _ _ _ _ K.out.1)
  have G2 : (W1.setRow w.heap.size R1.toArray).drew.heap[g]? = some (.cells xs.toArray 24 (0, 0)) := hd_drew ((setRow_other _ _ _ _ (by have := HX.out.1; omega)).trans K.out.2.2.1)
  refine wpAnyH_ready (rs := [8]) (by kernel_rfl) (by simp) ?_
  refine AllReadyH.cons (o := ⟨some 54, _, _, _, _, _⟩) rfl (fun K hK => ?_) AllReadyH.nil
  refine step_copy_runI rfl _ _ 37 37 rfl _ _ rfl rfl (C2.out _ G1 G2 _ _ _ _ _ (by simp only [Nat.min_def]; split <;> omega)) ?_
  refine hK.out _ _ trivial (fun hHeld => ?_)
  clear hK K hHeld
  (repeat (first | simp only [Act.put] | simp only [List.setIfInBounds_toArray] | simp only [List.set_cons_succ] | simp only [List.set_cons_zero]))
  refine wpAnyH_done (by kernel_rfl) ?_ _
  have F : Hid (((W1.setRow w.heap.size R1.toArray).drew.setRow w.heap.size R2.toArray).ownsRow w.heap.size 24 6 (.slice (some ⟨w.heap.size, 0, none⟩) (n + 1) G) (n + 1) (xs.take (i * 6) ++ ys ++ xs.drop (i * 6)) ∧ Below w.heap.size w ((W1.setRow w.heap.size R1.toArray).drew.setRow w.heap.size R2.toArray)) := by
    refine ⟨⟨HXL.out, .inr ⟨w.heap.size, G, R2.toArray, rfl, Nat.le_refl _, setRow_heap _ _ _ _ _ _ G1, HE.out.2.2.1, HE.out.2.2.2, by rw [List.size_toArray]; exact HE.out.1, HE.out.2.1⟩⟩, ?_⟩
    exact below_setRow ((below_setRow K.out.2.2.2 (Nat.le_refl _) _).drew) (Nat.le_refl _) _
  clear G1 G2 C1 C2 K HE HXL HX
  go_wp2_with fail
  go_ret
  exact ⟨_, rfl, F.out.1, F.out.2, rfl⟩
theorem ins_O (w : World) (base n i : Nat) (v : Value) (xs ys : List Value) (vb : Nat) (hown : w.ownsRow base 24 6 v n xs) (hb : base ≤ w.heap.size) (hn : n ≤ 1000) (hi : i ≤ n) (hvb : v.ownBlock ≠ some vb) (hv : w.heap[vb]? = some (.cells ys.toArray 24 (0, 0))) (hy : ys.length = 6) (h1 : ∀ u ∈ xs, u.oneCell' = true) (h2 : ∀ u ∈ ys, u.oneCell' = true) :
    Calls Try.prog 85 #[v, .int .i64 i, .slice (some ⟨vb, 0, none⟩) 1 1] w fun e w' => ∃ v', e = .returned v' ∧ Hid (w'.ownsRow base 24 6 v' (n + 1) (xs.take (i * 6) ++ ys ++ xs.drop (i * 6)) ∧ w.grownBy w' v.ownBlock ∧ (v'.ownBlock = v.ownBlock ∨ v'.ownBlock = some w.heap.size)) := by
  have hl := hown.1
  by_cases hin : i = n
  · subst hin
    refine (insA_O w base i v xs ys vb hown hb hn hv hy h2).mono fun e w' ⟨v', he, h⟩ => ⟨v', he, ?_⟩
    rw [List.take_of_length_le (by omega), List.drop_eq_nil_of_le (by omega), List.append_nil]
    exact h
  rcases hown.2 with ⟨_, h0⟩ | ⟨g, c, cur, rfl, hbg, hg, hc, hm, hs, ht⟩
  · omega
  have hvg : vb ≠ g := fun e => hvb (by rw [e]; rfl)
  have hll : cur.toList.length = c * 6 := by rw [Array.length_toList]; exact hs
  by_cases hcn : n + 1 ≤ c
  · refine (insS_O w g n c i vb cur.toList ys (by rw [Array.toArray_toList]; exact hg) hll hcn (by omega) hm hvg hv hy (by rw [ht]; exact h1) h2).mono fun e w' ⟨he, h⟩ => ⟨_, he, ?_⟩
    obtain ⟨k1, k2⟩ := insC_take (xs := xs) (i := i) (by omega) hcn hll hy ht
    refine ⟨⟨?_, .inr ⟨g, c, _, rfl, hbg, h.out.2, hcn, hm, by rw [List.size_toArray]; exact k1, k2⟩⟩, h.out.1, .inl rfl⟩
    simp only [List.length_append, List.length_take, List.length_drop, hy]
    omega
  · obtain rfl : c = n := by omega
    have ex : cur = xs.toArray := by rw [← ht, List.take_of_length_le (by omega), Array.toArray_toList]
    rw [ex] at hg
    refine (insG_O w g c i vb xs ys hg hl hn (by omega) hv hy h1 h2).mono fun e w' ⟨v', he, h⟩ => ⟨v', he, own_base h.out.1 hb, ?_, .inr h.out.2.2⟩
    exact ⟨h.out.2.1.os, h.out.2.1.tape, h.out.2.1.output, h.out.2.1.size, fun j hj _ => h.out.2.1.block j hj⟩
end Go.Proofs.Ytailiaobbgikfaa
