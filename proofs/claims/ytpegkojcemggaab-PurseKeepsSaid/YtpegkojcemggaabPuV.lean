/- purse: the law's Plain. -/
import Derived.Test.YtpegkojcemggaabPuM
import Derived.Test.YtpegkojcemggaabPuC
namespace Go.Proofs.Ytpegkojcemggaab
open Go.RowKit

def mix (y z : Ti) (k : Nat) : Ti := fun i => if 6 * k ≤ i ∧ i < 6 * k + 6 then z i else y i
def pf (z : Ti) (k : Nat) : Ti := fun i => if i < 6 * k ∨ i = 48 then z i else 0
theorem mix_pf (z : Ti) {k : Nat} (h : k < 8) : mix (pf z k) z k = pf z (k + 1) := by
  funext i
  unfold mix pf
  by_cases h1 : 6 * k ≤ i ∧ i < 6 * k + 6
  · rw [if_pos h1, if_pos (by omega)]
  · rw [if_neg h1]
    by_cases h2 : i < 6 * k ∨ i = 48
    · rw [if_pos h2, if_pos (by omega)]
    · rw [if_neg h2, if_neg (by omega)]
theorem pf_0 (z : Ti) : put zT 48 (z 48) = pf z 0 := by
  funext i
  unfold put pf zT
  by_cases h : i = 48
  · rw [if_pos h, if_pos (.inr h), h]
  · rw [if_neg h, if_neg (by omega)]
theorem pf_8 (z : Ti) : TC (pf z 8) = TC z := TC_ext (TC_size _) fun k hk => by
  rw [TC_get _ hk]; unfold pf; rw [if_pos (by omega)]
theorem put6 (y z : Ti) (k : Nat) : put (put (put (put (put (put y (6 * k) (z (6 * k))) (6 * k + 1) (z (6 * k + 1))) (6 * k + 2) (z (6 * k + 2))) (6 * k + 3) (z (6 * k + 3))) (6 * k + 4) (z (6 * k + 4))) (6 * k + 5) (z (6 * k + 5)) = mix y z k := by
  funext i
  unfold put mix
  by_cases h5 : i = 6 * k + 5
  · subst h5; rw [if_pos rfl, if_pos (by omega)]
  rw [if_neg h5]
  by_cases h4 : i = 6 * k + 4
  · subst h4; rw [if_pos rfl, if_pos (by omega)]
  rw [if_neg h4]
  by_cases h3 : i = 6 * k + 3
  · subst h3; rw [if_pos rfl, if_pos (by omega)]
  rw [if_neg h3]
  by_cases h2 : i = 6 * k + 2
  · subst h2; rw [if_pos rfl, if_pos (by omega)]
  rw [if_neg h2]
  by_cases h1 : i = 6 * k + 1
  · subst h1; rw [if_pos rfl, if_pos (by omega)]
  rw [if_neg h1]
  by_cases h0 : i = 6 * k
  · subst h0; rw [if_pos rfl, if_pos (by omega)]
  rw [if_neg h0, if_neg (by omega)]
theorem set6 {w : World} {g k : Nat} {y z : Ti} {t : TypeId} (h : w.heap[g]? = some (.cells (TC y) t (0, 0))) (hk : k < 8) : (w.setCells g (6 * k) (UC z k).toList).heap[g]? = some (.cells (TC (mix y z k)) t (0, 0)) := by
  have h0 := till_set (v := z (6 * k)) h (show 6 * k < 49 by omega)
  have h1 := till_set (v := z (6 * k + 1)) h0 (show 6 * k + 1 < 49 by omega)
  have h2 := till_set (v := z (6 * k + 2)) h1 (show 6 * k + 2 < 49 by omega)
  have h3 := till_set (v := z (6 * k + 3)) h2 (show 6 * k + 3 < 49 by omega)
  have h4 := till_set (v := z (6 * k + 4)) h3 (show 6 * k + 4 < 49 by omega)
  have h5 := till_set (v := z (6 * k + 5)) h4 (show 6 * k + 5 < 49 by omega)
  rw [put6] at h5
  exact h5
theorem setCells_other (b : Nat) : ∀ (vs : List Value) (o : Nat) (w : World) (j : Nat), j ≠ b → (w.setCells b o vs).heap[j]? = w.heap[j]?
  | [], _, _, _, _ => rfl
  | v :: r, o, w, j, h => by
    show ((w.setCell ⟨b, o, none⟩ v).setCells b (o + 1) r).heap[j]? = _
    rw [setCells_other b r _ _ j h, heap_setCell_other _ _ _ _ h]
theorem setCells_below (b : Nat) : ∀ (vs : List Value) (o : Nat) (w : World) (B : Nat), B ≤ b → Below B w (w.setCells b o vs)
  | [], _, _, _, _ => Below.refl _ _
  | v :: r, o, w, B, h => by
    show Below B w ((w.setCell ⟨b, o, none⟩ v).setCells b (o + 1) r)
    exact ((Below.refl B w).setCell h v).trans (setCells_below b r _ _ B h)
theorem setCells_size (b : Nat) : ∀ (vs : List Value) (o : Nat) (w : World), (w.setCells b o vs).heap.size = w.heap.size
  | [], _, _ => rfl
  | v :: r, o, w => by
    show ((w.setCell ⟨b, o, none⟩ v).setCells b (o + 1) r).heap.size = _
    rw [setCells_size b r]; simp [World.setCell]
theorem till_there {w : World} {g k : Nat} {z : Ti} {t : TypeId} (h : w.heap[g]? = some (.cells (TC z) t (0, 0))) (hk : k < 8) : w.there g (6 * k) 6 := by
  intro j hj
  refine ⟨by rw [till_cell h (by omega)]; rfl, ?_⟩
  simp [World.frozen?, h]
theorem UC_one (z : Ti) (k : Nat) : (UC z k).all (·.oneCell') = true := by
  refine all_oneCell_toArray (cs := UL z k) fun v hv => ?_
  simp only [UL, List.mem_cons, List.not_mem_nil, or_false] at hv
  rcases hv with rfl | rfl | rfl | rfl | rfl | rfl <;> rfl
theorem storeU {ops : Array Oper} {rest : List Oper} {o : Oper} {a : Act} {w : World} {Q : Exit → Act → World → Prop} (hgd : o.guard = none) (x y : Operand) (ho : o.op = .store 27 x y) (g f : Nat) (z : Ti) (k : Nat) (hx : a.eval x = .pointer (some ⟨g, f, none⟩)) (hy : a.eval y = .agg (UC z k)) (y0 : Ti) (t : TypeId)
    (hg : w.heap[g]? = some (.cells (TC y0) t (0, 0))) (hk : k < 8) (hf : f = 6 * k)
    (h : ∀ w', w'.heap[g]? = some (.cells (TC (mix y0 z k)) t (0, 0)) → (∀ j, j ≠ g → w'.heap[j]? = w.heap[j]?) → w'.heap.size = w.heap.size → (∀ B, B ≤ g → Below B w w') → wpList Try.prog ops Q rest (a.put o.dst undef) w') : wpList Try.prog ops Q (o :: rest) a w := by
  subst hf
  exact wpList_store_mid hgd _ x y ho g (6 * k) (UC z k) hx hy (till_there hg hk) (infoRu z k) (UC_one z k) (h _ (set6 hg hk) (fun j hj => setCells_other g _ _ w j hj) (setCells_size g _ _ w) (fun B hB => setCells_below g _ _ w B hB))

set_option maxHeartbeats 4000000 in
set_option maxRecDepth 100000 in
theorem plain_c (z : Ti) (w : World) :
    Calls Try.prog 6 #[.agg (TC z)] w fun e w' => e = .returned (.agg (TC z)) ∧ Below w.heap.size w w' := by
  have hzr := zeroR
  have c48 := TC_get z (show 48 < 49 by omega)
  have d48 := TC_get zT (show 48 < 49 by omega)
  have s48 := TC_set zT 48 (z 48) (by omega)
  rw [pf_0] at s48
  go_enter Try.func6, Try.ntmps6
  go_wp2_with fail
  clear c48 d48 s48
  go_loopw [8] (fun i wr => ∃ k : Nat, k ≤ 8 ∧ i = .int .i64 k ∧ Hid (wr.heap[w.heap.size]? = some (.cells (TC z) 26 (0, 0))) ∧ Hid (wr.heap[w.heap.size + 1]? = some (.cells (TC zT) 30 (0, 0))) ∧ Hid (wr.heap[w.heap.size + 2]? = some (.cells (TC (pf z k)) 30 (0, 0))) ∧ Below w.heap.size w wr ∧ w.heap.size + 3 ≤ wr.heap.size) (fun i _ => 8 - (intOf i).toNat)
  case atStart => exact ⟨0, by omega, rfl, by show _ = _; (focus ((repeat' (first | (with_reducible assumption) | ((with_reducible refine heap_last ?_); (focus (first | (simp; done) | omega | (simp; omega)))) | ((with_reducible refine heap_prev ?_ ?_); (focus (first | (simp; done) | omega | (simp; omega)))) | (with_reducible apply row_heap) | ((with_reducible apply till_set); (focus (first | (simp; done) | omega | (simp; omega)))) | ((with_reducible refine sign_other ?_ ?_); (focus (first | (simp; done) | omega | (simp; omega)))) | ((with_reducible refine row_other ?_ ?_); (focus (first | (simp; done) | omega | (simp; omega)))) | (with_reducible refine drew_heap ?_) | (with_reducible refine drewN_heap ?_))); done)), by show _ = _; (focus ((repeat' (first | (with_reducible assumption) | ((with_reducible refine heap_last ?_); (focus (first | (simp; done) | omega | (simp; omega)))) | ((with_reducible refine heap_prev ?_ ?_); (focus (first | (simp; done) | omega | (simp; omega)))) | (with_reducible apply row_heap) | ((with_reducible apply till_set); (focus (first | (simp; done) | omega | (simp; omega)))) | ((with_reducible refine sign_other ?_ ?_); (focus (first | (simp; done) | omega | (simp; omega)))) | ((with_reducible refine row_other ?_ ?_); (focus (first | (simp; done) | omega | (simp; omega)))) | (with_reducible refine drew_heap ?_) | (with_reducible refine drewN_heap ?_))); done)), by show _ = _; (focus ((repeat' (first | (with_reducible assumption) | ((with_reducible refine heap_last ?_); (focus (first | (simp; done) | omega | (simp; omega)))) | ((with_reducible refine heap_prev ?_ ?_); (focus (first | (simp; done) | omega | (simp; omega)))) | (with_reducible apply row_heap) | ((with_reducible apply till_set); (focus (first | (simp; done) | omega | (simp; omega)))) | ((with_reducible refine sign_other ?_ ?_); (focus (first | (simp; done) | omega | (simp; omega)))) | ((with_reducible refine row_other ?_ ?_); (focus (first | (simp; done) | omega | (simp; omega)))) | (with_reducible refine drew_heap ?_) | (with_reducible refine drewN_heap ?_))); done)), by (focus ((repeat' (first | (with_reducible exact Below.refl _ _) | (with_reducible assumption) | (with_reducible refine Below.alloc ?_ ?_ _) | (with_reducible refine Below.setCell ?_ ?_ _) | (with_reducible refine Below.row ?_ ?_ _) | (with_reducible refine Below.drew ?_) | (with_reducible refine below_drewN ?_ _) | (focus (first | (simp; done) | omega | (simp; omega))))); done)), by (focus (first | (simp; done) | omega | (simp; omega)))⟩
  case round =>
    obtain ⟨k, hk, rfl, h1, h2, h3, hB, hsz⟩ := hrel
    have hz9 : w.heap.size ≤ wr.heap.size := by omega
    by_cases hlt : k < 8
    · have hltI : (k : Int) < 8 := by omega
      have hk0 : (0 : Int) ≤ (k : Int) := by omega
      have g1 := h1.out
      have g3 := h3.out
      go_wp2_with (first | ((with_reducible apply loadPu (k := k)); rfl; rfl; rfl; (focus ((repeat' (first | (with_reducible assumption) | ((with_reducible refine heap_last ?_); (focus (first | (simp; done) | omega | (simp; omega)))) | ((with_reducible refine heap_prev ?_ ?_); (focus (first | (simp; done) | omega | (simp; omega)))) | (with_reducible apply row_heap) | ((with_reducible apply till_set); (focus (first | (simp; done) | omega | (simp; omega)))) | ((with_reducible refine sign_other ?_ ?_); (focus (first | (simp; done) | omega | (simp; omega)))) | ((with_reducible refine row_other ?_ ?_); (focus (first | (simp; done) | omega | (simp; omega)))) | (with_reducible refine drew_heap ?_) | (with_reducible refine drewN_heap ?_))); done)); exact hlt; omega; skip) | ((with_reducible apply storeU (k := k) (z := z) (y0 := pf z k)); rfl; rfl; rfl; rfl; (focus ((repeat' (first | (with_reducible assumption) | ((with_reducible refine heap_last ?_); (focus (first | (simp; done) | omega | (simp; omega)))) | ((with_reducible refine heap_prev ?_ ?_); (focus (first | (simp; done) | omega | (simp; omega)))) | (with_reducible apply row_heap) | ((with_reducible apply till_set); (focus (first | (simp; done) | omega | (simp; omega)))) | ((with_reducible refine sign_other ?_ ?_); (focus (first | (simp; done) | omega | (simp; omega)))) | ((with_reducible refine row_other ?_ ?_); (focus (first | (simp; done) | omega | (simp; omega)))) | (with_reducible refine drew_heap ?_) | (with_reducible refine drewN_heap ?_))); done)); exact hlt; (focus omega)))
      intro w2 q3 q q9 qb
      rw [mix_pf z hlt] at q3
      have Q3 := Lib.hid q3
      have Q1 := Lib.hid ((q w.heap.size (by omega)).trans h1.out)
      have Q2 := Lib.hid ((q (w.heap.size + 1) (by omega)).trans h2.out)
      have QB := hB.trans (qb w.heap.size (by omega))
      have Q9 : w.heap.size + 3 ≤ w2.heap.size := by omega
      clear q3 q q9 qb g1 g3
      go_wp2_with fail
      exact ⟨⟨k + 1, by omega, by go_num, Q1, Q2, Q3, QB, Q9⟩, by simp [intOf]; omega⟩
    · obtain rfl : k = 8 := by omega
      have g2 := h2.out
      have g3 := h3.out
      rw [pf_8] at g3
      go_wp2_with (first | ((with_reducible apply loadR); rfl; rfl; rfl; (focus ((repeat' (first | (with_reducible assumption) | ((with_reducible refine heap_last ?_); (focus (first | (simp; done) | omega | (simp; omega)))) | ((with_reducible refine heap_prev ?_ ?_); (focus (first | (simp; done) | omega | (simp; omega)))) | (with_reducible apply row_heap) | ((with_reducible apply till_set); (focus (first | (simp; done) | omega | (simp; omega)))) | ((with_reducible refine sign_other ?_ ?_); (focus (first | (simp; done) | omega | (simp; omega)))) | ((with_reducible refine row_other ?_ ?_); (focus (first | (simp; done) | omega | (simp; omega)))) | (with_reducible refine drew_heap ?_) | (with_reducible refine drewN_heap ?_))); done)); skip) | ((with_reducible apply storeR); rfl; rfl; rfl; rfl; (focus ((repeat' (first | (with_reducible assumption) | ((with_reducible refine heap_last ?_); (focus (first | (simp; done) | omega | (simp; omega)))) | ((with_reducible refine heap_prev ?_ ?_); (focus (first | (simp; done) | omega | (simp; omega)))) | (with_reducible apply row_heap) | ((with_reducible apply till_set); (focus (first | (simp; done) | omega | (simp; omega)))) | ((with_reducible refine sign_other ?_ ?_); (focus (first | (simp; done) | omega | (simp; omega)))) | ((with_reducible refine row_other ?_ ?_); (focus (first | (simp; done) | omega | (simp; omega)))) | (with_reducible refine drew_heap ?_) | (with_reducible refine drewN_heap ?_))); done)); skip))
      ((with_reducible apply bodyPost_ret); (apply retR; rfl; rfl; (focus ((repeat' (first | (with_reducible assumption) | ((with_reducible refine heap_last ?_); (focus (first | (simp; done) | omega | (simp; omega)))) | ((with_reducible refine heap_prev ?_ ?_); (focus (first | (simp; done) | omega | (simp; omega)))) | (with_reducible apply row_heap) | ((with_reducible apply till_set); (focus (first | (simp; done) | omega | (simp; omega)))) | ((with_reducible refine sign_other ?_ ?_); (focus (first | (simp; done) | omega | (simp; omega)))) | ((with_reducible refine row_other ?_ ?_); (focus (first | (simp; done) | omega | (simp; omega)))) | (with_reducible refine drew_heap ?_) | (with_reducible refine drewN_heap ?_))); done))); rfl; skip)
      exact ⟨rfl, by (focus ((repeat' (first | (with_reducible exact Below.refl _ _) | (with_reducible assumption) | (with_reducible refine Below.alloc ?_ ?_ _) | (with_reducible refine Below.setCell ?_ ?_ _) | (with_reducible refine Below.row ?_ ?_ _) | (with_reducible refine Below.drew ?_) | (with_reducible refine below_drewN ?_ _) | (focus (first | (simp; done) | omega | (simp; omega))))); done))⟩
end Go.Proofs.Ytpegkojcemggaab
