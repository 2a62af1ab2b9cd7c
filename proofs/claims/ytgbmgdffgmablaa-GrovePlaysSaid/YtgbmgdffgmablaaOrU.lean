/- The reference's sorted: the first one that nobody is ahead of, again and again. -/
import Derived.Test.YtgbmgdffgmablaaOrT
import Derived.Shelf.SlSortCmp.QuietGrown
namespace Go.Proofs.Ytgbmgdffgmablaa
open Go.RowKit Go.Sort Go.Lib Go.Shelf

/-- Of one side, in the order of their places. -/
structure SelD (D : List (Od × Nat)) : Prop where
  inc : D.Pairwise (fun x y => x.2 < y.2)
  one : ∀ x ∈ D, ∀ y ∈ D, x.1.side = y.1.side
theorem lt_ahd {x y : Od} (h : x.side = y.side) : ltO x y = ahdO x y := by unfold ltO; rw [h]; simp
/-- What is left, and what is out. -/
structure SelI (D0 D O : List (Od × Nat)) : Prop where
  sel : SelD D
  perm : (O ++ D).Perm D0
  srt : O.Pairwise (fun x y => ltR ltO y x = false)
  aft : ∀ o ∈ O, ∀ d ∈ D, ltR ltO d o = false
def MinTo (D : List (Od × Nat)) (i at' : Nat) : Prop := ∀ j, j < i → ltR ltO D[j]! D[at']! = false
theorem min_one (D : List (Od × Nat)) : MinTo D 1 0 := fun j hj => by
  obtain rfl : j = 0 := by omega
  exact (swo_ltR swo_ltO).irrefl _
theorem mem_at {D : List (Od × Nat)} {i : Nat} (h : i < D.length) : D[i]! ∈ D := by rw [getElem!_pos D i h]; exact List.getElem_mem _
theorem min_yes {D : List (Od × Nat)} {i k : Nat} (hS : SelD D) (hi : i < D.length) (hk : k < i) (h : MinTo D i k) (ha : ahdO (D[i]!).1 (D[k]!).1 = true) : MinTo D (i + 1) i := fun j hj => by
  have hR := swo_ltR swo_ltO
  by_cases e : j = i
  · rw [e]; exact hR.irrefl _
  · have h1 : ltR ltO D[i]! D[k]! = true := ltR_iff.2 (.inl (by rw [lt_ahd (hS.one _ (mem_at hi) _ (mem_at (by omega)))]; exact ha))
    cases e2 : ltR ltO D[j]! D[i]! with
    | false => rfl
    | true => have := hR.trans _ _ _ e2 h1; rw [h j (by omega)] at this; cases this
theorem min_no {D : List (Od × Nat)} {i k : Nat} (hS : SelD D) (hi : i < D.length) (hk : k < i) (h : MinTo D i k) (ha : ahdO (D[i]!).1 (D[k]!).1 = false) : MinTo D (i + 1) k := fun j hj => by
  by_cases e : j = i
  · rw [e, ltR_no, lt_ahd (hS.one _ (mem_at hi) _ (mem_at (by omega)))]
    refine ⟨ha, .inr ?_⟩
    have := List.pairwise_iff_getElem.1 hS.inc k i (by omega) hi hk
    rw [getElem!_pos D k (by omega), getElem!_pos D i hi]
    omega
  · exact h j (by omega)
theorem SelI.step {D0 D O : List (Od × Nat)} {k : Nat} (h : SelI D0 D O) (hk : k < D.length) (hm : MinTo D D.length k) : SelI D0 (D.take k ++ D.drop (k + 1)) (O ++ [D[k]!]) := by
  have hsub : (D.take k ++ D.drop (k + 1)).Sublist D := by
    rw [← List.eraseIdx_eq_take_drop_succ]; exact List.eraseIdx_sublist _ _
  have hmem : ∀ d ∈ D.take k ++ D.drop (k + 1), d ∈ D := fun d hd => hsub.subset hd
  have hmin : ∀ d ∈ D, ltR ltO d D[k]! = false := fun d hd => by
    obtain ⟨j, hj, rfl⟩ := List.getElem_of_mem hd
    have := hm j hj
    rw [getElem!_pos D j hj] at this
    exact this
  refine ⟨⟨h.sel.inc.sublist hsub, fun x hx y hy => h.sel.one x (hmem x hx) y (hmem y hy)⟩, ?_, ?_, ?_⟩
  · refine List.Perm.trans ?_ h.perm
    rw [List.append_assoc]
    refine List.Perm.append_left _ ?_
    have e : D = D.take k ++ D[k]! :: D.drop (k + 1) := by
      rw [getElem!_pos D k hk, List.getElem_cons_drop, List.take_append_drop]
    have : ([D[k]!] ++ (D.take k ++ D.drop (k + 1))).Perm (D.take k ++ D[k]! :: D.drop (k + 1)) := by
      show (D[k]! :: (D.take k ++ D.drop (k + 1))).Perm _
      exact List.perm_middle.symm
    rw [← e] at this
    exact this
  · rw [List.pairwise_append]
    refine ⟨h.srt, List.pairwise_singleton _ _, fun a ha b hb => ?_⟩
    rw [List.mem_singleton.1 hb]
    exact h.aft a ha _ (mem_at hk)
  · intro o ho d hd
    rcases List.mem_append.1 ho with ho | ho
    · exact h.aft o ho d (hmem d hd)
    · rw [List.mem_singleton.1 ho]
      exact hmin d (hmem d hd)
theorem SelI.start {D : List (Od × Nat)} (h : SelD D) : SelI D D [] := ⟨h, List.Perm.refl _, List.Pairwise.nil, fun _ h => by cases h⟩

theorem Ods.keep {w w' : World} {a : Option Addr} {len : Nat} {its : List Od} (h : Ods w a len its) (hs : w.heap.size ≤ w'.heap.size) (hk : ∀ b off, a = some ⟨b, off, none⟩ → b < w.heap.size → w'.heap[b]? = w.heap[b]?) : Ods w' a len its := by
  obtain ⟨h1, hle, h2, h3⟩ := h
  refine ⟨h1, hle, h2, ?_⟩
  rcases h3 with h0 | ⟨b, off, rfl, hlt, hc⟩
  · exact .inl h0
  · refine .inr ⟨b, off, rfl, Nat.lt_of_lt_of_le hlt hs, fun i hi => ?_⟩
    have hb := hk b off rfl hlt
    have := hc i hi
    unfold Od.at at this ⊢
    simpa only [World.cell?_of_block (w := w) (w' := w') (a := ⟨b, _, none⟩) hb] using this
/-- The cells of some that follow one another. -/
theorem Ods.part {w : World} {b off len i m : Nat} {its : List Od} (h : Ods w (some ⟨b, off, none⟩) len its) (hm : i + m ≤ len) : ∀ j u, (ol ((its.drop i).take m))[j]? = some u → w.cell? ((⟨b, off + i * 6, none⟩ : Addr).add j) = some u := by
  intro j u hj
  obtain ⟨h1, _, _, h3⟩ := h
  have hl : ((its.drop i).take m).length = m := by rw [List.length_take, List.length_drop]; omega
  have hj6 : j < m * 6 := by
    have := (List.getElem?_eq_some_iff.1 hj).1
    rw [ol_len, hl] at this
    exact this
  rcases h3 with h0 | ⟨b', off', e, _, hc⟩
  · omega
  injection e with e
  injection e with e1 e2
  subst e1; subst e2
  have hq : j / 6 < m := by omega
  have ej : j = j / 6 * 6 + j % 6 := by omega
  have hx := hc (i + j / 6) (by omega)
  have hg := ol_get ((its.drop i).take m) (j / 6) (j % 6) (by rw [hl]; exact hq) (by omega)
  rw [← ej, hj] at hg
  have e3 : ((its.drop i).take m)[j / 6]! = its[i + j / 6]! := by
    rw [getElem!_pos _ _ (by rw [hl]; exact hq), getElem!_pos its _ (by omega)]
    simp
  rw [e3] at hg
  have := at_cell (c := j % 6) (u := u) hx hg.symm
  rw [addr_add]
  show w.cell? ⟨b, off + i * 6 + j, none⟩ = _
  rw [← this]
  congr 2
  omega
end Go.Proofs.Ytgbmgdffgmablaa
