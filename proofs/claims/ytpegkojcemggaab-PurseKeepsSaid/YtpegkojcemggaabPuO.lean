/- purse: tills and calls that came in, opened: values whose cells are all whole numbers of 64 bits. -/
import Derived.Test.YtpegkojcemggaabPuM
import Derived.OpenShut
import Derived.Deep.Slices
import Derived.Deep.Fields
import Derived.ChangeSame
namespace Go.Proofs.Ytpegkojcemggaab
open Go.RowKit Go.ChangeShapes Go.WideShapes Go.Deep
set_option linter.unusedVariables false

def AllI (t : TypeId) (k : Nat) : Prop := ∀ {H : Type} {enc : TypeId × Value → H} {w : World} {fuel : Nat} {cs : List Value} {y : DataW H × List MemPlace}, cs.length = k →
  DataW.trod enc Try.prog w 0 (fun _ => true) true fuel t cs = some y → ∀ j, j < k → ∃ v, InR v ∧ cs[j]? = some (.int .i64 v)
theorem allI_int {t : TypeId} (ht : Try.prog.underlying t = some (.int .i64)) : AllI t 1 := by
  intro H enc w fuel cs y hl h j hj
  obtain ⟨n, e, _, hw⟩ := DataW.trod_int ht h
  obtain rfl : j = 0 := by omega
  exact ⟨n, bounds_i64 hw, by rw [e]; rfl⟩
theorem allI_array {t e : TypeId} {n m : Nat} (ht : Try.prog.underlying t = some (.array n e)) (hc : Try.prog.cellsOf e = m) (he : AllI e m) (hm : 0 < m) : AllI t (n * m) := by
  intro H enc w fuel cs y hl h j hj
  obtain ⟨xs, f', _, _, _, hxl, hg⟩ := DataW.trod_array ht h
  have hi : j / m < n := (Nat.div_lt_iff_lt_mul hm).2 hj
  have h1 := hg (j / m) hi
  rw [hc, List.getElem?_eq_getElem (by rw [hxl]; exact hi)] at h1
  have hle : j / m * m + m ≤ n * m := by
    have := Nat.mul_le_mul_right m (show j / m + 1 ≤ n from hi)
    rw [Nat.succ_mul] at this; exact this
  have hlen : ((cs.drop (j / m * m)).take m).length = m := by rw [List.length_take, List.length_drop, hl]; omega
  obtain ⟨v, hv, hcv⟩ := he hlen h1 (j % m) (Nat.mod_lt _ hm)
  refine ⟨v, hv, ?_⟩
  rw [List.getElem?_take_of_lt (Nat.mod_lt _ hm), List.getElem?_drop] at hcv
  rw [← hcv, Nat.mul_comm, Nat.div_add_mod]
theorem allI_struct {t : TypeId} {k : Nat} {fs : Array Field} (ht : Try.prog.underlying t = some (.struct fs))
    (hf : ∀ j, j < k → ∃ (i : Nat) (f : Field) (o n : Nat) (u : TypeId), fs[i]? = some f ∧ f.offset = o ∧ f.type = u ∧ Try.prog.cellsOf u = n ∧ o ≤ j ∧ j < o + n ∧ o + n ≤ k ∧ AllI u n) : AllI t k := by
  intro H enc w fuel cs y hl h j hj
  obtain ⟨xs, f', _, _, _, hxl, hg⟩ := DataW.trod_struct ht h
  obtain ⟨i, f, o, n, u, hif, ho, hu, hn, h1, h2, h3, hA⟩ := hf j hj
  have h4 := hg i f hif
  rw [ho, hu, hn] at h4
  have hi : i < fs.size := by
    rcases Nat.lt_or_ge i fs.size with h' | h'
    · exact h'
    · rw [Array.getElem?_eq_none h'] at hif; cases hif
  rw [List.getElem?_eq_getElem (by rw [hxl]; exact hi)] at h4
  have hlen : ((cs.drop o).take n).length = n := by rw [List.length_take, List.length_drop, hl]; omega
  obtain ⟨v, hv, hcv⟩ := hA hlen h4 (j - o) (by omega)
  refine ⟨v, hv, ?_⟩
  rw [List.getElem?_take_of_lt (by omega), List.getElem?_drop] at hcv
  rw [← hcv]; congr 1; omega
theorem allI_n : AllI 2 1 := allI_int Try.underlying2
theorem allI_i : AllI 3 1 := allI_int Try.underlying3
theorem cells_n : Try.prog.cellsOf 2 = 1 := by kernel_rfl
theorem cells_i : Try.prog.cellsOf 3 = 1 := by kernel_rfl
theorem cells_pu : Try.prog.cellsOf 23 = 6 := by kernel_rfl
theorem cells_pus : Try.prog.cellsOf 24 = 48 := by kernel_rfl
theorem cells_till : Try.prog.cellsOf 26 = 49 := by kernel_rfl
theorem allI_pu : AllI 23 6 := by
  refine allI_struct Try.underlying23 fun j hj => ?_
  have e : j = 0 ∨ j = 1 ∨ j = 2 ∨ j = 3 ∨ j = 4 ∨ j = 5 := by omega
  rcases e with rfl | rfl | rfl | rfl | rfl | rfl
  · exact ⟨0, _, 0, 1, _, rfl, rfl, rfl, cells_n, by omega, by omega, by omega, allI_n⟩
  · exact ⟨1, _, 1, 1, _, rfl, rfl, rfl, cells_n, by omega, by omega, by omega, allI_n⟩
  · exact ⟨2, _, 2, 1, _, rfl, rfl, rfl, cells_n, by omega, by omega, by omega, allI_n⟩
  · exact ⟨3, _, 3, 1, _, rfl, rfl, rfl, cells_n, by omega, by omega, by omega, allI_n⟩
  · exact ⟨4, _, 4, 1, _, rfl, rfl, rfl, cells_n, by omega, by omega, by omega, allI_n⟩
  · exact ⟨5, _, 5, 1, _, rfl, rfl, rfl, cells_n, by omega, by omega, by omega, allI_n⟩
theorem allI_pus : AllI 24 48 := allI_array (n := 8) Try.underlying24 cells_pu allI_pu (by decide)
theorem allI_till : AllI 26 49 := by
  refine allI_struct Try.underlying26 fun j hj => ?_
  by_cases e : j < 48
  · exact ⟨0, _, 0, 48, _, rfl, rfl, rfl, cells_pus, by omega, by omega, by omega, allI_pus⟩
  · obtain rfl : j = 48 := by omega
    exact ⟨1, _, 48, 1, _, rfl, rfl, rfl, cells_n, by omega, by omega, by omega, allI_n⟩
theorem cells_deal : Try.prog.cellsOf 43 = 8 := by kernel_rfl
theorem cells_op : Try.prog.cellsOf 45 = 12 := by kernel_rfl
theorem allI_deal : AllI 43 8 := by
  refine allI_struct Try.underlying43 fun j hj => ?_
  have e : j = 0 ∨ j = 1 ∨ j = 2 ∨ j = 3 ∨ j = 4 ∨ j = 5 ∨ j = 6 ∨ j = 7 := by omega
  rcases e with rfl | rfl | rfl | rfl | rfl | rfl | rfl | rfl
  · exact ⟨0, _, 0, 1, _, rfl, rfl, rfl, cells_i, by omega, by omega, by omega, allI_i⟩
  · exact ⟨1, _, 1, 1, _, rfl, rfl, rfl, cells_i, by omega, by omega, by omega, allI_i⟩
  · exact ⟨2, _, 2, 1, _, rfl, rfl, rfl, cells_n, by omega, by omega, by omega, allI_n⟩
  · exact ⟨3, _, 3, 1, _, rfl, rfl, rfl, cells_n, by omega, by omega, by omega, allI_n⟩
  · exact ⟨4, _, 4, 1, _, rfl, rfl, rfl, cells_n, by omega, by omega, by omega, allI_n⟩
  · exact ⟨5, _, 5, 1, _, rfl, rfl, rfl, cells_n, by omega, by omega, by omega, allI_n⟩
  · exact ⟨6, _, 6, 1, _, rfl, rfl, rfl, cells_n, by omega, by omega, by omega, allI_n⟩
  · exact ⟨7, _, 7, 1, _, rfl, rfl, rfl, cells_n, by omega, by omega, by omega, allI_n⟩
theorem allI_op : AllI 45 12 := by
  refine allI_struct Try.underlying45 fun j hj => ?_
  by_cases e : j < 4
  · have e : j = 0 ∨ j = 1 ∨ j = 2 ∨ j = 3 := by omega
    rcases e with rfl | rfl | rfl | rfl
    · exact ⟨0, _, 0, 1, _, rfl, rfl, rfl, cells_i, by omega, by omega, by omega, allI_i⟩
    · exact ⟨1, _, 1, 1, _, rfl, rfl, rfl, cells_i, by omega, by omega, by omega, allI_i⟩
    · exact ⟨2, _, 2, 1, _, rfl, rfl, rfl, cells_i, by omega, by omega, by omega, allI_i⟩
    · exact ⟨3, _, 3, 1, _, rfl, rfl, rfl, cells_n, by omega, by omega, by omega, allI_n⟩
  · exact ⟨4, _, 4, 8, _, rfl, rfl, rfl, cells_deal, by omega, by omega, by omega, allI_deal⟩
theorem choose_ti {cs : List Value} {n : Nat} (hl : cs.length = n) (h : ∀ j, j < n → ∃ v, InR v ∧ cs[j]? = some (.int .i64 v)) : ∃ z : Ti, (∀ k, k < n → InR (z k)) ∧ cs = (List.range n).map fun i => Value.int .i64 (z i) := by
  refine ⟨fun k => if h' : k < n then Classical.choose (h k h') else 0, fun k hk => ?_, ?_⟩
  · simp only [dif_pos hk]; exact (Classical.choose_spec (h k hk)).1
  · apply List.ext_getElem?
    intro i
    by_cases hi : i < n
    · rw [(Classical.choose_spec (h i hi)).2, List.getElem?_map, List.getElem?_range hi]; simp [dif_pos hi]
    · rw [List.getElem?_eq_none (by omega), List.getElem?_eq_none (by simp; omega)]
theorem open_till_val {H : Type} {enc : TypeId × Value → H} {w : World} {r : Reach} {b0 : Nat} {v : Value} {d : DataW H} {p : List MemPlace} (hv : Value.okWide Try.prog w r b0 26 v) (h : DataW.Trod enc Try.prog w 0 (fun _ => true) true 26 v d p) : ∃ z : Ti, (∀ k, k < 49 → InR (z k)) ∧ v = .agg (TC z) := by
  obtain ⟨cs, rfl, hsz⟩ := okWide_struct Try.underlying26 hv
  obtain ⟨fuel, hf⟩ := h
  have hl : cs.toList.length = 49 := by rw [Array.length_toList, hsz, cells_till]
  obtain ⟨z, hz, e⟩ := choose_ti hl (allI_till hl hf)
  refine ⟨z, hz, ?_⟩
  congr 1
  apply Array.ext'
  rw [e]; rfl
end Go.Proofs.Ytpegkojcemggaab
