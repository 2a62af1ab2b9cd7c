/- Rows of orders: kept, parted, put behind one another (out of XOrU, XOrV, XOrX). -/
import Derived.Test.YtpibkjldmmecpaaOrS
import Derived.Laws.OwnMore
import Derived.Laws.AppendOwnNone
import Derived.Deep.Onto
namespace Go.Proofs.Ytpibkjldmmecpaa
open Go.RowKit Go.Sort Go.Lib Go.Shelf

theorem Ods.keep {w w' : World} {a : Option Addr} {len : Nat} {its : List Od} (h : Ods w a len its) (hs : w.heap.size ≤ w'.heap.size) (hk : ∀ b off, a = some ⟨b, off, none⟩ → b < w.heap.size → w'.heap[b]? = w.heap[b]?) : Ods w' a len its := by
  obtain ⟨h1, hle, h2, h3⟩ := h
  refine ⟨h1, hle, h2, ?_⟩
  rcases h3 with h0 | ⟨b, off, rfl, hlt, hc⟩
  · exact .inl h0
  · refine .inr ⟨b, off, rfl, Nat.lt_of_lt_of_le hlt hs, fun i hi => ?_⟩
    have hb := hk b off rfl hlt
    have := hc i hi
    unfold Od.at at this ⊢
    simpa only [World.cell?_of_block (w := w) (w' := w') (a := ⟨b, _, none⟩) hb] using this
/-- The cells of some that follow one another. -/
theorem Ods.part {w : World} {b off len i m : Nat} {its : List Od} (h : Ods w (some ⟨b, off, none⟩) len its) (hm : i + m ≤ len) : ∀ j u, (ol ((its.drop i).take m))[j]? = some u → w.cell? ((⟨b, off + i * 6, none⟩ : Addr).add j) = some u := by
  intro j u hj
  obtain ⟨h1, _, _, h3⟩ := h
  have hl : ((its.drop i).take m).length = m := by rw [List.length_take, List.length_drop]; omega
  have hj6 : j < m * 6 := by
    have := (List.getElem?_eq_some_iff.1 hj).1
    rw [ol_len, hl] at this
    exact this
  rcases h3 with h0 | ⟨b', off', e, _, hc⟩
  · omega
  injection e with e
  injection e with e1 e2
  subst e1; subst e2
  have hq : j / 6 < m := by omega
  have ej : j = j / 6 * 6 + j % 6 := by omega
  have hx := hc (i + j / 6) (by omega)
  have hg := ol_get ((its.drop i).take m) (j / 6) (j % 6) (by rw [hl]; exact hq) (by omega)
  rw [← ej, hj] at hg
  have e3 : ((its.drop i).take m)[j / 6]! = its[i + j / 6]! := by
    rw [getElem!_pos _ _ (by rw [hl]; exact hq), getElem!_pos its _ (by omega)]
    simp
  rw [e3] at hg
  have := at_cell (c := j % 6) (u := u) hx hg.symm
  rw [addr_add]
  show w.cell? ⟨b, off + i * 6 + j, none⟩ = _
  rw [← this]
  congr 2
  omega
theorem Ods.cellsAt {w : World} {b off len i : Nat} {its : List Od} (h : Ods w (some ⟨b, off, none⟩) len its) (hi : i < len) : (its[i]!).at w b (off + i * 6) := by
  rcases h.2.2.2 with h0 | ⟨b', off', e, _, hc⟩
  · omega
  · injection e with e
    injection e with e1 e2
    subst e1; subst e2
    exact hc i hi
theorem append_row {w : World} {ops : Array Oper} {rest : List Oper} {o : Oper} {a : Act} {Q : Exit → Act → World → Prop} (hgd : o.guard = none) (s x : Operand)
    (ho : o.op = .call { callee := .builtin .append, args := #[s, x], argTypes := #[34, 34] })
    (base : Nat) (v : Value) (n : Nat) (xs : List Value) (hs : a.eval s = v) (hown : w.ownsRow base 42 6 v n xs)
    (A : Option Addr) (m c : Nat) (L : List Od) (hx : a.eval x = .slice A m c) (HO : Ods w A m L) (hc : CapOk A m c) (h63 : n + m ≤ 3000) (hbase : base ≤ w.heap.size)
    (h : ∀ v' w', w'.ownsRow base 42 6 v' (n + m) (xs ++ ol L) → Below base w w' → wpList Try.prog ops Q rest (a.put o.dst v') w') : wpList Try.prog ops Q (o :: rest) a w := by
  obtain ⟨i0, hi0, hz0, hz1, hz2⟩ := info_parts info_ro
  have hl := HO.1
  have hlen : (ol L).length = m * 6 := by rw [ol_len, hl]
  cases A with
  | none =>
    obtain rfl : c = 0 := hc.2 rfl
    obtain rfl : m = 0 := by have := hc.1; omega
    have e : L = [] := List.length_eq_zero_iff.1 hl
    refine wpList_append_own_none hgd s x _ ho base _ i0 6 Try.underlying34 hi0 v n xs hs hown hx (h v w ?_ (Below.refl _ _ |>.mono hbase))
    rw [e]
    simpa [ol] using hown
  | some ad =>
    refine wpList_append_own _ hgd s x _ ho base _ i0 (.agg (OC ⟨0, 0, 0, 0, 0, 0⟩)) 6 48 Try.underlying34 hi0 hz0 hz1 hz2 rfl (by decide) v n xs hs hown ad m c (ol L) hx hlen ?_ (ol_one _) (by unfold maxLen; omega) (by omega) hbase (fun v' w' h1 h2 _ => h v' w' h1 (Below.grown ((Below.refl _ _).mono hbase) h2 hbase (fun k hk => (hown.lt k hk).1)))
    rcases HO.2.2.2 with h0 | ⟨b, off, e, _, _⟩
    · intro j u hu
      have := (List.getElem?_eq_some_iff.1 hu).1
      omega
    · injection e with e
      subst e
      have := Ods.part (i := 0) (m := m) HO (by omega)
      rw [List.drop_zero, List.take_of_length_le (by omega)] at this
      simpa using this
theorem Ods.takeN {w : World} {A : Option Addr} {n k : Nat} {L : List Od} (h : Ods w A n L) (hk : k ≤ n) : Ods w A k (L.take k) := by
  obtain ⟨h1, h2, h3, h4⟩ := h
  refine ⟨by rw [List.length_take]; omega, by omega, fun x hx => h3 x (List.mem_of_mem_take hx), ?_⟩
  rcases h4 with h0 | ⟨b, off, rfl, hb, hc⟩
  · exact .inl (by omega)
  · refine .inr ⟨b, off, rfl, hb, fun i hi => ?_⟩
    have := hc i (by omega)
    rw [getElem!_pos L i (by omega)] at this
    rw [getElem!_pos _ i (by rw [List.length_take]; omega), List.getElem_take]
    exact this
theorem Ods.dropN {w : World} {b off n k : Nat} {L : List Od} (h : Ods w (some ⟨b, off, none⟩) n L) (hk : k ≤ n) : Ods w (some ⟨b, off + k * 6, none⟩) (n - k) (L.drop k) := by
  obtain ⟨h1, h2, h3, h4⟩ := h
  refine ⟨by rw [List.length_drop]; omega, by omega, fun x hx => h3 x (List.mem_of_mem_drop hx), ?_⟩
  rcases h4 with h0 | ⟨b', off', e, hb, hc⟩
  · exact .inl (by omega)
  · injection e with e
    injection e with e1 e2
    subst e1; subst e2
    by_cases h0 : n - k = 0
    · exact .inl h0
    refine .inr ⟨b, _, rfl, hb, fun i hi => ?_⟩
    have := hc (k + i) (by omega)
    rw [getElem!_pos L (k + i) (by omega)] at this
    rw [getElem!_pos _ i (by rw [List.length_drop]; omega), List.getElem_drop]
    rw [show off + k * 6 + i * 6 = off + (k + i) * 6 by omega]
    exact this
theorem Ods.nil {w : World} (A : Option Addr) : Ods w A 0 [] := ⟨rfl, by omega, (fun x hx => nomatch hx), .inl rfl⟩
theorem Ods.len {w : World} {A : Option Addr} {n : Nat} {L : List Od} (h : Ods w A n L) : L.length = n := h.1
theorem six_newsT (T : TypeId) (w : World) (x : Od) : ∀ (j : Nat) (u : Value), (encO x)[j]? = some u → (w.alloc (Obj.cells (OC x) T)).cell? ((⟨w.heap.size, 0, none⟩ : Addr).add j) = some u := by
  intro j u hu
  rw [addr_add, cell_of_row _ _ _ _ _ _ (heap_alloc_new w _)]
  match j, hu with
  | 0, hu => simpa [encO] using hu
  | 1, hu => simpa [encO] using hu
  | 2, hu => simpa [encO] using hu
  | 3, hu => simpa [encO] using hu
  | 4, hu => simpa [encO] using hu
  | 5, hu => simpa [encO] using hu
end Go.Proofs.Ytpibkjldmmecpaa
