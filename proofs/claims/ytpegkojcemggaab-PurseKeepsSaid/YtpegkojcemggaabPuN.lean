/- purse: the law's calls that came in; what a call does with a good till. -/
import Derived.Test.YtpegkojcemggaabPuO
import Derived.Test.YtpegkojcemggaabPuEq
import Derived.Deep.MidRow
namespace Go.Proofs.Ytpegkojcemggaab
open Go.RowKit Go.ChangeShapes Go.WideShapes Go.Deep
set_option linter.unusedVariables false

abbrev OC (o : Ti) : Array Value := #[.int .i64 (o 0), .int .i64 (o 1), .int .i64 (o 2), .int .i64 (o 3), .int .i64 (o 4), .int .i64 (o 5), .int .i64 (o 6), .int .i64 (o 7), .int .i64 (o 8), .int .i64 (o 9), .int .i64 (o 10), .int .i64 (o 11)]
def OLs (o : Ti) : List Value := (List.range 12).map fun i => .int .i64 (o i)
theorem OLs_arr (o : Ti) : (OLs o).toArray = OC o := rfl
theorem OLs_len (o : Ti) : (OLs o).length = 12 := by simp [OLs]
structure Opz where
  o : Ti
instance : Inhabited Opz := ⟨⟨fun _ => 0⟩⟩
def Opz.ok (x : Opz) : Prop := ∀ k, k < 12 → InR (x.o k)
/-- Some of them in a slice. -/
def Opzs (w : World) (a : Option Addr) (len : Nat) (its : List Opz) : Prop :=
  its.length = len ∧ (∀ x ∈ its, x.ok) ∧ (len = 0 ∨ ∃ b off, a = some ⟨b, off, none⟩ ∧ b < w.heap.size ∧ ∀ i, i < len → w.rangeAt b (off + i * 12) (OLs (its[i]!).o))
theorem Opzs.below {w w' : World} {a : Option Addr} {len : Nat} {its : List Opz} (h : Opzs w a len its) (hb : Below w.heap.size w w') : Opzs w' a len its := by
  obtain ⟨h1, h2, h3⟩ := h
  refine ⟨h1, h2, ?_⟩
  rcases h3 with h0 | ⟨b, off, rfl, hlt, hc⟩
  · exact .inl h0
  · exact .inr ⟨b, off, rfl, Nat.lt_of_lt_of_le hlt hb.size, fun i hi j v hv => by rw [hb.cell (p := ⟨b, off + i * 12 + j, none⟩) hlt]; exact hc i hi j v hv⟩
set_option maxRecDepth 100000 in
set_option maxHeartbeats 2000000 in
theorem open_opzs {H : Type} {enc : TypeId × Value → H} {w : World} {a : Option Addr} {len cap : Nat} {d : DataW H} {p : List MemPlace}
    (h : DataW.Trod enc Try.prog w 0 (fun _ => true) true 41 (.slice a len cap) d p) : ∃ its, Opzs w a len its ∧ len ≤ cap ∧ cap ≤ maxLen := by
  obtain ⟨fuel, hf⟩ := h
  rcases open_slice Try.underlying41 hf with ⟨hcs, _⟩ | ⟨x, l, c, m, n, D, Pl, hcs, _, hl, hm, hmm, hx, hi⟩
  · simp [Value.cells] at hcs
    obtain ⟨rfl, rfl, rfl⟩ := hcs
    exact ⟨[], ⟨rfl, by simp, .inl rfl⟩, Nat.le_refl _, Nat.zero_le _⟩
  · simp [Value.cells] at hcs
    obtain ⟨rfl, rfl, rfl⟩ := hcs
    rw [if_pos rfl] at hmm
    subst hmm
    have one : ∀ i, i < len → ∃ y : Opz, y.ok ∧ ∀ j v, (OLs y.o)[j]? = some v → w.cell? ((x.add (i * 12)).add j) = some v := by
      intro i hil
      obtain ⟨cs', hc, ht⟩ := hi i (by omega)
      rw [cells_op] at hc
      obtain ⟨_, hlen, hcell⟩ := World.cells?_some hc
      obtain ⟨z, hz, e⟩ := choose_ti hlen (allI_op hlen ht)
      refine ⟨⟨z⟩, hz, fun j v hv => ?_⟩
      have hj : j < 12 := by
        rcases Nat.lt_or_ge j 12 with h' | h'
        · exact h'
        · rw [List.getElem?_eq_none (by rw [OLs_len]; exact h')] at hv; cases hv
      rw [hcell j hj, e]
      exact hv
    refine ⟨(List.range len).map fun i => if h : i < len then Classical.choose (one i h) else default, ⟨by simp, fun z hz => ?_, ?_⟩, hl, hm⟩
    · obtain ⟨i, hi1, rfl⟩ := List.mem_map.1 hz
      have hil : i < len := by simpa using hi1
      rw [dif_pos hil]
      exact (Classical.choose_spec (one i hil)).1
    · by_cases h0 : len = 0
      · exact .inl h0
      obtain ⟨b, off, spot⟩ := x
      obtain ⟨y, _, hy⟩ := one 0 (by omega)
      have hy0 := hy 0 _ rfl
      have hspot : spot = none := by simpa [Addr.add] using World.cell?_spot hy0
      subst hspot
      have hb : b < w.heap.size := World.block_lt_of_cell? w ⟨b, off + 0 * 12 + 0, none⟩ (by simpa only [Addr.add_mid] using hy0)
      refine .inr ⟨b, off, rfl, hb, fun i hil => ?_⟩
      have e : ((List.range len).map fun i => if h : i < len then Classical.choose (one i h) else (default : Opz))[i]! = Classical.choose (one i hil) := by
        rw [List.getElem!_eq_getElem?_getD, List.getElem?_map, List.getElem?_range hil]
        simp [hil]
      have hs := (Classical.choose_spec (one i hil)).2
      rw [e]
      intro j v hv
      have := hs j v hv
      simpa only [Addr.add_mid] using this
section
variable {ops : Array Oper} {rest : List Oper} {o : Oper} {a : Act} {w : World} {Q : Exit → Act → World → Prop}
theorem infoO : (Try.prog.info? 45).map (·.size) = some 12 := by kernel_rfl
theorem loadO (hgd : Region.wanted o (yielded ops a.tmps) = true) (x : Operand) (ho : o.op = .load 45 x) (b f : Nat) (hx : a.eval x = .pointer (some ⟨b, f, none⟩)) (y : Ti) (hc : w.rangeAt b f (OLs y))
    (h : wpList Try.prog ops Q rest (a.put o.dst (.agg (OC y))) w) : wpList Try.prog ops Q (o :: rest) a w :=
  BigFrame.wpList_want hgd fun _ hK => wp_load_mid _ x ho b f hx (OLs y) _ hc Try.underlying45 rfl (by rw [OLs_len]; exact infoO) (hK _ _ h)
theorem loadOr (hgd : Region.wanted o (yielded ops a.tmps) = true) (x : Operand) (ho : o.op = .load 45 x) (g : Nat) (hx : a.eval x = .pointer (some ⟨g, 0, none⟩)) (y : Ti) (t : TypeId)
    (hg : w.heap[g]? = some (.cells (OC y) t (0, 0))) (h : wpList Try.prog ops Q rest (a.put o.dst (.agg (OC y))) w) : wpList Try.prog ops Q (o :: rest) a w :=
  BigFrame.wpList_want hgd fun _ hK => wp_load_row _ x ho g hx _ _ (0, 0) _ hg Try.underlying45 rfl infoO (hK _ _ h)
theorem OC_one (y : Ti) : (OC y).all (·.oneCell') = true := by
  refine all_oneCell_toArray (cs := OLs y) fun v hv => ?_
  simp only [OLs, List.mem_map] at hv
  obtain ⟨i, _, rfl⟩ := hv
  rfl
theorem storeO (hgd : Region.wanted o (yielded ops a.tmps) = true) (x z : Operand) (ho : o.op = .store 45 x z) (g : Nat) (y : Ti) (hx : a.eval x = .pointer (some ⟨g, 0, none⟩)) (hy : a.eval z = .agg (OC y)) (old : Array Value) (t : TypeId)
    (hg : w.heap[g]? = some (.cells old t (0, 0))) (hold : old.size = 12) (h : wpList Try.prog ops Q rest (a.put o.dst undef) (w.setRow g (OC y))) : wpList Try.prog ops Q (o :: rest) a w :=
  BigFrame.wpList_want hgd fun _ hK => wp_store_row _ x z ho g _ hx hy _ _ hg infoO hold (OC_one y) (hK _ _ h)
end

def opD (o : Ti) : Dl := ⟨o 4, o 5, o 6, o 7, o 8, o 9, o 10, o 11⟩
/-- What a call makes of a till. -/
def doN (z : Ti) (o : Ti) : Ti := if o 0 = 0 then (depN z (o 1) (o 2) (o 3)).1 else if o 0 = 1 then (wdN z (o 1) (o 2) (o 3)).1 else if o 0 = 2 then (holdN z (o 1) (o 2) (o 3)).1 else if o 0 = 3 then (relN z (o 1) (o 2) (o 3)).1 else if o 0 = 4 then (trN z (opD o)).1 else (stlN z (o 1)).1
theorem do_good {z : Ti} (g : Good z) (o : Ti) : Good (doN z o) := by
  unfold doN
  split
  · exact dep_good g _ _ _
  split
  · exact wd_good g _ _ _
  split
  · exact hold_good g _ _ _
  split
  · exact rel_good g _ _ _
  split
  · exact tr_good g _
  · exact stl_good g _
theorem do_sum_other (z : Ti) {o : Ti} (h0 : o 0 ≠ 0) (h1 : o 0 ≠ 1) : cashS (doN z o) = cashS z ∧ stockS (doN z o) = stockS z := by
  unfold doN
  rw [if_neg h0, if_neg h1]
  split
  · exact hold_sum _ _ _ _
  split
  · exact rel_sum _ _ _ _
  split
  · exact tr_sum _ _
  · exact stl_sum _ _
theorem tillE_upd {z : Ti} {k : Nat} {n : Int} (hk : k < 49) (hn : n ≠ 0) : tillE (upd z k n) z = false := by
  rw [← Bool.not_eq_true, tillE_iff]
  intro h
  have := h k hk
  rw [upd_same] at this
  omega
/-- What a deposit, or a withdrawal, does: nothing, or n more of an asset. -/
theorem dep_ways (z : Ti) (a s n : Int) : (depN z a s n).1 = z ∨ ∃ k, k < 49 ∧ (depN z a s n).1 = upd z k n ∧ 1 ≤ n ∧ n ≤ 4611686018427387904 ∧ ((s = 1 ∧ cashS (depN z a s n).1 = cashS z + n ∧ stockS (depN z a s n).1 = stockS z) ∨ (s = 2 ∧ cashS (depN z a s n).1 = cashS z ∧ stockS (depN z a s n).1 = stockS z + n)) := by
  by_cases h : May a s ∧ 1 ≤ n ∧ n ≤ 4611686018427387904
  rotate_left
  · left; unfold depN; rw [if_neg h]
  by_cases h2 : allS z s + n ≤ 4611686018427387904
  rotate_left
  · left; unfold depN; rw [if_pos h, if_neg h2]
  right
  have e : depN z a s n = (upd z (ix a s) n, 0) := by unfold depN; rw [if_pos h, if_pos h2]
  have hs := dep_sum z a s n
  rw [e] at hs ⊢
  have h8 := nat8 ⟨h.1.1, h.1.2.1⟩
  refine ⟨ix a s, by unfold ix offS; split <;> omega, rfl, h.2.1, h.2.2, ?_⟩
  rcases h.1.2.2 with rfl | rfl
  · left; simpa using hs
  · right; simpa using hs
theorem wd_ways (z : Ti) (a s n : Int) : (wdN z a s n).1 = z ∨ ∃ k, k < 49 ∧ (wdN z a s n).1 = upd z k (-n) ∧ 1 ≤ n ∧ n ≤ 4611686018427387904 ∧ ((s = 1 ∧ cashS (wdN z a s n).1 = cashS z + -n ∧ stockS (wdN z a s n).1 = stockS z) ∨ (s = 2 ∧ cashS (wdN z a s n).1 = cashS z ∧ stockS (wdN z a s n).1 = stockS z + -n)) := by
  by_cases h : May a s ∧ 1 ≤ n ∧ n ≤ 4611686018427387904
  rotate_left
  · left; unfold wdN; rw [if_neg h]
  by_cases h2 : n ≤ freeN z a s - owedS z a s
  rotate_left
  · left; unfold wdN; rw [if_pos h, if_neg h2]
  right
  have e : wdN z a s n = (upd z (ix a s) (-n), 0) := by unfold wdN; rw [if_pos h, if_pos h2]
  have hs := wd_sum z a s n
  rw [e] at hs ⊢
  have h8 := nat8 ⟨h.1.1, h.1.2.1⟩
  refine ⟨ix a s, by unfold ix offS; split <;> omega, rfl, h.2.1, h.2.2, ?_⟩
  rcases h.1.2.2 with rfl | rfl
  · left; simpa using hs
  · right; simpa using hs
end Go.Proofs.Ytpegkojcemggaab
