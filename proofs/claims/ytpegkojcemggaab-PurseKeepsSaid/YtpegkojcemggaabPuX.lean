/- purse: for the laws: tills that came in, loads of tills in regions that draw, the reference's Free told whole. -/
import Derived.Test.YtpegkojcemggaabPuO
import Derived.Test.YtpegkojcemggaabPuL
import Derived.Test.YtpegkojcemggaabPuR3
import Derived.Test.YtpegkojcemggaabPuV
import Derived.Test.YtpegkojcemggaabPuW
namespace Go.Proofs.Ytpegkojcemggaab
open Go.RowKit

structure Tz where
  z : Ti
def Tz.ok (_ : World) (x : Tz) : Prop := ∀ k, k < 49 → InR (x.z k)
def Tz.val (x : Tz) : Value := .agg (TC x.z)
theorem open_tz_val {H : Type} {enc : TypeId × Value → H} {w : World} {r : Reach} {b0 : Nat} {v : Value} {d : DataW H} {p : List MemPlace} (hv : Value.okWide Try.prog w r b0 26 v) (h : DataW.Trod enc Try.prog w 0 (fun _ => true) true 26 v d p) : ∃ x : Tz, x.ok w ∧ v = x.val := by
  obtain ⟨z, hz, e⟩ := open_till_val hv h
  exact ⟨⟨z⟩, hz, e⟩
theorem yieldP {ops : Array Oper} {S : World → Prop} {op : Oper} {a : Act} (hw : Region.wanted op (yielded ops a.tmps) = true) (x : Operand) (ho : op.op = .load 26 x)
    (g : Nat) (hx : a.eval x = .pointer (some ⟨g, 0, none⟩)) (z : Ti) (t : TypeId) (hS : ∀ w, S w → w.heap[g]? = some (.cells (TC z) t (0, 0))) : YieldsIf Try.prog ops S op (.agg (TC z)) a :=
  yieldsIf_load_mid hw _ x ho g 0 hx (TL z) _ (fun w hSw j v hv => by
    have hj : j < 49 := by
      rcases Nat.lt_or_ge j 49 with h' | h'
      · exact h'
      · rw [List.getElem?_eq_none (by rw [TL_len]; exact h')] at hv; cases hv
    rw [Nat.zero_add, cell_of_row _ _ _ _ _ _ (hS w hSw)]
    simpa [TC] using hv) Try.underlying26 rfl (by rw [TL_len]; kernel_rfl)
theorem yieldR {ops : Array Oper} {S : World → Prop} {op : Oper} {a : Act} (hw : Region.wanted op (yielded ops a.tmps) = true) (x : Operand) (ho : op.op = .load 30 x)
    (g : Nat) (hx : a.eval x = .pointer (some ⟨g, 0, none⟩)) (z : Ti) (t : TypeId) (hS : ∀ w, S w → w.heap[g]? = some (.cells (TC z) t (0, 0))) : YieldsIf Try.prog ops S op (.agg (TC z)) a :=
  yieldsIf_load_mid hw _ x ho g 0 hx (TL z) _ (fun w hSw j v hv => by
    have hj : j < 49 := by
      rcases Nat.lt_or_ge j 49 with h' | h'
      · exact h'
      · rw [List.getElem?_eq_none (by rw [TL_len]; exact h')] at hv; cases hv
    rw [Nat.zero_add, cell_of_row _ _ _ _ _ _ (hS w hSw)]
    simpa [TC] using hv) Try.underlying30 rfl (by rw [TL_len]; kernel_rfl)
theorem rfree_c (z : Ti) (g : Good z) (a s : Int) (w : World) : Calls Try.prog 13 #[.agg (TC z), .int .i64 a, .int .i64 s] w fun e w' => e = .returned (.int .i64 (freeN z a s)) ∧ Below w.heap.size w w' := by
  by_cases h : May a s
  rotate_left
  · have e : freeN z a s = 0 := by unfold freeN; rw [if_neg h]
    rw [e]; exact rfree_no z a s h w
  obtain ⟨m0, m8, hs⟩ := h
  obtain ⟨k, hk, rfl⟩ := int_nat m0 m8
  rcases hs with rfl | rfl
  · have e : freeN z (k : Int) 1 = z (6 * k) - z (6 * k + 2) := by unfold freeN; rw [if_pos ⟨m0, m8, .inl rfl⟩, ix_cash rfl, toNat_k]
    rw [e]; exact rfree_cash z g k hk w
  · have e : freeN z (k : Int) 2 = z (6 * k + 1) - z (6 * k + 3) := by unfold freeN; rw [if_pos ⟨m0, m8, .inr rfl⟩, ix_stock rfl, toNat_k]
    rw [e]; exact rfree_stock z g k hk w
end Go.Proofs.Ytpegkojcemggaab
