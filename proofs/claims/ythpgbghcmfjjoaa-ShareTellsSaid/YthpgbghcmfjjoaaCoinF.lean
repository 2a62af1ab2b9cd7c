/- coin: a product by a number, rounded: given what Div64 tells of these. -/
import Derived.Test.YthpgbghcmfjjoaaCoinE
namespace Go.Proofs.Ythpgbghcmfjjoaa
open Go.RowKit

/-- Whole numbers by a whole number, rounded. -/
def divR (a b c round : Int) : Int :=
  let n := (a * b).natAbs
  let d := c.natAbs
  let neg := decide (a * b < 0) != decide (c < 0)
  let q := n / d + if awayB round neg (decide (n / d % 2 = 1)) (n % d) d then 1 else 0
  if neg then -(q : Int) else (q : Int)

theorem hi_neg {x : Int} : decide (hiOf x < 0) = decide (x < 0) := by
  unfold hiOf; simp only [decide_eq_decide]; omega
theorem nat_hi (n : Nat) : hiOf (n : Int) = ((n / 18446744073709551616 : Nat) : Int) := by unfold hiOf; omega
theorem nat_lo (n : Nat) : loOf (n : Int) = ((n % 18446744073709551616 : Nat) : Int) := by unfold loOf; omega

theorem and_one (q : Nat) (_h : q < 18446744073709551616) : (bits BinOp.and IntKind.u64 (q : Int) 1 == 1) = decide (q % 2 = 1) := by
  rw [and_one_u64 (q : Int) (by omega) (by omega)]
  rw [Bool.eq_iff_iff]; simp; omega

theorem small_hi (q : Nat) (h : q < 2 ^ 64) : hiOf (q : Int) = 0 := by unfold hiOf; omega
theorem small_lo (q : Nat) (h : q < 2 ^ 64) : loOf (q : Int) = (q : Int) := by unfold loOf; omega

theorem drewN_heap {w : World} {g n : Nat} {p : Obj} (h : w.heap[g]? = some p) : (w.drewN n).heap[g]? = some p := h
theorem info75 (x : Int) : (Try.prog.info? 46).map (·.size) = some (#[Value.int .i64 (hiOf x), .int .u64 (loOf x)] : Array Value).size := by
  show _ = some 2
  kernel_rfl
theorem below_setRow' {B g : Nat} {w0 w : World} (hb : Below B w0 w) (hBg : B ≤ g) (cs : Array Value) : Below B w0 (w.setRow g cs) :=
  hb.trans ⟨rfl, rfl, rfl, by simp [World.setRow], fun k hk => setRow_other w g k cs (by omega)⟩
theorem any_store75 {ops : Array Oper} {o : Oper} {a : Act} {w : World} {Q : Exit → Act → World → Prop} {K : Act → World → Prop} {E : Prop} (hgd : Region.wanted o (yielded ops a.tmps) = true) (x y : Operand) (ho : o.op = .store 46 x y) (g : Nat) (m old : Int)
    (hx : a.eval x = .pointer (some ⟨g, 0, none⟩)) (hy : a.eval y = PV m) (hg : w.heap[g]? = some (PC old))
    (h : ∀ V : World, V.heap[g]? = some (PC m) → V.heap.size = w.heap.size → (∀ B w0, Below B w0 w → B ≤ g → Below B w0 V) → K (a.put o.dst undef) V) :
    if Region.wanted o (yielded ops a.tmps) = true then Oper.wp Try.prog o a w K Q else E := by
  rw [if_pos hgd]
  refine wp_store_row 46 x y ho g _ hx hy 46 _ hg (info75 m) rfl (by simp [Value.oneCell']) (h _ (setRow_heap w g _ _ _ _ hg) (size_setRow _ _ _) (fun B w0 hb hB => below_setRow' hb hB _))
end Go.Proofs.Ythpgbghcmfjjoaa
