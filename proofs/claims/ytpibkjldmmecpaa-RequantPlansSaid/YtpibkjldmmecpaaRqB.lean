/- requant: why an order goes; the reference's ticks, and why. -/
import Derived.Test.YtpibkjldmmecpaaRqO
import Derived.Test.YtpibkjldmmecpaaRqL
import Derived.Test.YtpibkjldmmecpaaGrV
namespace Go.Proofs.Ytpibkjldmmecpaa
open Go.RowKit

def whyN (t : List Tk) (lot : Int) (x : Od) : Int := if onN t x.price = true then lotN lot x.qty else 40
def fitN (t : List Tk) (lot : Int) (x : Od) : Bool := whyN t lot x == 0
abbrev RC (r : Rul) : Array Value := #[(.int .i64 r.ver), (.slice r.tkA r.tkL r.tkC), (.int .i64 r.lot), (.int .i64 r.band), (.slice r.feA r.feL r.feC), (.int .i64 r.rnd), (.int .i64 r.pri), (.int .i64 r.self), (.int .i64 r.lay)]
theorem on_take (t : List Tk) (p : Int) : onN (t.take 9) p = onN t p := by
  rcases take9 t with h | ⟨h1, h2⟩
  · rw [h]
  · unfold onN
    rw [if_neg (fun h => h2 h.1), if_neg (fun h => h1 h.1)]
theorem rul_cells {w : World} {g : Nat} {r : Rul} {T : TypeId} (h : w.heap[g]? = some (.cells (RC r) T (0, 0))) : w.cell? ⟨g, 0, none⟩ = some (.int .i64 r.ver) ∧ w.cell? ⟨g, 1, none⟩ = some (.slice r.tkA r.tkL r.tkC) ∧ w.cell? ⟨g, 2, none⟩ = some (.int .i64 r.lot) ∧ w.cell? ⟨g, 3, none⟩ = some (.int .i64 r.band) ∧
    w.cell? ⟨g, 4, none⟩ = some (.slice r.feA r.feL r.feC) ∧ w.cell? ⟨g, 5, none⟩ = some (.int .i64 r.rnd) ∧ w.cell? ⟨g, 6, none⟩ = some (.int .i64 r.pri) ∧ w.cell? ⟨g, 7, none⟩ = some (.int .i64 r.self) ∧ w.cell? ⟨g, 8, none⟩ = some (.int .i64 r.lay) := by
  refine ⟨?_, ?_, ?_, ?_, ?_, ?_, ?_, ?_, ?_⟩ <;> (rw [cell_of_row _ _ _ _ _ _ h]; rfl)
theorem od_cells {w : World} {g : Nat} {x : Od} {T : TypeId} (h : w.heap[g]? = some (.cells (OC x) T (0, 0))) :
    w.cell? ⟨g, 0, none⟩ = some (.int .u64 x.id) ∧ w.cell? ⟨g, 1, none⟩ = some (.int .i64 x.acc) ∧ w.cell? ⟨g, 2, none⟩ = some (.int .i64 x.side) ∧ w.cell? ⟨g, 3, none⟩ = some (.int .i64 x.price) ∧ w.cell? ⟨g, 4, none⟩ = some (.int .i64 x.qty) ∧ w.cell? ⟨g, 5, none⟩ = some (.int .u64 x.seq) := by
  refine ⟨?_, ?_, ?_, ?_, ?_, ?_⟩ <;> (rw [cell_of_row _ _ _ _ _ _ h]; rfl)
theorem two_boxes (w : World) (o1 o2 : Obj) : ((w.alloc o1).alloc o2).heap[w.heap.size]? = some o1 ∧ ((w.alloc o1).alloc o2).heap[w.heap.size + 1]? = some o2 ∧ Below w.heap.size w ((w.alloc o1).alloc o2) ∧ ((w.alloc o1).alloc o2).heap.size = w.heap.size + 2 :=
  ⟨hd_prev (by simp) (hd_last rfl), hd_last (by simp), ((Below.refl _ _).alloc (Nat.le_refl _) _).alloc (by simp) _, by simp⟩
theorem bel_heap {w w' : World} {g : Nat} {o : Obj} (h : w.heap[g]? = some o) (b : Below w.heap.size w w') : w'.heap[g]? = some o := (b.block g (blk_lt h)).trans h

set_option maxHeartbeats 4000000 in
set_option maxRecDepth 100000 in
theorem why_c (x : Od) (r : Rul) (w : World) (H : Tks w r.tkA r.tkL r.tkZ) : Calls Try.prog 10 #[.agg (OC x), .agg (RC r)] w (Got w (.int .i64 (whyN r.tkZ r.lot x))) := by
  have HO := Lib.hid (fun W (B : Below w.heap.size w W) => on_c x.price r.tkA r.tkL r.tkC r.tkZ W (H.below B))
  have HL := Lib.hid (lot_c r.lot x.qty)
  unfold whyN
  obtain ⟨z, hz⟩ : ∃ z, z = lotN r.lot x.qty := ⟨_, rfl⟩
  rw [← hz] at HL ⊢
  obtain ⟨f, hf⟩ : ∃ f, f = onN r.tkZ x.price := ⟨_, rfl⟩
  rw [← hf] at HO ⊢
  obtain ⟨v, hv⟩ : ∃ v, v = if f = true then z else 40 := ⟨_, rfl⟩
  rw [← hv]
  have HV := Lib.hid hv
  clear hz hf H hv
  go_enter Try.func10, Try.ntmps10
  go_wp2_with fail
  have TB := two_boxes w (Obj.cells (OC x) 29) (Obj.cells (RC r) 26)
  generalize (w.alloc (Obj.cells (OC x) 29)).alloc (Obj.cells (RC r) 26) = w1 at TB ⊢
  obtain ⟨f1, f2, B1, z1⟩ := TB
  refine (HO.out w1 B1).mono ?_
  rintro e w2 ⟨rfl, b2⟩
  obtain ⟨_, _, _, _, x4, _⟩ := od_cells (bel_heap f1 b2)
  obtain ⟨_, _, r2, _⟩ := rul_cells (bel_heap f2 b2)
  have B2 := Lib.hid (B1.trans (b2.mono (by omega)))
  clear f1 f2 B1 z1 b2 HO
  cases f with
  | false =>
    go_wp2_with fail
    go_ret
    exact ⟨by rw [HV.out]; rfl, B2.out⟩
  | true =>
    go_wp2_with ((with_reducible refine (HL.out _).mono ?_); rintro e w' ⟨rfl, rfl⟩)
    go_ret
    exact ⟨by rw [HV.out]; rfl, B2.out⟩
end Go.Proofs.Ytpibkjldmmecpaa
