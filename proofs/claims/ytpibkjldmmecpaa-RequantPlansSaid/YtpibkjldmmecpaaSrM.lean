/- Orders in a row of one's own, as the library's sort sees them: with their first places beside them. -/
import Derived.Test.YtpibkjldmmecpaaSrP
import Derived.Test.YtpibkjldmmecpaaOrO
import Derived.Shelf.SlSortCmp.KitK
import Derived.Deep.MidRow
import Derived.Deep.RegionHeld3
import Derived.Deep.RegionLaw
import Derived.Deep.RegionWith
import Derived.BigRegion
import Derived.Deep.LoopGhost
namespace Go.Proofs.Ytpibkjldmmecpaa
open Go.RowKit Go.Sort Go.Lib Go.Shelf

/-- An order's cells. -/
def encO (x : Od) : List Value := [.int .u64 x.id, .int .i64 x.acc, .int .i64 x.side, .int .i64 x.price, .int .i64 x.qty, .int .u64 x.seq]
abbrev Dd := Od × Nat
def encD (x : Dd) : List Value := encO x.1
theorem encD_len (x : Dd) : (encD x).length = 6 := rfl
theorem encD_one (x : Dd) : ∀ v ∈ encD x, v.oneCell' = true := by
  intro v hv
  simp only [encD, encO, List.mem_cons, List.not_mem_nil, or_false] at hv
  rcases hv with rfl | rfl | rfl | rfl | rfl | rfl <;> rfl
theorem encD_arr (x : Dd) : (Value.agg (encD x).toArray) = x.1.val := rfl
abbrev SW6 (w0 : World) (blk : Nat) (d : Array Dd) (w : World) : Prop := SWK encD 6 w0 blk 0 d w
abbrev Rw6 (w0 : World) (blk : Nat) (d : Array Dd) : Prop := RowK encD 6 w0 blk 0 d
theorem infoO : (Try.prog.info? 29).map (·.size) = some 6 := by kernel_rfl
theorem sw_range {w0 w : World} {blk i : Nat} {d0 d : Array Dd} (S : SW6 w0 blk d w) (R : Rw6 w0 blk d0) (hs : d.size = d0.size) (hi : i < d.size) : w.rangeAt blk (i * 6) (encD d[i]!) := by
  intro j v hv
  have h := HoldsK.cells (S.holds R.hblk R.hH hs) R.hk hi
  have := h j v hv
  rw [addr_add] at this
  simpa using this
theorem sw_there {w0 w : World} {blk i : Nat} {d0 d : Array Dd} (S : SW6 w0 blk d w) (R : Rw6 w0 blk d0) (hs : d.size = d0.size) (hi : i < d.size) : w.there blk (i * 6) 6 := by
  intro j hj
  have h := S.holds R.hblk R.hH hs (i * 6 + j) (by rw [size_flatK]; omega)
  rw [Nat.zero_add] at h
  exact ⟨by rw [h.1]; rfl, h.2⟩
end Go.Proofs.Ytpibkjldmmecpaa
