/- slices.Sort at uint64, of 12 or fewer; slices.Compact. -/
import Derived.Test.YtemmbgbmkihbaaaSuA
import Derived.Test.YtemmbgbmkihbaaaShelfJ
namespace Go.Proofs.Ytemmbgbmkihbaaa
open Go.RowKit Go.Sort Go.Lib Go.Shelf

theorem len_c (x : Int) (w : World) (h0 : 0 ≤ x) (h1 : x ≤ 18446744073709551615) : Calls Try.prog 89 #[.int .u64 x] w fun e w' => e = .returned (.int .i64 (Lib.bitLen x.toNat)) ∧ w' = w :=
  Any.bits_Len (ρ := Try.bitsLenL_ren) Try.bitsLenL x w h0 h1
set_option maxHeartbeats 4000000 in
set_option maxRecDepth 1000000 in
theorem pdq12_c (blk off cap : Nat) (lim : Int) (d0 d : Array Int) (w0 w : World) (n : Nat) (hn : n = d.size) (R : Row1 eU w0 blk off d0) (hs : d0.size = d.size) (S : SW eU w0 blk off d w) (hsz : d.size ≤ 12) :
    Calls Try.prog 88 #[.slice (some ⟨blk, off, none⟩) n cap, .int .i64 0, .int .i64 n, .int .i64 lim] w fun e w' => e = .returned (.tuple #[]) ∧
      ∃ d', SW eU w0 blk off d' w' ∧ PermIn 0 d.size d d' ∧ SortedIn ltInt 0 d.size d' := by
  subst hn
  have HI := Lib.hid (insU_c blk off cap 0 d.size 0 d.size d0 d w0 w d.size rfl rfl rfl R hs S (by omega) (by omega) (by omega))
  clear S hs
  go_enter Try.func88, Try.ntmps88
  go_wp2
  go_loop [1, 2, 3, 8, 9] (fun s1 s2 s3 s8 s9 => s1 = .int .i64 0 ∧ s2 = .int .i64 d.size ∧ s3 = .int .i64 lim ∧ s8 = .bool true ∧ s9 = .bool true) (fun _ _ _ _ _ => 0)
  case atStart => exact ⟨rfl, rfl, rfl, rfl, rfl⟩
  case round =>
    obtain ⟨rfl, rfl, rfl, rfl, rfl⟩ := hrel
    go_wp2_with ((with_reducible refine (HI.out).mono ?_); rintro e w2 ⟨rfl, d2, S2, P2, O2⟩)
    (try simp only [Exit.inBlock, Exit.then])
    refine bodyPost_ret (results_none rfl _ _ _) rfl ?_
    exact ⟨rfl, d2, S2, P2, O2⟩
/-- What slices.Sort does with a row. -/
def SortsU (n : Nat) : Prop := ∀ (blk off cap : Nat) (d : Array Int) (w : World), n = d.size → Holds eU w blk off d → blk < w.heap.size →
  Calls Try.prog 63 #[.slice (some ⟨blk, off, none⟩) n cap] w fun e w' => e = .returned (.tuple #[]) ∧ ∃ d', SW eU w blk off d' w' ∧ PermIn 0 n d d' ∧ SortedIn ltInt 0 n d'
set_option maxHeartbeats 4000000 in
theorem sort12_c (n : Nat) (h12 : n ≤ 12) : SortsU n := by
  intro blk off cap d w hn hH hb
  have R : Row1 eU w blk off d := ⟨eU_one, hH, hb⟩
  have HP := Lib.hid (fun lim => pdq12_c blk off cap lim d d w w n hn R rfl (SW.start hH) (by omega))
  have HL := Lib.hid (len_c (n : Int) w (by omega) (by omega))
  have wz : IntKind.u64.wrap (n : Int) = (n : Int) := by rw [IntKind.wrap_u64]; omega
  rw [← hn] at HP
  clear hn hH R
  go_enter Try.func63, Try.ntmps63
  go_wp2_with (first | ((with_reducible refine (HL.out).mono ?_); rintro e w2 ⟨rfl, rfl⟩) | ((with_reducible refine (HP.out _).mono ?_); rintro e w2 ⟨rfl, d2, S2, P2, O2⟩))
  go_end0
  exact ⟨rfl, d2, S2, P2, O2⟩
/-- slices.Compact: how many are left. -/
theorem compact_c (blk off cap : Nat) (d : Array Int) (w : World) (hH : Holds eU w blk off d) (hsz : d.size ≤ 1000) (hcap : d.size ≤ cap) :
    Calls Try.prog 64 #[.slice (some ⟨blk, off, none⟩) d.size cap] w fun e w' => e = .returned (.slice (some ⟨blk, off, none⟩) (compactUpTo d d.size).length cap) ∧ ∃ d', SW eU w blk off d' w' := by
  refine (AnyE.slices_Compact (ρ := Try.compactL_ren) Try.compactL eU eU_one (EqlAt.intD _ _ _) (NeqAt.intD _ _ _) 0 Try.zeroValue30 blk off cap d w hH (by omega) hcap).mono ?_
  rintro e w' ⟨rfl, q, rfl⟩
  exact ⟨rfl, _, q, #[], by unfold sortWorld; rw [grow_empty]⟩
end Go.Proofs.Ytemmbgbmkihbaaa
