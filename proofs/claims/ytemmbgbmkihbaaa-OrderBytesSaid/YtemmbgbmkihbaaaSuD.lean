/- slices.Sort at uint64: heapSort. (By mksud.py.) -/
import Derived.Test.YtemmbgbmkihbaaaSuC
namespace Go.Proofs.Ytemmbgbmkihbaaa
open Go.RowKit Go.Sort Go.Lib Go.Shelf

theorem size_sift (hi first : Nat) : ∀ (n r : Nat) (d : Array Int), hi - r ≤ n → (siftDown ltInt hi first r d).size = d.size
  | 0, r, d, h => by rw [sd_stop (by omega)]
  | n + 1, r, d, h => by
    by_cases h1 : hi ≤ 2 * r + 1
    · rw [sd_stop h1]
    · by_cases h2 : 2 * r + 2 < hi ∧ ltInt d[first + (2 * r + 1)]! d[first + (2 * r + 1) + 1]! = true
      · rw [sd_A h2.1 h2.2]
        split
        · rw [size_sift hi first n _ _ (by omega), size_swp]
        · rfl
      · rw [sd_B (by omega) (by
          by_cases h3 : 2 * r + 2 < hi
          · right
            cases e : ltInt d[first + (2 * r + 1)]! d[first + (2 * r + 1) + 1]! with
            | false => rfl
            | true => exact absurd ⟨h3, e⟩ h2
          · exact .inl h3)]
        split
        · rw [size_sift hi first n _ _ (by omega), size_swp]
        · rfl

set_option maxHeartbeats 4000000 in
set_option maxRecDepth 1000000 in
theorem heap_c (blk off cap : Nat) (a b : Nat) (za zb : Int) (hza : za = a) (hzb : zb = b) (d0 d : Array Int) (w0 w : World) (n : Nat) (hn : n = d.size) (R : Row1 eU w0 blk off d0) (hs : d0.size = d.size) (S : SW eU w0 blk off d w) (hsz : d.size < 4611686018427387904) (hab : a < b) (hb : b ≤ d.size) :
    Calls Try.prog 109 #[.slice (some ⟨blk, off, none⟩) n cap, .int .i64 za, .int .i64 zb] w fun e w' => e = .returned (.tuple #[]) ∧ ∃ d', SW eU w0 blk off d' w' ∧ PermIn a b d d' ∧ SortedIn ltInt a b d' := by
  subst hn hza hzb
  have HF := Lib.hid (heapSort_holds (lt := ltInt) swo_ltInt d a b (by omega) hb)
  have HSD := Lib.hid (fun lo hi first zl zh zf dk wk n h1 h2 h3 h4 h5 h6 h7 h8 h9 => sift_c blk off cap lo hi first zl zh zf h1 h2 h3 d0 dk w0 wk n h4 R h5 h6 h7 h8 h9)
  obtain ⟨hi, hhi⟩ : ∃ h, h = b - a := ⟨_, rfl⟩
  have q0 : (b : Int) - (a : Int) = (hi : Int) := by omega
  obtain ⟨k0, hk0⟩ : ∃ k, k = (hi - 1) / 2 := ⟨_, rfl⟩
  have q1 : ((hi : Int) - 1) / 2 = (k0 : Int) := by omega
  have q1' : ((hi : Int) - 1).tdiv 2 = (k0 : Int) := by rw [Int.tdiv_eq_ediv_of_nonneg (by omega)]; exact q1
  have HK := Lib.hid (And.intro hhi hk0)
  have m1 : 0 < hi := by omega
  have m2 : a + hi ≤ b := by omega
  have m3 : b ≤ a + hi := by omega
  have m4 : k0 ≤ hi := by omega
  clear hhi hk0
  have mixed : Try.prog.follows .mixedOrders = true := by kernel_rfl
  have S0 : Aside (SW eU w0 blk off d w) := S
  have HS := Lib.hid hs
  have HL := Lib.hid lessU_c
  clear S hs
  go_enter Try.func109, Try.ntmps109
  go_wp2
  go_loopg [9] (k0 + 1) (fun kx s9 wr => ∃ (k : Nat) (z : Int) (dk : Array Int), s9 = .int .i64 z ∧ z + 1 = (k : Int) ∧ k ≤ k0 + 1 ∧ k ≤ kx ∧ dk.size = d.size ∧ Aside (SW eU w0 blk off dk wr) ∧ Hid (heapBuild ltInt hi a k dk = heapBuild ltInt hi a (k0 + 1) d))
  case atStart => exact ⟨k0 + 1, k0, d, rfl, by omega, by omega, by omega, rfl, S0, Lib.hid rfl⟩
  case round =>
    clear S0
    obtain ⟨k, z, dk, rfl, hzk, hk0, hkx, hds, S1, HE⟩ := hrel
    have HD := Lib.hid hds
    clear hds
    by_cases hk : 0 < k
    · obtain ⟨j, rfl⟩ : ∃ j, k = j + 1 := ⟨k - 1, by omega⟩
      obtain rfl : z = (j : Int) := by omega
      have hz : (0 : Int) ≤ (j : Int) := by omega
      clear hzk
      go_wp2_with (((with_reducible refine (HSD.out j hi a _ _ _ dk _ d.size rfl rfl rfl ?_ ?_ ?_ ?_ ?_ ?_).mono ?_); exact HD.out.symm; (rw [HD.out]; exact HS.out); exact S1.out; (rw [HD.out]; omega); (rw [HD.out]; omega); (rw [HD.out]; omega)); rintro e w2 ⟨rfl, S2⟩)
      have S3 : Aside (SW eU w0 blk off (siftDown ltInt hi a j dk) w2) := S2
      have HD3 : Hid ((siftDown ltInt hi a j dk).size = d.size) := Lib.hid (by rw [size_sift hi a hi j dk (by omega)]; exact HD.out)
      have HE3 : Hid (heapBuild ltInt hi a j (siftDown ltInt hi a j dk) = heapBuild ltInt hi a (k0 + 1) d) := by
        show _ = _
        rw [← HE.out]; rfl
      clear S2 S1 HE
      go_roundg (j)
      case measure => omega
      case rel => exact ⟨j, (j : Int) - 1, _, rfl, by omega, by omega, by omega, HD3.out, S3, HE3⟩
    · obtain rfl : k = 0 := by omega
      obtain rfl : z = -1 := by omega
      have HB : Hid (dk = heapBuild ltInt hi a (k0 + 1) d) := by
        show _ = _
        rw [← HE.out]; rfl
      clear hk hzk HE
      go_wp2
      go_loopg [10] (hi) (fun kx s10 wr => ∃ (k : Nat) (z : Int) (dj : Array Int), s10 = .int .i64 z ∧ z + 1 = (k : Int) ∧ k ≤ hi ∧ k ≤ kx ∧ dj.size = d.size ∧ Aside (SW eU w0 blk off dj wr) ∧ Hid (heapPop ltInt a k dj = heapPop ltInt a hi dk))
      case atStart => exact ⟨hi, (hi : Int) - 1, dk, rfl, by omega, by omega, by omega, HD.out, S1, Lib.hid rfl⟩
      case round =>
        clear S1 HD
        obtain ⟨k, z, dj, rfl, hzk, hk0', hkx', hds, S1, HE⟩ := hrel
        have HD := Lib.hid hds
        clear hds
        by_cases hk : 0 < k
        · obtain ⟨j, rfl⟩ : ∃ j, k = j + 1 := ⟨k - 1, by omega⟩
          obtain rfl : z = (j : Int) := by omega
          have hz : (0 : Int) ≤ (j : Int) := by omega
          obtain ⟨aj, haj⟩ : ∃ x, x = a + j := ⟨_, rfl⟩
          have q2 : IntKind.i64.wrap ((a : Int) + (j : Int)) = (aj : Int) := by rw [IntKind.wrap_i64]; omega
          have l1 : aj ≤ a + j := by omega
          have l2 : a + j ≤ aj := by omega
          have HAJ := Lib.hid haj
          clear hzk haj
          go_wp2_with fail
          have hsz2 := HD.out
          have bI : (a : Int) < (d.size : Int) := by omega
          have bJ : (aj : Int) < (d.size : Int) := by omega
          have S2 := S1.out.swapped R (a) (aj) (by omega) (by omega)
          have ca := S1.out.c1 R (by rw [HD.out]; exact HS.out.symm) (a) (by omega)
          have cb := S1.out.c1 R (by rw [HD.out]; exact HS.out.symm) (aj) (by omega)
          have fa := S1.out.f1 R (by rw [HD.out]; exact HS.out.symm) (a) (by omega)
          have fb := S1.out.f1 R (by rw [HD.out]; exact HS.out.symm) (aj) (by omega)
          obtain ⟨uc, cc⟩ := S1.out.c2 R (by rw [HD.out]; exact HS.out.symm) (a) (aj) (by omega) (by omega) (eU dj[aj]!)
          clear hsz2
          generalize dj[a]! = vI at S2 ca cc
          generalize dj[aj]! = vJ at S2 cb cc
          replace S2 : Aside (SW eU w0 blk off (swp dj (a) (aj)) ((wr.setCell ⟨blk, off + a, none⟩ (.int .u64 vJ)).setCell ⟨blk, off + aj, none⟩ (.int .u64 vI)).drew) := S2
          replace ca : wr.cell? ⟨blk, off + a, none⟩ = some (.int .u64 vI) := ca
          replace cb : wr.cell? ⟨blk, off + aj, none⟩ = some (.int .u64 vJ) := cb
          replace cc : (wr.setCell ⟨blk, off + a, none⟩ (.int .u64 vJ)).cell? ⟨blk, off + aj, none⟩ = some uc := cc
          clear S1
          go_wp2_with fail
          go_big_region
          clear ca cb fa fb cc bI bJ
          generalize ((wr.setCell ⟨blk, off + a, none⟩ (.int .u64 vJ)).setCell ⟨blk, off + aj, none⟩ (.int .u64 vI)).drew = w2 at S2 ⊢
          have HD2 : Hid ((swp dj a aj).size = d.size) := Lib.hid (by rw [size_swp]; exact HD.out)
          go_wp2_with (((with_reducible refine (HSD.out 0 j a _ _ _ (swp dj a aj) _ d.size ?_ rfl rfl ?_ ?_ ?_ ?_ ?_ ?_).mono ?_); rfl; exact HD2.out.symm; (rw [HD2.out]; exact HS.out); exact S2.out; (rw [HD2.out]; omega); (rw [HD2.out]; omega); (rw [HD2.out]; omega)); rintro e w3 ⟨rfl, S3⟩)
          have S4 : Aside (SW eU w0 blk off (siftDown ltInt j a 0 (swp dj a aj)) w3) := S3
          have HD3 : Hid ((siftDown ltInt j a 0 (swp dj a aj)).size = d.size) := Lib.hid (by rw [size_sift j a j 0 _ (by omega)]; exact HD2.out)
          have HE3 : Hid (heapPop ltInt a j (siftDown ltInt j a 0 (swp dj a aj)) = heapPop ltInt a hi dk) := by
            show _ = _
            rw [← HE.out, HAJ.out]; rfl
          clear S3 S2 HE
          go_roundg (j)
          case measure => omega
          case rel => exact ⟨j, (j : Int) - 1, _, rfl, by omega, by omega, by omega, HD3.out, S4, HE3⟩
        · obtain rfl : k = 0 := by omega
          obtain rfl : z = -1 := by omega
          have HX : Hid (heapSort ltInt d a b = dj) := by
            show _ = _
            unfold heapSort
            rw [← HK.out.1, ← HK.out.2, ← HB.out, ← HE.out]; rfl
          clear hk hzk HE
          go_wp2
          go_end0
          refine ⟨rfl, dj, S1.out, ?_⟩
          rw [← HX.out]
          exact HF.out
end Go.Proofs.Ytemmbgbmkihbaaa
