/- slices.insertionSortCmpFunc (the library's contract, told for first places), slices.stableCmpFunc, slices.SortStableFunc at orders. -/
import Derived.Test.YtpibkjldmmecpaaSrC
import Derived.Test.YtpibkjldmmecpaaSrQ
import Derived.Test.YtpibkjldmmecpaaShelfI
namespace Go.Proofs.Ytpibkjldmmecpaa
open Go.RowKit Go.Sort Go.Lib Go.Shelf

variable (k : Nat) (aE : ∀ w, (isAgg 29).run Try.prog w = .ok true w) (zE : ∀ w, (Go.sizeOf 29).run Try.prog w = .ok k w) (enc : Dd → List Value) (lt : Od → Od → Bool) (cf : Dd → Dd → Int) (hcf : ∀ x y, decide (cf x y < 0) = lt x.1 y.1) (hO : SWO lt)
  (g : Nat) (cb : Array Value) (blk off cap : Nat) (d0 : Array Dd) (w0 : World) (eg : ∀ args w, (callFunc g args).run Try.prog w = .ok (.enter g args) w) (R : RowK enc k w0 blk off d0) (hC : CmpLays Try.prog g cb enc k cf blk off d0.size w0)
include aE zE hcf hO eg R hC
theorem ins_c (a b : Nat) (za zb : Int) (d : Array Dd) (w : World) (n : Nat) (ha : za = a) (hb' : zb = b) (hn : n = d.size) (hs : d0.size = d.size) (S : SWK enc k w0 blk off d w) (hab : a ≤ b) (hb : b ≤ d.size) (hsz : d.size < 4611686018427387904) (hi : ∀ p q, a ≤ p → p < q → q < b → (d[p]!).2 < (d[q]!).2) :
    Calls Try.prog 29 #[.slice (some ⟨blk, off, none⟩) n cap, .int .i64 za, .int .i64 zb, .func (.func g) #[] cb] w fun e w' => e = .returned (.tuple #[]) ∧
      ∃ d', SWK enc k w0 blk off d' w' ∧ Merged lt a b d d' := by
  subst ha hb' hn
  have hl : ltOf cf = ltS lt := by funext x y; exact hcf x y
  have M := ins_stable hO d a b hab hb hi
  have hs' : (Sort.insertionSort (ltS lt) d a b).size = d.size := M.1.1
  have hC' : CmpLays Try.prog g cb enc k cf blk off d.size w := fun m os dk hdk x y => by
    obtain ⟨n0, os0, rfl⟩ := S
    rw [sortWorldK_on enc k w0 blk off n0 m d dk os0 os R.hblk hdk]
    exact hC _ _ dk (by omega) x y
  refine (AnyQ.insertionSortCmpFunc (ρ := Try.insL_ren) Try.insL k aE zE enc R.hk R.h1 cf g cb blk off cap a b d w eg hC' (S.holds R.hblk R.hH hs.symm) (S.lt R.hblk) hab hb hsz).mono ?_
  rintro e w' ⟨rfl, n, os, rfl⟩
  rw [hl]
  exact ⟨rfl, _, S.on R.hblk n _ os hs', M⟩

set_option maxHeartbeats 4000000 in
set_option maxRecDepth 1000000 in
theorem stable_c (d : Array Dd) (w : World) (hs : d0.size = d.size) (S : SWK enc k w0 blk off d w) (hsz : d.size ≤ 160) (hi : ∀ p, p < d.size → (d[p]!).2 = p) :
    Calls Try.prog 22 #[.slice (some ⟨blk, off, none⟩) d.size cap, .int .i64 d.size, .func (.func g) #[] cb] w fun e w' => e = .returned (.tuple #[]) ∧
      ∃ d', SWK enc k w0 blk off d' w' ∧ Merged lt 0 d.size d d' := by
  have mixed : Try.prog.follows .mixedOrders = true := by kernel_rfl
  have S0 : Aside (SWK enc k w0 blk off d w) := S
  have HI := Lib.hid (ins_c k aE zE enc lt cf hcf hO g cb blk off cap d0 w0 eg R hC)
  have HM := Lib.hid (fun N a m b za zm zb d w n => symMerge_c k aE zE enc lt cf hcf hO g cb blk off cap d0 w0 eg R hC N a m b za zm zb d w n)
  have HS := Lib.hid hs
  have H0 := Lib.hid (IInv.start (lt := lt) d d.size hi)
  clear S hC hcf hs aE zE hi
  go_enter Try.func22, Try.ntmps22
  go_wp2
  go_loopg [7, 8] d.size (fun kx s7 s8 wr => ∃ (a : Nat) (dk : Array Dd), s7 = .int .i64 a ∧ s8 = .int .i64 ((a : Int) + 20) ∧ a ≤ d.size ∧ d.size - a ≤ kx ∧ Aside (SWK enc k w0 blk off dk wr) ∧ Hid (IInv lt a d.size d dk))
  case atStart => exact ⟨0, d, rfl, rfl, by omega, by omega, S0, H0⟩
  case round =>
    clear S0 H0
    obtain ⟨a, dk, rfl, rfl, han, hkx, S1, I1⟩ := hrel
    have D1 : Hid (dk.size = d.size) := I1.out.perm.1
    by_cases hlt : a + 20 ≤ d.size
    · have hz : (a : Int) + 20 ≤ (d.size : Int) := by omega
      go_wp2_with (((with_reducible refine (HI.out a (a + 20) _ _ dk _ d.size ?_ ?_ D1.out.symm ?_ ?_ ?_ ?_ ?_ ?_).mono ?_); rfl; omega; (rw [D1.out]; exact HS.out); exact S1.out; omega; (rw [D1.out]; omega); (rw [D1.out]; omega); exact I1.out.up hlt); rintro e w2 ⟨rfl, d2, S2, M2⟩)
      obtain ⟨q1, q2, q3, q4⟩ := I1.out.step M2 (by omega) hlt (by omega) (Nat.le_refl _)
      have al := I1.out.al
      have I2 : Hid (IInv lt (a + 20) d.size d d2) := Lib.hid ⟨q1, q2, q3, q4, by omega⟩
      have S3 : Aside (SWK enc k w0 blk off d2 w2) := S2
      clear q1 q2 q3 q4 al M2 S2 S1 I1
      go_roundg (d.size - (a + 20))
      case measure => omega
      case rel => exact ⟨a + 20, d2, by go_num, by go_num, by omega, by omega, S3, I2⟩
    · have hz : ¬ (a : Int) + 20 ≤ (d.size : Int) := by omega
      go_wp2_with (((with_reducible refine (HI.out a d.size _ _ dk _ d.size rfl rfl D1.out.symm ?_ ?_ ?_ ?_ ?_ ?_).mono ?_); (rw [D1.out]; exact HS.out); exact S1.out; omega; (rw [D1.out]; omega); (rw [D1.out]; omega); exact I1.out.up (Nat.le_refl _)); rintro e w2 ⟨rfl, d2, S2, M2⟩)
      obtain ⟨q1, q2, q3, q4⟩ := I1.out.step M2 (by omega) (Nat.le_refl _) (by omega) (Nat.le_refl _)
      have I2 : Hid (SInv lt 20 d.size d d2) := Lib.hid ⟨.inl rfl, q1, q2, q3⟩
      have S3 : Aside (SWK enc k w0 blk off d2 w2) := S2
      clear q1 q2 q3 q4 M2 S2 S1 I1 D1
      go_loopg [6] 160 (fun kx s6 wr => ∃ (bs : Nat) (dk : Array Dd), s6 = .int .i64 bs ∧ bs ≤ 160 ∧ 0 < bs ∧ 160 - bs ≤ kx ∧ Aside (SWK enc k w0 blk off dk wr) ∧ Hid (SInv lt bs d.size d dk))
      case atStart => exact ⟨20, d2, rfl, by omega, by omega, by omega, S3, I2⟩
      case round =>
        clear S3 I2
        obtain ⟨bs, dk, rfl, hb1, hb0, hkx', S1, I1⟩ := hrel
        by_cases hlt2 : bs < d.size
        · have hz2 : (bs : Int) < (d.size : Int) := by omega
          have HB := Lib.hid (I1.out.less hlt2 hsz)
          have hb80 : bs ≤ 80 := by have := HB.out; omega
          have M0 : Hid (MInv lt bs 0 d.size d dk) := Lib.hid (MInv.start I1.out.perm I1.out.blk I1.out.ix)
          clear I1
          go_wp2
          go_loopg [7, 8] d.size (fun kx s7 s8 wr => ∃ (a : Nat) (dk : Array Dd), s7 = .int .i64 a ∧ s8 = .int .i64 ((a : Int) + 2 * (bs : Int)) ∧ a ≤ d.size ∧ d.size - a ≤ kx ∧ Aside (SWK enc k w0 blk off dk wr) ∧ Hid (MInv lt bs a d.size d dk))
          case atStart => exact ⟨0, dk, rfl, by simp, by omega, by omega, S1, M0⟩
          case round =>
            clear S1 M0
            obtain ⟨a, dk, rfl, rfl, han, hkx, S1, I1⟩ := hrel
            have D1 : Hid (dk.size = d.size) := I1.out.perm.1
            by_cases hlt3 : a + 2 * bs ≤ d.size
            · have hz3 : (a : Int) + 2 * (bs : Int) ≤ (d.size : Int) := by omega
              go_wp2_with (((with_reducible refine (HM.out d.size a (a + bs) (a + 2 * bs) _ _ _ dk _ d.size ?_ rfl ?_ ?_ D1.out.symm ?_ ?_ ?_ ?_ ?_ ?_ ?_).mono ?_); omega; omega; omega; (rw [D1.out]; exact HS.out); exact S1.out; exact I1.out.runs HB.out (by omega) (by omega) hlt3; omega; omega; (rw [D1.out]; exact hlt3); (rw [D1.out]; omega)); rintro e w2 ⟨rfl, d2, S2, M2⟩)
              obtain ⟨q1, q2, q3, q4, q5⟩ := I1.out.step HB.out M2 (by omega) (by omega) hlt3 (Nat.le_refl _)
              have al := I1.out.al
              have I2 : Hid (MInv lt bs (a + 2 * bs) d.size d d2) := Lib.hid ⟨q1, q2, q3, q4, q5, by rw [Nat.add_mod_right]; exact al⟩
              have S3 : Aside (SWK enc k w0 blk off d2 w2) := S2
              clear q1 q2 q3 q4 q5 al M2 S2 S1 I1
              go_roundg (d.size - (a + 2 * bs))
              case measure => omega
              case rel => exact ⟨a + 2 * bs, d2, by go_num, by go_num, by omega, by omega, S3, I2⟩
            · have hz3 : ¬ (a : Int) + 2 * (bs : Int) ≤ (d.size : Int) := by omega
              by_cases hlt4 : a + bs < d.size
              · have hz4 : (a : Int) + (bs : Int) < (d.size : Int) := by omega
                go_wp2_with (((with_reducible refine (HM.out d.size a (a + bs) d.size _ _ _ dk _ d.size ?_ rfl ?_ rfl D1.out.symm ?_ ?_ ?_ ?_ ?_ ?_ ?_).mono ?_); omega; omega; (rw [D1.out]; exact HS.out); exact S1.out; exact I1.out.runs HB.out hlt4 (by omega) (Nat.le_refl _); omega; omega; (rw [D1.out]; omega); (rw [D1.out]; omega)); rintro e w2 ⟨rfl, d2, S2, M2⟩)
                have I2 : Hid (SInv lt (2 * bs) d.size d d2) := Lib.hid (SInv.next HB.out (I1.out.step HB.out M2 (by omega) (by omega) (Nat.le_refl _) (Nat.le_refl _)))
                have S3 : Aside (SWK enc k w0 blk off d2 w2) := S2
                clear M2 S2 S1 I1
                go_roundg (160 - 2 * bs)
                case measure => omega
                case rel => exact ⟨2 * bs, d2, by go_num, by omega, by omega, by omega, S3, I2⟩
              · have hz4 : ¬ (a : Int) + (bs : Int) < (d.size : Int) := by omega
                have I2 : Hid (SInv lt (2 * bs) d.size d dk) := Lib.hid (SInv.next HB.out (I1.out.step HB.out (I1.out.one HB.out (by omega)) (by omega) (by omega) (Nat.le_refl _) (Nat.le_refl _)))
                clear I1
                go_wp2
                go_roundg (160 - 2 * bs)
                case measure => omega
                case rel => exact ⟨2 * bs, dk, by go_num, by omega, by omega, by omega, S1, I2⟩
        · have hz2 : ¬ (bs : Int) < (d.size : Int) := by omega
          have HF : Hid (Merged lt 0 d.size d dk) := Lib.hid ⟨I1.out.perm, blk_all I1.out.blk (by omega)⟩
          go_wp2
          go_end0
          exact ⟨rfl, dk, S1.out, HF.out⟩

set_option maxHeartbeats 4000000 in
set_option maxRecDepth 1000000 in
theorem sortStable_c (d : Array Dd) (w : World) (hs : d0.size = d.size) (S : SWK enc k w0 blk off d w) (hsz : d.size ≤ 160) (hi : ∀ p, p < d.size → (d[p]!).2 = p) :
    Calls Try.prog 15 #[.slice (some ⟨blk, off, none⟩) d.size cap, .func (.func g) #[] cb] w fun e w' => e = .returned (.tuple #[]) ∧
      ∃ d', SWK enc k w0 blk off d' w' ∧ Merged lt 0 d.size d d' := by
  have H := Lib.hid (stable_c k aE zE enc lt cf hcf hO g cb blk off cap d0 w0 eg R hC d w hs S hsz hi)
  clear S hC hcf hs aE zE hi
  go_enter Try.func15, Try.ntmps15
  go_wp2_with (((with_reducible refine (H.out).mono ?_)); rintro e w2 ⟨rfl, d2, S2, M2⟩)
  go_end0
  exact ⟨rfl, d2, S2, M2⟩
end Go.Proofs.Ytpibkjldmmecpaa
